/- Chains: the document's To. A range over a function that turns memory between two rounds: a law over what the caller says of each round. No program is named here. Chains: the program's way through the epochs: its first parts, and what a round keeps. Chains: what a round of the program's way through the epochs finds, and keeps. -/
import Derived.Test.YtlnpfeecaiecaaaChnP
import Derived.Test.YtlnpfeecaiecaaaBeside
import Derived.Deep.Cut
import Derived.Deep.CutRange
import Derived.Deep.LoopGhost
import Derived.BigQuiet
import Derived.Deep.Slices
import Derived.RangeFuncNested
import Derived.RangeFuncBound
import Derived.RangeFuncCalls
import Derived.RangeFuncLeaves
import Derived.RangeFuncBox
import Derived.OwnWalkIn
import Derived.OrdersHeld
import Derived.Deep.RegionHeld3
namespace Go.Proofs.Ytlnpfeecaiecaaa
open Go.RowKit
set_option linter.unusedVariables false
set_option linter.unusedSimpArgs false
set_option maxRecDepth 20000
theorem gW {base : Nat} {Q : (Nat → Prop) → List Tm → World → Prop} (g : Good base Q) (v : Value) (xs : List Int) : Good base (WithRow base Q v xs) := WithRow.good g v xs
/-- A new row, of no numbers yet. -/
theorem Pair.newRow {base : Nat} {Q1 Q2 : (Nat → Prop) → List Tm → World → Prop} {L1 L2 : List Tm} {K : Nat → Prop} {w0 w : World} (g1 : Good base Q1) (g2 : Good base Q2) (h : Pair base Q1 Q2 L1 L2 K w0 w) :
    Pair base Q1 (WithRow base Q2 (.slice (some ⟨w.heap.size, 0, none⟩) 0 0) []) L1 L2 K w0 (w.alloc (.cells #[] 3)) := by
  have hbl := h.base_le
  have hb := below_alloc w (.cells #[] 3)
  have h' := h.below g1 g2 hb
  obtain ⟨F1, F2, h1, h2, h3, h4, h5, h6⟩ := h
  obtain ⟨_, _, _, _, _, _, _, h6'⟩ := h'
  have hl2 := fun k hk => (g2.bounds h2 k hk).2
  have hl1 := fun k hk => (g1.bounds h1 k hk).2
  refine ⟨F1, fun k => F2 k ∨ k = w.heap.size, g1.frame h1 (S := fun _ => False) (.of_below hb) (fun _ _ q => q), ⟨F2, g2.frame h2 (S := fun _ => False) (.of_below hb) (fun _ _ q => q), World.ownsRow_made w #[] 0 hbl (Nat.zero_le _) rfl, fun k hk e => ?_, fun k => ?_⟩, fun k a b => ?_, fun k hk => ⟨(h4 k hk).1, fun e => ?_, Nat.lt_of_lt_of_le (h4 k hk).2.2 hb.size⟩, h5, h6'⟩
  · simp only [Value.ownBlock, Option.some.injEq] at hk
    have := hl2 k e
    omega
  · simp only [Value.ownBlock, Option.some.injEq]
    exact or_congr Iff.rfl eq_comm
  · rcases b with b | b
    · exact h3 k a b
    · have := hl1 k a
      omega
  · rcases e with e | e
    · exact (h4 k hk).2.1 e
    · have := (h4 k hk).2.2
      omega
theorem i64_of {n : Int} (h0 : -9223372036854775808 ≤ n) (h1 : n ≤ 9223372036854775807) : I64 n := by
  unfold I64
  simp [Lit.wf, IntKind.min, IntKind.max, IntKind.signed, IntKind.bits]
  omega
theorem info_parts2 : ∃ i, Try.prog.info? 3 = some i ∧ i.zero = some (.int .i64 0) ∧ i.size = 1 ∧ i.bytes = 8 := by
  have h : (Try.prog.info? 3).map (fun i => (i.zero, i.size, i.bytes)) = some (some (.int .i64 0), 1, 8) := by kernel_rfl
  cases hi : Try.prog.info? 3 with
  | none => rw [hi] at h; cases h
  | some i =>
    rw [hi] at h
    simp only [Option.map_some, Option.some.injEq, Prod.mk.injEq] at h
    exact ⟨i, rfl, h.1, h.2.1, h.2.2⟩
theorem next_ok {L L' : List Tm} {most y ey y2 ey2 : Int} (h : nextF L most ⟨y, ey⟩ = (⟨y2, ey2⟩, 0, L')) : ey2 = ey + 1 ∧ badE ey = false ∧ putF L most (keyT y 2) = (y2, 0, L') := by
  cases hb : badE ey with
  | true =>
    rw [next_lim hb] at h
    injection h with h1 h2
    injection h2 with h3 h4
    cases h3
  | false =>
    obtain ⟨a, e, M, hp⟩ : ∃ a e M, putF L most (keyT y 2) = (a, e, M) := ⟨_, _, _, rfl⟩
    by_cases he : e = 0
    · subst he
      rw [next_yes hb hp] at h
      injection h with h1 h2
      injection h1 with h3 h4
      injection h2 with h5 h6
      exact ⟨h4.symm, rfl, by rw [← h3, ← h6]; exact hp⟩
    · rw [next_no hb hp he] at h
      injection h with h1 h2
      injection h2 with h5 h6
      exact absurd h5 he
theorem next_name {L L' : List Tm} {most y ey y2 ey2 : Int} (hl : (L.length : Int) ≤ most) (hm : most ≤ 1048576) (h : nextF L most ⟨y, ey⟩ = (⟨y2, ey2⟩, 0, L')) : I64 y2 := name_i64 hl hm (next_ok h).2.2
section
variable {base g : Nat} {most : Int} {Q1 Q2 : (Nat → Prop) → List Tm → World → Prop} {L L1 L2 : List Tm} {K : Nat → Prop} {w0 w : World}
set_option maxHeartbeats 2000000 in
theorem Pair.ctoR {L' : List Tm} {x ep epoch x' ep' err : Int} {ks : List Int} (g2 : Good base Q2) (h : Pair base (RSq base g most) Q2 L L2 K w0 w) (hx : I64 x) (hep : I64 ep) (hepo : I64 epoch) (hf : toF L most ⟨x, ep⟩ epoch = (⟨x', ep'⟩, ks, err, L')) :
    Calls Try.prog 16 #[.pointer (some ⟨g, 0, none⟩), .agg #[.int .i64 x, .int .i64 ep], .int .i64 epoch] w fun e w' => ∃ v, e = .returned (.tuple #[.agg #[.int .i64 x', .int .i64 ep'], v, .int .i64 err]) ∧ Pair base (RSq base g most) (WithRow base Q2 v ks) L' L2 K w0 w' ∧ ∀ k, K k → w'.heap[k]? = w.heap[k]? := by
  have gS := RSq.good base g most
  obtain ⟨o0, ho0⟩ : ∃ o0, o0 = w.alloc (.cells #[.int .i64 x, .int .i64 ep] 35 : Obj) := ⟨_, rfl⟩
  obtain ⟨o1, ho1⟩ : ∃ o1, o1 = o0.alloc (.cells #[.int .i64 0, .int .i64 0] 35 : Obj) := ⟨_, rfl⟩
  obtain ⟨Bc, hBc⟩ : ∃ Bc, Bc = w.heap.size := ⟨_, rfl⟩
  obtain ⟨Br, hBr⟩ : ∃ Br, Br = o0.heap.size := ⟨_, rfl⟩
  have hcr : Bc + 1 = Br := by rw [hBr, ho0, hBc]; simp
  have HK := Lib.hid h.klt
  have HBB : Hid (base ≤ Br) := Lib.hid (by have := h.base_le; omega)
  have HBW : Hid (w.heap.size ≤ Br) := Lib.hid (by omega)
  have HBE : Hid (base ≤ Bc ∧ w.heap.size ≤ Bc ∧ Bc ≠ Br) := Lib.hid (by have := h.base_le; omega)
  have hb0 : o0.heap[Bc]? = some (.cells #[.int .i64 x, .int .i64 ep] 35 (0, 0)) := by rw [ho0, hBc]; exact heap_alloc_new w _
  have HBC1 : Hid (o1.heap[Bc]? = some (.cells #[.int .i64 x, .int .i64 ep] 35 (0, 0))) := Lib.hid (by
    rw [ho1]
    exact ((below_alloc o0 _).block _ (block_lt_of_some hb0)).trans hb0)
  have HBR1 : Hid (o1.heap[Br]? = some (.cells #[.int .i64 0, .int .i64 0] 35 (0, 0))) := Lib.hid (by rw [ho1, hBr]; exact heap_alloc_new o0 _)
  have HP1 : Hid (Pair base (RSq base g most) Q2 L L2 (fun k => (K k ∨ k = Bc) ∨ k = Br) w0 o1) := Lib.hid (by
    rw [ho1, hBr, hBc, ho0]
    exact (h.box gS g2 _).box gS g2 _)
  have HKK1 : Hid (∀ k, K k → o1.heap[k]? = w.heap[k]?) := Lib.hid (fun k q => by
    rw [ho1, ho0]
    exact ((below_alloc _ _).block k (by have := HK.out k q; simp; omega)).trans ((below_alloc w _).block k (HK.out k q)))
  have HO := Lib.hid (And.intro ho0 (And.intro hBc (And.intro ho1 hcr)))
  have HX := Lib.hid hx
  obtain ⟨bep1, bep2⟩ := Go.bounds_i64 hep
  obtain ⟨beq1, beq2⟩ := Go.bounds_i64 hepo
  have HEP : Hid (-9223372036854775808 ≤ ep ∧ ep ≤ 9223372036854775807) := Lib.hid ⟨by omega, by omega⟩
  have HEPO : Hid (-9223372036854775808 ≤ epoch ∧ epoch ≤ 9223372036854775807) := Lib.hid ⟨by omega, by omega⟩
  clear ho0 ho1 hBc hBr hcr hb0 h hx hep hepo
  by_cases hold : epoch < ep
  · skip
    have hlt : decide (epoch < ep) = true := decide_eq_true hold
    rw [to_old hold] at hf
    injection hf with h1 h2
    injection h1 with h3 h4
    injection h2 with h5 h6
    injection h6 with h7 h8
    subst h3 h4 h5 h7 h8
    have HP2 := Lib.hid HP1.out.addRow
    go_enter Try.func16, Try.ntmps16
    go_upto_region 1 with fail
    rw [← HO.out.1, ← HO.out.2.1, ← HO.out.2.2.1, HO.out.2.2.2]
    obtain ⟨r0, r1, q0, q1⟩ := cells2 HBC1.out
    obtain ⟨s0, s1, t0, t1⟩ := cells2 HBR1.out
    have hk9 := fill2 Br (.int .i64 0) (.int .i64 0) HBR1.out
    have HF9 := Lib.hid (HP2.out.fill gS (gW g2 _ _) HBB.out (.int .i64 0) (.int .i64 0))
    have HK9 : Hid (∀ k, K k → ((o1.setCell ⟨Br, 0, none⟩ (.int .i64 0)).setCell ⟨Br, 1, none⟩ (.int .i64 0)).heap[k]? = w.heap[k]?) := Lib.hid (fun k q => (fill2_other Br _ _ (fun e => by have := HK.out k q; have := HBW.out; omega)).trans (HKK1.out k q))
    obtain ⟨c0, c1, _, _⟩ := cells2 hk9
    clear hk9
    go_wp2_with fail
    exact bodyPost_ret (v := .tuple #[.agg #[.int .i64 0, .int .i64 0], .slice none 0 0, .int .i64 12]) (by simp [results, Try.results16, go_sem, c0, c1]) rfl ⟨_, rfl, HF9.out, HK9.out⟩
  · by_cases hlim : 4 < epoch - ep
    · skip
      rw [to_lim (c := ⟨x, ep⟩) (by show 4 < epoch - ep; omega)] at hf
      injection hf with h1 h2
      injection h1 with h3 h4
      injection h2 with h5 h6
      injection h6 with h7 h8
      subst h3 h4 h5 h7 h8
      have HP2 := Lib.hid HP1.out.addRow
      have n0 : decide (epoch < ep) = false := decide_eq_false (by omega)
      go_enter Try.func16, Try.ntmps16
      go_upto_region 1 with fail
      rw [← HO.out.1, ← HO.out.2.1, ← HO.out.2.2.1, HO.out.2.2.2]
      obtain ⟨r0, r1, q0, q1⟩ := cells2 HBC1.out
      obtain ⟨s0, s1, t0, t1⟩ := cells2 HBR1.out
      go_wp2_with fail
      go_loopw [9, 10] (fun s9 s10 wr => ∃ (j : Nat) (E : Int), (j ≤ 5 ∧ ep + (j : Int) = E) ∧ s9 = .int .i64 (j : Nat) ∧ s10 = .int .i64 E ∧ wr = o1) (fun s9 _ _ => 5 - (intOf s9).toNat)
      case atStart => exact ⟨0, ep, ⟨Nat.zero_le _, by simp⟩, rfl, rfl, rfl⟩
      case round =>
        obtain ⟨j, E, ⟨hj, hE⟩, rfl, rfl, rfl⟩ := hrel
        by_cases hlt : j < 5
        · have n1 : (E != epoch) = true := by skip; simp; omega
          have n2 : decide ((j : Int) ≤ 4) = true := decide_eq_true (by skip; omega)
          have n3 : (j : Int) ≤ 4 := by skip; omega
          obtain ⟨E2, hE2⟩ : ∃ E2, E + 1 = E2 := ⟨_, rfl⟩
          have b1 : -9223372036854775808 ≤ E2 := by skip; omega
          have b2 : E2 ≤ 9223372036854775807 := by skip; omega
          have HJ : Hid (j < 5 ∧ ep + (j : Int) = E ∧ E + 1 = E2) := Lib.hid ⟨hlt, hE, hE2⟩
          clear hlt hj hE
          go_wp2_with fail
          go_roundw
          case rel => exact ⟨j + 1, E2, ⟨by have := HJ.out; omega, by have := HJ.out; push_cast; omega⟩, by go_num, by first | rfl | go_num, trivial⟩
          case measure => have := HJ.out; simp [intOf]; omega
        · obtain rfl : j = 5 := by omega
          have HE := Lib.hid hE
          clear hlt hj hE r0 r1 q0 q1
          by_cases h5 : epoch = E
          · have n1 : (E != epoch) = false := by simp [h5]
            clear h5
            have hk9 := fill2 Br (.int .i64 0) (.int .i64 0) HBR1.out
            have HF9 := Lib.hid (HP2.out.fill gS (gW g2 _ _) HBB.out (.int .i64 0) (.int .i64 0))
            have HK9 : Hid (∀ k, K k → ((wr.setCell ⟨Br, 0, none⟩ (.int .i64 0)).setCell ⟨Br, 1, none⟩ (.int .i64 0)).heap[k]? = w.heap[k]?) := Lib.hid (fun k q => (fill2_other Br _ _ (fun e => by have := HK.out k q; have := HBW.out; omega)).trans (HKK1.out k q))
            obtain ⟨c0, c1, _, _⟩ := cells2 hk9
            clear hk9
            go_wp2_with fail
            exact bodyPost_ret (v := .tuple #[.agg #[.int .i64 0, .int .i64 0], .slice none 0 0, .int .i64 13]) (by simp [results, Try.results16, go_sem, c0, c1]) rfl ⟨_, rfl, HF9.out, HK9.out⟩
          · have n1 : (E != epoch) = true := by simp; omega
            clear h5
            have hk9 := fill2 Br (.int .i64 0) (.int .i64 0) HBR1.out
            have HF9 := Lib.hid (HP2.out.fill gS (gW g2 _ _) HBB.out (.int .i64 0) (.int .i64 0))
            have HK9 : Hid (∀ k, K k → ((wr.setCell ⟨Br, 0, none⟩ (.int .i64 0)).setCell ⟨Br, 1, none⟩ (.int .i64 0)).heap[k]? = w.heap[k]?) := Lib.hid (fun k q => (fill2_other Br _ _ (fun e => by have := HK.out k q; have := HBW.out; omega)).trans (HKK1.out k q))
            obtain ⟨c0, c1, _, _⟩ := cells2 hk9
            clear hk9
            go_wp2_with fail
            exact bodyPost_ret (v := .tuple #[.agg #[.int .i64 0, .int .i64 0], .slice none 0 0, .int .i64 13]) (by simp [results, Try.results16, go_sem, c0, c1]) rfl ⟨_, rfl, HF9.out, HK9.out⟩
    · skip
      obtain ⟨t, ht⟩ : ∃ t : Nat, epoch = ep + (t : Int) := ⟨(epoch - ep).toNat, by omega⟩
      have ht4 : t ≤ 4 := by omega
      rw [to_go (c := ⟨x, ep⟩) ht ht4] at hf
      have HF := Lib.hid hf
      have HT : Hid (epoch = ep + (t : Int) ∧ t ≤ 4) := Lib.hid ⟨ht, ht4⟩
      have n0 : decide (epoch < ep) = false := decide_eq_false (by omega)
      clear hf ht ht4
      go_enter Try.func16, Try.ntmps16
      go_upto_region 1 with fail
      rw [← HO.out.1, ← HO.out.2.1, ← HO.out.2.2.1, HO.out.2.2.2]
      obtain ⟨r0, r1, q0, q1⟩ := cells2 HBC1.out
      obtain ⟨s0, s1, t0, t1⟩ := cells2 HBR1.out
      go_wp2_with fail
      go_loopw [9, 10] (fun s9 s10 wr => ∃ (j : Nat) (E : Int), (j ≤ t ∧ ep + (j : Int) = E) ∧ s9 = .int .i64 (j : Nat) ∧ s10 = .int .i64 E ∧ wr = o1) (fun s9 _ _ => t - (intOf s9).toNat)
      case atStart => exact ⟨0, ep, ⟨Nat.zero_le _, by simp⟩, rfl, rfl, rfl⟩
      case round =>
        obtain ⟨j, E, ⟨hj, hE⟩, rfl, rfl, rfl⟩ := hrel
        by_cases hlt : j < t
        · have n1 : (E != epoch) = true := by have := HT.out; simp; omega
          have n2 : decide ((j : Int) ≤ 4) = true := decide_eq_true (by have := HT.out; omega)
          have n3 : (j : Int) ≤ 4 := by have := HT.out; omega
          obtain ⟨E2, hE2⟩ : ∃ E2, E + 1 = E2 := ⟨_, rfl⟩
          have b1 : -9223372036854775808 ≤ E2 := by have := HT.out; omega
          have b2 : E2 ≤ 9223372036854775807 := by have := HT.out; omega
          have HJ : Hid (j < t ∧ ep + (j : Int) = E ∧ E + 1 = E2) := Lib.hid ⟨hlt, hE, hE2⟩
          clear hlt hj hE
          go_wp2_with fail
          go_roundw
          case rel => exact ⟨j + 1, E2, ⟨by have := HJ.out; omega, by have := HJ.out; push_cast; omega⟩, by go_num, by first | rfl | go_num, trivial⟩
          case measure => have := HJ.out; simp [intOf]; omega
        · obtain rfl : j = t := by omega
          have n1 : (E != epoch) = false := by have := HT.out; simp; omega
          have n2 : decide ((4 : Int) < (j : Int)) = false := decide_eq_false (by have := HT.out; omega)
          have n3 : (j : Int) ≤ 4 := by have := HT.out; omega
          clear hlt hj hE
          obtain ⟨t, rfl⟩ : ∃ t, t = j := ⟨j, rfl⟩
          go_wp2_with fail
          have HPR : Hid (Pair base (RSq base g most) (WithRow base Q2 (.slice (some ⟨wr.heap.size, 0, none⟩) 0 0) []) L L2 (fun k => (K k ∨ k = Bc) ∨ k = Br) w0 (wr.alloc (.cells #[] 3))) := Lib.hid (HP1.out.newRow gS g2)
          have hsz := below_alloc wr (.cells #[] 3)
          have HBC2 : Hid ((wr.alloc (.cells #[] 3)).heap[Bc]? = some (.cells #[.int .i64 x, .int .i64 ep] 35 (0, 0))) := Lib.hid ((hsz.block _ (block_lt_of_some HBC1.out)).trans HBC1.out)
          have HBR2 : Hid ((wr.alloc (.cells #[] 3)).heap[Br]? = some (.cells #[.int .i64 0, .int .i64 0] 35 (0, 0))) := Lib.hid ((hsz.block _ (block_lt_of_some HBR1.out)).trans HBR1.out)
          have HKK2 : Hid (∀ k, K k → (wr.alloc (.cells #[] 3)).heap[k]? = w.heap[k]?) := Lib.hid (fun k q => (hsz.block k (HP1.out.klt k (.inl (.inl q)))).trans (HKK1.out k q))
          clear hsz r0 r1 q0 q1 s0 s1 t0 t1 HP1 HBC1 HBR1 HKK1
          go_loopg [11] t (fun gk s11 wr => ∃ (j : Nat) (v : Value) (y ey : Int) (js : List Int) (M : List Tm), j + gk = t ∧ v = s11 ∧ Hid (js.length = j ∧ I64 y ∧ ey = ep + (j : Int)) ∧ Hid (toA most gk M ⟨y, ey⟩ js = (⟨x', ep'⟩, ks, err, L')) ∧ Hid (Pair base (RSq base g most) (WithRow base Q2 v js) M L2 (fun k => (K k ∨ k = Bc) ∨ k = Br) w0 wr) ∧ Hid (wr.heap[Bc]? = some (.cells #[.int .i64 y, .int .i64 ey] 35 (0, 0))) ∧ Hid (wr.heap[Br]? = some (.cells #[.int .i64 0, .int .i64 0] 35 (0, 0))) ∧ Hid (∀ k, K k → wr.heap[k]? = w.heap[k]?))
          case atStart => exact ⟨0, _, x, ep, [], L, by omega, rfl, Lib.hid ⟨rfl, HX.out, by simp⟩, HF, HPR, HBC2, HBR2, HKK2⟩
          case round =>
            clear HF HPR HBC2 HBR2 HKK2
            obtain ⟨j, v, y, ey, js, M, hjt, rfl, HJ, HF, HP, HBC, HBR, HKK⟩ := hrel
            obtain ⟨n, hn⟩ : ∃ n, js.length = n := ⟨_, rfl⟩
            have HN := Lib.hid hn
            have HJT := Lib.hid hjt
            clear hn
            obtain ⟨r0, r1, q0, q1⟩ := cells2 HBC.out
            obtain ⟨s0, s1, t0, t1⟩ := cells2 HBR.out
            cases gk with
            | zero =>
              have hf := HF.out
              rw [to_zero] at hf
              injection hf with h1 h2
              injection h1 with h3 h4
              injection h2 with h5 h6
              injection h6 with h7 h8
              have n1 : (ey != epoch) = false := by
                have := HJ.out.2.2
                have := HT.out
                simp
                omega
              subst h3 h4 h5 h7 h8
              clear hjt
              have hk9 := fill2 Br (.int .i64 y) (.int .i64 ey) HBR.out
              have HF9 := Lib.hid (HP.out.fill gS (gW g2 _ _) HBB.out (.int .i64 y) (.int .i64 ey))
              have HK9 : Hid (∀ k, K k → ((wr.setCell ⟨Br, 0, none⟩ (.int .i64 y)).setCell ⟨Br, 1, none⟩ (.int .i64 ey)).heap[k]? = w.heap[k]?) := Lib.hid (fun k q => (fill2_other Br _ _ (fun e => by have := HK.out k q; have := HBW.out; omega)).trans (HKK.out k q))
              obtain ⟨c0, c1, _, _⟩ := cells2 hk9
              clear hk9
              go_wp2_with fail
              exact bodyPost_ret (v := .tuple #[.agg #[.int .i64 y, .int .i64 ey], v, .int .i64 0]) (by simp [results, Try.results16, go_sem, c0, c1]) rfl ⟨_, rfl, HF9.out, HK9.out⟩
            | succ gk =>
              have n1 : (ey != epoch) = true := by
                have := HJ.out.2.2
                have := HT.out
                simp
                omega
              obtain ⟨a, f, M1, hq⟩ : ∃ a f M1, putF M most (keyT y 1) = (a, f, M1) := ⟨_, _, _, rfl⟩
              have HQ := Lib.hid hq
              have hey : I64 ey := i64_of (by have := HJ.out.2.2; have := HEP.out; omega) (by have := HJ.out.2.2; have := HT.out; have := HEPO.out; omega)
              have HEY := Lib.hid hey
              clear hq hey hjt
              go_wp2_with fail
              refine (HP.out.csealR (gW g2 _ _) HJ.out.2.1 HQ.out).mono ?_
              rintro e w1 ⟨rfl, h1, hk⟩
              have HP1 := Lib.hid h1
              have HFI := Lib.hid (And.intro h1.factsR.2.1 h1.factsR.2.2)
              have HBC1 : Hid (w1.heap[Bc]? = some (.cells #[.int .i64 y, .int .i64 ey] 35 (0, 0))) := Lib.hid ((hk Bc (.inl (.inr rfl))).trans HBC.out)
              have HBR1 : Hid (w1.heap[Br]? = some (.cells #[.int .i64 0, .int .i64 0] 35 (0, 0))) := Lib.hid ((hk Br (.inr rfl)).trans HBR.out)
              have HKK1 : Hid (∀ k, K k → w1.heap[k]? = w.heap[k]?) := Lib.hid (fun k q => (hk k (.inl (.inl q))).trans (HKK.out k q))
              clear h1 hk r0 r1 q0 q1 s0 s1 t0 t1 HP HBC HBR HKK
              obtain ⟨r0, r1, q0, q1⟩ := cells2 HBC1.out
              obtain ⟨s0, s1, t0, t1⟩ := cells2 HBR1.out
              by_cases hf0 : f = 0
              · subst hf0
                obtain ⟨y2, ey2, f2, M2, hx⟩ : ∃ y2 ey2 f2 M2, nextF M1 most ⟨y, ey⟩ = (⟨y2, ey2⟩, f2, M2) := ⟨_, _, _, _, rfl⟩
                have HXN := Lib.hid hx
                clear hx
                go_wp2_with fail
                refine (HP1.out.cnextR (gW g2 _ _) HJ.out.2.1 HEY.out HXN.out).mono ?_
                rintro e w2 ⟨rfl, h1, hk⟩
                have HP2 := Lib.hid h1
                have HBC2 : Hid (w2.heap[Bc]? = some (.cells #[.int .i64 y, .int .i64 ey] 35 (0, 0))) := Lib.hid ((hk Bc (.inl (.inr rfl))).trans HBC1.out)
                have HBR2 : Hid (w2.heap[Br]? = some (.cells #[.int .i64 0, .int .i64 0] 35 (0, 0))) := Lib.hid ((hk Br (.inr rfl)).trans HBR1.out)
                have HKK2 : Hid (∀ k, K k → w2.heap[k]? = w.heap[k]?) := Lib.hid (fun k q => (hk k (.inl (.inl q))).trans (HKK1.out k q))
                clear h1 hk r0 r1 q0 q1 s0 s1 t0 t1 HP1 HBC1 HBR1 HKK1
                have HPD := Lib.hid (HP2.out.box gS (gW g2 _ _) (.cells #[.int .i64 y2, .int .i64 ey2] 35 : Obj))
                have hsz := below_alloc w2 (.cells #[.int .i64 y2, .int .i64 ey2] 35 : Obj)
                have HBCD : Hid ((w2.alloc (.cells #[.int .i64 y2, .int .i64 ey2] 35 : Obj)).heap[Bc]? = some (.cells #[.int .i64 y, .int .i64 ey] 35 (0, 0))) := Lib.hid ((hsz.block _ (block_lt_of_some HBC2.out)).trans HBC2.out)
                have HBRD : Hid ((w2.alloc (.cells #[.int .i64 y2, .int .i64 ey2] 35 : Obj)).heap[Br]? = some (.cells #[.int .i64 0, .int .i64 0] 35 (0, 0))) := Lib.hid ((hsz.block _ (block_lt_of_some HBR2.out)).trans HBR2.out)
                have HDD : Hid ((w2.alloc (.cells #[.int .i64 y2, .int .i64 ey2] 35 : Obj)).heap[w2.heap.size]? = some (.cells #[.int .i64 y2, .int .i64 ey2] 35 (0, 0))) := Lib.hid (heap_alloc_new w2 _)
                have HKKD : Hid (∀ k, K k → (w2.alloc (.cells #[.int .i64 y2, .int .i64 ey2] 35 : Obj)).heap[k]? = w.heap[k]?) := Lib.hid (fun k q => (hsz.block k (HP2.out.klt k (.inl (.inl q)))).trans (HKK2.out k q))
                clear hsz
                obtain ⟨s0, s1, t0, t1⟩ := cells2 HBRD.out
                by_cases hf2 : f2 = 0
                · subst hf2
                  have HF2 : Hid (toA most gk M2 ⟨y2, ey2⟩ (js ++ [a]) = (⟨x', ep'⟩, ks, err, L')) := Lib.hid (by rw [← HF.out]; exact (to_on (c := ⟨y, ey⟩) HQ.out HXN.out).symm)
                  have hbe := next_ok HXN.out
                  have HE2 : Hid ((js ++ [a]).length = j + 1 ∧ I64 y2 ∧ ey2 = ep + ((j + 1 : Nat) : Int)) := Lib.hid ⟨by rw [List.length_append, HJ.out.1]; rfl, next_name HFI.out.1 HFI.out.2 HXN.out, by rw [hbe.1, HJ.out.2.2]; push_cast; omega⟩
                  have hbs := HPD.out.base_le
                  have hro := HPD.out.rowOf
                  have HRow := Lib.hid hro
                  have hnl : js.length ≤ 100 := by have := HJ.out.1; have := HT.out.2; have := HJT.out; omega
                  have HSW := Lib.hid (And.intro hbs hnl)
                  clear hbe hro hbs hnl
                  obtain ⟨i0, hi0, hz0, hz1, hz2⟩ := info_parts2
                  go_upto_region 18 with fail
                  clear s0 s1 t0 t1
                  generalize hwd : w2.alloc (.cells #[.int .i64 y2, .int .i64 ey2] 35 : Obj) = wd at HPD HBCD HBRD HDD HKKD HRow HSW ⊢
                  clear hwd
                  go_wp2_with (at_builtin; refine wpList_append_lies _ rfl _ _ 41 rfl base 3 i0 (.int .i64 0) 1 8 Try.underlying41 hi0 hz0 hz1 hz2 rfl (by decide) _ _ _ rfl (HRow.out.alloc _) ⟨wd.heap.size, 0, none⟩ 1 1 [.int .i64 a] rfl rfl (World.news_of_block (cs := #[.int .i64 a]) (t := 3) (fr := (0, 0)) (heap_alloc_new wd _)) (by simp [Value.oneCell']) (by have := HSW.out.2; omega) (by have := HSW.out.2; unfold maxLen; omega) (by have := HSW.out.2; omega) (by have := HSW.out.1; simp; omega) (wd.heap.size + 1) (by simp) ?_; intro g3 cap3 w3 hown2 hgrow2 hat2 hlt3; have hn := HPD.out.appRow gS g2 hown2 hgrow2 hat2; have HN3 := Lib.hid hn.1; have HBC3 : Hid (w3.heap[Bc]? = some (.cells #[.int .i64 y, .int .i64 ey] 35 (0, 0))) := Lib.hid ((hn.2 Bc (.inl (.inl (.inr rfl)))).trans HBCD.out); have HBR3 : Hid (w3.heap[Br]? = some (.cells #[.int .i64 0, .int .i64 0] 35 (0, 0))) := Lib.hid ((hn.2 Br (.inl (.inr rfl))).trans HBRD.out); have HDD3 : Hid (w3.heap[w2.heap.size]? = some (.cells #[.int .i64 y2, .int .i64 ey2] 35 (0, 0))) := Lib.hid ((hn.2 _ (.inr rfl)).trans HDD.out); have HKK3 : Hid (∀ k, K k → w3.heap[k]? = w.heap[k]?) := Lib.hid (fun k q => (hn.2 k (.inl (.inl (.inl q)))).trans (HKKD.out k q)); obtain ⟨r0, r1, q0, q1⟩ := cells2 HBC3.out; obtain ⟨d0, d1, _, _⟩ := cells2 HDD3.out; clear hown2 hgrow2 hat2 hlt3 hn)
                  have HP3 := Lib.hid (((HN3.out.less (K' := (fun k => (K k ∨ k = Bc) ∨ k = Br)) (fun k q => .inl q)).setC gS (gW g2 _ _) (.inl (.inr rfl)) HBE.out.1 0 (.int .i64 y2)).setC gS (gW g2 _ _) (.inl (.inr rfl)) HBE.out.1 1 (.int .i64 ey2))
                  have HBC4 := Lib.hid (fill2 Bc (.int .i64 y2) (.int .i64 ey2) HBC3.out)
                  have HBR4 := Lib.hid ((fill2_other Bc (.int .i64 y2) (.int .i64 ey2) (fun e => HBE.out.2.2 e.symm)).trans HBR3.out)
                  have HKK4 := Lib.hid (fun k (q : K k) => (fill2_other Bc (.int .i64 y2) (.int .i64 ey2) (fun e => by have := HK.out k q; have := HBE.out.2.1; omega)).trans (HKK3.out k q))
                  go_roundg gk
                  case rel => exact ⟨j + 1, _, y2, ey2, js ++ [a], M2, by have := HJT.out; omega, rfl, HE2, HF2, by simpa using HP3, HBC4, HBR4, HKK4⟩
                  case measure => omega
                · have hne : (f2 != 0) = true := by simpa using hf2
                  have hf := HF.out
                  rw [to_next (c := ⟨y, ey⟩) HQ.out HXN.out hf2] at hf
                  injection hf with h1 h2
                  injection h1 with h3 h4
                  injection h2 with h5 h6
                  injection h6 with h7 h8
                  subst h3 h4 h5 h7 h8
                  clear hf2
                  have HPN := Lib.hid HPD.out.dropRow.1.addRow
                  have HPM := Lib.hid (HPN.out.less (K' := (fun k => (K k ∨ k = Bc) ∨ k = Br)) (fun k q => .inl q))
                  have hk9 := fill2 Br (.int .i64 0) (.int .i64 0) HBRD.out
                  have HF9 := Lib.hid (HPM.out.fill gS (gW g2 _ _) HBB.out (.int .i64 0) (.int .i64 0))
                  have HK9 : Hid (∀ k, K k → (((w2.alloc (.cells #[.int .i64 y2, .int .i64 ey2] 35 : Obj)).setCell ⟨Br, 0, none⟩ (.int .i64 0)).setCell ⟨Br, 1, none⟩ (.int .i64 0)).heap[k]? = w.heap[k]?) := Lib.hid (fun k q => (fill2_other Br _ _ (fun e => by have := HK.out k q; have := HBW.out; omega)).trans (HKKD.out k q))
                  obtain ⟨c0, c1, _, _⟩ := cells2 hk9
                  clear hk9
                  go_wp2_with fail
                  exact bodyPost_ret (v := .tuple #[.agg #[.int .i64 0, .int .i64 0], .slice none 0 0, .int .i64 f2]) (by simp [results, Try.results16, go_sem, c0, c1]) rfl ⟨_, rfl, HF9.out, HK9.out⟩
              · have hne : (f != 0) = true := by simpa using hf0
                have hf := HF.out
                rw [to_seal (c := ⟨y, ey⟩) HQ.out hf0] at hf
                injection hf with h1 h2
                injection h1 with h3 h4
                injection h2 with h5 h6
                injection h6 with h7 h8
                subst h3 h4 h5 h7 h8
                clear hf0
                have HPN := Lib.hid HP1.out.dropRow.1.addRow
                have hk9 := fill2 Br (.int .i64 0) (.int .i64 0) HBR1.out
                have HF9 := Lib.hid (HPN.out.fill gS (gW g2 _ _) HBB.out (.int .i64 0) (.int .i64 0))
                have HK9 : Hid (∀ k, K k → ((w1.setCell ⟨Br, 0, none⟩ (.int .i64 0)).setCell ⟨Br, 1, none⟩ (.int .i64 0)).heap[k]? = w.heap[k]?) := Lib.hid (fun k q => (fill2_other Br _ _ (fun e => by have := HK.out k q; have := HBW.out; omega)).trans (HKK1.out k q))
                obtain ⟨c0, c1, _, _⟩ := cells2 hk9
                clear hk9
                go_wp2_with fail
                exact bodyPost_ret (v := .tuple #[.agg #[.int .i64 0, .int .i64 0], .slice none 0 0, .int .i64 f]) (by simp [results, Try.results16, go_sem, c0, c1]) rfl ⟨_, rfl, HF9.out, HK9.out⟩
end
end Go.Proofs.Ytlnpfeecaiecaaa

namespace Go.Proofs.Ytlnpfeecaiecaaa
open Go.RowKit
set_option linter.unusedVariables false
variable {F : Fence} {n : Nat} {P : Program}
/-- How the body of a round may be left: at its end alone. -/
def turnsPost (I : World → Prop) : Exit → Act → World → Prop
  | .normal, _, W => I W
  | .ret, _, _ => False
  | .exit _, _, _ => False
  | .goto _, _, _ => False
  | .panic _, _, _ => False
  | .outgrown, _, _ => False
/-- What the law itself keeps: the loop's record, and the block for the rounds' deferred calls. -/
structure Held (D : Nat) (r : Loop) (W : World) : Prop where
  record : W.heap[D + 1]? = some (.loop r)
  defs : W.heap[D]? = some (.deferred (some []))
theorem Held.same {D : Nat} {r : Loop} {W W' : World} (h : Held D r W) (h1 : W'.heap[D + 1]? = W.heap[D + 1]?) (h2 : W'.heap[D]? = W.heap[D]?) : Held D r W' := ⟨h1.trans h.record, h2.trans h.defs⟩
theorem Held.put {D : Nat} {r : Loop} {W : World} (h : Held D r W) (r' : Loop) : Held D r' (W.putObj (D + 1) (.loop r')) :=
  ⟨World.putObj_heap_same (Array.getElem?_eq_some_iff.1 h.record).1, (World.putObj_heap_other (by omega)).trans h.defs⟩
set_option maxHeartbeats 1000000 in
theorem wpIn_rangeFunc_turns {α : Type} {g : Operand} {ps : Array Tmp} {assign body : Code} {Q : Exit → Act → World → Prop} {a : Act} {w : World} (D : Nat) (hD : w.heap.size = D)
    (hro : F.round = none) (h1 : 1 ≤ n) {gf : Nat} {lb : Array Value} (hg : a.eval g = .func (.func gf) #[] lb) (hFg : F.fn gf) (eg : ∀ args w, (callFunc gf args).run P w = .ok (.enter gf args) w)
    (encs : α → Array Value) (hps : ∀ x, (encs x).size = ps.size)
    (Is Ie : World → Prop) (Ip Ib : α → World → Prop) (Ax : α → Act → World → Prop)
    (tx : ∀ x a' W r r', Ax x a' W → Held D r W → Ax x a' (W.putObj (D + 1) (.loop r')))
    (tb : ∀ x W r r', Ib x W → Held D r W → Ib x (W.putObj (D + 1) (.loop r')))
    (te : ∀ W r r', Ie W → Held D r W → Ie (W.putObj (D + 1) (.loop r')))
    (h0 : ∀ r, Is ((w.alloc (.deferred (some []))).alloc (.loop r)))
    (hit : ∀ (r : Loop) (W : World), Is W → Held D r W →
      (∀ x W1, Ip x W1 → Held D r W1 → YieldAt F (n - 1 - 1) P (D + 1) (encs x) W1 fun e W' => e = .returned (.bool true) ∧ Ib x W' ∧ Held D r W') →
      CallsIn F (n - 1) P gf (#[.func (.yield (D + 1)) #[] #[]] ++ lb) W fun e W' => (∃ v, e = .returned v) ∧ Ie W' ∧ Held D r W')
    (hassign : ∀ (x : α) (W : World) (r : Loop), Ip x W → Held D r W →
      assign.wpIn (F.inRound (D + 1)) (n - 1 - 1) P (Exit.then (fun a' W' => Ax x a' W' ∧ Held D r W') (fun _ _ _ => False)) { tmps := (ps.zip (encs x)).foldl (fun t (p, v) => t.setIfInBounds p v) a.tmps, defers := [] } W)
    (hbody : ∀ (x : α) (a' : Act) (W : World) (r : Loop), Ax x a' W → Held D r W → body.wpIn (F.inRound (D + 1)) (n - 1 - 1) P (turnsPost (fun W' => Ib x W' ∧ Held D r W')) a' W)
    (hdone : ∀ (W : World), Ie W → W.heap[D]? = some (.deferred (some [])) → Q .normal { a with defers := { target := .collected D, args := #[] } :: a.defers } W) :
    (Code.rangeFunc g ps assign body).wpIn F n P Q a w := by
  subst hD
  refine wpIn_rangeFunc ?_
  intro fn hfn
  rw [hro]
  obtain ⟨rec, hrec⟩ : ∃ rec : LoopState → Option Code → Loop, rec = fun st pe => { state := st, pending := pe, fn, tmps := a.tmps, params := ps, assign, body, defers := w.heap.size } := ⟨_, rfl⟩
  obtain ⟨W1, hW1⟩ : ∃ W1, (w.alloc (.deferred (some []))).alloc (.loop (rec .ready none)) = W1 := ⟨_, rfl⟩
  have hH1 : Held w.heap.size (rec .ready none) W1 := by
    constructor
    · rw [← hW1]; have := World.alloc_heap_new (w.alloc (.deferred (some []))) (.loop (rec .ready none)); rwa [World.size_alloc] at this
    · rw [← hW1]; exact (Below.heap_alloc _ _ _ (by simp)).trans (World.alloc_heap_new w _)
  have hI1 : Is W1 := by rw [← hW1]; exact h0 _
  refine ⟨w.heap.size + 1, [{ target := .collected w.heap.size, args := #[] }], W1, { target := .fn (.func gf) lb, args := #[.func (.yield (w.heap.size + 1)) #[] #[]] }, W1, gf,
    #[.func (.yield (w.heap.size + 1)) #[] #[]] ++ lb, W1, ?_, ?_, ?_, ?_, fun _ => h1, ?_⟩
  · rw [← hW1, hrec]; exact run_enterLoop_outer _ _ _ _ _
  · simp only [resolve, hg]
    simp [go_sem]
  · intro f' hf'; simp [Target.leads] at hf'; subst hf'; exact hFg
  · simp [invoke, go_sem, eg]
  · refine (hit (rec .ready none) W1 hI1 hH1 ?_).mono ?_
    · -- one round
      rintro x W hi hh
      have hy := run_yield (P := P) (args := encs x) hh.record (by rw [hrec]; exact hps x)
      rw [hrec] at hy
      refine ⟨fn, _, assign, body, hy, roundIn_of_wpIn hfn (wpIn_mono (hassign x W _ hi hh) ?_)⟩
      rintro e a' W2 hp
      cases e with
      | normal =>
        obtain ⟨hax, hh2⟩ := hp
        refine ⟨_, run_beginRound hh2.record (by rw [hrec]), ?_⟩
        have hh3 := hh2.put { rec .ready none with state := .busy }
        refine wpIn_mono (hbody x a' _ _ (tx _ _ _ _ _ hax hh2) hh3) ?_
        rintro e a3 W3 hp3
        cases e with
        | normal =>
          obtain ⟨hb3, hh4⟩ := hp3
          have hr := run_endRound (P := P) none hh4.record
          have hh5 := hh4.put (rec .ready none)
          have hr' : (Instr.endRound (w.heap.size + 1) none).run P W3 = .ok (.bool true) (W3.putObj (w.heap.size + 1) (.loop (rec .ready none))) := by
            rw [hrec] at hr ⊢
            exact hr
          exact ⟨_, _, hr', rfl, tb _ _ _ _ hb3 hh4, hh5⟩
        | _ => exact hp3.elim
      | _ => exact hp.elim
    · -- behind the iterator
      rintro e W2 ⟨⟨v, rfl⟩, he, hh⟩
      have hr := run_endLoop (P := P) hh.record (by rw [hrec]; simp)
      rw [hrec] at hr
      exact ⟨none, _, hr, hdone _ (te _ _ _ he hh) ((World.putObj_heap_other (by omega)).trans hh.defs)⟩
/-! A region that draws its order, in a round: by the words that serve everywhere else. -/
section
variable {ops : Array Oper} {Q : Exit → Act → World → Prop}
theorem wpOpIn_of_wpOp {l i : Nat} (hd : ∀ o, ops[i]? = some o → ∀ c, o.op ≠ .defer c) (hl : ¬ LetsOut Q) {K : Act → World → Prop} {a : Act} {w : World} (h : wpOp P ops Q i K a w) : wpOpIn (Fence.wide.inRound l) n P ops Q i K a w := by
  unfold wpOp at h
  unfold wpOpIn
  cases ho : ops[i]? with
  | none => simpa [ho] using h
  | some o =>
    simp only [ho] at h ⊢
    split at h
    · rename_i hw
      rw [if_pos hw]
      rcases h with h | h
      · refine ⟨fun f _ => trivial, ?_⟩
        rw [Oper.semAt_plain _ _ _ (hd o ho)]
        unfold Oper.wp at h
        generalize (execOp a.eval o).run P w = r at h ⊢
        cases r with
        | ok nx w' =>
          cases nx with
          | value v => exact h
          | skip => exact h
          | defer d => exact h
          | enter f args => exact ⟨fun hh => (by cases hh), CallsIn.inRound l (callsIn_wide.2 h)⟩
          | row rw_ args => exact ⟨fun hh => (by cases hh), fun c cs _ => let ⟨v, w2, r1, s1⟩ := h c cs; ⟨v, w2, r1, stepsIn_wide.2 s1⟩⟩
          | _ => exact h.elim
        | halt e w' => cases e <;> first | exact h | exact h.elim
      · exact absurd h.2 hl
    · rename_i hw
      rw [if_neg hw]
      exact ⟨fun f _ => trivial, h⟩
theorem wpAnyIn_of_wpAny {l : Nat} {md : Region.Mode} (hd : ∀ (i : Nat) (o : Oper), ops[i]? = some o → ∀ c, o.op ≠ .defer c) (hl : ¬ LetsOut Q) : ∀ (fuel : Nat) (listed : Array Bool) (a : Act) (w : World), wpAny P md ops Q fuel listed a w → wpAnyIn (Fence.wide.inRound l) n P md ops Q fuel listed a w
  | 0, _, _, _, h => h
  | fuel + 1, listed, a, w, h => ⟨h.1, fun i hi => wpOpIn_mono (fun a' w' h' => wpAnyIn_of_wpAny hd hl fuel _ a' w' h') (wpOpIn_of_wpOp (hd i) hl (h.2 i hi))⟩
theorem wpIn_round_held {l id : Nat} {a : Act} {w : World} (S : World → Prop) (hm : P.follows .mixedOrders = true) (hd : ∀ (i : Nat) (o : Oper), ops[i]? = some o → ∀ c, o.op ≠ .defer c) (hl : ¬ LetsOut Q) (hS : S w.drew)
    (h : S w.drew → wpAnyH P .any ops Q S ops.size (Array.replicate ops.size false) a w.drew) : (Code.region id ops true).wpIn (Fence.wide.inRound l) n P Q a w :=
  wpIn_region_any hm (wpAnyIn_of_wpAny hd hl _ _ _ _ (wpAny_of_held _ _ _ _ (h hS)))
theorem turns_shut {I : World → Prop} : ¬ LetsOut (turnsPost I) := fun ⟨_, _, h⟩ => h
end
end Go.Proofs.Ytlnpfeecaiecaaa

namespace Go.Proofs.Ytlnpfeecaiecaaa
open Go.RowKit
set_option linter.unusedVariables false
set_option linter.unusedSimpArgs false
set_option maxRecDepth 20000
set_option maxHeartbeats 400000 in
theorem in_k (x ep epoch : Int) (w : World) : Calls Try.prog 43 #[.agg #[.int .i64 x, .int .i64 ep], .int .i64 epoch] w fun e w' => e = .returned (.agg #[.int .i64 x, .int .i64 epoch]) ∧ Below w.heap.size w w' := by
  obtain ⟨o0, ho0⟩ : ∃ o0, o0 = w.alloc (.cells #[.int .i64 x, .int .i64 ep] 30 : Obj) := ⟨_, rfl⟩
  obtain ⟨o1, ho1⟩ : ∃ o1, o1 = o0.alloc (.cells #[.int .i64 0, .int .i64 0] 30 : Obj) := ⟨_, rfl⟩
  obtain ⟨Bc, hBc⟩ : ∃ Bc, Bc = w.heap.size := ⟨_, rfl⟩
  obtain ⟨Br, hBr⟩ : ∃ Br, Br = o0.heap.size := ⟨_, rfl⟩
  have hcr : Bc + 1 = Br := by rw [hBr, ho0, hBc]; simp
  have HO := Lib.hid (And.intro ho0 (And.intro hBc (And.intro ho1 hcr)))
  have hb0 : o0.heap[Bc]? = some (.cells #[.int .i64 x, .int .i64 ep] 30 (0, 0)) := by rw [ho0, hBc]; exact heap_alloc_new w _
  have HBC1 : Hid (o1.heap[Bc]? = some (.cells #[.int .i64 x, .int .i64 ep] 30 (0, 0))) := Lib.hid (by
    rw [ho1]
    exact ((below_alloc o0 _).block _ (block_lt_of_some hb0)).trans hb0)
  have HBR1 : Hid (o1.heap[Br]? = some (.cells #[.int .i64 0, .int .i64 0] 30 (0, 0))) := Lib.hid (by rw [ho1, hBr]; exact heap_alloc_new o0 _)
  have HB : Hid (Below w.heap.size w ((o1.setCell ⟨Br, 0, none⟩ (.int .i64 x)).setCell ⟨Br, 1, none⟩ (.int .i64 epoch))) := Lib.hid (by
    have h1 : Below w.heap.size w o1 := by rw [ho1, ho0]; exact (below_alloc w _).trans ((below_alloc _ _).mono (below_alloc w _).size)
    have hle : w.heap.size ≤ Br := by omega
    exact (h1.setCell (p := ⟨Br, 0, none⟩) hle _).setCell (p := ⟨Br, 1, none⟩) hle _)
  clear ho0 ho1 hBc hBr hcr hb0
  go_enter Try.func43, Try.ntmps43
  go_upto_region 1 with fail
  rw [← HO.out.1, ← HO.out.2.1, ← HO.out.2.2.1, HO.out.2.2.2]
  obtain ⟨r0, r1, q0, q1⟩ := cells2 HBC1.out
  obtain ⟨s0, s1, t0, t1⟩ := cells2 HBR1.out
  have hk9 := fill2 Br (.int .i64 x) (.int .i64 epoch) HBR1.out
  obtain ⟨c0, c1, _, _⟩ := cells2 hk9
  clear hk9
  go_wp2_with fail
  exact bodyPost_ret (v := .agg #[.int .i64 x, .int .i64 epoch]) (by simp [results, Try.results43, go_sem, c0, c1]) rfl ⟨rfl, HB.out⟩
set_option maxHeartbeats 1000000 in
theorem upTo_k (x ep epoch : Int) (g be : Nat) (w : World) : Calls Try.prog 31 #[.agg #[.int .i64 x, .int .i64 ep], .pointer (some ⟨g, 0, none⟩), .int .i64 epoch, .pointer (some ⟨be, 0, none⟩)] w fun e w' =>
    e = .returned (.func (.func 42) #[] #[.pointer (some ⟨w.heap.size, 0, none⟩), .pointer (some ⟨w.heap.size + 2, 0, none⟩), .pointer (some ⟨w.heap.size + 1, 0, none⟩), .pointer (some ⟨w.heap.size + 3, 0, none⟩)]) ∧
    w' = (((w.alloc (.cells #[.int .i64 x, .int .i64 ep] 30)).alloc (.cells #[.pointer (some ⟨g, 0, none⟩)] 24)).alloc (.cells #[.int .i64 epoch] 3)).alloc (.cells #[.pointer (some ⟨be, 0, none⟩)] 81) := by
  have hmf : ∀ fn first cap (w : World), (Instr.makeFunc fn first cap).run Try.prog w = .ok (.func fn first cap) w := fun _ _ _ _ => rfl
  go_enter Try.func31, Try.ntmps31
  go_wp2
  go_ret
  exact ⟨rfl, rfl⟩
end Go.Proofs.Ytlnpfeecaiecaaa

namespace Go.Proofs.Ytlnpfeecaiecaaa
open Go.RowKit
set_option linter.unusedVariables false
set_option linter.unusedSimpArgs false
set_option maxRecDepth 20000
/-- What stays while the call runs: where it began, what it was called with. -/
structure ToC where
  n : Nat
  base : Nat
  g : Nat
  most : Int
  Q2 : (Nat → Prop) → List Tm → World → Prop
  L2 : List Tm
  K : Nat → Prop
  w0 : World
  wz : World
  x : Int
  ep : Int
  epoch : Int
/-- What turns: the error that is noted, the row and what the variable holds, the last chain, the keys, the terms. -/
structure ToV where
  er : Int
  v : Value
  vb : Value
  ly : Int
  le : Int
  js : List Int
  M : List Tm
/-- The blocks that no call turns: the caller's, eleven of its own, and some more. -/
def ToC.Kp (c : ToC) (X : Nat → Prop) : Nat → Prop := fun k => (c.K k ∨ (c.n ≤ k ∧ k < c.n + 11)) ∨ X k
structure ToI (c : ToC) (X : Nat → Prop) (u : ToV) (r : Loop) (W : World) : Prop where
  pair : Pair c.base (PSq c.base c.g c.most) (WithRow c.base c.Q2 u.v u.js) u.M c.L2 (c.Kp X) c.w0 W
  old : ∀ k, c.K k → W.heap[k]? = c.wz.heap[k]?
  b3 : W.heap[c.n]? = some (.cells #[.int .i64 c.x, .int .i64 c.ep] 30 (0, 0))
  b6 : W.heap[c.n + 1]? = some (.cells #[.int .i64 0, .int .i64 0] 30 (0, 0))
  b9 : W.heap[c.n + 2]? = some (.cells #[u.vb] 41 (0, 0))
  b10 : W.heap[c.n + 3]? = some (.cells #[.int .i64 u.er] 31 (0, 0))
  b11 : W.heap[c.n + 4]? = some (.cells #[.int .i64 u.ly, .int .i64 u.le] 30 (0, 0))
  bc : W.heap[c.n + 5]? = some (.cells #[.int .i64 c.x, .int .i64 c.ep] 30 (0, 0))
  bs : W.heap[c.n + 6]? = some (.cells #[.pointer (some ⟨c.g, 0, none⟩)] 24 (0, 0))
  be : W.heap[c.n + 7]? = some (.cells #[.int .i64 c.epoch] 3 (0, 0))
  bp : W.heap[c.n + 8]? = some (.cells #[.pointer (some ⟨c.n + 3, 0, none⟩)] 81 (0, 0))
  held : Held (c.n + 9) r W
structure ToC.Ok (c : ToC) : Prop where
  g2 : Good c.base c.Q2
  low : c.base ≤ c.n
  klt : ∀ k, c.K k → k < c.n
theorem ToC.Ok.gw {c : ToC} (o : c.Ok) (v : Value) (xs : List Int) : Good c.base (WithRow c.base c.Q2 v xs) := gW o.g2 v xs
theorem ToC.own {c : ToC} {X : Nat → Prop} {i : Nat} (h : i < 11) : c.Kp X (c.n + i) := .inl (.inr ⟨by omega, by omega⟩)
theorem ToC.own0 {c : ToC} {X : Nat → Prop} : c.Kp X c.n := .inl (.inr ⟨by omega, by omega⟩)
theorem ToI.step {c : ToC} {X : Nat → Prop} {u : ToV} {r : Loop} {W W' : World} {M' : List Tm} (h : ToI c X u r W) (p : Pair c.base (PSq c.base c.g c.most) (WithRow c.base c.Q2 u.v u.js) M' c.L2 (c.Kp X) c.w0 W') (hk : ∀ k, c.Kp X k → W'.heap[k]? = W.heap[k]?) : ToI c X { u with M := M' } r W' where
  pair := p
  old := fun k q => (hk k (.inl (.inl q))).trans (h.old k q)
  b3 := (hk _ ToC.own0).trans h.b3
  b6 := (hk _ (ToC.own (by omega))).trans h.b6
  b9 := (hk _ (ToC.own (by omega))).trans h.b9
  b10 := (hk _ (ToC.own (by omega))).trans h.b10
  b11 := (hk _ (ToC.own (by omega))).trans h.b11
  bc := (hk _ (ToC.own (by omega))).trans h.bc
  bs := (hk _ (ToC.own (by omega))).trans h.bs
  be := (hk _ (ToC.own (by omega))).trans h.be
  bp := (hk _ (ToC.own (by omega))).trans h.bp
  held := h.held.same (hk (c.n + 10) (ToC.own (by omega))) (hk _ (ToC.own (by omega)))
theorem ToI.below {c : ToC} (o : c.Ok) {X : Nat → Prop} {u : ToV} {r : Loop} {W W' : World} (h : ToI c X u r W) (hb : Below W.heap.size W W') : ToI c X u r W' :=
  h.step (h.pair.below (PSq.good c.base c.g c.most) (o.gw _ _) hb) (fun k q => hb.block k (h.pair.klt k q))
theorem ToI.less {c : ToC} {X X' : Nat → Prop} {u : ToV} {r : Loop} {W : World} (h : ToI c X u r W) (hx : ∀ k, X' k → X k) : ToI c X' u r W :=
  { h with pair := h.pair.less (fun k q => q.elim .inl (fun a => .inr (hx k a))) }
theorem ToI.box {c : ToC} (o : c.Ok) {X : Nat → Prop} {u : ToV} {r : Loop} {W : World} (h : ToI c X u r W) (ob : Obj) : ToI c (fun k => X k ∨ k = W.heap.size) u r (W.alloc ob) := by
  have hb : Below W.heap.size W (W.alloc ob) := below_alloc W ob
  have h2 := h.below o hb
  exact { h2 with pair := (h.pair.box (PSq.good c.base c.g c.most) (o.gw _ _) ob).less (fun k q => by
    rcases q with a | a | a
    · exact .inl (.inl a)
    · exact .inl (.inr a)
    · exact .inr a) }
/-- One of its own blocks is turned, the others lie as they lay. -/
theorem ToI.turn {c : ToC} (o : c.Ok) {X : Nat → Prop} {u : ToV} {r : Loop} {W W' : World} (h : ToI c X u r W) {i : Nat} (hi : i < 11) (C : Chg (fun k => k = c.n + i) W W') :
    Pair c.base (PSq c.base c.g c.most) (WithRow c.base c.Q2 u.v u.js) u.M c.L2 (c.Kp X) c.w0 W' ∧ (∀ k, c.K k → W'.heap[k]? = c.wz.heap[k]?) ∧ ∀ j, j < 11 → j ≠ i → W'.heap[c.n + j]? = W.heap[c.n + j]? := by
  have hl := o.low
  refine ⟨?_, fun k q => ?_, fun j hj hne => ?_⟩
  · obtain ⟨F1, F2, h1, h2, h3, h4, h5, h6⟩ := h.pair
    have hq := h4 _ (ToC.own (X := X) hi)
    refine ⟨F1, F2, (PSq.good c.base c.g c.most).frame h1 C (fun k a e => hq.1 (e ▸ a)), (o.gw _ _).frame h2 C (fun k a e => hq.2.1 (e ▸ a)), h3, fun k q => ⟨(h4 k q).1, (h4 k q).2.1, Nat.lt_of_lt_of_le (h4 k q).2.2 C.size⟩, h5, h6.trans (C.below (fun k e => by omega) h.pair.base_le)⟩
  · exact (C.block k (h.pair.klt k (.inl (.inl q))) (fun e => by have := o.klt k q; omega)).trans (h.old k q)
  · exact C.block _ (h.pair.klt _ (ToC.own hj)) (fun e => hne (by omega))
theorem Chg.putO (W : World) (l : Nat) (ob : Obj) : Chg (fun k => k = l) W (W.putObj l ob) := (Chg.grown (grownBy_putObj' W l ob)).mono (fun k _ e => by injection e)
theorem ToI.putLoop {c : ToC} (o : c.Ok) {X : Nat → Prop} {u : ToV} {r : Loop} {W : World} (h : ToI c X u r W) (r' : Loop) : ToI c X u r' (W.putObj (c.n + 9 + 1) (.loop r')) := by
  obtain ⟨p, q, s⟩ := h.turn o (i := 10) (by omega) (Chg.putO W (c.n + 9 + 1) (.loop r'))
  exact { pair := p, old := q, b3 := (s 0 (by omega) (by omega)).trans h.b3, b6 := (s 1 (by omega) (by omega)).trans h.b6, b9 := (s 2 (by omega) (by omega)).trans h.b9, b10 := (s 3 (by omega) (by omega)).trans h.b10, b11 := (s 4 (by omega) (by omega)).trans h.b11, bc := (s 5 (by omega) (by omega)).trans h.bc, bs := (s 6 (by omega) (by omega)).trans h.bs, be := (s 7 (by omega) (by omega)).trans h.be, bp := (s 8 (by omega) (by omega)).trans h.bp, held := h.held.put r' }
theorem one_set {W : World} {b : Nat} {x y : Value} {t : TypeId} (h : W.heap[b]? = some (.cells #[x] t (0, 0))) : (W.setCell ⟨b, 0, none⟩ y).heap[b]? = some (.cells #[y] t (0, 0)) := by
  have := heap_setCell_same W b 0 _ _ y h
  simpa using this
theorem ToI.setErr {c : ToC} (o : c.Ok) {X : Nat → Prop} {u : ToV} {r : Loop} {W : World} (h : ToI c X u r W) (e : Int) : ToI c X { u with er := e } r (W.setCell ⟨c.n + 3, 0, none⟩ (.int .i64 e)) := by
  obtain ⟨p, q, s⟩ := h.turn o (i := 3) (by omega) (Chg.setCell W (c.n + 3) 0 (.int .i64 e))
  exact { pair := p, old := q, b3 := (s 0 (by omega) (by omega)).trans h.b3, b6 := (s 1 (by omega) (by omega)).trans h.b6, b9 := (s 2 (by omega) (by omega)).trans h.b9, b10 := one_set h.b10, b11 := (s 4 (by omega) (by omega)).trans h.b11, bc := (s 5 (by omega) (by omega)).trans h.bc, bs := (s 6 (by omega) (by omega)).trans h.bs, be := (s 7 (by omega) (by omega)).trans h.be, bp := (s 8 (by omega) (by omega)).trans h.bp, held := h.held.same (s 10 (by omega) (by omega)) (s 9 (by omega) (by omega)) }
theorem ToI.setKeys {c : ToC} (o : c.Ok) {X : Nat → Prop} {u : ToV} {r : Loop} {W : World} (h : ToI c X u r W) (v : Value) : ToI c X { u with vb := v } r (W.setCell ⟨c.n + 2, 0, none⟩ v) := by
  obtain ⟨p, q, s⟩ := h.turn o (i := 2) (by omega) (Chg.setCell W (c.n + 2) 0 v)
  exact { pair := p, old := q, b3 := (s 0 (by omega) (by omega)).trans h.b3, b6 := (s 1 (by omega) (by omega)).trans h.b6, b9 := one_set h.b9, b10 := (s 3 (by omega) (by omega)).trans h.b10, b11 := (s 4 (by omega) (by omega)).trans h.b11, bc := (s 5 (by omega) (by omega)).trans h.bc, bs := (s 6 (by omega) (by omega)).trans h.bs, be := (s 7 (by omega) (by omega)).trans h.be, bp := (s 8 (by omega) (by omega)).trans h.bp, held := h.held.same (s 10 (by omega) (by omega)) (s 9 (by omega) (by omega)) }
theorem ToI.setLast {c : ToC} (o : c.Ok) {X : Nat → Prop} {u : ToV} {r : Loop} {W : World} (h : ToI c X u r W) (a b : Int) : ToI c X { u with ly := a, le := b } r ((W.setCell ⟨c.n + 4, 0, none⟩ (.int .i64 a)).setCell ⟨c.n + 4, 1, none⟩ (.int .i64 b)) := by
  obtain ⟨p, q, s⟩ := h.turn o (i := 4) (by omega) ((Chg.setCell W (c.n + 4) 0 (.int .i64 a)).trans (Chg.setCell _ (c.n + 4) 1 (.int .i64 b)))
  exact { pair := p, old := q, b3 := (s 0 (by omega) (by omega)).trans h.b3, b6 := (s 1 (by omega) (by omega)).trans h.b6, b9 := (s 2 (by omega) (by omega)).trans h.b9, b10 := (s 3 (by omega) (by omega)).trans h.b10, b11 := fill2 _ _ _ h.b11, bc := (s 5 (by omega) (by omega)).trans h.bc, bs := (s 6 (by omega) (by omega)).trans h.bs, be := (s 7 (by omega) (by omega)).trans h.be, bp := (s 8 (by omega) (by omega)).trans h.bp, held := h.held.same (s 10 (by omega) (by omega)) (s 9 (by omega) (by omega)) }
theorem ToI.setAt {c : ToC} (o : c.Ok) {X : Nat → Prop} {u : ToV} {r : Loop} {W : World} (h : ToI c X u r W) {B : Nat} (hB : X B) (hn : c.n + 11 ≤ B) (a b : Int) : ToI c X u r ((W.setCell ⟨B, 0, none⟩ (.int .i64 a)).setCell ⟨B, 1, none⟩ (.int .i64 b)) := by
  have C : Chg (fun k => k = B) W ((W.setCell ⟨B, 0, none⟩ (.int .i64 a)).setCell ⟨B, 1, none⟩ (.int .i64 b)) := (Chg.setCell W B 0 (.int .i64 a)).trans (Chg.setCell _ B 1 (.int .i64 b))
  have hl := o.low
  have s : ∀ j, j < 11 → ((W.setCell ⟨B, 0, none⟩ (.int .i64 a)).setCell ⟨B, 1, none⟩ (.int .i64 b)).heap[c.n + j]? = W.heap[c.n + j]? := fun j hj => C.block _ (h.pair.klt _ (ToC.own hj)) (fun e => by omega)
  have p : Pair c.base (PSq c.base c.g c.most) (WithRow c.base c.Q2 u.v u.js) u.M c.L2 (c.Kp X) c.w0 ((W.setCell ⟨B, 0, none⟩ (.int .i64 a)).setCell ⟨B, 1, none⟩ (.int .i64 b)) := by
    obtain ⟨F1, F2, h1, h2, h3, h4, h5, h6⟩ := h.pair
    have hq := h4 B (.inr hB)
    exact ⟨F1, F2, (PSq.good c.base c.g c.most).frame h1 C (fun k a e => hq.1 (e ▸ a)), (o.gw _ _).frame h2 C (fun k a e => hq.2.1 (e ▸ a)), h3, fun k q => ⟨(h4 k q).1, (h4 k q).2.1, Nat.lt_of_lt_of_le (h4 k q).2.2 C.size⟩, h5, h6.trans (C.below (fun k e => by omega) h.pair.base_le)⟩
  exact { pair := p, old := fun k q => (C.block k (h.pair.klt k (.inl (.inl q))) (fun e => by have := o.klt k q; omega)).trans (h.old k q), b3 := (s 0 (by omega)).trans h.b3, b6 := (s 1 (by omega)).trans h.b6, b9 := (s 2 (by omega)).trans h.b9, b10 := (s 3 (by omega)).trans h.b10, b11 := (s 4 (by omega)).trans h.b11, bc := (s 5 (by omega)).trans h.bc, bs := (s 6 (by omega)).trans h.bs, be := (s 7 (by omega)).trans h.be, bp := (s 8 (by omega)).trans h.bp, held := h.held.same (s 10 (by omega)) (s 9 (by omega)) }
theorem ToI.app {c : ToC} (o : c.Ok) {X : Nat → Prop} {u : ToV} {r : Loop} {W W' : World} (h : ToI c X u r W) {x : Int} {q cap : Nat} {ob : Obj}
    (hown : W'.ownsRow c.base 3 1 (.slice (some ⟨q, 0, none⟩) (u.js.length + 1) cap) (u.js.length + 1) (intsR u.js ++ [.int .i64 x])) (hgrow : (W.alloc ob).grownBy W' u.v.ownBlock) (hat : u.v.ownBlock = some q ∨ q = W.heap.size + 1) :
    ToI c X { u with v := .slice (some ⟨q, 0, none⟩) (u.js.length + 1) cap, js := u.js ++ [x] } r W' ∧ ∀ k, c.Kp X k → W'.heap[k]? = W.heap[k]? := by
  obtain ⟨p, hk⟩ := h.pair.appRow (PSq.good c.base c.g c.most) o.g2 hown hgrow hat
  refine ⟨?_, hk⟩
  exact { pair := p, old := fun k q => (hk k (.inl (.inl q))).trans (h.old k q), b3 := (hk _ ToC.own0).trans h.b3, b6 := (hk _ (ToC.own (by omega))).trans h.b6, b9 := (hk _ (ToC.own (by omega))).trans h.b9, b10 := (hk _ (ToC.own (by omega))).trans h.b10, b11 := (hk _ (ToC.own (by omega))).trans h.b11, bc := (hk _ (ToC.own (by omega))).trans h.bc, bs := (hk _ (ToC.own (by omega))).trans h.bs, be := (hk _ (ToC.own (by omega))).trans h.be, bp := (hk _ (ToC.own (by omega))).trans h.bp, held := h.held.same (hk (c.n + 10) (ToC.own (by omega))) (hk _ (ToC.own (by omega))) }
/-- The world when the call has left its result, and its mark is taken. -/
def ToC.fin (c : ToC) (W : World) (a b : Int) : World := (((W.setCell ⟨c.n + 1, 0, none⟩ (.int .i64 a)).setCell ⟨c.n + 1, 1, none⟩ (.int .i64 b)).drew).putObj (c.n + 9) (.deferred none)
theorem ToI.finish {c : ToC} (o : c.Ok) {X : Nat → Prop} {u : ToV} {r : Loop} {W : World} (h : ToI c X u r W) (a b : Int) :
    Pair c.base (PSq c.base c.g c.most) (WithRow c.base c.Q2 u.v u.js) u.M c.L2 c.K c.w0 (c.fin W a b) ∧ (∀ k, c.K k → (c.fin W a b).heap[k]? = c.wz.heap[k]?) ∧ (c.fin W a b).cell? ⟨c.n + 1, 0, none⟩ = some (.int .i64 a) ∧ (c.fin W a b).cell? ⟨c.n + 1, 1, none⟩ = some (.int .i64 b) ∧ (((W.setCell ⟨c.n + 1, 0, none⟩ (.int .i64 a)).setCell ⟨c.n + 1, 1, none⟩ (.int .i64 b)).drew).heap[c.n + 9]? = some (.deferred (some [])) := by
  have hl := o.low
  obtain ⟨p, q, s⟩ := h.turn o (i := 1) (by omega) ((Chg.setCell W (c.n + 1) 0 (.int .i64 a)).trans (Chg.setCell _ (c.n + 1) 1 (.int .i64 b)))
  have hd := (s 9 (by omega) (by omega)).trans h.held.defs
  have hr := fill2 (c.n + 1) (.int .i64 a) (.int .i64 b) h.b6
  obtain ⟨W', hW'⟩ : ∃ W', W' = (W.setCell ⟨c.n + 1, 0, none⟩ (.int .i64 a)).setCell ⟨c.n + 1, 1, none⟩ (.int .i64 b) := ⟨_, rfl⟩
  unfold ToC.fin
  rw [← hW'] at p q hd hr ⊢
  have C : Chg (fun k => k = c.n + 9) W' (W'.drew.putObj (c.n + 9) (.deferred none)) := (Chg.drew W' _).trans (Chg.putO W'.drew (c.n + 9) (.deferred none))
  have hr2 : (W'.drew.putObj (c.n + 9) (.deferred none)).heap[c.n + 1]? = some (.cells #[.int .i64 a, .int .i64 b] 30 (0, 0)) := (C.block _ (block_lt_of_some hr) (by show ¬ (c.n + 1 = c.n + 9); omega)).trans hr
  have p2 : Pair c.base (PSq c.base c.g c.most) (WithRow c.base c.Q2 u.v u.js) u.M c.L2 (c.Kp X) c.w0 (W'.drew.putObj (c.n + 9) (.deferred none)) := by
    have pb := p.base_le
    obtain ⟨F1, F2, h1, h2, h3, h4, h5, h6⟩ := p
    have hq := h4 (c.n + 9) (ToC.own (by omega))
    exact ⟨F1, F2, (PSq.good c.base c.g c.most).frame h1 C (fun k a e => hq.1 (e ▸ a)), (o.gw _ _).frame h2 C (fun k a e => hq.2.1 (e ▸ a)), h3, fun k q => ⟨(h4 k q).1, (h4 k q).2.1, Nat.lt_of_lt_of_le (h4 k q).2.2 C.size⟩, h5, h6.trans (C.below (fun k e => by omega) pb)⟩
  exact ⟨p2.less (fun k q => .inl (.inl q)), fun k qk => (C.block k (p.klt k (.inl (.inl qk))) (fun e => by have := o.klt k qk; omega)).trans (q k qk), (cells2 hr2).1, (cells2 hr2).2.1, hd⟩
end Go.Proofs.Ytlnpfeecaiecaaa
