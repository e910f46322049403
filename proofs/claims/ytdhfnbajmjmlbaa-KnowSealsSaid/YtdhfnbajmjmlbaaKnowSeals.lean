/- KnowSeals: for every row of terms, of what is known, and a number: what is sealed by a key is taken out by who knows that key, and by nobody else. -/
import Derived.Test.YtdhfnbajmjmlbaaRows
import Derived.Test.YtdhfnbajmjmlbaaKnowH
import Derived.WalkKit
import Derived.ProofKit
import Derived.OpenShut
import Derived.ShutString
import Derived.ChangeOld
import Derived.Below
import Derived.Test.YtdhfnbajmjmlbaaOpens
namespace Go.Proofs.Ytdhfnbajmjmlbaa.knowSeals
open Go.ChangeShapes Go.WideShapes Go.ChangeAt Go.RowKit
open Go.ChangeMaps (open_string shut_string)
open Go.Proofs.Ytdhfnbajmjmlbaa
set_option linter.unusedVariables false
set_option linter.unusedSimpArgs false
set_option maxRecDepth 20000

theorem own : ownKnob Try.prog.godebug = none := by kernel_rfl
theorem laidOut : laidOutB Try.prog = true := by kernel_rfl

/-- A row of integers that came in, or nil. -/
def IsRow (k : IntKind) (w : World) (a : Option Addr) (len cap : Nat) (zs : List Int) : Prop :=
  (a = none ∧ len = 0 ∧ cap = 0 ∧ zs = []) ∨
  ∃ x, a = some x ∧ len ≤ cap ∧ cap ≤ maxLen ∧ zs.length = cap ∧ (∀ i, i < zs.length → w.cell? (x.add i) = some (.int k (zs.getD i 0))) ∧ ∀ n ∈ zs, (Lit.int k n).wf = true

theorem IsRow.plain {k : IntKind} {w : World} {a : Option Addr} {len cap : Nat} {zs : List Int} (h : IsRow k w a len cap zs) : len ≤ cap ∧ cap ≤ maxLen ∧ zs.length = cap ∧ ∃ b off, ∀ i, i < len → a = some ⟨b, off, none⟩ ∧ w.cell? ⟨b, off + i, none⟩ = some (.int k (zs.getD i 0)) ∧ (Lit.int k (zs.getD i 0)).wf = true := by
  rcases h with ⟨rfl, rfl, rfl, rfl⟩ | ⟨x, rfl, hl, hm, hz, hc, hw⟩
  · exact ⟨Nat.le_refl _, Nat.zero_le _, rfl, 0, 0, fun i hi => absurd hi (Nat.not_lt_zero _)⟩
  · by_cases hp : 0 < zs.length
    · obtain ⟨b, off, rfl, hcell⟩ := ints_at hc hp
      exact ⟨hl, hm, hz, b, off, fun i hi => ⟨rfl, hcell i (by omega), hw _ (getD_mem (by omega))⟩⟩
    · exact ⟨hl, hm, hz, 0, 0, fun i hi => by omega⟩

set_option maxHeartbeats 8000000 in
set_option maxRecDepth 100000 in
theorem walk (a0 : Option Addr) (len0 cap0 : Nat) (T0 : Nat → Tm) (a1 : Option Addr) (len1 cap1 : Nat) (z1 : List Int) (x2 : Int) (w : World) (w0 : Terms w a0 len0 cap0 T0) (w1 : IsRow .u8 w a1 len1 cap1 z1) (h2 : (Lit.int .u64 x2).wf = true) :
    Calls Try.prog 6 #[.slice a0 len0 cap0, .slice a1 len1 cap1, .int .u64 x2] w fun e w' => e = .returned (.bool true) ∧ Below w.heap.size w w' := by
  have HT := Lib.hid w0
  obtain ⟨hl1, hm1, hz1, bk, ok, hc1⟩ := w1.plain
  have HC1 := Lib.hid hc1
  unfold maxLen at hm1
  have H2 := Lib.hid h2
  clear h2
  clear w0 w1 hc1 hz1
  go_enter Try.func6, Try.ntmps6
  go_wp2_with fail
  refine (stores_fine 20 a0 len0 cap0 T0 _ (by omega) HT.out).mono ?_
  rintro e ws ⟨g1, g2, L, rfl, hL, hfine, hp⟩
  have HK : Hid (Known ws g1 L) := Lib.hid (hp.known hfine)
  have HB : Hid (Below w.heap.size w ws) := Lib.hid hp.belowW
  have HP := Lib.hid hp
  have HFN := Lib.hid hfine
  have hLn : L.length ≤ 20 := hL
  clear hp hL HT hfine
  by_cases hn : L.length = 0
  · have hl0 : ((L.length : Int) == 0) = true := by simp [hn]
    clear hn
    go_wp2_with fail
    refine (HK.out.st.len (Below.refl _ _)).mono ?_
    rintro e w2 ⟨rfl, rfl⟩
    go_wp2_with fail
    refine (fixed_any _).mono ?_
    rintro e w3 ⟨rfl, hb3⟩
    go_wp2
    go_ret
    exact ⟨rfl, HB.out.trans (hb3.mono HB.out.size)⟩
  · have hl0 : ((L.length : Int) == 0) = false := by simpa using hn
    have hn1 : (0 : Int) < L.length := by omega
    have hn2 : (L.length : Int) ≤ 20 := by omega
    have hn3 : 0 < L.length := by omega
    have hL0 : ¬ L = [] := fun e => by rw [e] at hn3; simp at hn3
    clear hn
    go_wp2_with fail
    refine (HK.out.st.len (Below.refl _ _)).mono ?_
    rintro e w2 ⟨rfl, rfl⟩
    go_wp2_with fail
    have gR := RSq.good w.heap.size g2 1000
    obtain ⟨k, x, c, L1, L2, L3, e1, e2, e3, F3, l3, ik, ix, hlast⟩ := seals_math HFN.out HK.out.fit hn3 hLn H2.out
    have E1 := Lib.hid e1
    have E2 := Lib.hid e2
    have E3 := Lib.hid e3
    have HF3 := Lib.hid F3
    have HI1 := Lib.hid ik
    have HI2 := Lib.hid ix
    have HLAST := Lib.hid hlast
    clear e1 e2 e3 F3 ik ix hlast
    refine (HK.out.st.len (Below.refl _ _)).mono ?_
    rintro e w2 ⟨rfl, rfl⟩
    go_wp2_with fail
    refine (HP.out.putP gR ⟨2, ⟨#[]⟩, 2199023255552, 0, 0, 0⟩ (wf_nonce (by decide)) E1.out).mono ?_
    rintro e w3 ⟨rfl, hp, _⟩
    have HP3 := Lib.hid hp
    clear hp HP
    go_wp2_with fail
    refine (HP3.out.putP gR ⟨2, ⟨#[]⟩, 4398046511104, 0, 0, 0⟩ (wf_nonce (by decide)) E2.out).mono ?_
    rintro e w4 ⟨rfl, hp, _⟩
    have HP4 := Lib.hid hp
    clear hp HP3
    go_wp2_with fail
    refine (HP4.out.putP gR ⟨10, ⟨#[]⟩, x2, k, 1, x⟩ (show Wf ⟨10, ⟨#[]⟩, x2, k, 1, x⟩ from ⟨wf_emp, k10, H2.out, HI1.out, k1, HI2.out⟩) E3.out).mono ?_
    rintro e ws2 ⟨rfl, hp, _⟩
    have HK2 : Hid (Known ws2 g1 L3) := Lib.hid (hp.known HF3.out)
    have HB2 : Hid (Below w.heap.size w ws2) := Lib.hid hp.belowW
    clear hp HP4 HFN
    go_wp2_with fail
    refine (HK2.out.st.len (Below.refl _ _)).mono ?_
    rintro e w2 ⟨rfl, rfl⟩
    by_cases h3 : L3.length = L.length + 3
    · have t1 : ((L3.length : Int) != (L.length : Int) + 3) = false := by simp; omega
      obtain ⟨ink, inx, inc, hup, hconc⟩ := HLAST.out h3
      have HNK := Lib.hid ink
      have HNX := Lib.hid inx
      have HNC := Lib.hid inc
      have HUP := Lib.hid hup
      have HCONC := Lib.hid hconc
      clear ink inx inc hup hconc h3 HLAST
      go_wp2_with fail
      obtain ⟨hd, hhd⟩ : ∃ hd, hd = c := ⟨_, rfl⟩
      rw [← hhd] at HNC HCONC ⊢
      clear hhd
      obtain ⟨i0, hi0, hz0, hz1, hz2⟩ := info_parts info3
      go_loopw [16, 17] (fun s9 s10 wr => ∃ (i ga ca : Nat) (xs : List Int), i ≤ 5 ∧ i ≤ len1 ∧ s10 = .int .i64 i ∧ s9 = .slice (some ⟨ga, 0, none⟩) (i + 1) ca ∧ Hid (xs.length = i) ∧ Hid (∀ x, x ∈ xs → InL L x) ∧ Hid (OwnI ws2.heap.size (.slice (some ⟨ga, 0, none⟩) (i + 1) ca) (hd :: xs) wr) ∧ Hid (Below ws2.heap.size ws2 wr)) (fun _ s10 _ => 5 - (intOf s10).toNat)
      case atStart => exact ⟨0, ws2.heap.size, 1, [], by omega, by omega, rfl, rfl, Lib.hid rfl, Lib.hid (by simp), Lib.hid (lit_own ws2 [hd] (by simp [maxLen])), Lib.hid (below_alloc _ _)⟩
      case round =>
        obtain ⟨i, ga, ca, xs, hi, hi2, rfl, rfl, HX, HXI, HO, HBW⟩ := hrel
        by_cases hlt : i < len1 ∧ i < 5
        · obtain ⟨hlt1, hlt2⟩ := hlt
          obtain ⟨rfl, q0, hwfy⟩ := HC1.out i hlt1
          obtain ⟨y, hy⟩ : ∃ y, y = z1.getD i 0 := ⟨_, rfl⟩
          rw [← hy] at q0 hwfy
          have HBall : Hid (Below w.heap.size w wr) := Lib.hid (HB2.out.trans (HBW.out.mono HB2.out.size))
          have hbl0 := block_lt_of_cell q0
          have qy : wr.cell? ⟨bk, ok + i, none⟩ = some (.int .u8 y) := (HBall.out.cell hbl0).trans q0
          obtain ⟨p, hp⟩ : ∃ p, wrap64 (1 + (wrap64 y).tmod (L.length : Int)) = p := ⟨_, rfl⟩
          have HPI : Hid (InL L p) := Lib.hid (by rw [← hp]; exact pick_InL hwfy hn3 (by omega))
          have hp2 : IntKind.i64.wrap (1 + (IntKind.i64.wrap y).tmod (L.length : Int)) = p := by rw [IntWalk.i64_left, IntWalk.i64_left]; exact hp
          have hxl := HX.out
          have HRow : Hid (wr.ownsRow ws2.heap.size 3 1 (.slice (some ⟨ga, 0, none⟩) (i + 1) ca) (i + 1) (intsR (hd :: xs))) := Lib.hid (by
            have h7 : wr.ownsRow ws2.heap.size 3 1 (.slice (some ⟨ga, 0, none⟩) (i + 1) ca) (hd :: xs).length (intsR (hd :: xs)) := HO.out
            rw [show (hd :: xs).length = i + 1 by simp; omega] at h7
            exact h7)
          have HNW : Hid ((wr.alloc (.cells #[.int .i64 p] 3)).heap[wr.heap.size]? = some (.cells #[.int .i64 p] 3 (0, 0))) := Lib.hid (heap_alloc_new wr _)
          have B1 : Hid (i + 1 + 1 ≤ maxLen) := Lib.hid (by unfold maxLen; omega)
          have B2 : Hid ((i + 1 + 1) * 8 ≤ 140737488355328) := Lib.hid (by omega)
          have B4 : Hid ((wr.alloc (.cells #[.int .i64 p] 3)).heap.size = wr.heap.size + 1) := Lib.hid (by simp)
          have B3 : Hid (ws2.heap.size ≤ (wr.alloc (.cells #[.int .i64 p] 3)).heap.size) := Lib.hid (by have := B4.out; have := HBW.out.size; omega)
          have e1 : decide (i < len1) = true := by simpa using hlt1
          have e2 : decide (i < 5) = true := by simpa using hlt2
          have e3 : decide ((i : Int) < 5) = true := decide_eq_true (by omega)
          have hi3 : (i : Int) < (len1 : Int) := by omega
          have HI := Lib.hid (And.intro hlt1 hlt2)
          clear hy q0 hlt1 hlt2 hi hi2 hbl0 hwfy hxl
          go_wp2_with (at_builtin; refine wpList_append_lies _ rfl _ _ 23 rfl ws2.heap.size 3 i0 (.int .i64 0) 1 8 Try.underlying23 hi0 hz0 hz1 hz2 rfl (by decide) _ _ _ rfl (HRow.out.alloc _) ⟨wr.heap.size, 0, none⟩ 1 1 [.int .i64 p] rfl rfl (World.news_of_block (cs := #[.int .i64 p]) (t := 3) (fr := (0, 0)) HNW.out) (by simp [Value.oneCell']) (by omega) B1.out B2.out B3.out (wr.heap.size + 1) B4.out ?_; intro g3 cap4 w6 hown6 hgrow6 hat6 hlt6; have P1 := Lib.hid hown6; have P2 := Lib.hid hgrow6; clear hown6 hgrow6 hat6)
          have C6 : Chg (fun k => some k = some ga) wr w6 := (Chg.alloc wr _ _).trans (Chg.grown P2.out)
          have HO6 : Hid (OwnI ws2.heap.size (.slice (some ⟨g3, 0, none⟩) (i + 1 + 1) cap4) (hd :: (xs ++ [p])) w6) := Lib.hid (by
            have hl : (hd :: xs).length = i + 1 := by have := HX.out; simp; omega
            have h8 := OwnI.app (M := hd :: xs) (x := p) (g := g3) (cap := cap4) (base := ws2.heap.size) (w' := w6) (by rw [hl]; exact P1.out)
            rw [hl] at h8
            exact h8)
          go_roundw
          case rel => exact ⟨i + 1, g3, cap4, xs ++ [p], by have := HI.out; omega, by have := HI.out; omega, by go_num, rfl, Lib.hid (by have := HX.out; simp; omega), Lib.hid (fun x hx => by
            rcases List.mem_append.1 hx with q | q
            · exact HXI.out x q
            · rw [List.mem_singleton.1 q]; exact HPI.out), HO6, Lib.hid (HBW.out.trans (C6.below (fun k e => by injection e with e; subst e; exact (World.ownsRow.lt HO.out k rfl).1) HBW.out.size))⟩
          case measure => have := HI.out; simp [intOf]; omega
        · have e12 : decide (i < len1) = false ∨ (decide (i < len1) = true ∧ decide ((i : Int) < 5) = false) := by
            simp only [decide_eq_false_iff_not, decide_eq_true_eq]
            omega
          have hi3 : (i : Int) ≤ 5 := by omega
          have hi4 : i ≤ 5 := hi
          have HLN : Hid (i + 1 = (hd :: xs).length) := Lib.hid (by have := HX.out; simp; omega)
          clear hlt hi hi2
          rcases e12 with e1 | ⟨e1, e2⟩
          all_goals
            go_wp2_with fail
            have HIN1 : Hid (∀ y, y ∈ hd :: xs → InL L3 y) := Lib.hid (fun y hy => by
              rcases List.mem_cons.1 hy with q | q
              · rw [q]; exact HNC.out
              · exact HUP.out y (HXI.out y q))
            have HIN2 : Hid (∀ y, y ∈ hd :: xs ++ [k] → InL L3 y) := Lib.hid (fun y hy => by
              rcases List.mem_append.1 hy with q | q
              · exact HIN1.out y q
              · rw [List.mem_singleton.1 q]; exact HNK.out)
            obtain ⟨C1, hC1⟩ := least_is HK2.out.fit HIN1.out true true
            obtain ⟨C2, hC2⟩ := least_is HK2.out.fit HIN2.out false false
            have HC1' := Lib.hid hC1
            have HC2 := Lib.hid hC2
            have R1 : Hid (C1 x = false) := Lib.hid ((HCONC.out xs HXI.out).1 C1 hC1)
            have R2 : Hid (C2 x = true) := Lib.hid ((HCONC.out xs HXI.out).2 C2 hC2)
            clear hC1 hC2
            have HK3 : Hid (Known wr g1 L3) := Lib.hid (HK2.out.below HBW.out)
            refine (can_least HK3.out HC1'.out HIN1.out HNX.out (some ⟨ga, 0, none⟩) ca (i + 1) HLN.out HO.out.ints.2).mono ?_
            rintro e w5 ⟨rfl, hb⟩
            rw [R1.out]
            replace HBW : Hid (Below ws2.heap.size ws2 w5) := Lib.hid (HBW.out.trans (hb.mono HBW.out.size))
            replace HO := Lib.hid (HO.out.below hb)
            obtain ⟨cga, hcga⟩ : ∃ cga, cga = ca := ⟨_, rfl⟩
            rw [← hcga] at HO ⊢
            clear hb HK3 hcga
            have HRow5 : Hid (w5.ownsRow ws2.heap.size 3 1 (.slice (some ⟨ga, 0, none⟩) (i + 1) cga) (i + 1) (intsR (hd :: xs))) := Lib.hid (by
              have h7 : w5.ownsRow ws2.heap.size 3 1 (.slice (some ⟨ga, 0, none⟩) (i + 1) cga) (hd :: xs).length (intsR (hd :: xs)) := HO.out
              rw [← HLN.out] at h7
              exact h7)
            have HNW5 : Hid ((w5.alloc (.cells #[.int .i64 k] 3)).heap[w5.heap.size]? = some (.cells #[.int .i64 k] 3 (0, 0))) := Lib.hid (heap_alloc_new w5 _)
            have A15 : Hid ((i + 1) + 1 ≤ maxLen) := Lib.hid (by unfold maxLen; omega)
            have A25 : Hid (((i + 1) + 1) * 8 ≤ 140737488355328) := Lib.hid (by omega)
            have A45 : Hid ((w5.alloc (.cells #[.int .i64 k] 3)).heap.size = w5.heap.size + 1) := Lib.hid (by simp)
            have A35 : Hid (ws2.heap.size ≤ (w5.alloc (.cells #[.int .i64 k] 3)).heap.size) := Lib.hid (by have := A45.out; have := HBW.out.size; omega)
            go_wp2_with (at_builtin; refine wpList_append_lies _ rfl _ _ 23 rfl ws2.heap.size 3 i0 (.int .i64 0) 1 8 Try.underlying23 hi0 hz0 hz1 hz2 rfl (by decide) _ _ _ rfl (HRow5.out.alloc _) ⟨w5.heap.size, 0, none⟩ 1 1 [.int .i64 k] rfl rfl (World.news_of_block (cs := #[.int .i64 k]) (t := 3) (fr := (0, 0)) HNW5.out) (by simp [Value.oneCell']) (by omega) A15.out A25.out A35.out (w5.heap.size + 1) A45.out ?_; intro gn5 cgn5 w6 hown3 hgrow3 hat3 hlt3; have P1 := Lib.hid hown3; have P2 := Lib.hid hgrow3; clear hown3 hgrow3 hat3)
            have CH5 : Hid (Chg (fun k => some k = some ga) w5 w6) := Lib.hid ((Chg.alloc w5 _ _).trans (Chg.grown P2.out))
            replace HBW : Hid (Below ws2.heap.size ws2 w6) := Lib.hid (HBW.out.trans (CH5.out.below (fun k e => by injection e with e; subst e; exact (World.ownsRow.lt HO.out k rfl).1) HBW.out.size))
            replace HO : Hid (OwnI ws2.heap.size (.slice (some ⟨gn5, 0, none⟩) ((i + 1) + 1) cgn5) (hd :: xs ++ [k]) w6) := Lib.hid (by
              have h8 := OwnI.app (M := hd :: xs) (x := k) (g := gn5) (cap := cgn5) (base := ws2.heap.size) (w' := w6) (by rw [← HLN.out]; exact P1.out)
              rw [← HLN.out] at h8
              exact h8)
            have HLN5 : Hid ((i + 1) + 1 = (hd :: xs ++ [k]).length) := Lib.hid (by have := HLN.out; rw [List.length_append]; simp only [List.length_singleton]; omega)
            clear P1 P2 HRow5 HNW5 A15 A25 A35 A45 CH5
            have HK3 : Hid (Known w6 g1 L3) := Lib.hid (HK2.out.below HBW.out)
            refine (can_least HK3.out HC2.out HIN2.out HNX.out (some ⟨gn5, 0, none⟩) cgn5 (i + 1 + 1) HLN5.out HO.out.ints.2).mono ?_
            rintro e w7 ⟨rfl, hb⟩
            rw [R2.out]
            have HBw : Hid (Below w.heap.size w w7) := Lib.hid ((HB2.out.trans (HBW.out.mono HB2.out.size)).trans (hb.mono (by have := HB2.out.size; have := HBW.out.size; omega)))
            clear hb
            go_wp2_with fail
            refine (fixed_any _).mono ?_
            rintro e wz ⟨rfl, hb⟩
            go_wp2_with fail
            go_ret
            exact ⟨rfl, HBw.out.trans (hb.mono HBw.out.size)⟩
    · have t1 : ((L3.length : Int) != (L.length : Int) + 3) = true := by simp; omega
      clear h3
      go_wp2_with fail
      refine (fixed_any _).mono ?_
      rintro e wz ⟨rfl, hb⟩
      go_wp2_with fail
      go_ret
      exact ⟨rfl, HB2.out.trans (hb.mono HB2.out.size)⟩
set_option maxRecDepth 100000 in
theorem lifted (os : Os) (started : os.Started) (H : Type) (enc : TypeId × Value → H) :
    ReturnsInHanded {} Try.checked os 6 .any (Rows.knowSealsSpec.pre6 enc Try.prog Try.f6 Rows.knowSealsRow.domain false) (Rows.knowSealsSpec.post enc Try.prog Try.f6 false true false false) := by
  refine returnsInHanded_of_change (C := Try.checked) own started (by kernel_rfl) Try.func6
    (ChangeSpec.witness6 (enc := enc) (C := Try.checked) false ⟨#[], #[.slice none 0 0, .slice none 0 0, .int .u64 0], []⟩ 8 (by kernel_rfl) (by kernel_rfl) (by kernel_rfl) (by kernel_rfl)) ?_
  intro W base args ds gs before hval0 hW hcnd _
  have hval : ∀ (j : Nat) t v, Try.f6.params[j]? = some t → args[j]? = some v → Value.okWide Try.prog W .any base t v := hval0
  have hW' := hW
  obtain ⟨p, q, hA0, hV, rfl, hfz, hnd⟩ := hW
  have hA : DataW.TrodAll enc Try.prog W 0 (fun _ => true) true Try.f6.params.toList args.toList ds p := hA0
  rw [Try.params6] at hA hval
  obtain ⟨v0, vs0, d0, ds0, p0, q0, hargs, rfl, rfl, h0, r0⟩ := trodAll_cons hA
  obtain ⟨v1, vs1, d1, ds1, p1, q1, rfl, rfl, rfl, h1, r1⟩ := trodAll_cons r0
  obtain ⟨v2, vs2, d2, ds2, p2, q2, rfl, rfl, rfl, h2, r2⟩ := trodAll_cons r1
  obtain ⟨rfl, rfl, rfl⟩ := trodAll_nil r2
  obtain rfl : args = #[v0, v1, v2] := by cases args; simp_all
  obtain ⟨rfl, rfl⟩ := trodVars_none hV
  obtain ⟨a0, len0, cap0, rfl⟩ := okWide_slice Try.underlying22 (hval 0 22 v0 rfl rfl)
  have k0 := h0
  have lt0 : ∀ x ∈ p0, x.block < W.heap.size := by obtain ⟨m, hm⟩ := k0; exact DataW.trod_lt m _ _ _ hm
  obtain ⟨T0, w0⟩ : ∃ T, Terms W a0 len0 cap0 T := by
    obtain ⟨fuel, hf⟩ := h0
    exact open_terms (by simpa [Value.cells] using hf)
  obtain ⟨a1, len1, cap1, rfl⟩ := okWide_slice Try.underlying41 (hval 1 41 v1 rfl rfl)
  have k1 := h1
  have lt1 : ∀ x ∈ p1, x.block < W.heap.size := by obtain ⟨m, hm⟩ := k1; exact DataW.trod_lt m _ _ _ hm
  obtain ⟨z1, w1⟩ : ∃ zs, IsRow .u8 W a1 len1 cap1 zs := by
    obtain ⟨fuel, hf⟩ := h1
    rcases open_ints Try.underlying41 Try.underlying5 (by kernel_rfl) hf with ⟨hcs, _⟩ | ⟨x, l, c, zs, hcs, _, hl, hm, hz, _, hcell, hwz⟩
    · simp [Value.cells] at hcs
      obtain ⟨rfl, rfl, rfl⟩ := hcs
      exact ⟨[], .inl ⟨rfl, rfl, rfl, rfl⟩⟩
    · simp [Value.cells] at hcs
      obtain ⟨rfl, rfl, rfl⟩ := hcs
      exact ⟨zs, .inr ⟨_, rfl, hl, hm, by simpa using hz, hcell, hwz⟩⟩
  obtain ⟨a2, rfl, rfl, rfl, w2⟩ := open_int Try.underlying46 (hval 2 46 v2 rfl rfl) h2
  clear hA0 hval0
  refine (walk a0 len0 cap0 T0 a1 len1 cap1 z1 a2 W w0 w1 w2).mono fun e W' ⟨he, bel⟩ => ?_
  subst he
  exact ⟨_, rfl, _, _, _, [], _, [], hW', trodAll_mk1 (shut_bool Try.underlying4 _), (trodAll_cons_mk (Below.trod laidOut (by kernel_rfl) (of_decide_eq_true (by kernel_rfl)) k0 bel lt0) (trodAll_cons_mk (Below.trod laidOut (by kernel_rfl) (of_decide_eq_true (by kernel_rfl)) k1 bel lt1) (trodAll_cons_mk (shut_int Try.underlying46 w2) trodAll_mk0))), rfl, bel.frame _, fun h => by cases h⟩

theorem over : Rows.knowSealsRow.holds Try.pinned (OpenSpec.ofChange Rows.knowSealsSpec) :=
  OpenClaim.holds_of_wide 6 Try.f6 rfl rfl rfl rfl rfl rfl rfl ⟨rfl, rfl, rfl, rfl, rfl⟩ rfl rfl rfl rfl rfl (by kernel_rfl) Try.func6 (by kernel_rfl)
    (of_decide_eq_true (by kernel_rfl)) (by unfold Func.isWrapper; first | (rw [if_pos (by decide +kernel)]; kernel_rfl) | (rw [if_neg (by decide +kernel)]; exact ⟨rfl, rfl⟩))
    (fun os started H enc _ => lifted os started H enc)

theorem proved : Rows.KnowSealsSaid := over
#print axioms proved
end Go.Proofs.Ytdhfnbajmjmlbaa.knowSeals
