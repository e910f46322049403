/- TermTwo: two stores that are given the same terms tell the same names, whatever one of them is asked in between, for every row of terms and of names. No condition. -/
import Derived.Test.YtbmbglbbojacpaaRows
import Derived.Test.YtbmbglbbojacpaaPair
import Derived.WalkKit
import Derived.ProofKit
import Derived.OpenShut
import Derived.ShutString
import Derived.ChangeOld
import Derived.Below
namespace Go.Proofs.Ytbmbglbbojacpaa.termTwo
open Go.ChangeShapes Go.WideShapes Go.ChangeAt Go.RowKit
open Go.ChangeMaps (open_string shut_string)
open Go.Proofs.Ytbmbglbbojacpaa
set_option linter.unusedVariables false

theorem own : ownKnob Try.prog.godebug = none := by kernel_rfl
theorem laidOut : laidOutB Try.prog = true := by kernel_rfl

/-- A row of integers that came in, or nil. -/
def IsRow (k : IntKind) (w : World) (a : Option Addr) (len cap : Nat) (zs : List Int) : Prop :=
  (a = none ∧ len = 0 ∧ cap = 0 ∧ zs = []) ∨
  ∃ x, a = some x ∧ len ≤ cap ∧ cap ≤ maxLen ∧ zs.length = cap ∧ (∀ i, i < zs.length → w.cell? (x.add i) = some (.int k (zs.getD i 0))) ∧ ∀ n ∈ zs, (Lit.int k n).wf = true

theorem depth_pos (L : List Tm) (k : Nat) (hk : k < L.length) : ∃ d : Nat, depthOf L ((k : Int) + 1) = (d : Int) + 1 := by
  have h1 := depthOf_in L (k + 1) (by omega) (by omega)
  rw [show ((k + 1 : Nat) : Int) = (k : Int) + 1 from by omega] at h1
  rw [h1]
  have h2 := depths_prefix L (k + 1) L.length (by omega) (Nat.le_refl _)
  rw [List.take_length] at h2
  rw [h2, take_snocT L k hk, depths_snoc, stepD]
  have hl : (depths (L.take k)).length = k + 1 := by rw [depths_length, List.length_take]; omega
  exact ⟨mx (depths (L.take k)) (L.getD k zeroT) (many (L.getD k zeroT).K), by simp [List.getD, hl]⟩
theorem get_out (L : List Tm) (n : Int) (h : ¬ (1 ≤ n ∧ n ≤ (L.length : Int))) : getT L n = (zeroT, false) := by unfold getT; rw [if_neg h]
theorem depth_out (L : List Tm) (n : Int) (h : ¬ (1 ≤ n ∧ n ≤ (L.length : Int))) : depthOf L n = 0 := by unfold depthOf; rw [if_neg h]
theorem get_in (L : List Tm) (k : Nat) (h : k < L.length) : getT L ((k : Int) + 1) = (L.getD k zeroT, true) := by unfold getT; rw [if_pos (by omega), show ((k : Int) + 1 - 1).toNat = k from by omega]
theorem neq_same (t : Tm) (w : World) : (binOp .neq 32 t.v t.v).run Try.prog w = .ok (.bool false) w := by
  rw [neq_termP, (eqB_iff t t).2 rfl]; rfl
theorem Pair.newB {base g1 : Nat} {m1 most : Int} {L1 : List Tm} {K : Nat → Prop} {w0 w : World} (h : Pair base (PSq base g1 m1) NoS L1 [] K w0 w) (h1 : 0 ≤ most) (h2 : most ≤ 1048576) :
    Calls Try.prog 10 #[.int .i64 most] w fun e w' => ∃ g, e = .returned (.tuple #[.pointer (some ⟨g, 0, none⟩), .int .i64 0]) ∧ Pair base (PSq base g1 m1) (PSq base g most) L1 [] K w0 w' := by
  have hbl := h.base_le
  refine (newP_good base most w h1 h2 hbl).mono ?_
  rintro e w' ⟨g, rfl, hr, hb⟩
  obtain ⟨F1, F2, p1, p2, p3, p4, p5, p6⟩ := h
  refine ⟨g, rfl, F1, _, (PSq.good base g1 m1).frame p1 (S := fun _ => False) (.of_below hb) (fun _ _ q => q), hr, ?_, ?_, p5, p6.trans (hb.mono hbl)⟩
  · intro k hk e; have := ((PSq.good base g1 m1).bounds p1 k hk).2; omega
  · intro k hk
    have h3 := p4 k hk
    have h4 := hb.size
    exact ⟨h3.1, fun e => by have := h3.2.2; omega, by have := h3.2.2; omega⟩

set_option maxHeartbeats 4000000 in
set_option maxRecDepth 100000 in
theorem walkN (a0 : Option Addr) (len0 cap0 : Nat) (T0 : Nat → Tm) (a1 : Option Addr) (len1 cap1 : Nat) (z : Nat → Int) (w : World) (hcm : cap0 ≤ maxLen) (hlc : len0 ≤ cap0) (b off : Nat)
    (hT : Hid (∀ i, i < len0 → a0 = some ⟨b, off, none⟩ ∧ Wf (T0 i) ∧ ∀ j u, (T0 i).cl[j]? = some u → w.cell? ⟨b, off + i * 6 + j, none⟩ = some u))
    (c oc : Nat) (hcm1 : cap1 ≤ maxLen) (hlc1 : len1 ≤ cap1) (hz : Hid (∀ i, i < len1 → a1 = some ⟨c, oc, none⟩ ∧ w.cell? ⟨c, oc + i, none⟩ = some (.int .i64 (z i)))) :
    Calls Try.prog 8 #[.slice a0 len0 cap0, .slice a1 len1 cap1] w fun e w' => e = .returned (.bool true) ∧ Below w.heap.size w w' := by
  unfold maxLen at hcm hcm1
  go_enter Try.func8, Try.ntmps8
  go_wp2_with fail
  refine (Pair.new1 (base := w.heap.size) (w0 := w) rfl (Below.refl _ _) (by omega) (by omega)).mono ?_
  rintro e w1 ⟨g1, rfl, hp⟩
  go_wp2_with fail
  refine (Pair.newB hp (by omega) (by omega)).mono ?_
  rintro e w2 ⟨g2, rfl, hp2⟩
  have HP0 := Lib.hid hp2
  have g1' := PSq.good w.heap.size g1 30
  have g2' := PSq.good w.heap.size g2 30
  clear hp hp2
  go_wp2_with fail
  go_loopw [9] (fun i wr => ∃ k, ∃ L : List Tm, k ≤ 40 ∧ i = .int .i64 (k : Nat) ∧ Hid (Pair w.heap.size (PSq w.heap.size g1 30) (PSq w.heap.size g2 30) L L (fun _ => False) w wr)) (fun i _ => 40 - (intOf i).toNat)
  case atStart => exact ⟨0, [], Nat.zero_le _, rfl, HP0⟩
  case round =>
    obtain ⟨k, L, hk, rfl, HP⟩ := hrel
    clear HP0
    by_cases hlt : k < len0
    · have hlt1 : (k : Int) < (len0 : Int) := by omega
      by_cases h40 : k < 40
      · have h41 : (k : Int) < 40 := by omega
        obtain ⟨rfl, hwf, hcl⟩ := hT.out k hlt
        have hbw : b < w.heap.size := block_lt_of_cell (hcl 0 _ rfl)
        have hbl := HP.out.belowW
        have hcut := Lib.hid (fun W => cut_c (T0 k) W hwf)
        have HWF0 := Lib.hid (cutT_wf hwf)
        obtain ⟨⟨K, S, N, A, B, C⟩, ht⟩ : ∃ u, u = cutT (T0 k) := ⟨_, rfl⟩
        rw [← ht] at hcut HWF0
        have HWF := HWF0
        obtain ⟨⟨K', S', N', A', B', C'⟩, ht'⟩ : ∃ u, u = T0 k := ⟨_, rfl⟩
        rw [← ht'] at hcut hcl
        have q0 := hcl 0 _ rfl
        have q1 := hcl 1 _ rfl
        have q2 := hcl 2 _ rfl
        have q3 := hcl 3 _ rfl
        have q4 := hcl 4 _ rfl
        have q5 := hcl 5 _ rfl
        rw [← hbl.cell (by exact hbw)] at q0 q1 q2 q3 q4 q5
        simp at q0 q1 q2 q3 q4 q5
        have Hk := Lib.hid h40
        obtain ⟨an, er, L', hpf⟩ : ∃ an er L', putF L 30 ⟨K, S, N, A, B, C⟩ = (an, er, L') := ⟨_, _, _, rfl⟩
        have HPF := Lib.hid hpf
        have hk3 : (k : Int) ≤ 40 := by omega
        clear hcl ht ht' hbl HWF0 hwf hk hpf
        go_wp2_with fail
        refine (hcut.out _).mono ?_
        rintro e w3 ⟨rfl, hb3⟩
        rw [show Tm.v ⟨K, S, N, A, B, C⟩ = .agg #[.int .i64 K, .string S, .int .u64 N, .int .i64 A, .int .i64 B, .int .i64 C] from rfl]
        have HP3 := Lib.hid (HP.out.below g1' g2' hb3)
        clear hb3 HP hcut q0 q1 q2 q3 q4 q5
        go_wp2_with fail
        have HP := Lib.hid (HP3.out.box g1' g2' (.cells #[.int .i64 K, .string S, .int .u64 N, .int .i64 A, .int .i64 B, .int .i64 C] 32))
        have HBX := Lib.hid (heap_alloc_new w3 (.cells #[.int .i64 K, .string S, .int .u64 N, .int .i64 A, .int .i64 B, .int .i64 C] 32))
        generalize w3.alloc (.cells #[.int .i64 K, .string S, .int .u64 N, .int .i64 A, .int .i64 B, .int .i64 C] 32) = w3' at HP HBX ⊢
        clear HP3
        refine (HP.out.putP g2' ⟨K, S, N, A, B, C⟩ HWF.out HPF.out).mono ?_
        rintro e w4 ⟨rfl, hP4, hk4⟩
        have HP4 := Lib.hid hP4
        have hbx : w4.heap[w3.heap.size]? = some (.cells #[.int .i64 K, .string S, .int .u64 N, .int .i64 A, .int .i64 B, .int .i64 C] 32 (0, 0)) := by rw [hk4 _ (.inr rfl)]; exact HBX.out
        have HBX4 := Lib.hid hbx
        clear hP4 hk4 hbx HP HBX
        have sa : (an == an) = true := beq_self_eq_true _
        have se : (er == er) = true := beq_self_eq_true _
        have sl : ((L'.length : Int) == (L'.length : Int)) = true := beq_self_eq_true _
        by_cases hka : k < len1
        · have hka1 : (k : Int) < (len1 : Int) := by omega
          obtain ⟨rfl, hc⟩ := hz.out k hka
          have hcw : c < w.heap.size := block_lt_of_cell hc
          obtain ⟨x, hx⟩ : ∃ x, x = z k := ⟨_, rfl⟩
          rw [← hx] at hc
          have HC := Lib.hid hc
          have cz : w4.cell? ⟨c, oc + k, none⟩ = some (.int .i64 x) := by rw [HP4.out.belowW.cell hcw]; exact hc
          have HFA := Lib.hid HP4.out.swap.facts
          clear hx hc hka
          by_cases hin : 1 ≤ x ∧ x ≤ (L.length : Int)
          · obtain ⟨j, rfl⟩ : ∃ j : Nat, x = (j : Int) + 1 := ⟨(x - 1).toNat, by omega⟩
            have hj : j < L.length := by omega
            have hG := get_in L j hj
            obtain ⟨d, hd⟩ := depth_pos L j hj
            have hdp := Lib.hid hd
            obtain ⟨⟨K2, S2, N2, A2, B2, C2⟩, hu⟩ : ∃ u, u = L.getD j zeroT := ⟨_, rfl⟩
            rw [← hu] at hG
            clear hu hd
            have e1 : decide ((1 : Int) ≤ (j : Int) + 1) = true := decide_eq_true hin.1
            go_wp2_with fail
            refine (HP4.out.swap.getP g1' _ hG).mono ?_
            rintro e w5 ⟨rfl, hP5, hb5⟩
            rw [show ((⟨K2, S2, N2, A2, B2, C2⟩, true) : Tm × Bool).1.v = .agg #[.int .i64 K2, .string S2, .int .u64 N2, .int .i64 A2, .int .i64 B2, .int .i64 C2] from rfl]
            have HP5 := Lib.hid hP5
            have hbx : w5.heap[w3.heap.size]? = some (.cells #[.int .i64 K, .string S, .int .u64 N, .int .i64 A, .int .i64 B, .int .i64 C] 32 (0, 0)) := by rw [hb5.block _ (blk_lt HBX4.out)]; exact HBX4.out
            have HBX5 := Lib.hid hbx
            clear hP5 hb5 hbx HP4 HBX4 cz
            go_wp2_with fail
            have HP6 := Lib.hid (HP5.out.box g2' g1' (.cells #[.int .i64 K2, .string S2, .int .u64 N2, .int .i64 A2, .int .i64 B2, .int .i64 C2] 32))
            have HBX6 : Hid ((w5.alloc (.cells #[.int .i64 K2, .string S2, .int .u64 N2, .int .i64 A2, .int .i64 B2, .int .i64 C2] 32)).heap[w3.heap.size]? = some (.cells #[.int .i64 K, .string S, .int .u64 N, .int .i64 A, .int .i64 B, .int .i64 C] 32 (0, 0))) := Lib.hid (by rw [Below.heap_alloc _ _ _ (blk_lt HBX5.out)]; exact HBX5.out)
            have cz : (w5.alloc (.cells #[.int .i64 K2, .string S2, .int .u64 N2, .int .i64 A2, .int .i64 B2, .int .i64 C2] 32)).cell? ⟨c, oc + k, none⟩ = some (.int .i64 ((j : Int) + 1)) := by rw [HP6.out.belowW.cell hcw]; exact HC.out
            have u : ∀ j, (w5.alloc (.cells #[.int .i64 K2, .string S2, .int .u64 N2, .int .i64 A2, .int .i64 B2, .int .i64 C2] 32)).cell? ⟨w5.heap.size, j, none⟩ = (#[.int .i64 K2, .string S2, .int .u64 N2, .int .i64 A2, .int .i64 B2, .int .i64 C2] : Array Value)[j]? := fun j => cell_of_row _ _ j _ _ _ (heap_alloc_new w5 _)
            generalize w5.alloc (.cells #[.int .i64 K2, .string S2, .int .u64 N2, .int .i64 A2, .int .i64 B2, .int .i64 C2] 32) = w6 at HP6 HBX6 cz u ⊢
            have u0 := u 0
            have u1 := u 1
            have u2 := u 2
            have u3 := u 3
            have u4 := u 4
            have u5 := u 5
            simp at u0 u1 u2 u3 u4 u5
            have hgd := guard32
            have e2 : decide ((j : Int) + 1 ≤ (L.length : Int)) = true := decide_eq_true hin.2
            have e3 : decide ((0 : Int) < (d : Int) + 1) = true := decide_eq_true (by omega)
            clear hin hj
            have HLq : Hid (∀ n, Calls Try.prog 18 #[.pointer (some ⟨g2, 0, none⟩)] (w6.drewN n) fun e w' => e = .returned (.int .i64 L.length) ∧ ∃ m, w' = w6.drewN m) := Lib.hid (fun n => quiet_of ((HP6.out.below g2' g1' (drewN_below _ _)).lenP))
            have HDq : Hid (∀ n, Calls Try.prog 16 #[.pointer (some ⟨g2, 0, none⟩), .int .i64 ((j : Int) + 1)] (w6.drewN n) fun e w' => e = .returned (.int .i64 ((d : Int) + 1)) ∧ ∃ m, w' = w6.drewN m) := Lib.hid (fun n => quiet_of (by have h := (HP6.out.below g2' g1' (drewN_below _ n)).depthP ((j : Int) + 1); rw [hdp.out] at h; exact h))
            clear u HP5 HBX5
            go_quiet (first | (go_at_call 18; exact HLq.out _) | (go_at_call 16; exact HDq.out _))
            have HP7 := Lib.hid (HP6.out.below g2' g1' (drewN_below _ nq))
            have HBX7 : Hid ((w6.drewN nq).heap[w3.heap.size]? = some (.cells #[.int .i64 K, .string S, .int .u64 N, .int .i64 A, .int .i64 B, .int .i64 C] 32 (0, 0))) := HBX6
            clear HP6 HBX6 cz u0 u1 u2 u3 u4 u5 HLq HDq
            generalize w6.drewN nq = w7 at HP7 HBX7 ⊢
            have z0 := (cell_of_row _ _ 0 _ _ _ HBX7.out)
            have z1 := (cell_of_row _ _ 1 _ _ _ HBX7.out)
            have z2 := (cell_of_row _ _ 2 _ _ _ HBX7.out)
            have z3 := (cell_of_row _ _ 3 _ _ _ HBX7.out)
            have z4 := (cell_of_row _ _ 4 _ _ _ HBX7.out)
            have z5 := (cell_of_row _ _ 5 _ _ _ HBX7.out)
            simp at z0 z1 z2 z3 z4 z5
            go_wp2_with fail
            refine (HP7.out.putP g1' ⟨K, S, N, A, B, C⟩ HWF.out HPF.out).mono ?_
            rintro e w8 ⟨rfl, hP8, _⟩
            have HP8 := Lib.hid hP8.swap
            clear hP8 HP7 HBX7 z0 z1 z2 z3 z4 z5
            go_wp2_with fail
            refine (HP8.out.lenP).mono ?_
            rintro e w9 ⟨rfl, rfl⟩
            go_wp2_with fail
            refine (HP8.out.swap.lenP).mono ?_
            rintro e w9 ⟨rfl, rfl⟩
            go_wp2_with fail
            go_roundw
            case rel => exact ⟨k + 1, L', by have := Hk.out; omega, by go_num, Lib.hid (HP8.out.less (fun _ q => q.elim))⟩
            case measure => have := Hk.out; simp [intOf]; omega
          · have hG := get_out L x hin
            have hdp := Lib.hid (depth_out L x hin)
            by_cases hx1 : 1 ≤ x
            · have e1 : decide ((1 : Int) ≤ x) = true := decide_eq_true hx1
              have e2 : decide (x ≤ (L.length : Int)) = false := decide_eq_false (by omega)
              go_wp2_with fail
              refine (HP4.out.swap.getP g1' _ hG).mono ?_
              rintro e w5 ⟨rfl, hP5, hb5⟩
              rw [show ((zeroT, false) : Tm × Bool).1.v = .agg #[.int .i64 0, .string ⟨#[]⟩, .int .u64 0, .int .i64 0, .int .i64 0, .int .i64 0] from rfl]
              have HP5 := Lib.hid hP5
              have hbx : w5.heap[w3.heap.size]? = some (.cells #[.int .i64 K, .string S, .int .u64 N, .int .i64 A, .int .i64 B, .int .i64 C] 32 (0, 0)) := by rw [hb5.block _ (blk_lt HBX4.out)]; exact HBX4.out
              have HBX5 := Lib.hid hbx
              clear hP5 hb5 hbx HP4 HBX4 cz
              go_wp2_with fail
              have HP6 := Lib.hid (HP5.out.box g2' g1' (.cells #[.int .i64 0, .string ⟨#[]⟩, .int .u64 0, .int .i64 0, .int .i64 0, .int .i64 0] 32))
              have HBX6 : Hid ((w5.alloc (.cells #[.int .i64 0, .string ⟨#[]⟩, .int .u64 0, .int .i64 0, .int .i64 0, .int .i64 0] 32)).heap[w3.heap.size]? = some (.cells #[.int .i64 K, .string S, .int .u64 N, .int .i64 A, .int .i64 B, .int .i64 C] 32 (0, 0))) := Lib.hid (by rw [Below.heap_alloc _ _ _ (blk_lt HBX5.out)]; exact HBX5.out)
              have cz : (w5.alloc (.cells #[.int .i64 0, .string ⟨#[]⟩, .int .u64 0, .int .i64 0, .int .i64 0, .int .i64 0] 32)).cell? ⟨c, oc + k, none⟩ = some (.int .i64 x) := by rw [HP6.out.belowW.cell hcw]; exact HC.out
              have u : ∀ j, (w5.alloc (.cells #[.int .i64 0, .string ⟨#[]⟩, .int .u64 0, .int .i64 0, .int .i64 0, .int .i64 0] 32)).cell? ⟨w5.heap.size, j, none⟩ = (#[.int .i64 0, .string ⟨#[]⟩, .int .u64 0, .int .i64 0, .int .i64 0, .int .i64 0] : Array Value)[j]? := fun j => cell_of_row _ _ j _ _ _ (heap_alloc_new w5 _)
              generalize w5.alloc (.cells #[.int .i64 0, .string ⟨#[]⟩, .int .u64 0, .int .i64 0, .int .i64 0, .int .i64 0] 32) = w6 at HP6 HBX6 cz u ⊢
              have u0 := u 0
              have u1 := u 1
              have u2 := u 2
              have u3 := u 3
              have u4 := u 4
              have u5 := u 5
              simp at u0 u1 u2 u3 u4 u5
              have hgd := guard32
              have hE := neq_same zeroT
              unfold Tm.v zeroT at hE
              simp only [] at hE
              clear hin hx1
              have HLq : Hid (∀ n, Calls Try.prog 18 #[.pointer (some ⟨g2, 0, none⟩)] (w6.drewN n) fun e w' => e = .returned (.int .i64 L.length) ∧ ∃ m, w' = w6.drewN m) := Lib.hid (fun n => quiet_of ((HP6.out.below g2' g1' (drewN_below _ _)).lenP))
              have HDq : Hid (∀ n, Calls Try.prog 16 #[.pointer (some ⟨g2, 0, none⟩), .int .i64 x] (w6.drewN n) fun e w' => e = .returned (.int .i64 0) ∧ ∃ m, w' = w6.drewN m) := Lib.hid (fun n => quiet_of (by have h := (HP6.out.below g2' g1' (drewN_below _ n)).depthP x; rw [hdp.out] at h; exact h))
              clear u HP5 HBX5
              go_quiet (first | (go_at_call 18; exact HLq.out _) | (go_at_call 16; exact HDq.out _))
              have HP7 := Lib.hid (HP6.out.below g2' g1' (drewN_below _ nq))
              have HBX7 : Hid ((w6.drewN nq).heap[w3.heap.size]? = some (.cells #[.int .i64 K, .string S, .int .u64 N, .int .i64 A, .int .i64 B, .int .i64 C] 32 (0, 0))) := HBX6
              clear HP6 HBX6 cz u0 u1 u2 u3 u4 u5 HLq HDq
              generalize w6.drewN nq = w7 at HP7 HBX7 ⊢
              have z0 := (cell_of_row _ _ 0 _ _ _ HBX7.out)
              have z1 := (cell_of_row _ _ 1 _ _ _ HBX7.out)
              have z2 := (cell_of_row _ _ 2 _ _ _ HBX7.out)
              have z3 := (cell_of_row _ _ 3 _ _ _ HBX7.out)
              have z4 := (cell_of_row _ _ 4 _ _ _ HBX7.out)
              have z5 := (cell_of_row _ _ 5 _ _ _ HBX7.out)
              simp at z0 z1 z2 z3 z4 z5
              go_wp2_with fail
              refine (HP7.out.putP g1' ⟨K, S, N, A, B, C⟩ HWF.out HPF.out).mono ?_
              rintro e w8 ⟨rfl, hP8, _⟩
              have HP8 := Lib.hid hP8.swap
              clear hP8 HP7 HBX7 z0 z1 z2 z3 z4 z5
              go_wp2_with fail
              refine (HP8.out.lenP).mono ?_
              rintro e w9 ⟨rfl, rfl⟩
              go_wp2_with fail
              refine (HP8.out.swap.lenP).mono ?_
              rintro e w9 ⟨rfl, rfl⟩
              go_wp2_with fail
              go_roundw
              case rel => exact ⟨k + 1, L', by have := Hk.out; omega, by go_num, Lib.hid (HP8.out.less (fun _ q => q.elim))⟩
              case measure => have := Hk.out; simp [intOf]; omega
            · have e1 : decide ((1 : Int) ≤ x) = false := decide_eq_false hx1
              have e2 : True := trivial
              go_wp2_with fail
              refine (HP4.out.swap.getP g1' _ hG).mono ?_
              rintro e w5 ⟨rfl, hP5, hb5⟩
              rw [show ((zeroT, false) : Tm × Bool).1.v = .agg #[.int .i64 0, .string ⟨#[]⟩, .int .u64 0, .int .i64 0, .int .i64 0, .int .i64 0] from rfl]
              have HP5 := Lib.hid hP5
              have hbx : w5.heap[w3.heap.size]? = some (.cells #[.int .i64 K, .string S, .int .u64 N, .int .i64 A, .int .i64 B, .int .i64 C] 32 (0, 0)) := by rw [hb5.block _ (blk_lt HBX4.out)]; exact HBX4.out
              have HBX5 := Lib.hid hbx
              clear hP5 hb5 hbx HP4 HBX4 cz
              go_wp2_with fail
              have HP6 := Lib.hid (HP5.out.box g2' g1' (.cells #[.int .i64 0, .string ⟨#[]⟩, .int .u64 0, .int .i64 0, .int .i64 0, .int .i64 0] 32))
              have HBX6 : Hid ((w5.alloc (.cells #[.int .i64 0, .string ⟨#[]⟩, .int .u64 0, .int .i64 0, .int .i64 0, .int .i64 0] 32)).heap[w3.heap.size]? = some (.cells #[.int .i64 K, .string S, .int .u64 N, .int .i64 A, .int .i64 B, .int .i64 C] 32 (0, 0))) := Lib.hid (by rw [Below.heap_alloc _ _ _ (blk_lt HBX5.out)]; exact HBX5.out)
              have cz : (w5.alloc (.cells #[.int .i64 0, .string ⟨#[]⟩, .int .u64 0, .int .i64 0, .int .i64 0, .int .i64 0] 32)).cell? ⟨c, oc + k, none⟩ = some (.int .i64 x) := by rw [HP6.out.belowW.cell hcw]; exact HC.out
              have u : ∀ j, (w5.alloc (.cells #[.int .i64 0, .string ⟨#[]⟩, .int .u64 0, .int .i64 0, .int .i64 0, .int .i64 0] 32)).cell? ⟨w5.heap.size, j, none⟩ = (#[.int .i64 0, .string ⟨#[]⟩, .int .u64 0, .int .i64 0, .int .i64 0, .int .i64 0] : Array Value)[j]? := fun j => cell_of_row _ _ j _ _ _ (heap_alloc_new w5 _)
              generalize w5.alloc (.cells #[.int .i64 0, .string ⟨#[]⟩, .int .u64 0, .int .i64 0, .int .i64 0, .int .i64 0] 32) = w6 at HP6 HBX6 cz u ⊢
              have u0 := u 0
              have u1 := u 1
              have u2 := u 2
              have u3 := u 3
              have u4 := u 4
              have u5 := u 5
              simp at u0 u1 u2 u3 u4 u5
              have hgd := guard32
              have hE := neq_same zeroT
              unfold Tm.v zeroT at hE
              simp only [] at hE
              clear hin hx1
              have HLq : Hid (∀ n, Calls Try.prog 18 #[.pointer (some ⟨g2, 0, none⟩)] (w6.drewN n) fun e w' => e = .returned (.int .i64 L.length) ∧ ∃ m, w' = w6.drewN m) := Lib.hid (fun n => quiet_of ((HP6.out.below g2' g1' (drewN_below _ _)).lenP))
              have HDq : Hid (∀ n, Calls Try.prog 16 #[.pointer (some ⟨g2, 0, none⟩), .int .i64 x] (w6.drewN n) fun e w' => e = .returned (.int .i64 0) ∧ ∃ m, w' = w6.drewN m) := Lib.hid (fun n => quiet_of (by have h := (HP6.out.below g2' g1' (drewN_below _ n)).depthP x; rw [hdp.out] at h; exact h))
              clear u HP5 HBX5
              go_quiet (first | (go_at_call 18; exact HLq.out _) | (go_at_call 16; exact HDq.out _))
              have HP7 := Lib.hid (HP6.out.below g2' g1' (drewN_below _ nq))
              have HBX7 : Hid ((w6.drewN nq).heap[w3.heap.size]? = some (.cells #[.int .i64 K, .string S, .int .u64 N, .int .i64 A, .int .i64 B, .int .i64 C] 32 (0, 0))) := HBX6
              clear HP6 HBX6 cz u0 u1 u2 u3 u4 u5 HLq HDq
              generalize w6.drewN nq = w7 at HP7 HBX7 ⊢
              have z0 := (cell_of_row _ _ 0 _ _ _ HBX7.out)
              have z1 := (cell_of_row _ _ 1 _ _ _ HBX7.out)
              have z2 := (cell_of_row _ _ 2 _ _ _ HBX7.out)
              have z3 := (cell_of_row _ _ 3 _ _ _ HBX7.out)
              have z4 := (cell_of_row _ _ 4 _ _ _ HBX7.out)
              have z5 := (cell_of_row _ _ 5 _ _ _ HBX7.out)
              simp at z0 z1 z2 z3 z4 z5
              go_wp2_with fail
              refine (HP7.out.putP g1' ⟨K, S, N, A, B, C⟩ HWF.out HPF.out).mono ?_
              rintro e w8 ⟨rfl, hP8, _⟩
              have HP8 := Lib.hid hP8.swap
              clear hP8 HP7 HBX7 z0 z1 z2 z3 z4 z5
              go_wp2_with fail
              refine (HP8.out.lenP).mono ?_
              rintro e w9 ⟨rfl, rfl⟩
              go_wp2_with fail
              refine (HP8.out.swap.lenP).mono ?_
              rintro e w9 ⟨rfl, rfl⟩
              go_wp2_with fail
              go_roundw
              case rel => exact ⟨k + 1, L', by have := Hk.out; omega, by go_num, Lib.hid (HP8.out.less (fun _ q => q.elim))⟩
              case measure => have := Hk.out; simp [intOf]; omega
        · have hka1 : decide (k < len1) = false := by simpa using hka
          clear hka
          have z0 := (cell_of_row _ _ 0 _ _ _ HBX4.out)
          have z1 := (cell_of_row _ _ 1 _ _ _ HBX4.out)
          have z2 := (cell_of_row _ _ 2 _ _ _ HBX4.out)
          have z3 := (cell_of_row _ _ 3 _ _ _ HBX4.out)
          have z4 := (cell_of_row _ _ 4 _ _ _ HBX4.out)
          have z5 := (cell_of_row _ _ 5 _ _ _ HBX4.out)
          simp at z0 z1 z2 z3 z4 z5
          go_wp2_with fail
          refine (HP4.out.swap.putP g1' ⟨K, S, N, A, B, C⟩ HWF.out HPF.out).mono ?_
          rintro e w5 ⟨rfl, hP5, _⟩
          have HP5 := Lib.hid hP5.swap
          clear hP5 HP4 HBX4 z0 z1 z2 z3 z4 z5
          go_wp2_with fail
          refine (HP5.out.lenP).mono ?_
          rintro e w6 ⟨rfl, rfl⟩
          go_wp2_with fail
          refine (HP5.out.swap.lenP).mono ?_
          rintro e w6 ⟨rfl, rfl⟩
          go_wp2_with fail
          go_roundw
          case rel => exact ⟨k + 1, L', by have := Hk.out; omega, by go_num, Lib.hid (HP5.out.less (fun _ q => q.elim))⟩
          case measure => have := Hk.out; simp [intOf]; omega
      · have h61 : decide ((k : Int) < 40) = false := by simp; omega
        clear hk
        go_wp2_with fail
        refine (fixed_any _).mono ?_
        rintro e w1 ⟨rfl, hb1⟩
        have hb4 := HP.out.belowW.trans (hb1.mono HP.out.base_le)
        clear hb1
        go_wp2
        go_ret
        exact ⟨rfl, hb4⟩
    · have hlt1 : decide (k < len0) = false := by simpa using hlt
      clear hlt
      go_wp2_with fail
      refine (fixed_any _).mono ?_
      rintro e w1 ⟨rfl, hb1⟩
      have hb4 := HP.out.belowW.trans (hb1.mono HP.out.base_le)
      clear hb1
      go_wp2
      go_ret
      exact ⟨rfl, hb4⟩

theorem walk (a0 : Option Addr) (len0 cap0 : Nat) (T0 : Nat → Tm) (a1 : Option Addr) (len1 cap1 : Nat) (z1 : List Int) (w : World) (w0 : Terms w a0 len0 cap0 T0) (w1 : IsRow .i64 w a1 len1 cap1 z1) :
    Calls Try.prog 8 #[.slice a0 len0 cap0, .slice a1 len1 cap1] w fun e w' => e = .returned (.bool true) ∧ Below w.heap.size w w' := by
  obtain ⟨h1, h2, b, off, h3⟩ := w0
  rcases w1 with ⟨rfl, rfl, rfl, rfl⟩ | ⟨x, rfl, hl, hcm, hz, hcell, hwz⟩
  · exact walkN a0 len0 cap0 T0 none 0 0 (fun _ => 0) w h1 h2 b off (Lib.hid h3) 0 0 (Nat.zero_le _) (Nat.le_refl _) (Lib.hid (fun i hi => absurd hi (Nat.not_lt_zero _)))
  · by_cases h0 : len1 = 0
    · subst h0
      exact walkN a0 len0 cap0 T0 (some x) 0 cap1 (fun _ => 0) w h1 h2 b off (Lib.hid h3) 0 0 hcm (Nat.zero_le _) (Lib.hid (fun i hi => absurd hi (Nat.not_lt_zero _)))
    · obtain ⟨c, oc, spot⟩ := x
      have hc := hcell 0 (by omega)
      have hspot : spot = none := by simpa [Addr.add] using World.cell?_spot hc
      subst hspot
      have hadd : ∀ i, (⟨c, oc, none⟩ : Addr).add i = ⟨c, oc + i, none⟩ := by
        intro i
        unfold Addr.add
        split
        · rename_i h; subst h; rfl
        · rfl
      exact walkN a0 len0 cap0 T0 (some ⟨c, oc, none⟩) len1 cap1 (fun i => z1.getD i 0) w h1 h2 b off (Lib.hid h3) c oc hcm hl (Lib.hid (fun i hi => ⟨rfl, by
        have h1 := hcell i (by omega)
        rw [hadd] at h1
        exact h1⟩))

set_option maxRecDepth 100000 in
theorem lifted (os : Os) (started : os.Started) (H : Type) (enc : TypeId × Value → H) :
    ReturnsInHanded {} Try.checked os 8 .any (Rows.termTwoSpec.pre6 enc Try.prog Try.f8 Rows.termTwoRow.domain false) (Rows.termTwoSpec.post enc Try.prog Try.f8 false true false false) := by
  refine returnsInHanded_of_change (C := Try.checked) own started (by kernel_rfl) Try.func8
    (ChangeSpec.witness6 (enc := enc) (C := Try.checked) false ⟨#[], #[.slice none 0 0, .slice none 0 0], []⟩ 8 (by kernel_rfl) (by kernel_rfl) (by kernel_rfl) (by kernel_rfl)) ?_
  intro W base args ds gs before hval0 hW hcnd _
  have hval : ∀ (j : Nat) t v, Try.f8.params[j]? = some t → args[j]? = some v → Value.okWide Try.prog W .any base t v := hval0
  have hW' := hW
  obtain ⟨p, q, hA0, hV, rfl, hfz, hnd⟩ := hW
  have hA : DataW.TrodAll enc Try.prog W 0 (fun _ => true) true Try.f8.params.toList args.toList ds p := hA0
  rw [Try.params8] at hA hval
  obtain ⟨v0, vs0, d0, ds0, p0, q0, hargs, rfl, rfl, h0, r0⟩ := trodAll_cons hA
  obtain ⟨v1, vs1, d1, ds1, p1, q1, rfl, rfl, rfl, h1, r1⟩ := trodAll_cons r0
  obtain ⟨rfl, rfl, rfl⟩ := trodAll_nil r1
  obtain rfl : args = #[v0, v1] := by cases args; simp_all
  obtain ⟨rfl, rfl⟩ := trodVars_none hV
  obtain ⟨a0, len0, cap0, rfl⟩ := okWide_slice Try.underlying22 (hval 0 22 v0 rfl rfl)
  have k0 := h0
  have lt0 : ∀ x ∈ p0, x.block < W.heap.size := by obtain ⟨m, hm⟩ := k0; exact DataW.trod_lt m _ _ _ hm
  obtain ⟨T0, w0⟩ : ∃ T, Terms W a0 len0 cap0 T := by
    obtain ⟨fuel, hf⟩ := h0
    exact open_terms (by simpa [Value.cells] using hf)
  obtain ⟨a1, len1, cap1, rfl⟩ := okWide_slice Try.underlying45 (hval 1 45 v1 rfl rfl)
  have k1 := h1
  have lt1 : ∀ x ∈ p1, x.block < W.heap.size := by obtain ⟨m, hm⟩ := k1; exact DataW.trod_lt m _ _ _ hm
  obtain ⟨z1, w1⟩ : ∃ zs, IsRow .i64 W a1 len1 cap1 zs := by
    obtain ⟨fuel, hf⟩ := h1
    rcases open_ints Try.underlying45 Try.underlying3 (by kernel_rfl) hf with ⟨hcs, _⟩ | ⟨x, l, c, zs, hcs, _, hl, hm, hz, _, hcell, hwz⟩
    · simp [Value.cells] at hcs
      obtain ⟨rfl, rfl, rfl⟩ := hcs
      exact ⟨[], .inl ⟨rfl, rfl, rfl, rfl⟩⟩
    · simp [Value.cells] at hcs
      obtain ⟨rfl, rfl, rfl⟩ := hcs
      exact ⟨zs, .inr ⟨_, rfl, hl, hm, by simpa using hz, hcell, hwz⟩⟩
  clear hA0 hval0
  refine (walk a0 len0 cap0 T0 a1 len1 cap1 z1 W w0 w1).mono fun e W' ⟨he, bel⟩ => ?_
  subst he
  exact ⟨_, rfl, _, _, _, [], _, [], hW', trodAll_mk1 (shut_bool Try.underlying4 _), (trodAll_cons_mk (Below.trod laidOut (by kernel_rfl) (of_decide_eq_true (by kernel_rfl)) k0 bel lt0) (trodAll_cons_mk (Below.trod laidOut (by kernel_rfl) (of_decide_eq_true (by kernel_rfl)) k1 bel lt1) trodAll_mk0)), rfl, bel.frame _, fun h => by cases h⟩

theorem over : Rows.termTwoRow.holds Try.pinned (OpenSpec.ofChange Rows.termTwoSpec) :=
  OpenClaim.holds_of_wide 8 Try.f8 rfl rfl rfl rfl rfl rfl rfl ⟨rfl, rfl, rfl, rfl, rfl⟩ rfl rfl rfl rfl rfl (by kernel_rfl) Try.func8 (by kernel_rfl)
    (of_decide_eq_true (by kernel_rfl)) (by unfold Func.isWrapper; first | (rw [if_pos (by decide +kernel)]; kernel_rfl) | (rw [if_neg (by decide +kernel)]; exact ⟨rfl, rfl⟩))
    (fun os started H enc _ => lifted os started H enc)

theorem proved : Rows.TermTwoSaid := over
#print axioms proved
end Go.Proofs.Ytbmbglbbojacpaa.termTwo
