/- The program's rules: of what is whole, of nothing, and what it looks up in its map. The program's rules, where a term's parts lie in a row: whole, never; and what is opened. -/
import Derived.Test.YtlnpfeecaiecaaaKnowQ
namespace Go.Proofs.Ytlnpfeecaiecaaa
open Go.RowKit
open Go.Maps
set_option linter.unusedVariables false
set_option linter.unusedSimpArgs false
set_option maxRecDepth 20000

set_option maxHeartbeats 400000 in
theorem kpub_k (x : Int) (w : World) : Calls Try.prog 79 #[.int .i64 x] w fun e w' => e = .returned (pubT x).v ∧ Below w.heap.size w w' := by
  go_enter Try.func79, Try.ntmps79
  go_wp2
  exact bodyPost_ret (v := (pubT x).v) (by simp [results, Try.results79, go_sem, pubT, Tm.v]) rfl ⟨rfl, (Below.refl _ _).alloc (Nat.le_refl _) _⟩
set_option maxHeartbeats 400000 in
theorem kkpub_k (x : Int) (w : World) : Calls Try.prog 80 #[.int .i64 x] w fun e w' => e = .returned (kpubT x).v ∧ Below w.heap.size w w' := by
  go_enter Try.func80, Try.ntmps80
  go_wp2
  exact bodyPost_ret (v := (kpubT x).v) (by simp [results, Try.results80, go_sem, kpubT, Tm.v]) rfl ⟨rfl, (Below.refl _ _).alloc (Nat.le_refl _) _⟩
set_option maxHeartbeats 400000 in
theorem kbox_k (x y : Int) (w : World) : Calls Try.prog 81 #[.int .i64 x, .int .i64 y] w fun e w' => e = .returned (boxT x y).v ∧ Below w.heap.size w w' := by
  go_enter Try.func81, Try.ntmps81
  go_wp2
  exact bodyPost_ret (v := (boxT x y).v) (by simp [results, Try.results81, go_sem, boxT, Tm.v]) rfl ⟨rfl, (Below.refl _ _).alloc (Nat.le_refl _) _⟩

section
variable {w0 : World} {g : Nat} {L : List Tm} {dh kem : Bool} {B : MB} {H : Nat → List Int} {vs : Nat → Value} {v : Value} {M : List Int}
/-- A mind whose map has the names of all that rules ask for. -/
abbrev MindF (w0 : World) (g : Nat) (L : List Tm) (dh kem : Bool) (B : MB) (H : Nat → List Int) (vs : Nat → Value) (v : Value) (M : List Int) (w : World) : Prop := Mind w0 g L dh kem B (noteOf L L.length) H vs v M w

set_option maxHeartbeats 1000000 in
set_option maxRecDepth 100000 in
theorem canBe_k (t : Tm) (ht : Wf t) (ha : asked3 t) (W : World) (h : MindF w0 g L dh kem B H vs v M W) :
    Calls Try.prog 78 #[.pointer (some ⟨B.m, 0, none⟩), t.v] W fun e W' => e = .returned (.bool (hasT L (has M) t)) ∧ Below W.heap.size W W' := by
  obtain ⟨kl, hk⟩ := ht.key
  obtain ⟨j, hj⟩ : ∃ j : Nat, nameOf L t = (j : Int) := ⟨(nameOf L t).toNat, by have := nameOf_bound L t; omega⟩
  have hjL : j ≤ L.length := by have := nameOf_bound L t; omega
  obtain ⟨n, D, hm, hn, hok⟩ := h.names
  have HNM : Hid (∀ c, D.atKey kl (.lit (.int .i64 0)) = .lit (.int .i64 c) → c = (j : Int)) := Lib.hid (fun c hc => by
    rw [hok t kl hk, noteOf_all L ha, hj] at hc
    injection hc with hc; injection hc with _ hc; exact hc.symm)
  have HR : Hid (hasT L (has M) t = has M (j : Int)) := Lib.hid (by unfold hasT; rw [hj])
  rw [HR.out]
  clear HR hok hn hj
  have HK := Lib.hid hk
  have hmost := h.most
  obtain ⟨K, S, N, A, Bx, C⟩ := t
  obtain ⟨W1, hW1⟩ : ∃ W1, W1 = W.alloc (boxP ⟨K, S, N, A, Bx, C⟩) := ⟨_, rfl⟩
  have hb1 : Below W.heap.size W W1 := by rw [hW1]; exact (Below.refl _ _).alloc (Nat.le_refl _) _
  have h1 : MindF w0 g L dh kem B H vs v M W1 := h.next hb1
  have z : ∀ j, W1.cell? ⟨W.heap.size, j, none⟩ = #[Value.int .i64 K, .string S, .int .u64 N, .int .i64 A, .int .i64 Bx, .int .i64 C][j]? := fun j => by rw [hW1]; exact cell_of_row _ _ j _ _ _ (heap_alloc_new W _)
  have z0 := z 0
  have z1 := z 1
  have z2 := z 2
  have z3 := z 3
  have z4 := z 4
  have z5 := z 5
  simp at z0 z1 z2 z3 z4 z5
  obtain ⟨_, c15, c16, c17, c18, _⟩ := h1.cells
  have cc := h1.canAt hjL
  obtain ⟨x, hx⟩ : ∃ x, x = has M (j : Int) := ⟨_, rfl⟩
  rw [← hx] at cc ⊢
  have HB1 := Lib.hid hb1
  have hlk : ∀ q, (Instr.lookup 90 (.map (some B.n)) (.agg #[.int .i64 K, .string S, .int .u64 N, .int .i64 A, .int .i64 Bx, .int .i64 C]) false).run Try.prog (W1.drewN q) = .ok (.int .i64 (j : Int)) (W1.drewN q) := fun q => by
    have hmq : (W1.drewN q).ownsMap Try.prog 59 (plainElem Try.prog 3) B.n n D := (Chg.drewN W1 q (fun _ => False)).own ((Chg.of_below (S := fun _ => False) hb1).own hm (fun q => q)) (fun q => q)
    obtain ⟨c, hrun, hat, hwc⟩ := hmq.lookup_int law32 Try.underlying90 Try.underlying3 (Try.zeroValue3 _) hk
    rw [HNM.out c hat] at hrun
    exact hrun
  have hjl : (j : Int) < (L.length : Int) + 1 := by omega
  unfold boxP at hW1
  simp only [] at hW1
  clear hx z h1 h ht ha hk hm hb1 HNM HK
  unfold Tm.v
  go_enter Try.func78, Try.ntmps78
  go_wp2
  rw [← hW1]
  clear hW1
  go_quiet (fail)
  go_wp2
  go_ret
  exact ⟨rfl, HB1.out.trans ((drewN_below W1 nq).mono HB1.out.size)⟩
end
end Go.Proofs.Ytlnpfeecaiecaaa

namespace Go.Proofs.Ytlnpfeecaiecaaa
open Go.RowKit
open Go.Maps
set_option linter.unusedVariables false
set_option linter.unusedSimpArgs false
set_option maxRecDepth 20000

theorem OwnI.lit {base g : Nat} {xs : List Int} {w : World} (hb : base ≤ g) (h : w.heap[g]? = some (.cells (intsR xs).toArray 3 (0, 0))) (hm : xs.length ≤ maxLen) : OwnI base (.slice (some ⟨g, 0, none⟩) xs.length xs.length) xs w :=
  ⟨by simp [intsR], .inr ⟨g, xs.length, (intsR xs).toArray, rfl, hb, h, Nat.le_refl _, hm, by simp [intsR], by
    show (intsR xs).take (xs.length * 1) = intsR xs
    exact List.take_of_length_le (by simp [intsR])⟩⟩

set_option maxHeartbeats 1000000 in
theorem parts_own (t : Tm) (w : World) :
    Calls Try.prog 45 #[t.v] w fun e w' => ∃ v, e = .returned v ∧ OwnI w.heap.size v (partsT t) w' ∧ Below w.heap.size w w' := by
  obtain ⟨K, S, N, A, B, C⟩ := t
  unfold Tm.v
  by_cases h : K = 3 ∨ K = 5 ∨ K = 9 ∨ K = 4 ∨ K = 6 ∨ K = 7 ∨ K = 8 ∨ K = 11 ∨ K = 10
  · rcases h with rfl | rfl | rfl | rfl | rfl | rfl | rfl | rfl | rfl
    all_goals
      go_enter Try.func45, Try.ntmps45
      go_wp2
      go_ret
      refine ⟨_, rfl, ?_, ((Below.refl _ _).alloc (Nat.le_refl _) _).alloc (by simp) _⟩
      first
        | exact OwnI.lit (xs := [A]) (g := w.heap.size + 1) (by omega) (heap_alloc2_new w _ _) (by simp [maxLen])
        | exact OwnI.lit (xs := [A, B]) (g := w.heap.size + 1) (by omega) (heap_alloc2_new w _ _) (by simp [maxLen])
        | exact OwnI.lit (xs := [A, B, C]) (g := w.heap.size + 1) (by omega) (heap_alloc2_new w _ _) (by simp [maxLen])
  · have e : many K = 0 := by unfold many; rw [if_neg (by omega), if_neg (by omega), if_neg (by omega)]
    have h3 : (K == 3) = false := beq_eq_false_iff_ne.2 (by omega)
    have h5 : (K == 5) = false := beq_eq_false_iff_ne.2 (by omega)
    have h9 : (K == 9) = false := beq_eq_false_iff_ne.2 (by omega)
    have h4 : (K == 4) = false := beq_eq_false_iff_ne.2 (by omega)
    have h6 : (K == 6) = false := beq_eq_false_iff_ne.2 (by omega)
    have h7 : (K == 7) = false := beq_eq_false_iff_ne.2 (by omega)
    have h8 : (K == 8) = false := beq_eq_false_iff_ne.2 (by omega)
    have h11 : (K == 11) = false := beq_eq_false_iff_ne.2 (by omega)
    have h10 : (K == 10) = false := beq_eq_false_iff_ne.2 (by omega)
    have E := Lib.hid e
    clear h e
    go_enter Try.func45, Try.ntmps45
    go_wp2
    go_ret
    refine ⟨_, rfl, ?_, (Below.refl _ _).alloc (Nat.le_refl _) _⟩
    have e2 : partsT ⟨K, S, N, A, B, C⟩ = [] := by unfold partsT; rw [show many (⟨K, S, N, A, B, C⟩ : Tm).K = 0 from E.out]; rfl
    rw [e2]
    exact OwnI.nil _ _

section
variable {w0 : World} {g : Nat} {L : List Tm} {dh kem : Bool} {B : MB} {H : Nat → List Int} {vs : Nat → Value} {v : Value} {M : List Int}
set_option maxHeartbeats 1000000 in
set_option maxRecDepth 100000 in
theorem whole_k (t : Tm) (hp : ∀ x, x ∈ partsT t → InL L x) (W : World) (h : MindF w0 g L dh kem B H vs v M W) :
    Calls Try.prog 60 #[.pointer (some ⟨B.m, 0, none⟩), t.v] W fun e W' => e = .returned (.bool ((partsT t).all (has M))) ∧ Below W.heap.size W W' := by
  have HP := Lib.hid (fun W => parts_own t W)
  have hpl : (partsT t).length ≤ 3 := by unfold partsT; rw [List.length_take]; simp; omega
  have HIN := Lib.hid hp
  have HM := Lib.hid h
  obtain ⟨ks, hks⟩ : ∃ ks, ks = partsT t := ⟨_, rfl⟩
  rw [← hks] at HIN hpl HP ⊢
  have hmost := h.most
  clear hks h hp
  obtain ⟨K, S, N, A, Bx, C⟩ := t
  unfold Tm.v at HP ⊢
  go_enter Try.func60, Try.ntmps60
  go_wp2_with fail
  refine (HP.out _).mono ?_
  rintro e W2 ⟨u, rfl, ho, hb⟩
  have HB1 : Hid (Below W.heap.size W W2) := Lib.hid (((Below.refl _ _).alloc (Nat.le_refl _) _).trans (hb.mono (by simp)))
  have HM2 : Hid (MindF w0 g L dh kem B H vs v M W2) := Lib.hid (HM.out.next HB1.out)
  obtain ⟨a, cap, rfl, ha⟩ := ho.at
  obtain ⟨_, _, b, off, hc⟩ := ha
  obtain ⟨n, hn⟩ : ∃ n, n = ks.length := ⟨_, rfl⟩
  rw [← hn] at hpl
  rw [← hn]
  have HN := Lib.hid hn
  have HC := Lib.hid hc
  clear hn hc ho hb HP HM
  go_wp2
  go_loop [6, 10] (fun _ i => ∃ k : Nat, k ≤ n ∧ i = .int .i64 k ∧ Hid ((ks.take k).all (has M) = true)) (fun _ i => n - (intOf i).toNat)
  case atStart => exact ⟨0, Nat.zero_le _, rfl, Lib.hid (by simp)⟩
  case round =>
    obtain ⟨k, hk, rfl, HJ⟩ := hrel
    by_cases hlt : k < n
    · obtain ⟨rfl, q0⟩ := HC.out k (by rw [← HN.out]; exact hlt)
      have hyin := HIN.out _ (getD_mem (ks := ks) (by rw [← HN.out]; exact hlt))
      obtain ⟨j, hj⟩ : ∃ j : Nat, ks.getD k 0 = (j : Int) := ⟨(ks.getD k 0).toNat, by unfold InL at hyin; omega⟩
      rw [hj] at q0 hyin
      have hjL : j ≤ L.length := by unfold InL at hyin; omega
      have hjl : (j : Int) < (L.length : Int) + 1 := by omega
      obtain ⟨_, c15, _⟩ := HM2.out.cells
      have cc := HM2.out.canAt hjL
      have HS : Hid ((ks.take (k + 1)).all (has M) = has M (j : Int)) := Lib.hid (by
        rw [take_getD (by rw [← HN.out]; exact hlt), List.all_append, HJ.out, hj]; simp)
      have Hlt := Lib.hid hlt
      have HJE : Hid (ks.getD k 0 = (j : Int)) := Lib.hid hj
      have hlt1 : (k : Int) < n := by omega
      clear hyin hj hlt hk
      by_cases hx : has M (j : Int) = true
      · rw [hx] at cc
        have HX := Lib.hid hx
        clear hx
        go_wp2
        go_round
        case rel => exact ⟨k + 1, by have := Hlt.out; omega, by go_num, Lib.hid (by rw [HS.out]; exact HX.out)⟩
        case measure => have := Hlt.out; simp [intOf]; omega
      · have hx' : has M (j : Int) = false := by simpa using hx
        rw [hx'] at cc
        have HX := Lib.hid hx'
        clear hx hx'
        go_wp2
        go_ret
        have e : ks.all (has M) = false := by
          rw [List.all_eq_false]
          exact ⟨_, getD_mem (ks := ks) (k := k) (by rw [← HN.out]; exact Hlt.out), by rw [HJE.out, HX.out]; decide⟩
        rw [e]
        exact ⟨rfl, HB1.out⟩
    · obtain rfl : k = n := by omega
      have hlt1 : decide ((k : Int) < k) = false := by simp
      clear hlt hk
      go_wp2
      go_ret
      have e : ks.all (has M) = true := by have := HJ.out; rw [HN.out, List.take_length] at this; exact this
      rw [e]
      exact ⟨rfl, HB1.out⟩
set_option maxHeartbeats 1000000 in
theorem never_k (t : Tm) (W : World) :
    Calls Try.prog 61 #[.pointer (some ⟨B.m, 0, none⟩), t.v] W fun e W' => e = .returned (.bool false) ∧ Below W.heap.size W W' := by
  obtain ⟨K, S, N, A, Bx, C⟩ := t
  unfold Tm.v
  go_enter Try.func61, Try.ntmps61
  go_wp2
  go_ret
  exact ⟨rfl, (Below.refl _ _).alloc (Nat.le_refl _) _⟩

/-- What is found in a term, in a row of its own. -/
def Opened (M : List Int) (t : Tm) (W : World) (e : Ending) (W' : World) : Prop := ∃ u, e = .returned u ∧ OwnI W.heap.size u (openL (has M) t) W' ∧ Below W.heap.size W W'
set_option maxHeartbeats 2000000 in
set_option maxRecDepth 100000 in
theorem opened11 (S : ByteArray) (N A Bx C : Int) (W : World) :
    Calls Try.prog 66 #[.pointer (some ⟨B.m, 0, none⟩), Tm.v ⟨11, S, N, A, Bx, C⟩] W (Opened M ⟨11, S, N, A, Bx, C⟩ W) := by
  unfold Tm.v
  go_enter Try.func66, Try.ntmps66
  go_wp2
  go_ret
  exact ⟨_, rfl, OwnI.lit (xs := [A, Bx]) (g := W.heap.size + 1) (by omega) (heap_alloc2_new W _ _) (by simp [maxLen]), ((Below.refl _ _).alloc (Nat.le_refl _) _).alloc (by simp) _⟩
set_option maxHeartbeats 2000000 in
set_option maxRecDepth 100000 in
theorem opened10 (S : ByteArray) (N : Int) (ja : Nat) (Bx C : Int) (hA : InL L (ja : Int)) (W : World) (h : MindF w0 g L dh kem B H vs v M W) :
    Calls Try.prog 66 #[.pointer (some ⟨B.m, 0, none⟩), Tm.v ⟨10, S, N, (ja : Int), Bx, C⟩] W (Opened M ⟨10, S, N, (ja : Int), Bx, C⟩ W) := by
  obtain ⟨W1, hW1⟩ : ∃ W1, W1 = W.alloc (.cells #[.int .i64 10, .string S, .int .u64 N, .int .i64 (ja : Int), .int .i64 Bx, .int .i64 C] 59) := ⟨_, rfl⟩
  have hb1 : Below W.heap.size W W1 := by rw [hW1]; exact (Below.refl _ _).alloc (Nat.le_refl _) _
  have HM1 : Hid (MindF w0 g L dh kem B H vs v M W1) := Lib.hid (h.next hb1)
  have z : ∀ j, W1.cell? ⟨W.heap.size, j, none⟩ = #[Value.int .i64 10, .string S, .int .u64 N, .int .i64 (ja : Int), .int .i64 Bx, .int .i64 C][j]? := fun j => by rw [hW1]; exact cell_of_row _ _ j _ _ _ (heap_alloc_new W _)
  have z0 := z 0
  have z1 := z 1
  have z2 := z 2
  have z3 := z 3
  have z4 := z 4
  have z5 := z 5
  simp at z0 z1 z2 z3 z4 z5
  have HB1 := Lib.hid hb1
  obtain ⟨_, c15, _, _, _, c1, c2⟩ := HM1.out.cells
  have hsW1 : W.heap.size < W1.heap.size := by rw [hW1]; simp
  have hmost := h.most
  clear z h hb1
  have cc := HM1.out.canAt (i := ja) (by have := hA.2; omega)
  have hjl : (ja : Int) < (L.length : Int) + 1 := by have := hA.2; omega
  unfold Tm.v
  cases hx : has M (ja : Int)
  all_goals
    have HX := Lib.hid hx
    rw [hx] at cc
    clear hx hA
    go_enter Try.func66, Try.ntmps66
    go_wp2
    rw [← hW1]
    clear hW1
    go_quiet (fail)
    have HB2 : Hid (Below W.heap.size W (W1.drewN nq)) := Lib.hid (HB1.out.trans ((drewN_below W1 nq).mono HB1.out.size))
    have z5 : (W1.drewN nq).cell? ⟨W.heap.size, 5, none⟩ = some (.int .i64 C) := z5
    generalize W1.drewN nq = W2 at HB2 z5 ⊢
    go_wp2
    go_ret
  · refine ⟨_, rfl, ?_, HB2.out⟩
    have e : openL (has M) ⟨10, S, N, (ja : Int), Bx, C⟩ = [] := by unfold openL; rw [if_neg (by show ¬ ((10 : Int) = 11); decide), if_neg (by rw [HX.out]; simp)]
    rw [e]
    exact OwnI.nil _ _
  · refine ⟨_, rfl, ?_, HB2.out.alloc HB2.out.size _⟩
    have e : openL (has M) ⟨10, S, N, (ja : Int), Bx, C⟩ = [C] := by unfold openL; rw [if_neg (by show ¬ ((10 : Int) = 11); decide), if_pos ⟨rfl, HX.out⟩]
    rw [e]
    exact OwnI.lit (xs := [C]) HB2.out.size (heap_alloc_new W2 _) (by simp [maxLen])
set_option maxHeartbeats 2000000 in
set_option maxRecDepth 100000 in
theorem opened0 (K : Int) (S : ByteArray) (N A Bx C : Int) (h1 : K ≠ 11) (h2 : K ≠ 10) (W : World) :
    Calls Try.prog 66 #[.pointer (some ⟨B.m, 0, none⟩), Tm.v ⟨K, S, N, A, Bx, C⟩] W (Opened M ⟨K, S, N, A, Bx, C⟩ W) := by
  have e1 : (K == 11) = false := beq_eq_false_iff_ne.2 h1
  have e2 : (K == 10) = false := beq_eq_false_iff_ne.2 h2
  have HK := Lib.hid (And.intro h1 h2)
  obtain ⟨W1, hW1⟩ : ∃ W1, W1 = W.alloc (.cells #[.int .i64 K, .string S, .int .u64 N, .int .i64 A, .int .i64 Bx, .int .i64 C] 59) := ⟨_, rfl⟩
  have HB1 : Hid (Below W.heap.size W W1) := Lib.hid (by rw [hW1]; exact (Below.refl _ _).alloc (Nat.le_refl _) _)
  have z0 : W1.cell? ⟨W.heap.size, 0, none⟩ = some (.int .i64 K) := by rw [hW1, cell_of_row _ _ 0 _ _ _ (heap_alloc_new W _)]; rfl
  clear h1 h2
  unfold Tm.v
  go_enter Try.func66, Try.ntmps66
  go_wp2
  rw [← hW1]
  clear hW1
  go_quiet (fail)
  go_wp2
  go_ret
  refine ⟨_, rfl, ?_, HB1.out.trans ((drewN_below W1 nq).mono HB1.out.size)⟩
  have e : openL (has M) ⟨K, S, N, A, Bx, C⟩ = [] := by unfold openL; rw [if_neg HK.out.1, if_neg (fun q => HK.out.2 q.1)]
  rw [e]
  exact OwnI.nil _ _
theorem opened_k (t : Tm) (hA : t.K = 10 → InL L t.A) (W : World) (h : MindF w0 g L dh kem B H vs v M W) :
    Calls Try.prog 66 #[.pointer (some ⟨B.m, 0, none⟩), t.v] W (Opened M t W) := by
  obtain ⟨K, S, N, A, Bx, C⟩ := t
  by_cases h1 : K = 11
  · subst h1; exact opened11 S N A Bx C W
  · by_cases h2 : K = 10
    · subst h2
      obtain ⟨ja, rfl⟩ : ∃ j : Nat, A = (j : Int) := ⟨A.toNat, by have := (hA rfl).1; dsimp only at this; omega⟩
      exact opened10 S N ja Bx C (hA rfl) W h
    · exact opened0 K S N A Bx C h1 h2 W
end
end Go.Proofs.Ytlnpfeecaiecaaa
