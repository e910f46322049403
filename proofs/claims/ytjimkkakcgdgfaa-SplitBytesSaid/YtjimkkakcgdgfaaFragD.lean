/- A part: the document's Decode. -/
import Derived.Test.YtjimkkakcgdgfaaFragE
namespace Go.Proofs.Ytjimkkakcgdgfaa
open Go.RowKit
set_option linter.unusedVariables false
set_option linter.unusedSimpArgs false
set_option maxRecDepth 20000

theorem Chg.setCell (w : World) (b i : Nat) (v : Value) : Chg (fun k => k = b) w (w.setCell ⟨b, i, none⟩ v) :=
  ⟨rfl, rfl, rfl, by simp, fun k hk hs => heap_setCell_other _ _ _ _ (by exact hs)⟩
theorem Chg.out {w w1 w2 : World} {B q : Nat} (h : Below B w w1) (hc : Chg (fun k => k = q) w1 w2) (hq : B ≤ q) (hB : B ≤ w1.heap.size) : Below B w w2 := h.trans (hc.below (fun k e => by rw [e]; exact hq) hB)
theorem chg4 (w : World) (b : Nat) (v0 v1 v2 v3 : Value) : Chg (fun k => k = b) w ((((w.setCell ⟨b, 0, none⟩ v0).setCell ⟨b, 1, none⟩ v1).setCell ⟨b, 2, none⟩ v2).setCell ⟨b, 3, none⟩ v3) :=
  (((Chg.setCell w b 0 v0).trans (Chg.setCell _ b 1 v1)).trans (Chg.setCell _ b 2 v2)).trans (Chg.setCell _ b 3 v3)
theorem wrap_i64 {x : Int} (h0 : 0 ≤ x) (h1 : x ≤ 9223372036854775807) : IntKind.i64.wrap x = x := by
  have e1 : x % 2 ^ 64 = x := by omega
  simp only [IntKind.wrap, IntKind.bits, IntKind.signed, e1]
  rw [if_neg (by simp; omega)]
theorem retFE {f : Fr} {E F : Int} {cs : Array Value} (h : f.cl = cs) (e : E = F) : Ending.returned (.tuple #[.agg cs, .int .i64 E]) = .returned (.tuple #[f.v, .int .i64 F]) := by subst h e; rfl
set_option maxHeartbeats 2000000 in
theorem rdec_e1 (s : ByteArray) (w : World) (hs : s.size ≤ maxLen) {n p e : Nat} (g1 : getA s.data.toList 0 = (n, p, e)) (he : e ≠ 0) :
    Calls Try.prog 18 #[.string s] w fun e' w' => e' = .returned (.tuple #[.agg #[.int .u64 0, .int .i64 0, .int .i64 0, .string ⟨#[]⟩], .int .i64 e]) ∧ Below w.heap.size w w' := by
  have hne : ((e : Int) != 0) = true := by simp [he]
  have G1 := Lib.hid (fun u => rget_at u hs g1)
  clear he hs g1
  go_enter Try.func18, Try.ntmps18
  go_wp2_with fail
  refine (G1.out _).mono ?_
  rintro e' w1 ⟨rfl, rfl⟩
  go_wp2_with fail
  exact bodyPost_ret (v := .tuple #[.agg #[.int .u64 0, .int .i64 0, .int .i64 0, .string ⟨#[]⟩], .int .i64 e]) (by simp [results, Try.results18, go_sem]) rfl ⟨rfl, below_alloc _ _⟩
set_option maxHeartbeats 2000000 in
theorem rdec_e2 (s : ByteArray) (w : World) (hs : s.size ≤ maxLen) {n p x q e : Nat} (g1 : getA s.data.toList 0 = (n, p, 0)) (g2 : getA s.data.toList p = (x, q, e)) (he : e ≠ 0) :
    Calls Try.prog 18 #[.string s] w fun e' w' => e' = .returned (.tuple #[.agg #[.int .u64 0, .int .i64 0, .int .i64 0, .string ⟨#[]⟩], .int .i64 e]) ∧ Below w.heap.size w w' := by
  have hne : ((e : Int) != 0) = true := by simp [he]
  have G1 := Lib.hid (fun u => rget_at u hs g1)
  have G2 := Lib.hid (fun u => rget_at u hs g2)
  clear he hs g1 g2
  go_enter Try.func18, Try.ntmps18
  go_wp2_with fail
  refine (G1.out _).mono ?_
  rintro e' w1 ⟨rfl, rfl⟩
  go_wp2_with fail
  refine (G2.out _).mono ?_
  rintro e' w1 ⟨rfl, rfl⟩
  go_wp2_with fail
  exact bodyPost_ret (v := .tuple #[.agg #[.int .u64 0, .int .i64 0, .int .i64 0, .string ⟨#[]⟩], .int .i64 e]) (by simp [results, Try.results18, go_sem]) rfl ⟨rfl, below_alloc _ _⟩
set_option maxHeartbeats 2000000 in
theorem rdec_e3 (s : ByteArray) (w : World) (hs : s.size ≤ maxLen) {n p x q c r e : Nat} (g1 : getA s.data.toList 0 = (n, p, 0)) (g2 : getA s.data.toList p = (x, q, 0)) (g3 : getA s.data.toList q = (c, r, e)) (he : e ≠ 0) :
    Calls Try.prog 18 #[.string s] w fun e' w' => e' = .returned (.tuple #[.agg #[.int .u64 0, .int .i64 0, .int .i64 0, .string ⟨#[]⟩], .int .i64 e]) ∧ Below w.heap.size w w' := by
  have hne : ((e : Int) != 0) = true := by simp [he]
  have G1 := Lib.hid (fun u => rget_at u hs g1)
  have G2 := Lib.hid (fun u => rget_at u hs g2)
  have G3 := Lib.hid (fun u => rget_at u hs g3)
  clear he hs g1 g2 g3
  go_enter Try.func18, Try.ntmps18
  go_wp2_with fail
  refine (G1.out _).mono ?_
  rintro e' w1 ⟨rfl, rfl⟩
  go_wp2_with fail
  refine (G2.out _).mono ?_
  rintro e' w1 ⟨rfl, rfl⟩
  go_wp2_with fail
  refine (G3.out _).mono ?_
  rintro e' w1 ⟨rfl, rfl⟩
  go_wp2_with fail
  exact bodyPost_ret (v := .tuple #[.agg #[.int .u64 0, .int .i64 0, .int .i64 0, .string ⟨#[]⟩], .int .i64 e]) (by simp [results, Try.results18, go_sem]) rfl ⟨rfl, below_alloc _ _⟩
set_option maxHeartbeats 2000000 in
theorem rdec_o1 (s : ByteArray) (w : World) (hs : s.size ≤ maxLen) {n p x q c r : Nat} (g1 : getA s.data.toList 0 = (n, p, 0)) (g2 : getA s.data.toList p = (x, q, 0)) (g3 : getA s.data.toList q = (c, r, 0)) (hx : 15 < x) :
    Calls Try.prog 18 #[.string s] w fun e' w' => e' = .returned (.tuple #[.agg #[.int .u64 0, .int .i64 0, .int .i64 0, .string ⟨#[]⟩], .int .i64 3]) ∧ Below w.heap.size w w' := by
  have d1 : decide ((15 : Int) < (x : Int)) = true := by simp; omega
  clear hx
  have G1 := Lib.hid (fun u => rget_at u hs g1)
  have G2 := Lib.hid (fun u => rget_at u hs g2)
  have G3 := Lib.hid (fun u => rget_at u hs g3)
  clear hs g1 g2 g3
  go_enter Try.func18, Try.ntmps18
  go_wp2_with fail
  refine (G1.out _).mono ?_
  rintro e' w1 ⟨rfl, rfl⟩
  go_wp2_with fail
  refine (G2.out _).mono ?_
  rintro e' w1 ⟨rfl, rfl⟩
  go_wp2_with fail
  refine (G3.out _).mono ?_
  rintro e' w1 ⟨rfl, rfl⟩
  go_wp2_with fail
  exact bodyPost_ret (v := .tuple #[.agg #[.int .u64 0, .int .i64 0, .int .i64 0, .string ⟨#[]⟩], .int .i64 3]) (by simp [results, Try.results18, go_sem]) rfl ⟨rfl, below_alloc _ _⟩
set_option maxHeartbeats 2000000 in
theorem rdec_o2 (s : ByteArray) (w : World) (hs : s.size ≤ maxLen) {n p x q c r : Nat} (g1 : getA s.data.toList 0 = (n, p, 0)) (g2 : getA s.data.toList p = (x, q, 0)) (g3 : getA s.data.toList q = (c, r, 0)) (hx : ¬ 15 < x) (hc : 16 < c) :
    Calls Try.prog 18 #[.string s] w fun e' w' => e' = .returned (.tuple #[.agg #[.int .u64 0, .int .i64 0, .int .i64 0, .string ⟨#[]⟩], .int .i64 3]) ∧ Below w.heap.size w w' := by
  have d1 : decide ((15 : Int) < (x : Int)) = false := by simp; omega
  have d2 : decide ((16 : Int) < (c : Int)) = true := by simp; omega
  clear hx hc
  have G1 := Lib.hid (fun u => rget_at u hs g1)
  have G2 := Lib.hid (fun u => rget_at u hs g2)
  have G3 := Lib.hid (fun u => rget_at u hs g3)
  clear hs g1 g2 g3
  go_enter Try.func18, Try.ntmps18
  go_wp2_with fail
  refine (G1.out _).mono ?_
  rintro e' w1 ⟨rfl, rfl⟩
  go_wp2_with fail
  refine (G2.out _).mono ?_
  rintro e' w1 ⟨rfl, rfl⟩
  go_wp2_with fail
  refine (G3.out _).mono ?_
  rintro e' w1 ⟨rfl, rfl⟩
  go_wp2_with fail
  exact bodyPost_ret (v := .tuple #[.agg #[.int .u64 0, .int .i64 0, .int .i64 0, .string ⟨#[]⟩], .int .i64 3]) (by simp [results, Try.results18, go_sem]) rfl ⟨rfl, below_alloc _ _⟩
set_option maxHeartbeats 4000000 in
theorem rdec_false (s : ByteArray) (w : World) (hs : s.size ≤ maxLen) {n p x q c r : Nat} (g1 : getA s.data.toList 0 = (n, p, 0)) (g2 : getA s.data.toList p = (x, q, 0)) (g3 : getA s.data.toList q = (c, r, 0)) (hx : x ≤ 15) (hc : c ≤ 16) (hr : Hid (rightF ⟨n, x, c, s.extract r s.size⟩ = false)) :
    Calls Try.prog 18 #[.string s] w fun e' w' => e' = .returned (.tuple #[.agg #[.int .u64 0, .int .i64 0, .int .i64 0, .string ⟨#[]⟩], .int .i64 3]) ∧ Below w.heap.size w w' := by
  have d1 : decide ((15 : Int) < (x : Int)) = false := by simp; omega
  have d2 : decide ((16 : Int) < (c : Int)) = false := by simp; omega
  have w5 : IntKind.i64.wrap (x : Int) = x := wrap_i64 (by omega) (by omega)
  have w6 : IntKind.i64.wrap (c : Int) = c := wrap_i64 (by omega) (by omega)
  have hr2 : (r : Int) ≤ s.size := by have := (getA_bounds s q g3).2; omega
  have HSP : Hid ((s.extract r s.size).size ≤ maxLen) := Lib.hid (by simp only [ByteArray.size_extract]; unfold maxLen at hs ⊢; omega)
  have G1 := Lib.hid (fun u => rget_at u hs g1)
  have G2 := Lib.hid (fun u => rget_at u hs g2)
  have G3 := Lib.hid (fun u => rget_at u hs g3)
  have hs' : (s.size : Int) ≤ 9223372036854775807 := by unfold maxLen at hs; omega
  clear hs g1 g2 g3 hx hc
  obtain ⟨R, hR⟩ : ∃ q, q = w.heap.size := ⟨_, rfl⟩
  obtain ⟨w0, hw0⟩ : ∃ wa, wa = w.alloc (.cells #[.int .u64 0, .int .i64 0, .int .i64 0, .string ⟨#[]⟩] 43) := ⟨_, rfl⟩
  have HZ0 : Hid (FrAt 43 w0 R zeroF) := Lib.hid (by rw [hw0, hR]; exact heap_alloc_new w _)
  have HB0 : Hid (Below w.heap.size w w0) := Lib.hid (by rw [hw0]; exact below_alloc _ _)
  have HRW : Hid (w.heap.size ≤ R) := Lib.hid (by omega)
  go_enter Try.func18, Try.ntmps18
  go_wp2_with fail
  rw [← hw0, ← hR]
  clear hw0 hR
  refine (G1.out _).mono ?_
  rintro e' w1 ⟨rfl, rfl⟩
  go_wp2_with fail
  refine (G2.out _).mono ?_
  rintro e' w1 ⟨rfl, rfl⟩
  go_wp2_with fail
  refine (G3.out _).mono ?_
  rintro e' w1 ⟨rfl, rfl⟩
  go_wp2_with fail
  refine (rright_f n x c (s.extract r s.size) _ HSP.out false hr).mono ?_
  rintro e w1 ⟨rfl, hb⟩
  have HO : Hid (FrAt 43 w1 w0.heap.size ⟨n, x, c, s.extract r s.size⟩) := Lib.hid (FrAt.below (show FrAt 43 (w0.alloc (.cells #[.int .u64 n, .int .i64 x, .int .i64 c, .string (s.extract r s.size)] 43)) w0.heap.size ⟨n, x, c, s.extract r s.size⟩ from heap_alloc_new _ _) hb)
  have HZ : Hid (FrAt 43 w1 R zeroF) := Lib.hid ((HZ0.out.below (below_alloc _ _)).below hb)
  have HB2 := HB0.out.trans ((below_alloc w0 (.cells #[.int .u64 n, .int .i64 x, .int .i64 c, .string (s.extract r s.size)] 43)).mono HB0.out.size)
  have HBB := Lib.hid (HB2.trans (hb.mono HB2.size))
  clear hb HB2 HZ0 HB0 G1 G2 G3
  obtain ⟨z0, z1, z2, z3⟩ := HZ.out.cells
  obtain ⟨o0, o1, o2, o3⟩ := HO.out.cells
  have f0 := frz_of_row 0 HZ.out
  have f1 := frz_of_row 1 HZ.out
  have f2 := frz_of_row 2 HZ.out
  have f3 := frz_of_row 3 HZ.out
  go_wp2
  exact bodyPost_ret (v := .tuple #[.agg #[.int .u64 0, .int .i64 0, .int .i64 0, .string ⟨#[]⟩], .int .i64 3]) (by simp [results, Try.results18, go_sem, z0, z1, z2, z3]) rfl ⟨rfl, Chg.out HBB.out (chg4 _ _ _ _ _ _) HRW.out HBB.out.size⟩
set_option maxHeartbeats 4000000 in
theorem rdec_true (s : ByteArray) (w : World) (hs : s.size ≤ maxLen) {n p x q c r : Nat} (g1 : getA s.data.toList 0 = (n, p, 0)) (g2 : getA s.data.toList p = (x, q, 0)) (g3 : getA s.data.toList q = (c, r, 0)) (hx : x ≤ 15) (hc : c ≤ 16) (hr : Hid (rightF ⟨n, x, c, s.extract r s.size⟩ = true)) :
    Calls Try.prog 18 #[.string s] w fun e' w' => e' = .returned (.tuple #[.agg #[.int .u64 n, .int .i64 x, .int .i64 c, .string (s.extract r s.size)], .int .i64 0]) ∧ Below w.heap.size w w' := by
  have d1 : decide ((15 : Int) < (x : Int)) = false := by simp; omega
  have d2 : decide ((16 : Int) < (c : Int)) = false := by simp; omega
  have w5 : IntKind.i64.wrap (x : Int) = x := wrap_i64 (by omega) (by omega)
  have w6 : IntKind.i64.wrap (c : Int) = c := wrap_i64 (by omega) (by omega)
  have hr2 : (r : Int) ≤ s.size := by have := (getA_bounds s q g3).2; omega
  have HSP : Hid ((s.extract r s.size).size ≤ maxLen) := Lib.hid (by simp only [ByteArray.size_extract]; unfold maxLen at hs ⊢; omega)
  have G1 := Lib.hid (fun u => rget_at u hs g1)
  have G2 := Lib.hid (fun u => rget_at u hs g2)
  have G3 := Lib.hid (fun u => rget_at u hs g3)
  have hs' : (s.size : Int) ≤ 9223372036854775807 := by unfold maxLen at hs; omega
  clear hs g1 g2 g3 hx hc
  obtain ⟨R, hR⟩ : ∃ q, q = w.heap.size := ⟨_, rfl⟩
  obtain ⟨w0, hw0⟩ : ∃ wa, wa = w.alloc (.cells #[.int .u64 0, .int .i64 0, .int .i64 0, .string ⟨#[]⟩] 43) := ⟨_, rfl⟩
  have HZ0 : Hid (FrAt 43 w0 R zeroF) := Lib.hid (by rw [hw0, hR]; exact heap_alloc_new w _)
  have HB0 : Hid (Below w.heap.size w w0) := Lib.hid (by rw [hw0]; exact below_alloc _ _)
  have HRW : Hid (w.heap.size ≤ R) := Lib.hid (by omega)
  go_enter Try.func18, Try.ntmps18
  go_wp2_with fail
  rw [← hw0, ← hR]
  clear hw0 hR
  refine (G1.out _).mono ?_
  rintro e' w1 ⟨rfl, rfl⟩
  go_wp2_with fail
  refine (G2.out _).mono ?_
  rintro e' w1 ⟨rfl, rfl⟩
  go_wp2_with fail
  refine (G3.out _).mono ?_
  rintro e' w1 ⟨rfl, rfl⟩
  go_wp2_with fail
  refine (rright_f n x c (s.extract r s.size) _ HSP.out true hr).mono ?_
  rintro e w1 ⟨rfl, hb⟩
  have HO : Hid (FrAt 43 w1 w0.heap.size ⟨n, x, c, s.extract r s.size⟩) := Lib.hid (FrAt.below (show FrAt 43 (w0.alloc (.cells #[.int .u64 n, .int .i64 x, .int .i64 c, .string (s.extract r s.size)] 43)) w0.heap.size ⟨n, x, c, s.extract r s.size⟩ from heap_alloc_new _ _) hb)
  have HZ : Hid (FrAt 43 w1 R zeroF) := Lib.hid ((HZ0.out.below (below_alloc _ _)).below hb)
  have HB2 := HB0.out.trans ((below_alloc w0 (.cells #[.int .u64 n, .int .i64 x, .int .i64 c, .string (s.extract r s.size)] 43)).mono HB0.out.size)
  have HBB := Lib.hid (HB2.trans (hb.mono HB2.size))
  clear hb HB2 HZ0 HB0 G1 G2 G3
  obtain ⟨z0, z1, z2, z3⟩ := HZ.out.cells
  obtain ⟨o0, o1, o2, o3⟩ := HO.out.cells
  have f0 := frz_of_row 0 HZ.out
  have f1 := frz_of_row 1 HZ.out
  have f2 := frz_of_row 2 HZ.out
  have f3 := frz_of_row 3 HZ.out
  go_wp2
  exact bodyPost_ret (v := .tuple #[.agg #[.int .u64 n, .int .i64 x, .int .i64 c, .string (s.extract r s.size)], .int .i64 0]) (by simp [results, Try.results18, go_sem, z0, z1, z2, z3]) rfl ⟨rfl, Chg.out HBB.out (chg4 _ _ _ _ _ _) HRW.out HBB.out.size⟩
theorem rdec_f (s : ByteArray) (w : World) (hs : s.size ≤ maxLen) (f : Fr) (E : Nat) (hd : decF s = (f, E)) :
    Calls Try.prog 18 #[.string s] w fun e w' => e = .returned (.tuple #[f.v, .int .i64 E]) ∧ Below w.heap.size w w' := by
  have zs : ∀ {e : Nat}, decF s = (zeroF, e) → (Calls Try.prog 18 #[.string s] w fun e' w' => e' = .returned (.tuple #[.agg #[.int .u64 0, .int .i64 0, .int .i64 0, .string ⟨#[]⟩], .int .i64 e]) ∧ Below w.heap.size w w') → Calls Try.prog 18 #[.string s] w fun e w' => e = .returned (.tuple #[f.v, .int .i64 E]) ∧ Below w.heap.size w w' := by
    intro e h1 h2
    rw [h1] at hd
    simp only [Prod.mk.injEq] at hd
    obtain ⟨rfl, rfl⟩ := hd
    exact h2
  obtain ⟨n, p, e, g1⟩ : ∃ n p e, getA s.data.toList 0 = (n, p, e) := ⟨_, _, _, rfl⟩
  by_cases he : e = 0
  · subst he
    obtain ⟨x, q, e, g2⟩ : ∃ n q e, getA s.data.toList (p : Nat) = (n, q, e) := ⟨_, _, _, rfl⟩
    by_cases he : e = 0
    · subst he
      obtain ⟨c, r, e, g3⟩ : ∃ n r e, getA s.data.toList (q : Nat) = (n, r, e) := ⟨_, _, _, rfl⟩
      by_cases he : e = 0
      · subst he
        have hd4 := decF_4 g1 g2 g3
        cases hr : rightF ⟨n, x, c, s.extract r s.size⟩ with
        | false =>
          rw [decEnd, if_neg (by rw [hr]; decide)] at hd4
          refine zs hd4 ?_
          by_cases hx : 15 < x
          · exact rdec_o1 s w hs g1 g2 g3 hx
          · by_cases hc : 16 < c
            · exact rdec_o2 s w hs g1 g2 g3 hx hc
            · exact rdec_false s w hs g1 g2 g3 (by omega) (by omega) (Lib.hid hr)
        | true =>
          rw [decEnd, if_pos hr] at hd4
          rw [hd4] at hd
          simp only [Prod.mk.injEq] at hd
          obtain ⟨rfl, rfl⟩ := hd
          have := rightF_iff.1 hr
          dsimp only at this
          exact rdec_true s w hs g1 g2 g3 (by omega) (by omega) (Lib.hid hr)
      · exact zs (decF_3 g1 g2 g3 he) (rdec_e3 s w hs g1 g2 g3 he)
    · exact zs (decF_2 g1 g2 he) (rdec_e2 s w hs g1 g2 he)
  · exact zs (decF_1 g1 he) (rdec_e1 s w hs g1 he)
end Go.Proofs.Ytjimkkakcgdgfaa
