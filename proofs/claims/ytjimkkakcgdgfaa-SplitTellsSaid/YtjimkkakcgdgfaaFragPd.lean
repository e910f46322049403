/- The program's Decode. -/
import Derived.Test.YtjimkkakcgdgfaaFragPa
import Derived.Test.YtjimkkakcgdgfaaShelfB
namespace Go.Proofs.Ytjimkkakcgdgfaa
open Go.RowKit
set_option linter.unusedVariables false
set_option linter.unusedSimpArgs false
set_option maxRecDepth 20000

set_option maxHeartbeats 400000 in
theorem clone_any (s : ByteArray) (w : World) (hs : s.size ≤ 1000000) :
    Calls Try.prog 32 #[.string s] w fun e w' => e = .returned (.string s) ∧ Below w.heap.size w w' := by
  go_enter Try.func32, Try.ntmps32
  go_wp2_with (go_at_call 39; go_must (refine (Try.stringslite_Clone _ _ (by omega)).mono ?_); rintro e w' ⟨rfl, hb⟩)
  go_ret
  exact ⟨rfl, hb⟩
/-- The numbers that were read ahead of the j-th one, and the place where it begins. -/
def Rd (s : ByteArray) : Nat → Nat → Nat → Nat → Nat → Prop
  | 0, p, x, y, z => p = 0 ∧ x = 0 ∧ y = 0 ∧ z = 0
  | 1, p, x, y, z => getA s.data.toList 0 = (x, p, 0) ∧ y = 0 ∧ z = 0
  | 2, p, x, y, z => ∃ p1 : Nat, getA s.data.toList 0 = (x, p1, 0) ∧ getA s.data.toList p1 = (y, p, 0) ∧ z = 0
  | 3, p, x, y, z => ∃ p1 p2 : Nat, getA s.data.toList 0 = (x, p1, 0) ∧ getA s.data.toList p1 = (y, p2, 0) ∧ getA s.data.toList p2 = (z, p, 0)
  | _, _, _, _, _ => False
theorem Rd.le {s : ByteArray} {p x y z : Nat} (h : Rd s 3 p x y z) : p ≤ s.size ∧ (x : Int) ≤ 18446744073709551615 ∧ (y : Int) ≤ 18446744073709551615 ∧ (z : Int) ≤ 18446744073709551615 := by
  obtain ⟨p1, p2, h1, h2, h3⟩ := h
  exact ⟨(getA_bounds s p2 h3).2, (getA_bounds s 0 h1).1, (getA_bounds s p1 h2).1, (getA_bounds s p2 h3).1⟩
theorem heap_set {w : World} {g j : Nat} {cs : Array Value} {t : TypeId} (u : Value) (h : w.heap[g]? = some (.cells cs t (0, 0))) : (w.setCell ⟨g, j, none⟩ u).heap[g]? = some (.cells (cs.setIfInBounds j u) t (0, 0)) := heap_setCell_same w g j cs _ _ h
theorem heap_off {w : World} {g k j : Nat} (u : Value) (h : k ≠ g) : (w.setCell ⟨g, j, none⟩ u).heap[k]? = w.heap[k]? := Below.heap_setCell _ _ _ _ h
theorem Rd.err {s : ByteArray} {j p x y z n q e : Nat} (h : Rd s j p x y z) (hj : j < 3) (hg : getA s.data.toList (p : Nat) = (n, q, e)) (he : e ≠ 0) : decF s = (zeroF, e) := by
  rcases j with _ | _ | _ | j
  · obtain ⟨rfl, _⟩ := h
    exact decF_1 hg he
  · obtain ⟨h1, _⟩ := h
    exact decF_2 h1 hg he
  · obtain ⟨p1, h1, h2, _⟩ := h
    exact decF_3 h1 h2 hg he
  · omega
theorem Rd.next0 {s : ByteArray} {p x y z n q : Nat} (h : Rd s 0 p x y z) (hg : getA s.data.toList (p : Nat) = (n, q, 0)) : Rd s 1 q n y z := by
  obtain ⟨rfl, rfl, rfl, rfl⟩ := h
  exact ⟨hg, rfl, rfl⟩
theorem Rd.next1 {s : ByteArray} {p x y z n q : Nat} (h : Rd s 1 p x y z) (hg : getA s.data.toList (p : Nat) = (n, q, 0)) : Rd s 2 q x n z := by
  obtain ⟨h1, rfl, rfl⟩ := h
  exact ⟨p, h1, hg, rfl⟩
theorem Rd.next2 {s : ByteArray} {p x y z n q : Nat} (h : Rd s 2 p x y z) (hg : getA s.data.toList (p : Nat) = (n, q, 0)) : Rd s 3 q x y n := by
  obtain ⟨p1, h1, h2, rfl⟩ := h
  exact ⟨p1, p, h1, h2, hg⟩
theorem Rd.all {s : ByteArray} {p x y z : Nat} (h : Rd s 3 p x y z) : decF s = decEnd ⟨x, y, z, s.extract p s.size⟩ := by
  obtain ⟨p1, p2, h1, h2, h3⟩ := h
  exact decF_4 h1 h2 h3
/-- A number of 64 bits as an int. -/
theorem right_wrap (x y z : Nat) (s : ByteArray) (hy : (y : Int) ≤ 18446744073709551615) (hz : (z : Int) ≤ 18446744073709551615) : rightF ⟨x, (IntKind.i64.wrap y), (IntKind.i64.wrap z), s⟩ = rightF ⟨x, y, z, s⟩ := by
  have key : ∀ u : Nat, (u : Int) ≤ 18446744073709551615 → IntKind.i64.wrap u = u ∨ (IntKind.i64.wrap u < 0 ∧ 9223372036854775807 < (u : Int)) := by
    intro u hu
    simp [IntKind.wrap, IntKind.bits, IntKind.signed]
    omega
  rw [Bool.eq_iff_iff, rightF_iff, rightF_iff]
  dsimp only
  rcases key y hy with a | a <;> rcases key z hz with b | b <;> omega
theorem i64_wrap {u : Nat} (h0 : (0 : Int) ≤ u) (h1 : (u : Int) ≤ 16) : IntKind.i64.wrap u = u := by
  simp [IntKind.wrap, IntKind.bits, IntKind.signed]
  omega
def Nums (q x y z : Nat) (u : World) : Prop := u.heap[q]? = some (.cells #[.int .u64 x, .int .u64 y, .int .u64 z] 74 (0, 0))
theorem dret {s : ByteArray} {f g : Fr} {E F : Nat} {x : Int} (h : decF s = (f, E)) (k : decF s = (g, F)) (hx : (F : Int) = x := by rfl) : Ending.returned (.tuple #[g.v, .int .i64 x]) = .returned (.tuple #[f.v, .int .i64 E]) := by
  subst hx
  rw [h] at k
  injection k with k1 k2
  subst k1 k2
  rfl
theorem FrAt.set4 {t : TypeId} {w : World} {q : Nat} {f : Fr} (h : FrAt t w q f) (g : Fr) : FrAt t ((((w.setCell ⟨q, 0, none⟩ (.int .u64 g.id)).setCell ⟨q, 1, none⟩ (.int .i64 g.ix)).setCell ⟨q, 2, none⟩ (.int .i64 g.ct)).setCell ⟨q, 3, none⟩ (.string g.s)) q g := by
  have := heap_set (j := 3) (.string g.s) (heap_set (j := 2) (.int .i64 g.ct) (heap_set (j := 1) (.int .i64 g.ix) (heap_set (j := 0) (.int .u64 g.id) h)))
  unfold FrAt
  simpa [Fr.cl] using this
theorem below_set4 {B : Nat} {w w' : World} {q : Nat} (h : Below B w w') (hq : B ≤ q) (g : Fr) : Below B w ((((w'.setCell ⟨q, 0, none⟩ (.int .u64 g.id)).setCell ⟨q, 1, none⟩ (.int .i64 g.ix)).setCell ⟨q, 2, none⟩ (.int .i64 g.ct)).setCell ⟨q, 3, none⟩ (.string g.s)) :=
  (((h.setCell (p := ⟨q, 0, none⟩) hq _).setCell (p := ⟨q, 1, none⟩) hq _).setCell (p := ⟨q, 2, none⟩) hq _).setCell (p := ⟨q, 3, none⟩) hq _
theorem fin_ret {w W : World} {q : Nat} {f g : Fr} {E : Nat} {x : Int} {a : Act} (hb : Below w.heap.size w W) (hd : a.defers = []) (hW : FrAt 26 W q g)
    (hr : ∀ W : World, W.cell? ⟨q, 0, none⟩ = some (.int .u64 g.id) → W.cell? ⟨q, 1, none⟩ = some (.int .i64 g.ix) → W.cell? ⟨q, 2, none⟩ = some (.int .i64 g.ct) → W.cell? ⟨q, 3, none⟩ = some (.string g.s) → (results Try.f17 a.tmps).run Try.prog W = .ok (.tuple #[g.v, .int .i64 x]) W)
    (he : Ending.returned (.tuple #[g.v, .int .i64 x]) = .returned (.tuple #[f.v, .int .i64 E])) :
    bodyPost Try.prog Try.f17 (fun e w' => e = .returned (.tuple #[f.v, .int .i64 E]) ∧ Below w.heap.size w w') .ret a W :=
  bodyPost_ret (hr W hW.cells.1 hW.cells.2.1 hW.cells.2.2.1 hW.cells.2.2.2) hd ⟨he, hb⟩
set_option maxHeartbeats 8000000 in
set_option maxRecDepth 100000 in
theorem dec_f (s : ByteArray) (w : World) (hs : s.size ≤ 1000000) (f : Fr) (E : Nat) (hd : decF s = (f, E)) :
    Calls Try.prog 17 #[.string s] w fun e w' => e = .returned (.tuple #[f.v, .int .i64 E]) ∧ Below w.heap.size w w' := by
  have HD := Lib.hid hd
  have HS := Lib.hid hs
  clear hd hs
  go_enter Try.func17, Try.ntmps17
  go_wp2_with fail
  obtain ⟨q2, hq2⟩ : ∃ q, q = w.heap.size := ⟨_, rfl⟩
  obtain ⟨q4, hq4⟩ : ∃ q, q = w.heap.size + 1 := ⟨_, rfl⟩
  obtain ⟨u, hu⟩ : ∃ u, u = (w.alloc (.cells #[.int .u64 0, .int .i64 0, .int .i64 0, .string ⟨#[]⟩] 26)).alloc (.cells #[.int .u64 0, .int .u64 0, .int .u64 0] 74) := ⟨_, rfl⟩
  have HB0 : Hid (Below w.heap.size w u) := Lib.hid (by rw [hu]; exact (below_alloc w _).trans ((below_alloc _ _).mono (by simp)))
  have HN0 : Hid (Nums q4 0 0 0 u) := Lib.hid (by
    rw [hu, hq4]
    have := heap_alloc_new (w.alloc (.cells #[.int .u64 0, .int .i64 0, .int .i64 0, .string ⟨#[]⟩] 26)) (.cells #[.int .u64 0, .int .u64 0, .int .u64 0] 74)
    rw [size_alloc] at this
    exact this)
  have HF0 : Hid (FrAt 26 u q2 zeroF) := Lib.hid (by
    rw [hu, hq2]
    exact FrAt.below (heap_alloc_new w _) (below_alloc _ _))
  have HQ : Hid (q2 = w.heap.size ∧ q4 = w.heap.size + 1) := Lib.hid ⟨hq2, hq4⟩
  rw [← hu, ← hq4, ← hq2]
  clear hu hq2 hq4
  go_loopw [5, 11] (fun p i wr => ∃ j a x y z : Nat, ((j = 0 ∧ i = .int .i64 0) ∨ (j = 1 ∧ i = .int .i64 1) ∨ (j = 2 ∧ i = .int .i64 2) ∨ (j = 3 ∧ i = .int .i64 3)) ∧ p = .int .i64 a ∧ Hid (Rd s j a x y z) ∧ Hid (Nums q4 x y z wr) ∧ Hid (FrAt 26 wr q2 zeroF) ∧ Hid (Below w.heap.size w wr)) (fun _ i _ => 3 - (intOf i).toNat)
  case atStart => exact ⟨0, 0, 0, 0, 0, .inl ⟨rfl, rfl⟩, rfl, Lib.hid ⟨rfl, rfl, rfl, rfl⟩, HN0, HF0, HB0⟩
  case round =>
    clear HB0 HN0 HF0
    obtain ⟨j, a, x, y, z, hij, rfl, HR, HN, HF, HB⟩ := hrel
    rcases hij with ⟨rfl, rfl⟩ | ⟨rfl, rfl⟩ | ⟨rfl, rfl⟩ | ⟨rfl, rfl⟩
    · obtain ⟨n, q, e, hg⟩ : ∃ n q e, getA s.data.toList ((a : Nat) : Int) = (n, q, e) := ⟨_, _, _, rfl⟩
      have HG := Lib.hid hg
      clear hg
      go_wp2_with fail
      refine (get_at _ (by have := HS.out; unfold maxLen; omega) HG.out).mono ?_
      rintro e' w1 ⟨rfl, rfl⟩
      by_cases he : e = 0
      · subst he
        have HR2 := Lib.hid (HR.out.next0 HG.out)
        have c0 := cell_at 0 HN.out
        have z0 := frz_of_row 0 HN.out
        simp at c0
        go_wp2_with fail
        go_roundw
        case rel => exact ⟨1, q, n, y, z, .inr (.inl ⟨rfl, rfl⟩), rfl, HR2, Lib.hid (by have := heap_set (j := 0) (.int .u64 n) HN.out; unfold Nums; simpa using this), Lib.hid (by have := HQ.out; unfold FrAt; rw [heap_off _ (by omega)]; exact HF.out), Lib.hid (HB.out.setCell (p := ⟨q4, 0, none⟩) (by have := HQ.out; dsimp only; omega) _)⟩
        case measure => simp [intOf]
      · have hne : ((e : Int) != 0) = true := by simp [he]
        have HD2 := Lib.hid (HR.out.err (by decide) HG.out he)
        clear he
        obtain ⟨c0, c1, c2, c3⟩ := HF.out.cells
        have z0 := frz_of_row 0 HF.out
        have z1 := frz_of_row 1 HF.out
        have z2 := frz_of_row 2 HF.out
        have z3 := frz_of_row 3 HF.out
        simp [zeroF] at c0 c1 c2 c3
        go_wp2_with fail
        clear c0 c1 c2 c3 z0 z1 z2 z3
        have HW := Lib.hid (HF.out.set4 zeroF)
        have HB2 := Lib.hid (below_set4 HB.out (q := q2) (by have := HQ.out; omega) zeroF)
        exact fin_ret (x := ((e : Nat) : Int)) HB2.out rfl HW.out (by intro W h0 h1 h2 h3; simp [results, Try.results17, go_sem, h0, h1, h2, h3, zeroF, Fr.v, Fr.cl]) (dret HD.out HD2.out)
    · obtain ⟨n, q, e, hg⟩ : ∃ n q e, getA s.data.toList ((a : Nat) : Int) = (n, q, e) := ⟨_, _, _, rfl⟩
      have HG := Lib.hid hg
      clear hg
      go_wp2_with fail
      refine (get_at _ (by have := HS.out; unfold maxLen; omega) HG.out).mono ?_
      rintro e' w1 ⟨rfl, rfl⟩
      by_cases he : e = 0
      · subst he
        have HR2 := Lib.hid (HR.out.next1 HG.out)
        have c0 := cell_at 1 HN.out
        have z0 := frz_of_row 1 HN.out
        simp at c0
        go_wp2_with fail
        go_roundw
        case rel => exact ⟨2, q, x, n, z, .inr (.inr (.inl ⟨rfl, rfl⟩)), rfl, HR2, Lib.hid (by have := heap_set (j := 1) (.int .u64 n) HN.out; unfold Nums; simpa using this), Lib.hid (by have := HQ.out; unfold FrAt; rw [heap_off _ (by omega)]; exact HF.out), Lib.hid (HB.out.setCell (p := ⟨q4, 1, none⟩) (by have := HQ.out; dsimp only; omega) _)⟩
        case measure => simp [intOf]
      · have hne : ((e : Int) != 0) = true := by simp [he]
        have HD2 := Lib.hid (HR.out.err (by decide) HG.out he)
        clear he
        obtain ⟨c0, c1, c2, c3⟩ := HF.out.cells
        have z0 := frz_of_row 0 HF.out
        have z1 := frz_of_row 1 HF.out
        have z2 := frz_of_row 2 HF.out
        have z3 := frz_of_row 3 HF.out
        simp [zeroF] at c0 c1 c2 c3
        go_wp2_with fail
        clear c0 c1 c2 c3 z0 z1 z2 z3
        have HW := Lib.hid (HF.out.set4 zeroF)
        have HB2 := Lib.hid (below_set4 HB.out (q := q2) (by have := HQ.out; omega) zeroF)
        exact fin_ret (x := ((e : Nat) : Int)) HB2.out rfl HW.out (by intro W h0 h1 h2 h3; simp [results, Try.results17, go_sem, h0, h1, h2, h3, zeroF, Fr.v, Fr.cl]) (dret HD.out HD2.out)
    · obtain ⟨n, q, e, hg⟩ : ∃ n q e, getA s.data.toList ((a : Nat) : Int) = (n, q, e) := ⟨_, _, _, rfl⟩
      have HG := Lib.hid hg
      clear hg
      go_wp2_with fail
      refine (get_at _ (by have := HS.out; unfold maxLen; omega) HG.out).mono ?_
      rintro e' w1 ⟨rfl, rfl⟩
      by_cases he : e = 0
      · subst he
        have HR2 := Lib.hid (HR.out.next2 HG.out)
        have c0 := cell_at 2 HN.out
        have z0 := frz_of_row 2 HN.out
        simp at c0
        go_wp2_with fail
        go_roundw
        case rel => exact ⟨3, q, x, y, n, .inr (.inr (.inr ⟨rfl, rfl⟩)), rfl, HR2, Lib.hid (by have := heap_set (j := 2) (.int .u64 n) HN.out; unfold Nums; simpa using this), Lib.hid (by have := HQ.out; unfold FrAt; rw [heap_off _ (by omega)]; exact HF.out), Lib.hid (HB.out.setCell (p := ⟨q4, 2, none⟩) (by have := HQ.out; dsimp only; omega) _)⟩
        case measure => simp [intOf]
      · have hne : ((e : Int) != 0) = true := by simp [he]
        have HD2 := Lib.hid (HR.out.err (by decide) HG.out he)
        clear he
        obtain ⟨c0, c1, c2, c3⟩ := HF.out.cells
        have z0 := frz_of_row 0 HF.out
        have z1 := frz_of_row 1 HF.out
        have z2 := frz_of_row 2 HF.out
        have z3 := frz_of_row 3 HF.out
        simp [zeroF] at c0 c1 c2 c3
        go_wp2_with fail
        clear c0 c1 c2 c3 z0 z1 z2 z3
        have HW := Lib.hid (HF.out.set4 zeroF)
        have HB2 := Lib.hid (below_set4 HB.out (q := q2) (by have := HQ.out; omega) zeroF)
        exact fin_ret (x := ((e : Nat) : Int)) HB2.out rfl HW.out (by intro W h0 h1 h2 h3; simp [results, Try.results17, go_sem, h0, h1, h2, h3, zeroF, Fr.v, Fr.cl]) (dret HD.out HD2.out)
    · have hle := HR.out.le
      have HL := Lib.hid hle
      have hp1 : (a : Int) ≤ (s.size : Int) := by omega
      clear hle
      have c0 := cell_at 0 HN.out
      have c1 := cell_at 1 HN.out
      have c2 := cell_at 2 HN.out
      simp at c0 c1 c2
      go_wp2_with fail
      refine wp_region_held_drew (S := fun u => u.cell? ⟨q4, 0, none⟩ = some (.int .u64 x) ∧ u.cell? ⟨q4, 1, none⟩ = some (.int .u64 y) ∧ u.cell? ⟨q4, 2, none⟩ = some (.int .u64 z)) (by kernel_rfl) ⟨c0, c1, c2⟩ (fun hHeld => ?_)
      clear c0 c1 c2
      refine wpAnyH_take (i := 0) (oi := ?o1) (v := ?v1) ?i1 (by kernel_rfl) (by kernel_rfl) (by kernel_rfl) ?q1 (Or.inl ⟨?w1, ?y1⟩) (by assumption) ?r1
      case' i1 => simp only [List.getElem?_toArray, List.getElem?_cons_succ, List.getElem?_cons_zero]
      case i1 => rfl
      case q1 => exact fun _ _ _ h => h
      case w1 => rfl
      case y1 => (intro w hSw; obtain ⟨k0, k1, k2⟩ := hSw; go_simp) <;> with_reducible rfl
      try simp only [Act.put, List.setIfInBounds_toArray, List.set_cons_zero, List.set_cons_succ]
      refine wpAnyH_take (i := 1) (oi := ?o2) (v := ?v2) ?i2 (by kernel_rfl) (by kernel_rfl) (by kernel_rfl) ?q2 (Or.inl ⟨?w2, ?y2⟩) (by assumption) ?r2
      case' i2 => simp only [List.getElem?_toArray, List.getElem?_cons_succ, List.getElem?_cons_zero]
      case i2 => rfl
      case q2 => exact fun _ _ _ h => h
      case w2 => rfl
      case y2 => (intro w hSw; obtain ⟨k0, k1, k2⟩ := hSw; go_simp) <;> with_reducible rfl
      try simp only [Act.put, List.setIfInBounds_toArray, List.set_cons_zero, List.set_cons_succ]
      refine wpAnyH_take (i := 2) (oi := ?o3) (v := ?v3) ?i3 (by kernel_rfl) (by kernel_rfl) (by kernel_rfl) ?q3 (Or.inl ⟨?w3, ?y3⟩) (by assumption) ?r3
      case' i3 => simp only [List.getElem?_toArray, List.getElem?_cons_succ, List.getElem?_cons_zero]
      case i3 => rfl
      case q3 => exact fun _ _ _ h => h
      case w3 => rfl
      case y3 => (intro w hSw; obtain ⟨k0, k1, k2⟩ := hSw; go_simp) <;> with_reducible rfl
      try simp only [Act.put, List.setIfInBounds_toArray, List.set_cons_zero, List.set_cons_succ]
      refine wpAnyH_take (i := 3) (oi := ?o4) (v := ?v4) ?i4 (by kernel_rfl) (by kernel_rfl) (by kernel_rfl) ?q4 (Or.inl ⟨?w4, ?y4⟩) (by assumption) ?r4
      case' i4 => simp only [List.getElem?_toArray, List.getElem?_cons_succ, List.getElem?_cons_zero]
      case i4 => rfl
      case q4 => exact fun _ _ _ h => h
      case w4 => rfl
      case y4 => (intro w hSw; obtain ⟨k0, k1, k2⟩ := hSw; go_simp) <;> with_reducible rfl
      try simp only [Act.put, List.setIfInBounds_toArray, List.set_cons_zero, List.set_cons_succ]
      refine wpAnyH_take (i := 4) (oi := ?o5) (v := ?v5) ?i5 (by kernel_rfl) (by kernel_rfl) (by kernel_rfl) ?q5 (Or.inl ⟨?w5, ?y5⟩) (by assumption) ?r5
      case' i5 => simp only [List.getElem?_toArray, List.getElem?_cons_succ, List.getElem?_cons_zero]
      case i5 => rfl
      case q5 => exact fun _ _ _ h => h
      case w5 => rfl
      case y5 => (intro w hSw; obtain ⟨k0, k1, k2⟩ := hSw; go_simp) <;> with_reducible rfl
      try simp only [Act.put, List.setIfInBounds_toArray, List.set_cons_zero, List.set_cons_succ]
      refine wpAnyH_take (i := 5) (oi := ?o6) (v := ?v6) ?i6 (by kernel_rfl) (by kernel_rfl) (by kernel_rfl) ?q6 (Or.inl ⟨?w6, ?y6⟩) (by assumption) ?r6
      case' i6 => simp only [List.getElem?_toArray, List.getElem?_cons_succ, List.getElem?_cons_zero]
      case i6 => rfl
      case q6 => exact fun _ _ _ h => h
      case w6 => rfl
      case y6 => (intro w hSw; obtain ⟨k0, k1, k2⟩ := hSw; go_simp) <;> with_reducible rfl
      try simp only [Act.put, List.setIfInBounds_toArray, List.set_cons_zero, List.set_cons_succ]
      refine wpAnyH_take (i := 6) (oi := ?o7) (v := ?v7) ?i7 (by kernel_rfl) (by kernel_rfl) (by kernel_rfl) ?q7 (Or.inl ⟨?w7, ?y7⟩) (by assumption) ?r7
      case' i7 => simp only [List.getElem?_toArray, List.getElem?_cons_succ, List.getElem?_cons_zero]
      case i7 => rfl
      case q7 => exact fun _ _ _ h => h
      case w7 => rfl
      case y7 => (intro w hSw; obtain ⟨k0, k1, k2⟩ := hSw; go_simp) <;> with_reducible rfl
      try simp only [Act.put, List.setIfInBounds_toArray, List.set_cons_zero, List.set_cons_succ]
      refine wpAnyH_take (i := 7) (oi := ?o8) (v := ?v8) ?i8 (by kernel_rfl) (by kernel_rfl) (by kernel_rfl) ?q8 (Or.inl ⟨?w8, ?y8⟩) (by assumption) ?r8
      case' i8 => simp only [List.getElem?_toArray, List.getElem?_cons_succ, List.getElem?_cons_zero]
      case i8 => rfl
      case q8 => exact fun _ _ _ h => h
      case w8 => rfl
      case y8 => (intro w hSw; obtain ⟨k0, k1, k2⟩ := hSw; go_simp) <;> with_reducible rfl
      try simp only [Act.put, List.setIfInBounds_toArray, List.set_cons_zero, List.set_cons_succ]
      refine wpAnyH_take (i := 8) (oi := ?o9) (v := ?v9) ?i9 (by kernel_rfl) (by kernel_rfl) (by kernel_rfl) ?q9 (Or.inl ⟨?w9, ?y9⟩) (by assumption) ?r9
      case' i9 => simp only [List.getElem?_toArray, List.getElem?_cons_succ, List.getElem?_cons_zero]
      case i9 => rfl
      case q9 => exact fun _ _ _ h => h
      case w9 => rfl
      case y9 => (intro w hSw; obtain ⟨k0, k1, k2⟩ := hSw; go_simp) <;> with_reducible rfl
      try simp only [Act.put, List.setIfInBounds_toArray, List.set_cons_zero, List.set_cons_succ]
      refine wpAnyH_take (i := 9) (oi := ?o10) (v := ?v10) ?i10 (by kernel_rfl) (by kernel_rfl) (by kernel_rfl) ?q10 (Or.inl ⟨?w10, ?y10⟩) (by assumption) ?r10
      case' i10 => simp only [List.getElem?_toArray, List.getElem?_cons_succ, List.getElem?_cons_zero]
      case i10 => rfl
      case q10 => exact fun _ _ _ h => h
      case w10 => rfl
      case y10 => (intro w hSw; obtain ⟨k0, k1, k2⟩ := hSw; go_simp) <;> with_reducible rfl
      try simp only [Act.put, List.setIfInBounds_toArray, List.set_cons_zero, List.set_cons_succ]
      refine wpAnyH_take (i := 10) (oi := ?o11) (v := ?v11) ?i11 (by kernel_rfl) (by kernel_rfl) (by kernel_rfl) ?q11 (Or.inl ⟨?w11, ?y11⟩) (by assumption) ?r11
      case' i11 => simp only [List.getElem?_toArray, List.getElem?_cons_succ, List.getElem?_cons_zero]
      case i11 => rfl
      case q11 => exact fun _ _ _ h => h
      case w11 => rfl
      case y11 => (intro w hSw; obtain ⟨k0, k1, k2⟩ := hSw; go_simp) <;> with_reducible rfl
      try simp only [Act.put, List.setIfInBounds_toArray, List.set_cons_zero, List.set_cons_succ]
      refine wpAnyH_take (i := 11) (oi := ?o12) (v := ?v12) ?i12 (by kernel_rfl) (by kernel_rfl) (by kernel_rfl) ?q12 (Or.inl ⟨?w12, ?y12⟩) (by assumption) ?r12
      case' i12 => simp only [List.getElem?_toArray, List.getElem?_cons_succ, List.getElem?_cons_zero]
      case i12 => rfl
      case q12 => exact fun _ _ _ h => h
      case w12 => rfl
      case y12 => (intro w hSw; obtain ⟨k0, k1, k2⟩ := hSw; go_simp) <;> with_reducible rfl
      try simp only [Act.put, List.setIfInBounds_toArray, List.set_cons_zero, List.set_cons_succ]
      have hH0 := hHeld
      refine wpAnyH_ready (rs := [12]) (by kernel_rfl) (by simp) ?_
      refine AllReadyH.cons (o := ?o13) ?i13 (fun K' hK => ?_) AllReadyH.nil
      case' i13 => simp only [List.getElem?_toArray, List.getElem?_cons_succ, List.getElem?_cons_zero]
      case i13 => rfl
      go_simp
      refine hK.out _ _ ⟨((below_alloc wr _).cell (block_lt_of_cell hH0.1)).trans hH0.1, ((below_alloc wr _).cell (block_lt_of_cell hH0.2.1)).trans hH0.2.1, ((below_alloc wr _).cell (block_lt_of_cell hH0.2.2)).trans hH0.2.2⟩ (fun hHeld => ?_)
      clear hK K'
      try simp only [Act.put, List.setIfInBounds_toArray, List.set_cons_zero, List.set_cons_succ]
      refine wpAnyH_ready (rs := [13]) (by kernel_rfl) (by simp) ?_
      refine AllReadyH.cons (o := ?o14) ?i14 (fun K' hK => ?_) AllReadyH.nil
      case' i14 => simp only [List.getElem?_toArray, List.getElem?_cons_succ, List.getElem?_cons_zero]
      case i14 => rfl
      go_simp
      refine hK.out _ _ ⟨((below_alloc wr _).cell (block_lt_of_cell hH0.1)).trans hH0.1, ((below_alloc wr _).cell (block_lt_of_cell hH0.2.1)).trans hH0.2.1, ((below_alloc wr _).cell (block_lt_of_cell hH0.2.2)).trans hH0.2.2⟩ (fun hHeld => ?_)
      clear hK K'
      try simp only [Act.put, List.setIfInBounds_toArray, List.set_cons_zero, List.set_cons_succ]
      refine wpAnyH_done (by kernel_rfl) ?_ _
      clear hHeld hH0
      obtain ⟨iy, hiy⟩ : ∃ v, IntKind.i64.wrap (y : Int) = v := ⟨_, rfl⟩
      obtain ⟨iz, hiz⟩ : ∃ v, IntKind.i64.wrap (z : Int) = v := ⟨_, rfl⟩
      obtain ⟨sx, hsx⟩ : ∃ v, s.extract a s.size = v := ⟨_, rfl⟩
      rw [hiy, hiz, hsx]
      obtain ⟨u, hu⟩ : ∃ u, u = (wr.alloc (.cells #[.int .u64 x, .int .i64 iy, .int .i64 iz, .string sx] 26)).drew := ⟨_, rfl⟩
      obtain ⟨qf, hqf⟩ : ∃ q, q = wr.heap.size := ⟨_, rfl⟩
      have hX : FrAt 26 u qf ⟨x, iy, iz, sx⟩ := by rw [hu, hqf]; exact heap_alloc_new wr _
      have hb : Below wr.heap.size wr u := by rw [hu]; exact below_drewn (below_alloc wr _)
      have HX := Lib.hid hX
      have HQF : Hid (w.heap.size ≤ qf ∧ q2 ≠ qf) := Lib.hid (by have := HB.out.size; have := HF.out.lt; omega)
      replace HF := Lib.hid (HF.out.below hb)
      replace HB := Lib.hid (HB.out.trans (hb.mono HB.out.size))
      have HRW : Hid (rightF ⟨x, iy, iz, sx⟩ = rightF ⟨x, y, z, sx⟩) := Lib.hid (by rw [← hiy, ← hiz]; exact right_wrap x y z sx HL.out.2.2.1 HL.out.2.2.2)
      have HDE : Hid (decF s = decEnd ⟨x, y, z, sx⟩) := Lib.hid (by rw [← hsx]; exact HR.out.all)
      have HSX : Hid (sx.size ≤ 1000000) := Lib.hid (by have := HS.out; rw [← hsx]; simp; omega)
      have HIY := Lib.hid (And.intro hiy hiz)
      rw [← hu, ← hqf]
      clear hiy hiz hsx hu hqf hX hb HR HN
      cases hr : rightF ⟨x, iy, iz, sx⟩ with
      | false =>
        have HR := Lib.hid hr
        have HD2 : Hid (decF s = (zeroF, 3)) := Lib.hid (by rw [HDE.out, decEnd, ← HRW.out, if_neg (by rw [hr]; decide)])
        clear hr
        obtain ⟨c0, c1, c2, c3⟩ := HX.out.cells
        go_wp2_with fail
        clear c0 c1 c2 c3
        refine (right_f x iy iz sx _ (by have := HSX.out; unfold maxLen; omega) false HR).mono ?_
        rintro e w1 ⟨rfl, hb⟩
        replace HF := Lib.hid (HF.out.below hb)
        replace HB := Lib.hid (HB.out.trans (hb.mono HB.out.size))
        clear hb HX
        obtain ⟨c0, c1, c2, c3⟩ := HF.out.cells
        have z0 := frz_of_row 0 HF.out
        have z1 := frz_of_row 1 HF.out
        have z2 := frz_of_row 2 HF.out
        have z3 := frz_of_row 3 HF.out
        simp [zeroF] at c0 c1 c2 c3
        go_wp2_with fail
        clear c0 c1 c2 c3 z0 z1 z2 z3
        have HW := Lib.hid (HF.out.set4 zeroF)
        have HB2 := Lib.hid (below_set4 HB.out (q := q2) (by have := HQ.out; omega) zeroF)
        exact fin_ret (x := (3 : Int)) HB2.out rfl HW.out (by intro W h0 h1 h2 h3; simp [results, Try.results17, go_sem, h0, h1, h2, h3, zeroF, Fr.v, Fr.cl]) (dret HD.out HD2.out)
      | true =>
        have HR := Lib.hid hr
        have hr2 : rightF ⟨x, y, z, sx⟩ = true := by rw [← HRW.out]; exact hr
        have HD2 : Hid (decF s = (⟨x, y, z, sx⟩, 0)) := Lib.hid (by rw [HDE.out, decEnd, if_pos hr2])
        have hyz : iy = y ∧ iz = z := by
          obtain ⟨_, _, g3, g4, g5, g6, _⟩ := rightF_iff.1 hr2
          dsimp only at g3 g4 g5 g6
          obtain ⟨e1, e2⟩ := HIY.out
          rw [← e1, ← e2]
          exact ⟨i64_wrap (by omega) (by omega), i64_wrap (by omega) (by omega)⟩
        obtain ⟨rfl, rfl⟩ := hyz
        clear hr hr2 HIY HRW HDE
        obtain ⟨c0, c1, c2, c3⟩ := HX.out.cells
        go_wp2_with fail
        clear c0 c1 c2 c3
        refine (right_f x y z sx _ (by have := HSX.out; unfold maxLen; omega) true HR).mono ?_
        rintro e w1 ⟨rfl, hb⟩
        replace HF := Lib.hid (HF.out.below hb)
        replace HX := Lib.hid (HX.out.below hb)
        replace HB := Lib.hid (HB.out.trans (hb.mono HB.out.size))
        clear hb
        obtain ⟨c0, c1, c2, c3⟩ := HX.out.cells
        go_wp2_with fail
        clear c0 c1 c2 c3
        refine (clone_any sx _ HSX.out).mono ?_
        rintro e w2 ⟨rfl, hb⟩
        replace HF := Lib.hid (HF.out.below hb)
        replace HX := Lib.hid (HX.out.below hb)
        replace HB := Lib.hid (HB.out.trans (hb.mono HB.out.size))
        clear hb
        have y3 := HX.out.cells.2.2.2
        have y3f := frz_of_row 3 HX.out
        have HX3 : Hid (FrAt 26 (w2.setCell ⟨qf, 3, none⟩ (.string sx)) qf ⟨x, y, z, sx⟩) := Lib.hid (by have := heap_set (j := 3) (.string sx) HX.out; unfold FrAt; simpa [Fr.cl] using this)
        have HF3 : Hid (FrAt 26 (w2.setCell ⟨qf, 3, none⟩ (.string sx)) q2 zeroF) := Lib.hid (by unfold FrAt; rw [heap_off _ HQF.out.2]; exact HF.out)
        have HB3 : Hid (Below w.heap.size w (w2.setCell ⟨qf, 3, none⟩ (.string sx))) := Lib.hid (HB.out.setCell (p := ⟨qf, 3, none⟩) HQF.out.1 _)
        obtain ⟨b0, b1, b2, b3⟩ := HX3.out.cells
        obtain ⟨c0, c1, c2, c3⟩ := HF3.out.cells
        have z0 := frz_of_row 0 HF3.out
        have z1 := frz_of_row 1 HF3.out
        have z2 := frz_of_row 2 HF3.out
        have z3 := frz_of_row 3 HF3.out
        dsimp only [zeroF] at c0 c1 c2 c3
        dsimp only at b0 b1 b2 b3
        go_wp2_with fail
        clear c0 c1 c2 c3 z0 z1 z2 z3 b0 b1 b2 b3 y3 y3f
        have HW := Lib.hid (HF3.out.set4 ⟨x, y, z, sx⟩)
        have HB2 := Lib.hid (below_set4 HB3.out (q := q2) (by have := HQ.out; omega) ⟨x, y, z, sx⟩)
        exact fin_ret (x := (0 : Int)) HB2.out rfl HW.out (by intro W h0 h1 h2 h3; simp [results, Try.results17, go_sem, h0, h1, h2, h3, Fr.v, Fr.cl]) (dret HD.out HD2.out)
end Go.Proofs.Ytjimkkakcgdgfaa
