/- What Open tells of what is not opened. -/
/- Blocks of several cells that a call owns: what they hold behind stores; two of them beside two stores. -/
/- The steps of Seal and of Open, one behind the other up to the first error: a label that loops goto. -/
import Derived.Test.YtgeonppckeiceaaGreatDoorGp18
import Derived.Test.YtgeonppckeiceaaGreatDoorGp11
import Derived.ScopeJumps
import Derived.WalkMore
import Derived.Deep.RegionHeld3
namespace Go.Proofs.YtgeonppckeiceaaGreatDoor
open Go.RowKit
set_option linter.unusedVariables false
set_option linter.unusedSimpArgs false
section
variable {L : List Tm} {most : Int} {A1 A2 B1 B2 P Q D0 D1 D2 M1 M2 : Tr} {a1 a2 b1 b2 m1 m2 d0 d1 d2 fr slot : Int} {pa pb : Pr} {offer mine : ByteArray} {stamp : Nat} {m : Mg} {p : Pnd} {ps : List Pr} {i : Nat}
theorem InitIs.kind (hI : InitIs L m p A1 B1 B2 P D0 D1 D2 a1 b1 d0 d1 fr slot offer stamp) : m.i 0 = 1 ∧ m.i 4 = slot ∧ m.s = offer ∧ m.i 1 = fr := by
  refine ⟨?_, ?_, ?_, ?_⟩ <;> (rw [hI.form]; rfl)
theorem hOpen_bad {c : Int} {L' : List Tm} {x y : Int} (hI : InitIs L m p A1 B1 B2 P D0 D1 D2 a1 b1 d0 d1 fr slot offer stamp) (hb : Ms.bestE mine.data.toList offer.data.toList = 0)
    (h : openG (x, y) (ps.map Pr.dh) (fun i => (ps.getD i zeroPr).psk slot) offer slot (m.i 6) (m.i 7) (m.i 8) (m.i 9) (m.i 10) most L = (.error c, L')) : hOpen most L (x, y) ps mine m = (zeroOpd, c, L') := by
  obtain ⟨e0, e4, es, _⟩ := hI.kind
  unfold hOpen
  rw [if_neg (by rw [hI.right, e0]; simp), es, if_neg (by rw [hb]; simp), e4, h]
theorem hOpen_ver {x : Int × Int} (hI : InitIs L m p A1 B1 B2 P D0 D1 D2 a1 b1 d0 d1 fr slot offer stamp) (hb : Ms.bestE mine.data.toList offer.data.toList ≠ 0) :
    hOpen most L x ps mine m = (zeroOpd, Ms.bestE mine.data.toList offer.data.toList, L) := by
  obtain ⟨e0, e4, es, _⟩ := hI.kind
  unfold hOpen
  rw [if_neg (by rw [hI.right, e0]; simp), es, if_pos hb]
/-- Whose box it is not. -/
theorem hOpen_box (hf : Gd L) (hI : InitIs L m p A1 B1 B2 P D0 D1 D2 a1 b1 d0 d1 fr slot offer stamp) (hM1 : Nm L M1 m1) (hM2 : Nm L M2 m2) (h0 : Nm L D0 d0) (hne : M2 ≠ B2) (nM1 : M1 ≠ .none) (nM2 : M2 ≠ .none) (n0 : D0 ≠ .none) (n1 : D1 ≠ .none) (n2 : D2 ≠ .none)
    (ho : offer.size ≤ 1000) (hb : Ms.bestE mine.data.toList offer.data.toList = 0) (hr : (L.length : Int) + 60 < most) : ∃ L', hOpen most L (m1, m2) ps mine m = (zeroOpd, 10, L') ∧ Up L L' 60 := by
  obtain ⟨L', e, up⟩ := open_box_no (most := most) (ps := ps.map Pr.dh) (psk := fun i => (ps.getD i zeroPr).psk slot) (slot := slot) (c1 := m.i 9) (c2 := m.i 10) hf hM1 hM2 h0 hI.e hI.ek hI.box hne nM1 nM2 n0 n1 n2 ho (by omega)
  exact ⟨L', hOpen_bad hI hb e, up.mono (by omega)⟩
/-- Who is not known. -/
theorem hOpen_who (hf : Gd L) (h : Ends L A1 A2 B1 B2 a1 a2 b1 b2 pa pb) (hI : InitIs L m p A1 B1 B2 P D0 D1 D2 a1 b1 d0 d1 fr slot offer stamp) (h0 : Nm L D0 d0) (h2 : Nm L D2 d2) (n0 : D0 ≠ .none) (n1 : D1 ≠ .none) (n2 : D2 ≠ .none)
    (hw : whoF (ps.map Pr.dh) pa.dh = none) (ho : offer.size ≤ 1000) (hb : Ms.bestE mine.data.toList offer.data.toList = 0) (hr : (L.length : Int) + 60 < most) : ∃ L', hOpen most L (b1, b2) ps mine m = (zeroOpd, 5, L') ∧ Up L L' 60 := by
  obtain ⟨L', e, up⟩ := open_who_no (most := most) (ps := ps.map Pr.dh) (psk := fun i => (ps.getD i zeroPr).psk slot) (c2 := m.i 10) hf h.sB1 h.sB2 h0 ⟨d2, h2⟩ hI.e hI.ek hI.box hI.c1 h.pA1 hw h.n3 h.n4 n0 n1 n2 ho (by omega)
  exact ⟨L', hOpen_bad hI hb e, up.mono (by omega)⟩
/-- With another secret of both. -/
theorem hOpen_psk (hf : Gd L) (h : Ends L A1 A2 B1 B2 a1 a2 b1 b2 pa pb) (hI : InitIs L m p A1 B1 B2 P D0 D1 D2 a1 b1 d0 d1 fr slot offer stamp) (hQ : Nm L Q ((ps.getD i zeroPr).psk slot)) (hne : Q ≠ P) (nQ : Q ≠ .none) (h0 : Nm L D0 d0) (h2 : Nm L D2 d2) (n0 : D0 ≠ .none) (n1 : D1 ≠ .none) (n2 : D2 ≠ .none)
    (hw : whoF (ps.map Pr.dh) pa.dh = some i) (ho : offer.size ≤ 1000) (hb : Ms.bestE mine.data.toList offer.data.toList = 0) (hr : (L.length : Int) + 60 < most) : ∃ L', hOpen most L (b1, b2) ps mine m = (zeroOpd, 9, L') ∧ Up L L' 60 := by
  obtain ⟨L', e, up⟩ := open_psk_no (most := most) (ps := ps.map Pr.dh) (psk := fun i => (ps.getD i zeroPr).psk slot) hf h.sB1 h.sB2 h0 ⟨d2, h2⟩ hI.e hI.ek hI.box h.sA1 hQ hI.c1 hI.c2 h.pA1 hw hne nQ h.n1 h.n3 h.n4 n0 n1 n2 ho (by omega)
  exact ⟨L', hOpen_bad hI hb e, up.mono (by omega)⟩
/-- To another endpoint, whose box it is. -/
theorem hOpen_c1 (hf : Gd L) (hI : InitIs L m p A1 B1 B2 P D0 D1 D2 a1 b1 d0 d1 fr slot offer stamp) (hM1 : Nm L M1 m1) (hB2 : Nm L B2 b2) (h0 : Nm L D0 d0) (h2 : Nm L D2 d2) (hne : M1 ≠ B1) (nM1 : M1 ≠ .none) (nB2 : B2 ≠ .none) (n0 : D0 ≠ .none) (n1 : D1 ≠ .none) (n2 : D2 ≠ .none)
    (ho : offer.size ≤ 1000) (hb : Ms.bestE mine.data.toList offer.data.toList = 0) (hr : (L.length : Int) + 60 < most) : ∃ L', hOpen most L (m1, b2) ps mine m = (zeroOpd, 9, L') ∧ Up L L' 60 := by
  obtain ⟨L', e, up⟩ := open_c1_no (most := most) (ps := ps.map Pr.dh) (psk := fun i => (ps.getD i zeroPr).psk slot) (slot := slot) (c2 := m.i 10) hf hM1 hB2 h0 ⟨d2, h2⟩ hI.e hI.ek hI.box hI.c1 (fun q => by
    have := q.2.2
    simp only [Yb1, beginY1, Ys.turn, Ys.say, firstY, Tr.hash, Tr.mk.injEq, Tr.pub] at this
    simp [hne] at this) nM1 nB2 n0 n1 n2 ho (by omega)
  exact ⟨L', hOpen_bad hI hb e, up.mono (by omega)⟩
theorem hFinish_kind {y : Int} (h : m.i 0 ≠ 2) : hFinish most L y p m = (zeroSes, 3, L) := by
  unfold hFinish
  rw [if_pos (.inl h)]
theorem hBegin_slot {x : Int × Int} {r : Pr} (h : slot ≠ 0 ∧ slot ≠ 1) : hBegin most L x r fr offer slot stamp d0 d1 d2 = (zeroMg, zeroPnd, 1, L) := by
  unfold hBegin
  rw [if_pos h]
end
end Go.Proofs.YtgeonppckeiceaaGreatDoor
namespace Go.Proofs.YtgeonppckeiceaaGreatDoor
open Go.RowKit
set_option linter.unusedVariables false
set_option linter.unusedSimpArgs false

theorem frz_of_row {w : World} {g : Nat} (j : Nat) {cs : Array Value} {t : TypeId} (h : w.heap[g]? = some (.cells cs t (0, 0))) : w.frozen? ⟨g, j, none⟩ = false := by simp [World.frozen?, h]
theorem row_set {w : World} {b : Nat} {cs : Array Value} {t : TypeId} (i : Nat) (v : Value) (h : w.heap[b]? = some (.cells cs t (0, 0))) : (w.setCell ⟨b, i, none⟩ v).heap[b]? = some (.cells (cs.setIfInBounds i v) t (0, 0)) := by
  have hlt := lt_of_block h
  have h' : w.heap[b] = .cells cs t (0, 0) := by simpa [Array.getElem?_eq_getElem hlt] using h
  show (w.heap.modify b _)[b]? = _
  rw [Array.getElem?_eq_getElem (by simpa using hlt), Array.getElem_modify_self, h']
  rfl
/-- Four cells of a block set, one by one. -/
def set4 (w : World) (b o : Nat) (v0 v1 v2 v3 : Value) : World := (((w.setCell ⟨b, o, none⟩ v0).setCell ⟨b, o + 1, none⟩ v1).setCell ⟨b, o + 2, none⟩ v2).setCell ⟨b, o + 3, none⟩ v3
theorem row_set4 {w : World} {b : Nat} {t : TypeId} {a0 a1 a2 a3 : Value} (v0 v1 v2 v3 : Value) (h : w.heap[b]? = some (.cells #[a0, a1, a2, a3] t (0, 0))) : (set4 w b 0 v0 v1 v2 v3).heap[b]? = some (.cells #[v0, v1, v2, v3] t (0, 0)) := by
  have := row_set 3 v3 (row_set 2 v2 (row_set 1 v1 (row_set 0 v0 h)))
  simp at this
  exact this
theorem set4_other (w : World) (b o k : Nat) (v0 v1 v2 v3 : Value) (h : k ≠ b) : (set4 w b o v0 v1 v2 v3).heap[k]? = w.heap[k]? := by
  unfold set4
  rw [heap_setCell_other _ _ _ _ (by exact h), heap_setCell_other _ _ _ _ (by exact h), heap_setCell_other _ _ _ _ (by exact h), heap_setCell_other _ _ _ _ (by exact h)]
section
variable {base : Nat} {Q1 Q2 : (Nat → Prop) → List Tm → World → Prop} {L1 L2 : List Tm} {K : Nat → Prop} {w0 w : World}
theorem Pair.setAt (g1 : Good base Q1) (g2 : Good base Q2) (h : Pair base Q1 Q2 L1 L2 K w0 w) {b : Nat} (hk : K b) (hb : base ≤ b) (i : Nat) (v : Value) : Pair base Q1 Q2 L1 L2 K w0 (w.setCell ⟨b, i, none⟩ v) := by
  obtain ⟨F1, F2, h1, h2, h3, h4, h5, h6⟩ := h
  have C := Chg.setCell w b i v
  exact ⟨F1, F2, g1.frame h1 C (fun k a e => (h4 b hk).1 (e ▸ a)), g2.frame h2 C (fun k a e => (h4 b hk).2.1 (e ▸ a)), h3, fun k q => ⟨(h4 k q).1, (h4 k q).2.1, by simp; exact (h4 k q).2.2⟩, h5, h6.setCell hb v⟩
theorem Pair.set4 (g1 : Good base Q1) (g2 : Good base Q2) (h : Pair base Q1 Q2 L1 L2 K w0 w) {b : Nat} (hk : K b) (hb : base ≤ b) (o : Nat) (v0 v1 v2 v3 : Value) : Pair base Q1 Q2 L1 L2 K w0 (set4 w b o v0 v1 v2 v3) :=
  (((h.setAt g1 g2 hk hb o v0).setAt g1 g2 hk hb _ v1).setAt g1 g2 hk hb _ v2).setAt g1 g2 hk hb _ v3
/-- Beside two blocks more. -/
def Kb (K : Nat → Prop) (B : Nat) : Nat → Prop := fun k => K k ∨ k = B ∨ k = B + 1
theorem Pair.box1 (g1 : Good base Q1) (g2 : Good base Q2) (h : Pair base Q1 Q2 L1 L2 K w0 w) (a : Array Value) (t : TypeId) :
    Pair base Q1 Q2 L1 L2 (fun k => K k ∨ k = w.heap.size) w0 (w.alloc (.cells a t)) ∧ (w.alloc (.cells a t)).heap[w.heap.size]? = some (.cells a t (0, 0)) ∧ ∀ k, K k → (w.alloc (.cells a t)).heap[k]? = w.heap[k]? :=
  ⟨h.box g1 g2 _, heap_alloc_new w _, fun k hk => heap_alloc_old _ _ (h.klt k hk)⟩
theorem Pair.box2 (g1 : Good base Q1) (g2 : Good base Q2) (h : Pair base Q1 Q2 L1 L2 K w0 w) (a1 a2 : Array Value) (t1 t2 : TypeId) :
    Pair base Q1 Q2 L1 L2 (Kb K w.heap.size) w0 ((w.alloc (.cells a1 t1)).alloc (.cells a2 t2)) ∧ ((w.alloc (.cells a1 t1)).alloc (.cells a2 t2)).heap[w.heap.size]? = some (.cells a1 t1 (0, 0)) ∧
      ((w.alloc (.cells a1 t1)).alloc (.cells a2 t2)).heap[w.heap.size + 1]? = some (.cells a2 t2 (0, 0)) ∧ ∀ k, K k → ((w.alloc (.cells a1 t1)).alloc (.cells a2 t2)).heap[k]? = w.heap[k]? := by
  have hk := h.klt
  refine ⟨((h.box g1 g2 _).box g1 g2 _).less ?_, ?_, ?_, fun k q => ?_⟩
  · rintro k (q | q | q)
    · exact .inl (.inl q)
    · exact .inl (.inr q)
    · exact .inr (by rw [q]; simp)
  · rw [heap_alloc_old _ _ (by simp)]; exact heap_alloc_new w _
  · have := heap_alloc_new (w.alloc (.cells a1 t1)) (.cells a2 t2)
    simpa using this
  · have := hk k q
    rw [heap_alloc_old _ _ (by simp; omega), heap_alloc_old _ _ (by omega)]
end
end Go.Proofs.YtgeonppckeiceaaGreatDoor
namespace Go.Proofs.YtgeonppckeiceaaGreatDoor
open Go.RowKit
set_option linter.unusedVariables false
set_option linter.unusedSimpArgs false
/-- Seven cells of a block set, one by one. -/
def set7 (w : World) (b : Nat) (v0 v1 v2 v3 v4 v5 v6 : Value) : World := (((((((w.setCell ⟨b, 0, none⟩ v0).setCell ⟨b, 1, none⟩ v1).setCell ⟨b, 2, none⟩ v2).setCell ⟨b, 3, none⟩ v3).setCell ⟨b, 4, none⟩ v4).setCell ⟨b, 5, none⟩ v5).setCell ⟨b, 6, none⟩ v6)
def StepC (f : FuncId) (B : Nat) (P Q : World → Prop) (E : Int → World → Prop) : Prop := ∀ W, P W → Calls Tryz.prog f #[.pointer (some ⟨B, 0, none⟩)] W fun e W' => ∃ er : Int, e = .returned (.int .i64 er) ∧ ((er = 0 ∧ Q W') ∨ (er ≠ 0 ∧ E er W'))
def TurnPost (B : Nat) (P4 : World → Prop) (E : Int → World → Prop) (e : Ending) (w' : World) : Prop :=
  (∃ W, ∃ (x0 : Option Addr) (x1 x2 x3 x4 x5 x6 : Int), P4 W ∧ W.heap[B]? = some (.cells #[.pointer x0, .int .i64 x1, .int .i64 x2, .int .i64 x3, .int .u64 x4, .int .i64 x5, .int .i64 x6] 270 (0, 0)) ∧ e = .returned (.tuple #[.agg #[.pointer x0, .int .i64 x1, .int .i64 x2, .int .i64 x3, .int .u64 x4, .int .i64 x5, .int .i64 x6], .int .i64 0]) ∧ w' = set7 W (B + 1) (.pointer x0) (.int .i64 x1) (.int .i64 x2) (.int .i64 x3) (.int .u64 x4) (.int .i64 x5) (.int .i64 x6)) ∨
  (∃ W er, E er W ∧ er ≠ 0 ∧ e = .returned (.tuple #[.agg #[.pointer none, .int .i64 0, .int .i64 0, .int .i64 0, .int .u64 0, .int .i64 0, .int .i64 0], .int .i64 er]) ∧ w' = set7 W (B + 1) (.pointer none) (.int .i64 0) (.int .i64 0) (.int .i64 0) (.int .u64 0) (.int .i64 0) (.int .i64 0))

set_option maxHeartbeats 4000000 in
set_option maxRecDepth 100000 in
theorem inTurn_seal (v0 v1 v2 v3 v4 v5 v6 : Value) (A : Nat) (P0 P1 P2 P3 P4 : World → Prop) (E : Int → World → Prop) (w : World)
    (hs0 : StepC 206 w.heap.size P0 P1 E) (hs1 : StepC 207 w.heap.size P1 P2 E) (hs2 : StepC 208 w.heap.size P2 P3 E) (hs3 : StepC 209 w.heap.size P3 P4 E)
    (hA : ∀ W, P0 W ∨ P1 W ∨ P2 W ∨ P3 W → W.heap[A]? = some (.cells #[.func (.func 206) #[] #[], .func (.func 207) #[] #[], .func (.func 208) #[] #[], .func (.func 209) #[] #[]] 279 (0, 0)))
    (hB : ∀ W, P4 W → ∃ (x0 : Option Addr) (x1 x2 x3 x4 x5 x6 : Int), W.heap[w.heap.size]? = some (.cells #[.pointer x0, .int .i64 x1, .int .i64 x2, .int .i64 x3, .int .u64 x4, .int .i64 x5, .int .i64 x6] 270 (0, 0)))
    (hR : ∀ W, P4 W ∨ (∃ er, E er W) → W.heap[w.heap.size + 1]? = some (.cells #[.pointer none, .int .i64 0, .int .i64 0, .int .i64 0, .int .u64 0, .int .i64 0, .int .i64 0] 270 (0, 0)))
    (h0 : P0 ((w.alloc (.cells #[v0, v1, v2, v3, v4, v5, v6] 270)).alloc (.cells #[.pointer none, .int .i64 0, .int .i64 0, .int .i64 0, .int .u64 0, .int .i64 0, .int .i64 0] 270))) :
    Calls Tryz.prog 205 #[.agg #[v0, v1, v2, v3, v4, v5, v6], .slice (some ⟨A, 0, none⟩) 4 4] w (TurnPost w.heap.size P4 E) := by
  have HS0 := Lib.hid hs0
  have HS1 := Lib.hid hs1
  have HS2 := Lib.hid hs2
  have HS3 := Lib.hid hs3
  have HA := Lib.hid hA
  have HB := Lib.hid hB
  have HR := Lib.hid hR
  have H0 := Lib.hid h0
  have c0 := cell_of_row _ _ 0 _ _ _ (hA _ (.inl h0))
  simp at c0
  clear hs0 hs1 hs2 hs3 hA hB hR h0
  go_enter Tryz.func205, Tryz.ntmps205
  go_wp2
  refine wp_scope_jumps 0 (fun a' W => ∃ (i : Nat) (u7 u8 u9 u10 u11 u12 u13 u14 u15 u16 u17 u18 u19 u20 u21 u22 u23 : Value), a' = { tmps := #[.agg #[v0, v1, v2, v3, v4, v5, v6], .slice (some ⟨A, 0, none⟩) 4 4, .pointer (some ⟨w.heap.size, 0, none⟩), undef, .pointer (some ⟨w.heap.size + 1, 0, none⟩), .int .i64 0, .int .i64 (i : Nat), u7, u8, u9, u10, u11, u12, u13, u14, u15, u16, u17, u18, u19, u20, u21, u22, u23], defers := [] } ∧ ((i = 1 ∧ P1 W) ∨ (i = 2 ∧ P2 W) ∨ (i = 3 ∧ P3 W) ∨ (i = 4 ∧ P4 W))) (fun a' _ => 4 - (intOf (a'.tmps.getD 6 undef)).toNat) rfl ?_ ?_
  · go_wp2
    go_step3
    go_wp2_with fail
    refine (HS0.out _ H0.out).mono ?_
    rintro e w1 ⟨er, rfl, ⟨rfl, hP⟩ | ⟨hne, hE⟩⟩
    · clear c0
      have HP := Lib.hid hP
      clear hP
      go_wp2
      go_step3
      exact ⟨rfl, ⟨1, _, _, _, _, _, _, _, _, _, _, _, _, _, _, _, _, _, rfl, .inl ⟨rfl, HP.out⟩⟩⟩

    · clear c0
      have hr := HR.out w1 (.inr ⟨er, hE⟩)
      have hne1 : (er != 0) = true := by simpa using hne
      have HE := Lib.hid hE
      have HNE := Lib.hid hne
      have z0 := cell_of_row w1 _ 0 _ _ _ hr
      have z1 := cell_of_row w1 _ 1 _ _ _ hr
      have z2 := cell_of_row w1 _ 2 _ _ _ hr
      have z3 := cell_of_row w1 _ 3 _ _ _ hr
      have z4 := cell_of_row w1 _ 4 _ _ _ hr
      have z5 := cell_of_row w1 _ 5 _ _ _ hr
      have z6 := cell_of_row w1 _ 6 _ _ _ hr
      simp at z0 z1 z2 z3 z4 z5 z6
      have fz0 := frz_of_row 0 hr
      have fz1 := frz_of_row 1 hr
      have fz2 := frz_of_row 2 hr
      have fz3 := frz_of_row 3 hr
      have fz4 := frz_of_row 4 hr
      have fz5 := frz_of_row 5 hr
      have fz6 := frz_of_row 6 hr
      clear hr hE hne
      go_wp2_with fail
      try simp only [Exit.jump]
      exact bodyPost_ret (v := .tuple #[.agg #[.pointer none, .int .i64 0, .int .i64 0, .int .i64 0, .int .u64 0, .int .i64 0, .int .i64 0], .int .i64 er]) (by simp [results, Tryz.results205, go_sem, z0, z1, z2, z3, z4, z5, z6]) rfl (.inr ⟨_, er, HE.out, HNE.out, rfl, rfl⟩)

  · rintro a' W ⟨i, u7, u8, u9, u10, u11, u12, u13, u14, u15, u16, u17, u18, u19, u20, u21, u22, u23, rfl, ⟨rfl, hP⟩ | ⟨rfl, hP⟩ | ⟨rfl, hP⟩ | ⟨rfl, hP⟩⟩
    · have c := cell_of_row _ _ 1 _ _ _ (HA.out _ (.inr (.inl hP)))
      simp at c
      have HPi := Lib.hid hP
      clear hP
      go_wp2_with fail
      refine (HS1.out _ HPi.out).mono ?_
      rintro e w1 ⟨er, rfl, ⟨rfl, hP⟩ | ⟨hne, hE⟩⟩
      · clear c
        have HP := Lib.hid hP
        clear hP
        go_wp2
        go_step3
        exact ⟨rfl, ⟨2, _, _, _, _, _, _, _, _, _, _, _, _, _, _, _, _, _, rfl, .inr (.inl ⟨rfl, HP.out⟩)⟩, by simp [intOf]⟩

      · clear c
        have hr := HR.out w1 (.inr ⟨er, hE⟩)
        have hne1 : (er != 0) = true := by simpa using hne
        have HE := Lib.hid hE
        have HNE := Lib.hid hne
        have z0 := cell_of_row w1 _ 0 _ _ _ hr
        have z1 := cell_of_row w1 _ 1 _ _ _ hr
        have z2 := cell_of_row w1 _ 2 _ _ _ hr
        have z3 := cell_of_row w1 _ 3 _ _ _ hr
        have z4 := cell_of_row w1 _ 4 _ _ _ hr
        have z5 := cell_of_row w1 _ 5 _ _ _ hr
        have z6 := cell_of_row w1 _ 6 _ _ _ hr
        simp at z0 z1 z2 z3 z4 z5 z6
        have fz0 := frz_of_row 0 hr
        have fz1 := frz_of_row 1 hr
        have fz2 := frz_of_row 2 hr
        have fz3 := frz_of_row 3 hr
        have fz4 := frz_of_row 4 hr
        have fz5 := frz_of_row 5 hr
        have fz6 := frz_of_row 6 hr
        clear hr hE hne
        go_wp2_with fail
        try simp only [Exit.jump]
        exact bodyPost_ret (v := .tuple #[.agg #[.pointer none, .int .i64 0, .int .i64 0, .int .i64 0, .int .u64 0, .int .i64 0, .int .i64 0], .int .i64 er]) (by simp [results, Tryz.results205, go_sem, z0, z1, z2, z3, z4, z5, z6]) rfl (.inr ⟨_, er, HE.out, HNE.out, rfl, rfl⟩)

    · have c := cell_of_row _ _ 2 _ _ _ (HA.out _ (.inr (.inr (.inl hP))))
      simp at c
      have HPi := Lib.hid hP
      clear hP
      go_wp2_with fail
      refine (HS2.out _ HPi.out).mono ?_
      rintro e w1 ⟨er, rfl, ⟨rfl, hP⟩ | ⟨hne, hE⟩⟩
      · clear c
        have HP := Lib.hid hP
        clear hP
        go_wp2
        go_step3
        exact ⟨rfl, ⟨3, _, _, _, _, _, _, _, _, _, _, _, _, _, _, _, _, _, rfl, .inr (.inr (.inl ⟨rfl, HP.out⟩))⟩, by simp [intOf]⟩

      · clear c
        have hr := HR.out w1 (.inr ⟨er, hE⟩)
        have hne1 : (er != 0) = true := by simpa using hne
        have HE := Lib.hid hE
        have HNE := Lib.hid hne
        have z0 := cell_of_row w1 _ 0 _ _ _ hr
        have z1 := cell_of_row w1 _ 1 _ _ _ hr
        have z2 := cell_of_row w1 _ 2 _ _ _ hr
        have z3 := cell_of_row w1 _ 3 _ _ _ hr
        have z4 := cell_of_row w1 _ 4 _ _ _ hr
        have z5 := cell_of_row w1 _ 5 _ _ _ hr
        have z6 := cell_of_row w1 _ 6 _ _ _ hr
        simp at z0 z1 z2 z3 z4 z5 z6
        have fz0 := frz_of_row 0 hr
        have fz1 := frz_of_row 1 hr
        have fz2 := frz_of_row 2 hr
        have fz3 := frz_of_row 3 hr
        have fz4 := frz_of_row 4 hr
        have fz5 := frz_of_row 5 hr
        have fz6 := frz_of_row 6 hr
        clear hr hE hne
        go_wp2_with fail
        try simp only [Exit.jump]
        exact bodyPost_ret (v := .tuple #[.agg #[.pointer none, .int .i64 0, .int .i64 0, .int .i64 0, .int .u64 0, .int .i64 0, .int .i64 0], .int .i64 er]) (by simp [results, Tryz.results205, go_sem, z0, z1, z2, z3, z4, z5, z6]) rfl (.inr ⟨_, er, HE.out, HNE.out, rfl, rfl⟩)

    · have c := cell_of_row _ _ 3 _ _ _ (HA.out _ (.inr (.inr (.inr hP))))
      simp at c
      have HPi := Lib.hid hP
      clear hP
      go_wp2_with fail
      refine (HS3.out _ HPi.out).mono ?_
      rintro e w1 ⟨er, rfl, ⟨rfl, hP⟩ | ⟨hne, hE⟩⟩
      · clear c
        have HP := Lib.hid hP
        clear hP
        go_wp2
        go_step3
        exact ⟨rfl, ⟨4, _, _, _, _, _, _, _, _, _, _, _, _, _, _, _, _, _, rfl, .inr (.inr (.inr ⟨rfl, HP.out⟩))⟩, by simp [intOf]⟩

      · clear c
        have hr := HR.out w1 (.inr ⟨er, hE⟩)
        have hne1 : (er != 0) = true := by simpa using hne
        have HE := Lib.hid hE
        have HNE := Lib.hid hne
        have z0 := cell_of_row w1 _ 0 _ _ _ hr
        have z1 := cell_of_row w1 _ 1 _ _ _ hr
        have z2 := cell_of_row w1 _ 2 _ _ _ hr
        have z3 := cell_of_row w1 _ 3 _ _ _ hr
        have z4 := cell_of_row w1 _ 4 _ _ _ hr
        have z5 := cell_of_row w1 _ 5 _ _ _ hr
        have z6 := cell_of_row w1 _ 6 _ _ _ hr
        simp at z0 z1 z2 z3 z4 z5 z6
        have fz0 := frz_of_row 0 hr
        have fz1 := frz_of_row 1 hr
        have fz2 := frz_of_row 2 hr
        have fz3 := frz_of_row 3 hr
        have fz4 := frz_of_row 4 hr
        have fz5 := frz_of_row 5 hr
        have fz6 := frz_of_row 6 hr
        clear hr hE hne
        go_wp2_with fail
        try simp only [Exit.jump]
        exact bodyPost_ret (v := .tuple #[.agg #[.pointer none, .int .i64 0, .int .i64 0, .int .i64 0, .int .u64 0, .int .i64 0, .int .i64 0], .int .i64 er]) (by simp [results, Tryz.results205, go_sem, z0, z1, z2, z3, z4, z5, z6]) rfl (.inr ⟨_, er, HE.out, HNE.out, rfl, rfl⟩)

    · obtain ⟨x0, x1, x2, x3, x4, x5, x6, hb⟩ := HB.out _ hP
      have hr := HR.out _ (.inl hP)
      have HP := Lib.hid hP
      have HBB := Lib.hid hb
      have b0 := cell_of_row W _ 0 _ _ _ hb
      have b1 := cell_of_row W _ 1 _ _ _ hb
      have b2 := cell_of_row W _ 2 _ _ _ hb
      have b3 := cell_of_row W _ 3 _ _ _ hb
      have b4 := cell_of_row W _ 4 _ _ _ hb
      have b5 := cell_of_row W _ 5 _ _ _ hb
      have b6 := cell_of_row W _ 6 _ _ _ hb
      simp at b0 b1 b2 b3 b4 b5 b6
      have z0 := cell_of_row W _ 0 _ _ _ hr
      have z1 := cell_of_row W _ 1 _ _ _ hr
      have z2 := cell_of_row W _ 2 _ _ _ hr
      have z3 := cell_of_row W _ 3 _ _ _ hr
      have z4 := cell_of_row W _ 4 _ _ _ hr
      have z5 := cell_of_row W _ 5 _ _ _ hr
      have z6 := cell_of_row W _ 6 _ _ _ hr
      simp at z0 z1 z2 z3 z4 z5 z6
      have fz0 := frz_of_row 0 hr
      have fz1 := frz_of_row 1 hr
      have fz2 := frz_of_row 2 hr
      have fz3 := frz_of_row 3 hr
      have fz4 := frz_of_row 4 hr
      have fz5 := frz_of_row 5 hr
      have fz6 := frz_of_row 6 hr
      clear hr hb hP
      go_wp2_with fail
      try simp only [Exit.jump]
      exact bodyPost_ret (v := .tuple #[.agg #[.pointer x0, .int .i64 x1, .int .i64 x2, .int .i64 x3, .int .u64 x4, .int .i64 x5, .int .i64 x6], .int .i64 0]) (by simp [results, Tryz.results205, go_sem, z0, z1, z2, z3, z4, z5, z6, b0, b1, b2, b3, b4, b5, b6]) rfl (.inl ⟨_, x0, x1, x2, x3, x4, x5, x6, HP.out, HBB.out, rfl, rfl⟩)

set_option maxHeartbeats 4000000 in
set_option maxRecDepth 100000 in
theorem inTurn_open (v0 v1 v2 v3 v4 v5 v6 : Value) (A : Nat) (P0 P1 P2 P3 P4 : World → Prop) (E : Int → World → Prop) (w : World)
    (hs0 : StepC 206 w.heap.size P0 P1 E) (hs1 : StepC 212 w.heap.size P1 P2 E) (hs2 : StepC 208 w.heap.size P2 P3 E) (hs3 : StepC 209 w.heap.size P3 P4 E)
    (hA : ∀ W, P0 W ∨ P1 W ∨ P2 W ∨ P3 W → W.heap[A]? = some (.cells #[.func (.func 206) #[] #[], .func (.func 212) #[] #[], .func (.func 208) #[] #[], .func (.func 209) #[] #[]] 279 (0, 0)))
    (hB : ∀ W, P4 W → ∃ (x0 : Option Addr) (x1 x2 x3 x4 x5 x6 : Int), W.heap[w.heap.size]? = some (.cells #[.pointer x0, .int .i64 x1, .int .i64 x2, .int .i64 x3, .int .u64 x4, .int .i64 x5, .int .i64 x6] 270 (0, 0)))
    (hR : ∀ W, P4 W ∨ (∃ er, E er W) → W.heap[w.heap.size + 1]? = some (.cells #[.pointer none, .int .i64 0, .int .i64 0, .int .i64 0, .int .u64 0, .int .i64 0, .int .i64 0] 270 (0, 0)))
    (h0 : P0 ((w.alloc (.cells #[v0, v1, v2, v3, v4, v5, v6] 270)).alloc (.cells #[.pointer none, .int .i64 0, .int .i64 0, .int .i64 0, .int .u64 0, .int .i64 0, .int .i64 0] 270))) :
    Calls Tryz.prog 205 #[.agg #[v0, v1, v2, v3, v4, v5, v6], .slice (some ⟨A, 0, none⟩) 4 4] w (TurnPost w.heap.size P4 E) := by
  have HS0 := Lib.hid hs0
  have HS1 := Lib.hid hs1
  have HS2 := Lib.hid hs2
  have HS3 := Lib.hid hs3
  have HA := Lib.hid hA
  have HB := Lib.hid hB
  have HR := Lib.hid hR
  have H0 := Lib.hid h0
  have c0 := cell_of_row _ _ 0 _ _ _ (hA _ (.inl h0))
  simp at c0
  clear hs0 hs1 hs2 hs3 hA hB hR h0
  go_enter Tryz.func205, Tryz.ntmps205
  go_wp2
  refine wp_scope_jumps 0 (fun a' W => ∃ (i : Nat) (u7 u8 u9 u10 u11 u12 u13 u14 u15 u16 u17 u18 u19 u20 u21 u22 u23 : Value), a' = { tmps := #[.agg #[v0, v1, v2, v3, v4, v5, v6], .slice (some ⟨A, 0, none⟩) 4 4, .pointer (some ⟨w.heap.size, 0, none⟩), undef, .pointer (some ⟨w.heap.size + 1, 0, none⟩), .int .i64 0, .int .i64 (i : Nat), u7, u8, u9, u10, u11, u12, u13, u14, u15, u16, u17, u18, u19, u20, u21, u22, u23], defers := [] } ∧ ((i = 1 ∧ P1 W) ∨ (i = 2 ∧ P2 W) ∨ (i = 3 ∧ P3 W) ∨ (i = 4 ∧ P4 W))) (fun a' _ => 4 - (intOf (a'.tmps.getD 6 undef)).toNat) rfl ?_ ?_
  · go_wp2
    go_step3
    go_wp2_with fail
    refine (HS0.out _ H0.out).mono ?_
    rintro e w1 ⟨er, rfl, ⟨rfl, hP⟩ | ⟨hne, hE⟩⟩
    · clear c0
      have HP := Lib.hid hP
      clear hP
      go_wp2
      go_step3
      exact ⟨rfl, ⟨1, _, _, _, _, _, _, _, _, _, _, _, _, _, _, _, _, _, rfl, .inl ⟨rfl, HP.out⟩⟩⟩

    · clear c0
      have hr := HR.out w1 (.inr ⟨er, hE⟩)
      have hne1 : (er != 0) = true := by simpa using hne
      have HE := Lib.hid hE
      have HNE := Lib.hid hne
      have z0 := cell_of_row w1 _ 0 _ _ _ hr
      have z1 := cell_of_row w1 _ 1 _ _ _ hr
      have z2 := cell_of_row w1 _ 2 _ _ _ hr
      have z3 := cell_of_row w1 _ 3 _ _ _ hr
      have z4 := cell_of_row w1 _ 4 _ _ _ hr
      have z5 := cell_of_row w1 _ 5 _ _ _ hr
      have z6 := cell_of_row w1 _ 6 _ _ _ hr
      simp at z0 z1 z2 z3 z4 z5 z6
      have fz0 := frz_of_row 0 hr
      have fz1 := frz_of_row 1 hr
      have fz2 := frz_of_row 2 hr
      have fz3 := frz_of_row 3 hr
      have fz4 := frz_of_row 4 hr
      have fz5 := frz_of_row 5 hr
      have fz6 := frz_of_row 6 hr
      clear hr hE hne
      go_wp2_with fail
      try simp only [Exit.jump]
      exact bodyPost_ret (v := .tuple #[.agg #[.pointer none, .int .i64 0, .int .i64 0, .int .i64 0, .int .u64 0, .int .i64 0, .int .i64 0], .int .i64 er]) (by simp [results, Tryz.results205, go_sem, z0, z1, z2, z3, z4, z5, z6]) rfl (.inr ⟨_, er, HE.out, HNE.out, rfl, rfl⟩)

  · rintro a' W ⟨i, u7, u8, u9, u10, u11, u12, u13, u14, u15, u16, u17, u18, u19, u20, u21, u22, u23, rfl, ⟨rfl, hP⟩ | ⟨rfl, hP⟩ | ⟨rfl, hP⟩ | ⟨rfl, hP⟩⟩
    · have c := cell_of_row _ _ 1 _ _ _ (HA.out _ (.inr (.inl hP)))
      simp at c
      have HPi := Lib.hid hP
      clear hP
      go_wp2_with fail
      refine (HS1.out _ HPi.out).mono ?_
      rintro e w1 ⟨er, rfl, ⟨rfl, hP⟩ | ⟨hne, hE⟩⟩
      · clear c
        have HP := Lib.hid hP
        clear hP
        go_wp2
        go_step3
        exact ⟨rfl, ⟨2, _, _, _, _, _, _, _, _, _, _, _, _, _, _, _, _, _, rfl, .inr (.inl ⟨rfl, HP.out⟩)⟩, by simp [intOf]⟩

      · clear c
        have hr := HR.out w1 (.inr ⟨er, hE⟩)
        have hne1 : (er != 0) = true := by simpa using hne
        have HE := Lib.hid hE
        have HNE := Lib.hid hne
        have z0 := cell_of_row w1 _ 0 _ _ _ hr
        have z1 := cell_of_row w1 _ 1 _ _ _ hr
        have z2 := cell_of_row w1 _ 2 _ _ _ hr
        have z3 := cell_of_row w1 _ 3 _ _ _ hr
        have z4 := cell_of_row w1 _ 4 _ _ _ hr
        have z5 := cell_of_row w1 _ 5 _ _ _ hr
        have z6 := cell_of_row w1 _ 6 _ _ _ hr
        simp at z0 z1 z2 z3 z4 z5 z6
        have fz0 := frz_of_row 0 hr
        have fz1 := frz_of_row 1 hr
        have fz2 := frz_of_row 2 hr
        have fz3 := frz_of_row 3 hr
        have fz4 := frz_of_row 4 hr
        have fz5 := frz_of_row 5 hr
        have fz6 := frz_of_row 6 hr
        clear hr hE hne
        go_wp2_with fail
        try simp only [Exit.jump]
        exact bodyPost_ret (v := .tuple #[.agg #[.pointer none, .int .i64 0, .int .i64 0, .int .i64 0, .int .u64 0, .int .i64 0, .int .i64 0], .int .i64 er]) (by simp [results, Tryz.results205, go_sem, z0, z1, z2, z3, z4, z5, z6]) rfl (.inr ⟨_, er, HE.out, HNE.out, rfl, rfl⟩)

    · have c := cell_of_row _ _ 2 _ _ _ (HA.out _ (.inr (.inr (.inl hP))))
      simp at c
      have HPi := Lib.hid hP
      clear hP
      go_wp2_with fail
      refine (HS2.out _ HPi.out).mono ?_
      rintro e w1 ⟨er, rfl, ⟨rfl, hP⟩ | ⟨hne, hE⟩⟩
      · clear c
        have HP := Lib.hid hP
        clear hP
        go_wp2
        go_step3
        exact ⟨rfl, ⟨3, _, _, _, _, _, _, _, _, _, _, _, _, _, _, _, _, _, rfl, .inr (.inr (.inl ⟨rfl, HP.out⟩))⟩, by simp [intOf]⟩

      · clear c
        have hr := HR.out w1 (.inr ⟨er, hE⟩)
        have hne1 : (er != 0) = true := by simpa using hne
        have HE := Lib.hid hE
        have HNE := Lib.hid hne
        have z0 := cell_of_row w1 _ 0 _ _ _ hr
        have z1 := cell_of_row w1 _ 1 _ _ _ hr
        have z2 := cell_of_row w1 _ 2 _ _ _ hr
        have z3 := cell_of_row w1 _ 3 _ _ _ hr
        have z4 := cell_of_row w1 _ 4 _ _ _ hr
        have z5 := cell_of_row w1 _ 5 _ _ _ hr
        have z6 := cell_of_row w1 _ 6 _ _ _ hr
        simp at z0 z1 z2 z3 z4 z5 z6
        have fz0 := frz_of_row 0 hr
        have fz1 := frz_of_row 1 hr
        have fz2 := frz_of_row 2 hr
        have fz3 := frz_of_row 3 hr
        have fz4 := frz_of_row 4 hr
        have fz5 := frz_of_row 5 hr
        have fz6 := frz_of_row 6 hr
        clear hr hE hne
        go_wp2_with fail
        try simp only [Exit.jump]
        exact bodyPost_ret (v := .tuple #[.agg #[.pointer none, .int .i64 0, .int .i64 0, .int .i64 0, .int .u64 0, .int .i64 0, .int .i64 0], .int .i64 er]) (by simp [results, Tryz.results205, go_sem, z0, z1, z2, z3, z4, z5, z6]) rfl (.inr ⟨_, er, HE.out, HNE.out, rfl, rfl⟩)

    · have c := cell_of_row _ _ 3 _ _ _ (HA.out _ (.inr (.inr (.inr hP))))
      simp at c
      have HPi := Lib.hid hP
      clear hP
      go_wp2_with fail
      refine (HS3.out _ HPi.out).mono ?_
      rintro e w1 ⟨er, rfl, ⟨rfl, hP⟩ | ⟨hne, hE⟩⟩
      · clear c
        have HP := Lib.hid hP
        clear hP
        go_wp2
        go_step3
        exact ⟨rfl, ⟨4, _, _, _, _, _, _, _, _, _, _, _, _, _, _, _, _, _, rfl, .inr (.inr (.inr ⟨rfl, HP.out⟩))⟩, by simp [intOf]⟩

      · clear c
        have hr := HR.out w1 (.inr ⟨er, hE⟩)
        have hne1 : (er != 0) = true := by simpa using hne
        have HE := Lib.hid hE
        have HNE := Lib.hid hne
        have z0 := cell_of_row w1 _ 0 _ _ _ hr
        have z1 := cell_of_row w1 _ 1 _ _ _ hr
        have z2 := cell_of_row w1 _ 2 _ _ _ hr
        have z3 := cell_of_row w1 _ 3 _ _ _ hr
        have z4 := cell_of_row w1 _ 4 _ _ _ hr
        have z5 := cell_of_row w1 _ 5 _ _ _ hr
        have z6 := cell_of_row w1 _ 6 _ _ _ hr
        simp at z0 z1 z2 z3 z4 z5 z6
        have fz0 := frz_of_row 0 hr
        have fz1 := frz_of_row 1 hr
        have fz2 := frz_of_row 2 hr
        have fz3 := frz_of_row 3 hr
        have fz4 := frz_of_row 4 hr
        have fz5 := frz_of_row 5 hr
        have fz6 := frz_of_row 6 hr
        clear hr hE hne
        go_wp2_with fail
        try simp only [Exit.jump]
        exact bodyPost_ret (v := .tuple #[.agg #[.pointer none, .int .i64 0, .int .i64 0, .int .i64 0, .int .u64 0, .int .i64 0, .int .i64 0], .int .i64 er]) (by simp [results, Tryz.results205, go_sem, z0, z1, z2, z3, z4, z5, z6]) rfl (.inr ⟨_, er, HE.out, HNE.out, rfl, rfl⟩)

    · obtain ⟨x0, x1, x2, x3, x4, x5, x6, hb⟩ := HB.out _ hP
      have hr := HR.out _ (.inl hP)
      have HP := Lib.hid hP
      have HBB := Lib.hid hb
      have b0 := cell_of_row W _ 0 _ _ _ hb
      have b1 := cell_of_row W _ 1 _ _ _ hb
      have b2 := cell_of_row W _ 2 _ _ _ hb
      have b3 := cell_of_row W _ 3 _ _ _ hb
      have b4 := cell_of_row W _ 4 _ _ _ hb
      have b5 := cell_of_row W _ 5 _ _ _ hb
      have b6 := cell_of_row W _ 6 _ _ _ hb
      simp at b0 b1 b2 b3 b4 b5 b6
      have z0 := cell_of_row W _ 0 _ _ _ hr
      have z1 := cell_of_row W _ 1 _ _ _ hr
      have z2 := cell_of_row W _ 2 _ _ _ hr
      have z3 := cell_of_row W _ 3 _ _ _ hr
      have z4 := cell_of_row W _ 4 _ _ _ hr
      have z5 := cell_of_row W _ 5 _ _ _ hr
      have z6 := cell_of_row W _ 6 _ _ _ hr
      simp at z0 z1 z2 z3 z4 z5 z6
      have fz0 := frz_of_row 0 hr
      have fz1 := frz_of_row 1 hr
      have fz2 := frz_of_row 2 hr
      have fz3 := frz_of_row 3 hr
      have fz4 := frz_of_row 4 hr
      have fz5 := frz_of_row 5 hr
      have fz6 := frz_of_row 6 hr
      clear hr hb hP
      go_wp2_with fail
      try simp only [Exit.jump]
      exact bodyPost_ret (v := .tuple #[.agg #[.pointer x0, .int .i64 x1, .int .i64 x2, .int .i64 x3, .int .u64 x4, .int .i64 x5, .int .i64 x6], .int .i64 0]) (by simp [results, Tryz.results205, go_sem, z0, z1, z2, z3, z4, z5, z6, b0, b1, b2, b3, b4, b5, b6]) rfl (.inl ⟨_, x0, x1, x2, x3, x4, x5, x6, HP.out, HBB.out, rfl, rfl⟩)
end Go.Proofs.YtgeonppckeiceaaGreatDoor
