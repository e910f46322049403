/- The calls whose answers the document fixes. -/
import Derived.Test.YtjimkkakcgdgfaaFragP
namespace Go.Proofs.Ytjimkkakcgdgfaa
open Go.RowKit
set_option linter.unusedVariables false
set_option linter.unusedSimpArgs false
set_option maxRecDepth 100000

def fA : Fr := ⟨7, 0, 3, ⟨#[97, 98]⟩⟩
def fB : Fr := ⟨7, 1, 3, ⟨#[99, 100]⟩⟩
def fC : Fr := ⟨7, 2, 3, ⟨#[101]⟩⟩
theorem cut_abc : cutF ⟨#[97, 98, 99, 100, 101]⟩ 7 2 = ([fA, fB, fC], 0) := by kernel_rfl
theorem cut_0 : cutF ⟨#[97, 98, 99, 100, 101]⟩ 0 2 = ([], 1) := by kernel_rfl
theorem cut_17 : cutF ⟨#[97, 97, 97, 97, 97, 97, 97, 97, 97, 97, 97, 97, 97, 97, 97, 97, 97]⟩ 1 1 = ([], 4) := by kernel_rfl
theorem join_abc : joinF [fA, fB, fC] = (⟨#[97, 98, 99, 100, 101]⟩, 0) := by kernel_rfl
theorem join_bc : joinF [fB, fC] = (⟨#[]⟩, 3) := by kernel_rfl
theorem right_B : rightF fB = true := by decide
theorem enc_B : encF fB = ⟨#[7, 1, 3, 99, 100]⟩ := by
  apply list_ext
  rw [enc_list right_B]
  decide +kernel
theorem dec_B : decF ⟨#[7, 1, 3, 99, 100]⟩ = (fB, 0) := by rw [← enc_B]; exact dec_enc right_B
theorem dec_713 : decF ⟨#[7, 1, 3]⟩ = (zeroF, 3) := by kernel_rfl
theorem dec_71 : decF ⟨#[7, 1]⟩ = (zeroF, 2) := by kernel_rfl
theorem dec_733 : decF ⟨#[7, 3, 3, 120]⟩ = (zeroF, 3) := by kernel_rfl
theorem cut_l (s : ByteArray) (id sz : Int) (w : World) (hs : s.size ≤ 1000000) (fs : List Fr) (E : Nat) (er : Int) (h : cutF s id sz = (fs, E)) (he : (E : Int) = er) :
    Calls Try.prog 10 #[.string s, .int .u64 id, .int .i64 sz] w fun e w' => ∃ v, e = .returned (.tuple #[v, .int .i64 er]) ∧ OwnF 26 w.heap.size v fs w' ∧ Below w.heap.size w w' := by
  subst he
  have := cut_f s id sz w hs
  rw [h] at this
  exact this
theorem dec_l (s : ByteArray) (w : World) (hs : s.size ≤ 1000000) (f : Fr) (E : Nat) (er : Int) (cs : Array Value) (hd : decF s = (f, E)) (he : (E : Int) = er) (hc : f.cl = cs) :
    Calls Try.prog 17 #[.string s] w fun e w' => e = .returned (.tuple #[.agg cs, .int .i64 er]) ∧ Below w.heap.size w w' := by
  subst he hc
  exact dec_f s w hs f E hd
theorem join_l (a : Option Addr) (n cap : Nat) (fs : List Fr) (w : World) (hn : n = fs.length) (h : RowF w a cap fs) (hz : ∀ f, f ∈ fs → f.s.size ≤ 1000000) (t : ByteArray) (E : Nat) (er : Int) (hj : joinF fs = (t, E)) (he : (E : Int) = er) :
    Calls Try.prog 12 #[.slice a n cap] w fun e w' => e = .returned (.tuple #[.string t, .int .i64 er]) ∧ Below w.heap.size w w' := by
  subst he
  refine join_f a n cap fs w hn h (fun j hj => ?_) t E (Lib.hid hj)
  have : fs.getD j zeroF ∈ fs := by simp [List.getD, hj]
  exact hz _ this
theorem rowF_tail {w : World} {b off cap : Nat} {f : Fr} {fs : List Fr} (h : RowF w (some ⟨b, off, none⟩) cap (f :: fs)) : RowF w (some ⟨b, off + 4, none⟩) (cap - 1) fs := by
  obtain ⟨h1, h2, b', off', h3⟩ := h
  simp only [List.length_cons] at h1
  obtain ⟨e, _⟩ := h3 0 (by simp)
  injection e with e
  injection e with e1 e2
  subst e1; subst e2
  refine ⟨by omega, by omega, b, off + 4, fun j hj => ⟨rfl, ?_⟩⟩
  obtain ⟨_, c0, c1, c2, c3⟩ := h3 (j + 1) (by simpa using hj)
  rw [show off + (j + 1) * 4 = off + 4 + j * 4 by omega] at c0 c1 c2 c3
  exact ⟨c0, c1, c2, c3⟩
/-- The cells of a row of three. -/
theorem three_cellsF {w : World} {g cap : Nat} {t : TypeId} {base : Nat} {x y z : Fr} (h : OwnF t base (.slice (some ⟨g, 0, none⟩) 3 cap) [x, y, z] w) : RowF w (some ⟨g, 0, none⟩) cap [x, y, z] := by
  obtain ⟨a, c, e, hr⟩ := h.at
  injection e with e1 _ e3
  subst e1; subst e3
  exact hr
def SF (g qd : Nat) (u : World) : Prop := u.cell? ⟨g, 4, none⟩ = some (.int .u64 7) ∧ u.cell? ⟨g, 5, none⟩ = some (.int .i64 1) ∧ u.cell? ⟨g, 6, none⟩ = some (.int .i64 3) ∧ u.cell? ⟨g, 7, none⟩ = some (.string ⟨#[99, 100]⟩) ∧ u.cell? ⟨g, 8, none⟩ = some (.int .u64 7) ∧ u.cell? ⟨g, 9, none⟩ = some (.int .i64 2) ∧ u.cell? ⟨g, 10, none⟩ = some (.int .i64 3) ∧ u.cell? ⟨g, 11, none⟩ = some (.string ⟨#[101]⟩) ∧ u.cell? ⟨qd, 0, none⟩ = some (.int .u64 7) ∧ u.cell? ⟨qd, 1, none⟩ = some (.int .i64 1) ∧ u.cell? ⟨qd, 2, none⟩ = some (.int .i64 3) ∧ u.cell? ⟨qd, 3, none⟩ = some (.string ⟨#[99, 100]⟩)
theorem SF.below {g qd : Nat} {u w : World} (h : SF g qd u) (hb : Below u.heap.size u w) : SF g qd w := by
  obtain ⟨h0, h1, h2, h3, h4, h5, h6, h7, h8, h9, h10, h11⟩ := h
  exact ⟨(hb.cell (block_lt_of_cell h0)).trans h0, (hb.cell (block_lt_of_cell h1)).trans h1, (hb.cell (block_lt_of_cell h2)).trans h2, (hb.cell (block_lt_of_cell h3)).trans h3, (hb.cell (block_lt_of_cell h4)).trans h4, (hb.cell (block_lt_of_cell h5)).trans h5, (hb.cell (block_lt_of_cell h6)).trans h6, (hb.cell (block_lt_of_cell h7)).trans h7, (hb.cell (block_lt_of_cell h8)).trans h8, (hb.cell (block_lt_of_cell h9)).trans h9, (hb.cell (block_lt_of_cell h10)).trans h10, (hb.cell (block_lt_of_cell h11)).trans h11⟩
theorem SF.drewn {g qd : Nat} {u : World} (h : SF g qd u) : SF g qd u.drew := h
theorem three_at {w : World} {g cap : Nat} (h : RowF w (some ⟨g, 0, none⟩) cap [fA, fB, fC]) : w.cell? ⟨g, 4, none⟩ = some (.int .u64 7) ∧ w.cell? ⟨g, 5, none⟩ = some (.int .i64 1) ∧ w.cell? ⟨g, 6, none⟩ = some (.int .i64 3) ∧ w.cell? ⟨g, 7, none⟩ = some (.string ⟨#[99, 100]⟩) ∧ w.cell? ⟨g, 8, none⟩ = some (.int .u64 7) ∧ w.cell? ⟨g, 9, none⟩ = some (.int .i64 2) ∧ w.cell? ⟨g, 10, none⟩ = some (.int .i64 3) ∧ w.cell? ⟨g, 11, none⟩ = some (.string ⟨#[101]⟩) := by
  obtain ⟨_, _, b, off, h3⟩ := h
  obtain ⟨e, _⟩ := h3 0 (by decide)
  injection e with e
  injection e with e1 e2
  subst e1; subst e2
  obtain ⟨_, a0, a1, a2, a3⟩ := h3 1 (by decide)
  obtain ⟨_, b0, b1, b2, b3⟩ := h3 2 (by decide)
  exact ⟨a0, a1, a2, a3, b0, b1, b2, b3⟩
set_option maxHeartbeats 16000000 in
theorem fixed_any (w : World) :
    Calls Try.prog 16 #[] w fun e w' => e = .returned (.bool true) ∧ Below w.heap.size w w' := by
  have HBB : Hid (Below w.heap.size w w) := Lib.hid (Below.refl _ _)
  go_enter Try.func16, Try.ntmps16
  go_wp2_with fail
  refine (cut_l _ 7 2 _ (by decide) [fA, fB, fC] 0 0 cut_abc rfl).mono ?_
  rintro e w1 ⟨v, rfl, ho, hb⟩
  obtain ⟨g, c0, hv⟩ := ho.form (by simp)
  have hv' : v = .slice (some ⟨g, 0, none⟩) 3 c0 := hv
  subst hv'
  have HO := Lib.hid ho
  have HC0 : Hid (3 ≤ c0) := Lib.hid (three_cellsF ho).1
  replace HBB := Lib.hid (HBB.out.trans (hb.mono HBB.out.size))
  clear hb hv ho
  go_wp2_with fail
  refine (cut_l _ 0 2 _ (by decide) [] 1 1 cut_0 rfl).mono ?_
  rintro e w2 ⟨v2, rfl, _, hb⟩
  replace HBB := Lib.hid (HBB.out.trans (hb.mono HBB.out.size))
  try replace HO := Lib.hid (HO.out.below hb)
  try replace HD := Lib.hid (HD.out.below hb)
  clear hb
  go_wp2_with fail
  refine (cut_l _ 1 1 _ (by decide) [] 4 4 cut_17 rfl).mono ?_
  rintro e w3 ⟨v3, rfl, _, hb⟩
  replace HBB := Lib.hid (HBB.out.trans (hb.mono HBB.out.size))
  try replace HO := Lib.hid (HO.out.below hb)
  try replace HD := Lib.hid (HD.out.below hb)
  clear hb
  go_wp2_with fail
  refine (join_l _ 3 c0 [fA, fB, fC] _ rfl (three_cellsF HO.out) (by intro f hf; simp only [List.mem_cons, List.not_mem_nil, or_false] at hf; rcases hf with rfl | rfl | rfl <;> decide) _ 0 0 join_abc rfl).mono ?_
  rintro e w4 ⟨rfl, hb⟩
  replace HBB := Lib.hid (HBB.out.trans (hb.mono HBB.out.size))
  try replace HO := Lib.hid (HO.out.below hb)
  try replace HD := Lib.hid (HD.out.below hb)
  clear hb
  have hc3 : (3 : Int) ≤ c0 := by have := HC0.out; omega
  go_wp2_with fail
  refine (join_l _ 2 (c0 - 1) [fB, fC] _ rfl (rowF_tail (three_cellsF HO.out)) (by intro f hf; simp only [List.mem_cons, List.not_mem_nil, or_false] at hf; rcases hf with rfl | rfl <;> decide) _ 3 3 join_bc rfl).mono ?_
  rintro e w5 ⟨rfl, hb⟩
  replace HBB := Lib.hid (HBB.out.trans (hb.mono HBB.out.size))
  try replace HO := Lib.hid (HO.out.below hb)
  try replace HD := Lib.hid (HD.out.below hb)
  clear hb
  obtain ⟨r4, r5, r6, r7, r8, r9, r10, r11⟩ := three_at (three_cellsF HO.out)
  go_wp2_with fail
  clear r4 r5 r6 r7 r8 r9 r10 r11
  refine (enc_f fB _ (right_wf right_B) _ (Lib.hid enc_B)).mono ?_
  rintro e w6 ⟨rfl, hb⟩
  replace HBB := Lib.hid (HBB.out.trans (hb.mono HBB.out.size))
  try replace HO := Lib.hid (HO.out.below hb)
  try replace HD := Lib.hid (HD.out.below hb)
  clear hb
  go_wp2_with fail
  refine (dec_l _ _ (by decide) fB 0 0 #[.int .u64 7, .int .i64 1, .int .i64 3, .string ⟨#[99, 100]⟩] dec_B rfl rfl).mono ?_
  rintro e w7 ⟨rfl, hb⟩
  replace HBB := Lib.hid (HBB.out.trans (hb.mono HBB.out.size))
  try replace HO := Lib.hid (HO.out.below hb)
  try replace HD := Lib.hid (HD.out.below hb)
  clear hb
  go_wp2_with fail
  obtain ⟨u8, hu8⟩ : ∃ wx, wx = w7.alloc (.cells #[.int .u64 7, .int .i64 1, .int .i64 3, .string ⟨#[99, 100]⟩] 26) := ⟨_, rfl⟩
  have hb : Below w7.heap.size w7 u8 := by rw [hu8]; exact below_alloc _ _
  obtain ⟨qd, hqd⟩ : ∃ q, q = w7.heap.size := ⟨_, rfl⟩
  have HD : Hid (FrAt 26 u8 qd fB) := Lib.hid (by rw [hu8, hqd]; exact heap_alloc_new w7 _)
  rw [← hu8, ← hqd]
  clear hqd
  replace HBB := Lib.hid (HBB.out.trans (hb.mono HBB.out.size))
  replace HO := Lib.hid (HO.out.below hb)
  clear hb hu8
  refine (dec_l _ _ (by decide) zeroF 3 3 #[.int .u64 0, .int .i64 0, .int .i64 0, .string ⟨#[]⟩] dec_713 rfl rfl).mono ?_
  rintro e w9 ⟨rfl, hb⟩
  replace HBB := Lib.hid (HBB.out.trans (hb.mono HBB.out.size))
  try replace HO := Lib.hid (HO.out.below hb)
  try replace HD := Lib.hid (HD.out.below hb)
  clear hb
  go_wp2_with fail
  obtain ⟨u10, hu10⟩ : ∃ wx, wx = w9.alloc (.cells #[.int .u64 0, .int .i64 0, .int .i64 0, .string ⟨#[]⟩] 26) := ⟨_, rfl⟩
  have hb : Below w9.heap.size w9 u10 := by rw [hu10]; exact below_alloc _ _
  replace HD := Lib.hid (HD.out.below hb)
  rw [← hu10]
  replace HBB := Lib.hid (HBB.out.trans (hb.mono HBB.out.size))
  replace HO := Lib.hid (HO.out.below hb)
  clear hb hu10
  refine (dec_l _ _ (by decide) zeroF 2 2 #[.int .u64 0, .int .i64 0, .int .i64 0, .string ⟨#[]⟩] dec_71 rfl rfl).mono ?_
  rintro e w11 ⟨rfl, hb⟩
  replace HBB := Lib.hid (HBB.out.trans (hb.mono HBB.out.size))
  try replace HO := Lib.hid (HO.out.below hb)
  try replace HD := Lib.hid (HD.out.below hb)
  clear hb
  go_wp2_with fail
  obtain ⟨u12, hu12⟩ : ∃ wx, wx = w11.alloc (.cells #[.int .u64 0, .int .i64 0, .int .i64 0, .string ⟨#[]⟩] 26) := ⟨_, rfl⟩
  have hb : Below w11.heap.size w11 u12 := by rw [hu12]; exact below_alloc _ _
  replace HD := Lib.hid (HD.out.below hb)
  rw [← hu12]
  replace HBB := Lib.hid (HBB.out.trans (hb.mono HBB.out.size))
  replace HO := Lib.hid (HO.out.below hb)
  clear hb hu12
  refine (dec_l _ _ (by decide) zeroF 3 3 #[.int .u64 0, .int .i64 0, .int .i64 0, .string ⟨#[]⟩] dec_733 rfl rfl).mono ?_
  rintro e w13 ⟨rfl, hb⟩
  replace HBB := Lib.hid (HBB.out.trans (hb.mono HBB.out.size))
  try replace HO := Lib.hid (HO.out.below hb)
  try replace HD := Lib.hid (HD.out.below hb)
  clear hb
  obtain ⟨r4, r5, r6, r7, r8, r9, r10, r11⟩ := three_at (three_cellsF (show OwnF 26 _ _ _ (w13.alloc (.cells #[.int .u64 0, .int .i64 0, .int .i64 0, .string ⟨#[]⟩] 26)) from HO.out.below (below_alloc _ _)))
  obtain ⟨k0, k1, k2, k3⟩ := (show FrAt 26 (w13.alloc (.cells #[.int .u64 0, .int .i64 0, .int .i64 0, .string ⟨#[]⟩] 26)) qd fB from HD.out.below (below_alloc _ _)).cells
  have eb := fun u => (show (binOp .eql 26 (.agg #[.int .u64 7, .int .i64 1, .int .i64 3, .string ⟨#[99, 100]⟩]) (.agg #[.int .u64 7, .int .i64 1, .int .i64 3, .string ⟨#[99, 100]⟩])).run Try.prog u = .ok (.bool true) u by have := eqlP fB fB u; rw [eqF_self] at this; exact this)
  have ec := fun u => (show (binOp .eql 26 (.agg #[.int .u64 7, .int .i64 2, .int .i64 3, .string ⟨#[101]⟩]) (.agg #[.int .u64 7, .int .i64 2, .int .i64 3, .string ⟨#[101]⟩])).run Try.prog u = .ok (.bool true) u by have := eqlP fC fC u; rw [eqF_self] at this; exact this)
  have hg := guardP
  have kk0 : ((w13.alloc (.cells #[.int .u64 0, .int .i64 0, .int .i64 0, .string ⟨#[]⟩] 26))).cell? ⟨qd, 0, none⟩ = some (.int .u64 7) := k0
  have kk1 : ((w13.alloc (.cells #[.int .u64 0, .int .i64 0, .int .i64 0, .string ⟨#[]⟩] 26))).cell? ⟨qd, 1, none⟩ = some (.int .i64 1) := k1
  have kk2 : ((w13.alloc (.cells #[.int .u64 0, .int .i64 0, .int .i64 0, .string ⟨#[]⟩] 26))).cell? ⟨qd, 2, none⟩ = some (.int .i64 3) := k2
  have kk3 : ((w13.alloc (.cells #[.int .u64 0, .int .i64 0, .int .i64 0, .string ⟨#[]⟩] 26))).cell? ⟨qd, 3, none⟩ = some (.string ⟨#[99, 100]⟩) := k3
  clear k0 k1 k2 k3
  have HSF : Hid (SF g qd (w13.alloc (.cells #[.int .u64 0, .int .i64 0, .int .i64 0, .string ⟨#[]⟩] 26))) := Lib.hid ⟨r4, r5, r6, r7, r8, r9, r10, r11, kk0, kk1, kk2, kk3⟩
  clear r4 r5 r6 r7 r8 r9 r10 r11 kk0 kk1 kk2 kk3
  go_wp2_with fail
  replace HBB : Hid (Below w.heap.size w (w13.alloc (.cells #[.int .u64 0, .int .i64 0, .int .i64 0, .string ⟨#[]⟩] 26))) := Lib.hid (HBB.out.trans ((below_alloc _ _).mono HBB.out.size))
  refine wp_region_held_drew (S := SF g qd) (by kernel_rfl) HSF.out.drewn (fun hHeld => ?_)
  replace HBB := Lib.hid (below_drewn HBB.out)
  clear HSF HO HD
  refine wpAnyH_take (i := 0) (oi := ?o1) (v := ?v1) ?i1 (by kernel_rfl) (by kernel_rfl) (by kernel_rfl) ?q1 (Or.inl ⟨?w1, ?y1⟩) (by assumption) ?r1
  case' i1 => simp only [List.getElem?_toArray, List.getElem?_cons_succ, List.getElem?_cons_zero]
  case i1 => rfl
  case q1 => exact fun _ _ _ h => h
  case w1 => rfl
  case y1 => (intro w hSw; go_simp) <;> with_reducible rfl
  try simp only [Act.put, List.setIfInBounds_toArray, List.set_cons_zero, List.set_cons_succ]
  refine wpAnyH_take (i := 1) (oi := ?o2) (v := ?v2) ?i2 (by kernel_rfl) (by kernel_rfl) (by kernel_rfl) ?q2 (Or.inl ⟨?w2, ?y2⟩) (by assumption) ?r2
  case' i2 => simp only [List.getElem?_toArray, List.getElem?_cons_succ, List.getElem?_cons_zero]
  case i2 => rfl
  case q2 => exact fun _ _ _ h => h
  case w2 => rfl
  case y2 => (intro w hSw; go_simp) <;> with_reducible rfl
  try simp only [Act.put, List.setIfInBounds_toArray, List.set_cons_zero, List.set_cons_succ]
  refine wpAnyH_take (i := 2) (oi := ?o3) (v := ?v3) ?i3 (by kernel_rfl) (by kernel_rfl) (by kernel_rfl) ?q3 (Or.inl ⟨?w3, ?y3⟩) (by assumption) ?r3
  case' i3 => simp only [List.getElem?_toArray, List.getElem?_cons_succ, List.getElem?_cons_zero]
  case i3 => rfl
  case q3 => exact fun _ _ _ h => h
  case w3 => rfl
  case y3 => (intro w hSw; go_simp) <;> with_reducible rfl
  try simp only [Act.put, List.setIfInBounds_toArray, List.set_cons_zero, List.set_cons_succ]
  refine wpAnyH_take (i := 3) (oi := ?o4) (v := ?v4) ?i4 (by kernel_rfl) (by kernel_rfl) (by kernel_rfl) ?q4 (Or.inl ⟨?w4, ?y4⟩) (by assumption) ?r4
  case' i4 => simp only [List.getElem?_toArray, List.getElem?_cons_succ, List.getElem?_cons_zero]
  case i4 => rfl
  case q4 => exact fun _ _ _ h => h
  case w4 => rfl
  case y4 => (intro w hSw; go_simp) <;> with_reducible rfl
  try simp only [Act.put, List.setIfInBounds_toArray, List.set_cons_zero, List.set_cons_succ]
  refine wpAnyH_take (i := 4) (oi := ?o5) (v := ?v5) ?i5 (by kernel_rfl) (by kernel_rfl) (by kernel_rfl) ?q5 (Or.inl ⟨?w5, ?y5⟩) (by assumption) ?r5
  case' i5 => simp only [List.getElem?_toArray, List.getElem?_cons_succ, List.getElem?_cons_zero]
  case i5 => rfl
  case q5 => exact fun _ _ _ h => h
  case w5 => rfl
  case y5 => (intro w hSw; go_simp) <;> with_reducible rfl
  try simp only [Act.put, List.setIfInBounds_toArray, List.set_cons_zero, List.set_cons_succ]
  refine wpAnyH_take (i := 5) (oi := ?o6) (v := ?v6) ?i6 (by kernel_rfl) (by kernel_rfl) (by kernel_rfl) ?q6 (Or.inl ⟨?w6, ?y6⟩) (by assumption) ?r6
  case' i6 => simp only [List.getElem?_toArray, List.getElem?_cons_succ, List.getElem?_cons_zero]
  case i6 => rfl
  case q6 => exact fun _ _ _ h => h
  case w6 => rfl
  case y6 => (intro w hSw; go_simp) <;> with_reducible rfl
  try simp only [Act.put, List.setIfInBounds_toArray, List.set_cons_zero, List.set_cons_succ]
  refine wpAnyH_take (i := 6) (oi := ?o7) (v := ?v7) ?i7 (by kernel_rfl) (by kernel_rfl) (by kernel_rfl) ?q7 (Or.inl ⟨?w7, ?y7⟩) (by assumption) ?r7
  case' i7 => simp only [List.getElem?_toArray, List.getElem?_cons_succ, List.getElem?_cons_zero]
  case i7 => rfl
  case q7 => exact fun _ _ _ h => h
  case w7 => rfl
  case y7 => (intro w hSw; go_simp) <;> with_reducible rfl
  try simp only [Act.put, List.setIfInBounds_toArray, List.set_cons_zero, List.set_cons_succ]
  refine wpAnyH_take (i := 7) (oi := ?o8) (v := ?v8) ?i8 (by kernel_rfl) (by kernel_rfl) (by kernel_rfl) ?q8 (Or.inl ⟨?w8, ?y8⟩) (by assumption) ?r8
  case' i8 => simp only [List.getElem?_toArray, List.getElem?_cons_succ, List.getElem?_cons_zero]
  case i8 => rfl
  case q8 => exact fun _ _ _ h => h
  case w8 => rfl
  case y8 => (intro w hSw; go_simp) <;> with_reducible rfl
  try simp only [Act.put, List.setIfInBounds_toArray, List.set_cons_zero, List.set_cons_succ]
  refine wpAnyH_take (i := 8) (oi := ?o9) (v := ?v9) ?i9 (by kernel_rfl) (by kernel_rfl) (by kernel_rfl) ?q9 (Or.inl ⟨?w9, ?y9⟩) (by assumption) ?r9
  case' i9 => simp only [List.getElem?_toArray, List.getElem?_cons_succ, List.getElem?_cons_zero]
  case i9 => rfl
  case q9 => exact fun _ _ _ h => h
  case w9 => rfl
  case y9 => (intro w hSw; go_simp) <;> with_reducible rfl
  try simp only [Act.put, List.setIfInBounds_toArray, List.set_cons_zero, List.set_cons_succ]
  refine wpAnyH_take (i := 9) (oi := ?o10) (v := ?v10) ?i10 (by kernel_rfl) (by kernel_rfl) (by kernel_rfl) ?q10 (Or.inl ⟨?w10, ?y10⟩) (by assumption) ?r10
  case' i10 => simp only [List.getElem?_toArray, List.getElem?_cons_succ, List.getElem?_cons_zero]
  case i10 => rfl
  case q10 => exact fun _ _ _ h => h
  case w10 => rfl
  case y10 => (intro w hSw; go_simp) <;> with_reducible rfl
  try simp only [Act.put, List.setIfInBounds_toArray, List.set_cons_zero, List.set_cons_succ]
  refine wpAnyH_take (i := 10) (oi := ?o11) (v := ?v11) ?i11 (by kernel_rfl) (by kernel_rfl) (by kernel_rfl) ?q11 (Or.inl ⟨?w11, ?y11⟩) (by assumption) ?r11
  case' i11 => simp only [List.getElem?_toArray, List.getElem?_cons_succ, List.getElem?_cons_zero]
  case i11 => rfl
  case q11 => exact fun _ _ _ h => h
  case w11 => rfl
  case y11 => (intro w hSw; go_simp) <;> with_reducible rfl
  try simp only [Act.put, List.setIfInBounds_toArray, List.set_cons_zero, List.set_cons_succ]
  refine wpAnyH_take (i := 11) (oi := ?o12) (v := ?v12) ?i12 (by kernel_rfl) (by kernel_rfl) (by kernel_rfl) ?q12 (Or.inl ⟨?w12, ?y12⟩) (by assumption) ?r12
  case' i12 => simp only [List.getElem?_toArray, List.getElem?_cons_succ, List.getElem?_cons_zero]
  case i12 => rfl
  case q12 => exact fun _ _ _ h => h
  case w12 => rfl
  case y12 => (intro w hSw; go_simp) <;> with_reducible rfl
  try simp only [Act.put, List.setIfInBounds_toArray, List.set_cons_zero, List.set_cons_succ]
  refine wpAnyH_take (i := 12) (oi := ?o13) (v := ?v13) ?i13 (by kernel_rfl) (by kernel_rfl) (by kernel_rfl) ?q13 (Or.inl ⟨?w13, ?y13⟩) (by assumption) ?r13
  case' i13 => simp only [List.getElem?_toArray, List.getElem?_cons_succ, List.getElem?_cons_zero]
  case i13 => rfl
  case q13 => exact fun _ _ _ h => h
  case w13 => rfl
  case y13 => (intro w hSw; go_simp) <;> with_reducible rfl
  try simp only [Act.put, List.setIfInBounds_toArray, List.set_cons_zero, List.set_cons_succ]
  refine wpAnyH_take (i := 13) (oi := ?o14) (v := ?v14) ?i14 (by kernel_rfl) (by kernel_rfl) (by kernel_rfl) ?q14 (Or.inl ⟨?w14, ?y14⟩) (by assumption) ?r14
  case' i14 => simp only [List.getElem?_toArray, List.getElem?_cons_succ, List.getElem?_cons_zero]
  case i14 => rfl
  case q14 => exact fun _ _ _ h => h
  case w14 => rfl
  case y14 => (intro w hSw; obtain ⟨k0, k1, k2, k3, k4, k5, k6, k7, k8, k9, k10, k11⟩ := hSw; go_simp) <;> with_reducible rfl
  try simp only [Act.put, List.setIfInBounds_toArray, List.set_cons_zero, List.set_cons_succ]
  refine wpAnyH_take (i := 14) (oi := ?o15) (v := ?v15) ?i15 (by kernel_rfl) (by kernel_rfl) (by kernel_rfl) ?q15 (Or.inl ⟨?w15, ?y15⟩) (by assumption) ?r15
  case' i15 => simp only [List.getElem?_toArray, List.getElem?_cons_succ, List.getElem?_cons_zero]
  case i15 => rfl
  case q15 => exact fun _ _ _ h => h
  case w15 => rfl
  case y15 => (intro w hSw; go_simp) <;> with_reducible rfl
  try simp only [Act.put, List.setIfInBounds_toArray, List.set_cons_zero, List.set_cons_succ]
  refine wpAnyH_take (i := 15) (oi := ?o16) (v := ?v16) ?i16 (by kernel_rfl) (by kernel_rfl) (by kernel_rfl) ?q16 (Or.inl ⟨?w16, ?y16⟩) (by assumption) ?r16
  case' i16 => simp only [List.getElem?_toArray, List.getElem?_cons_succ, List.getElem?_cons_zero]
  case i16 => rfl
  case q16 => exact fun _ _ _ h => h
  case w16 => rfl
  case y16 => (intro w hSw; go_simp) <;> with_reducible rfl
  try simp only [Act.put, List.setIfInBounds_toArray, List.set_cons_zero, List.set_cons_succ]
  refine wpAnyH_take (i := 16) (oi := ?o17) (v := ?v17) ?i17 (by kernel_rfl) (by kernel_rfl) (by kernel_rfl) ?q17 (Or.inl ⟨?w17, ?y17⟩) (by assumption) ?r17
  case' i17 => simp only [List.getElem?_toArray, List.getElem?_cons_succ, List.getElem?_cons_zero]
  case i17 => rfl
  case q17 => exact fun _ _ _ h => h
  case w17 => rfl
  case y17 => (intro w hSw; go_simp) <;> with_reducible rfl
  try simp only [Act.put, List.setIfInBounds_toArray, List.set_cons_zero, List.set_cons_succ]
  refine wpAnyH_take (i := 17) (oi := ?o18) (v := ?v18) ?i18 (by kernel_rfl) (by kernel_rfl) (by kernel_rfl) ?q18 (Or.inl ⟨?w18, ?y18⟩) (by assumption) ?r18
  case' i18 => simp only [List.getElem?_toArray, List.getElem?_cons_succ, List.getElem?_cons_zero]
  case i18 => rfl
  case q18 => exact fun _ _ _ h => h
  case w18 => rfl
  case y18 => (intro w hSw; go_simp) <;> with_reducible rfl
  try simp only [Act.put, List.setIfInBounds_toArray, List.set_cons_zero, List.set_cons_succ]
  refine wpAnyH_take (i := 18) (oi := ?o19) (v := ?v19) ?i19 (by kernel_rfl) (by kernel_rfl) (by kernel_rfl) ?q19 (Or.inl ⟨?w19, ?y19⟩) (by assumption) ?r19
  case' i19 => simp only [List.getElem?_toArray, List.getElem?_cons_succ, List.getElem?_cons_zero]
  case i19 => rfl
  case q19 => exact fun _ _ _ h => h
  case w19 => rfl
  case y19 => (intro w hSw; go_simp) <;> with_reducible rfl
  try simp only [Act.put, List.setIfInBounds_toArray, List.set_cons_zero, List.set_cons_succ]
  refine wpAnyH_take (i := 19) (oi := ?o20) (v := ?v20) ?i20 (by kernel_rfl) (by kernel_rfl) (by kernel_rfl) ?q20 (Or.inl ⟨?w20, ?y20⟩) (by assumption) ?r20
  case' i20 => simp only [List.getElem?_toArray, List.getElem?_cons_succ, List.getElem?_cons_zero]
  case i20 => rfl
  case q20 => exact fun _ _ _ h => h
  case w20 => rfl
  case y20 => (intro w hSw; go_simp) <;> with_reducible rfl
  try simp only [Act.put, List.setIfInBounds_toArray, List.set_cons_zero, List.set_cons_succ]
  refine wpAnyH_take (i := 20) (oi := ?o21) (v := ?v21) ?i21 (by kernel_rfl) (by kernel_rfl) (by kernel_rfl) ?q21 (Or.inl ⟨?w21, ?y21⟩) (by assumption) ?r21
  case' i21 => simp only [List.getElem?_toArray, List.getElem?_cons_succ, List.getElem?_cons_zero]
  case i21 => rfl
  case q21 => exact fun _ _ _ h => h
  case w21 => rfl
  case y21 => (intro w hSw; go_simp) <;> with_reducible rfl
  try simp only [Act.put, List.setIfInBounds_toArray, List.set_cons_zero, List.set_cons_succ]
  refine wpAnyH_take (i := 21) (oi := ?o22) (v := ?v22) ?i22 (by kernel_rfl) (by kernel_rfl) (by kernel_rfl) ?q22 (Or.inl ⟨?w22, ?y22⟩) (by assumption) ?r22
  case' i22 => simp only [List.getElem?_toArray, List.getElem?_cons_succ, List.getElem?_cons_zero]
  case i22 => rfl
  case q22 => exact fun _ _ _ h => h
  case w22 => rfl
  case y22 => (intro w hSw; go_simp) <;> with_reducible rfl
  try simp only [Act.put, List.setIfInBounds_toArray, List.set_cons_zero, List.set_cons_succ]
  refine wpAnyH_take (i := 22) (oi := ?o23) (v := ?v23) ?i23 (by kernel_rfl) (by kernel_rfl) (by kernel_rfl) ?q23 (Or.inl ⟨?w23, ?y23⟩) (by assumption) ?r23
  case' i23 => simp only [List.getElem?_toArray, List.getElem?_cons_succ, List.getElem?_cons_zero]
  case i23 => rfl
  case q23 => exact fun _ _ _ h => h
  case w23 => rfl
  case y23 => (intro w hSw; go_simp) <;> with_reducible rfl
  try simp only [Act.put, List.setIfInBounds_toArray, List.set_cons_zero, List.set_cons_succ]
  refine wpAnyH_take (i := 23) (oi := ?o24) (v := ?v24) ?i24 (by kernel_rfl) (by kernel_rfl) (by kernel_rfl) ?q24 (Or.inl ⟨?w24, ?y24⟩) (by assumption) ?r24
  case' i24 => simp only [List.getElem?_toArray, List.getElem?_cons_succ, List.getElem?_cons_zero]
  case i24 => rfl
  case q24 => exact fun _ _ _ h => h
  case w24 => rfl
  case y24 => (intro w hSw; go_simp) <;> with_reducible rfl
  try simp only [Act.put, List.setIfInBounds_toArray, List.set_cons_zero, List.set_cons_succ]
  refine wpAnyH_take (i := 24) (oi := ?o25) (v := ?v25) ?i25 (by kernel_rfl) (by kernel_rfl) (by kernel_rfl) ?q25 (Or.inl ⟨?w25, ?y25⟩) (by assumption) ?r25
  case' i25 => simp only [List.getElem?_toArray, List.getElem?_cons_succ, List.getElem?_cons_zero]
  case i25 => rfl
  case q25 => exact fun _ _ _ h => h
  case w25 => rfl
  case y25 => (intro w hSw; go_simp) <;> with_reducible rfl
  try simp only [Act.put, List.setIfInBounds_toArray, List.set_cons_zero, List.set_cons_succ]
  refine wpAnyH_take (i := 25) (oi := ?o26) (v := ?v26) ?i26 (by kernel_rfl) (by kernel_rfl) (by kernel_rfl) ?q26 (Or.inl ⟨?w26, ?y26⟩) (by assumption) ?r26
  case' i26 => simp only [List.getElem?_toArray, List.getElem?_cons_succ, List.getElem?_cons_zero]
  case i26 => rfl
  case q26 => exact fun _ _ _ h => h
  case w26 => rfl
  case y26 => (intro w hSw; go_simp) <;> with_reducible rfl
  try simp only [Act.put, List.setIfInBounds_toArray, List.set_cons_zero, List.set_cons_succ]
  refine wpAnyH_take (i := 26) (oi := ?o27) (v := ?v27) ?i27 (by kernel_rfl) (by kernel_rfl) (by kernel_rfl) ?q27 (Or.inl ⟨?w27, ?y27⟩) (by assumption) ?r27
  case' i27 => simp only [List.getElem?_toArray, List.getElem?_cons_succ, List.getElem?_cons_zero]
  case i27 => rfl
  case q27 => exact fun _ _ _ h => h
  case w27 => rfl
  case y27 => (intro w hSw; go_simp) <;> with_reducible rfl
  try simp only [Act.put, List.setIfInBounds_toArray, List.set_cons_zero, List.set_cons_succ]
  refine wpAnyH_take (i := 27) (oi := ?o28) (v := ?v28) ?i28 (by kernel_rfl) (by kernel_rfl) (by kernel_rfl) ?q28 (Or.inl ⟨?w28, ?y28⟩) (by assumption) ?r28
  case' i28 => simp only [List.getElem?_toArray, List.getElem?_cons_succ, List.getElem?_cons_zero]
  case i28 => rfl
  case q28 => exact fun _ _ _ h => h
  case w28 => rfl
  case y28 => (intro w hSw; go_simp) <;> with_reducible rfl
  try simp only [Act.put, List.setIfInBounds_toArray, List.set_cons_zero, List.set_cons_succ]
  refine wpAnyH_take (i := 28) (oi := ?o29) (v := ?v29) ?i29 (by kernel_rfl) (by kernel_rfl) (by kernel_rfl) ?q29 (Or.inl ⟨?w29, ?y29⟩) (by assumption) ?r29
  case' i29 => simp only [List.getElem?_toArray, List.getElem?_cons_succ, List.getElem?_cons_zero]
  case i29 => rfl
  case q29 => exact fun _ _ _ h => h
  case w29 => rfl
  case y29 => (intro w hSw; go_simp) <;> with_reducible rfl
  try simp only [Act.put, List.setIfInBounds_toArray, List.set_cons_zero, List.set_cons_succ]
  refine wpAnyH_take (i := 29) (oi := ?o30) (v := ?v30) ?i30 (by kernel_rfl) (by kernel_rfl) (by kernel_rfl) ?q30 (Or.inl ⟨?w30, ?y30⟩) (by assumption) ?r30
  case' i30 => simp only [List.getElem?_toArray, List.getElem?_cons_succ, List.getElem?_cons_zero]
  case i30 => rfl
  case q30 => exact fun _ _ _ h => h
  case w30 => rfl
  case y30 => (intro w hSw; go_simp) <;> with_reducible rfl
  try simp only [Act.put, List.setIfInBounds_toArray, List.set_cons_zero, List.set_cons_succ]
  refine wpAnyH_take (i := 30) (oi := ?o31) (v := ?v31) ?i31 (by kernel_rfl) (by kernel_rfl) (by kernel_rfl) ?q31 (Or.inl ⟨?w31, ?y31⟩) (by assumption) ?r31
  case' i31 => simp only [List.getElem?_toArray, List.getElem?_cons_succ, List.getElem?_cons_zero]
  case i31 => rfl
  case q31 => exact fun _ _ _ h => h
  case w31 => rfl
  case y31 => (intro w hSw; go_simp) <;> with_reducible rfl
  try simp only [Act.put, List.setIfInBounds_toArray, List.set_cons_zero, List.set_cons_succ]
  refine wpAnyH_take (i := 31) (oi := ?o32) (v := ?v32) ?i32 (by kernel_rfl) (by kernel_rfl) (by kernel_rfl) ?q32 (Or.inl ⟨?w32, ?y32⟩) (by assumption) ?r32
  case' i32 => simp only [List.getElem?_toArray, List.getElem?_cons_succ, List.getElem?_cons_zero]
  case i32 => rfl
  case q32 => exact fun _ _ _ h => h
  case w32 => rfl
  case y32 => (intro w hSw; go_simp) <;> with_reducible rfl
  try simp only [Act.put, List.setIfInBounds_toArray, List.set_cons_zero, List.set_cons_succ]
  refine wpAnyH_take (i := 32) (oi := ?o33) (v := ?v33) ?i33 (by kernel_rfl) (by kernel_rfl) (by kernel_rfl) ?q33 (Or.inl ⟨?w33, ?y33⟩) (by assumption) ?r33
  case' i33 => simp only [List.getElem?_toArray, List.getElem?_cons_succ, List.getElem?_cons_zero]
  case i33 => rfl
  case q33 => exact fun _ _ _ h => h
  case w33 => rfl
  case y33 => (intro w hSw; go_simp) <;> with_reducible rfl
  try simp only [Act.put, List.setIfInBounds_toArray, List.set_cons_zero, List.set_cons_succ]
  refine wpAnyH_take (i := 33) (oi := ?o34) (v := ?v34) ?i34 (by kernel_rfl) (by kernel_rfl) (by kernel_rfl) ?q34 (Or.inl ⟨?w34, ?y34⟩) (by assumption) ?r34
  case' i34 => simp only [List.getElem?_toArray, List.getElem?_cons_succ, List.getElem?_cons_zero]
  case i34 => rfl
  case q34 => exact fun _ _ _ h => h
  case w34 => rfl
  case y34 => (intro w hSw; go_simp) <;> with_reducible rfl
  try simp only [Act.put, List.setIfInBounds_toArray, List.set_cons_zero, List.set_cons_succ]
  refine wpAnyH_take (i := 34) (oi := ?o35) (v := ?v35) ?i35 (by kernel_rfl) (by kernel_rfl) (by kernel_rfl) ?q35 (Or.inl ⟨?w35, ?y35⟩) (by assumption) ?r35
  case' i35 => simp only [List.getElem?_toArray, List.getElem?_cons_succ, List.getElem?_cons_zero]
  case i35 => rfl
  case q35 => exact fun _ _ _ h => h
  case w35 => rfl
  case y35 => (intro w hSw; obtain ⟨k0, k1, k2, k3, k4, k5, k6, k7, k8, k9, k10, k11⟩ := hSw; go_simp) <;> with_reducible rfl
  try simp only [Act.put, List.setIfInBounds_toArray, List.set_cons_zero, List.set_cons_succ]
  refine wpAnyH_take (i := 35) (oi := ?o36) (v := ?v36) ?i36 (by kernel_rfl) (by kernel_rfl) (by kernel_rfl) ?q36 (Or.inl ⟨?w36, ?y36⟩) (by assumption) ?r36
  case' i36 => simp only [List.getElem?_toArray, List.getElem?_cons_succ, List.getElem?_cons_zero]
  case i36 => rfl
  case q36 => exact fun _ _ _ h => h
  case w36 => rfl
  case y36 => (intro w hSw; go_simp) <;> with_reducible rfl
  try simp only [Act.put, List.setIfInBounds_toArray, List.set_cons_zero, List.set_cons_succ]
  refine wpAnyH_take (i := 36) (oi := ?o37) (v := ?v37) ?i37 (by kernel_rfl) (by kernel_rfl) (by kernel_rfl) ?q37 (Or.inl ⟨?w37, ?y37⟩) (by assumption) ?r37
  case' i37 => simp only [List.getElem?_toArray, List.getElem?_cons_succ, List.getElem?_cons_zero]
  case i37 => rfl
  case q37 => exact fun _ _ _ h => h
  case w37 => rfl
  case y37 => (intro w hSw; go_simp) <;> with_reducible rfl
  try simp only [Act.put, List.setIfInBounds_toArray, List.set_cons_zero, List.set_cons_succ]
  refine wpAnyH_take (i := 37) (oi := ?o38) (v := ?v38) ?i38 (by kernel_rfl) (by kernel_rfl) (by kernel_rfl) ?q38 (Or.inl ⟨?w38, ?y38⟩) (by assumption) ?r38
  case' i38 => simp only [List.getElem?_toArray, List.getElem?_cons_succ, List.getElem?_cons_zero]
  case i38 => rfl
  case q38 => exact fun _ _ _ h => h
  case w38 => rfl
  case y38 => (intro w hSw; obtain ⟨k0, k1, k2, k3, k4, k5, k6, k7, k8, k9, k10, k11⟩ := hSw; go_simp) <;> with_reducible rfl
  try simp only [Act.put, List.setIfInBounds_toArray, List.set_cons_zero, List.set_cons_succ]
  refine wpAnyH_take (i := 38) (oi := ?o39) (v := ?v39) ?i39 (by kernel_rfl) (by kernel_rfl) (by kernel_rfl) ?q39 (Or.inl ⟨?w39, ?y39⟩) (by assumption) ?r39
  case' i39 => simp only [List.getElem?_toArray, List.getElem?_cons_succ, List.getElem?_cons_zero]
  case i39 => rfl
  case q39 => exact fun _ _ _ h => h
  case w39 => rfl
  case y39 => (intro w hSw; go_simp) <;> with_reducible rfl
  try simp only [Act.put, List.setIfInBounds_toArray, List.set_cons_zero, List.set_cons_succ]
  refine wpAnyH_take (i := 39) (oi := ?o40) (v := ?v40) ?i40 (by kernel_rfl) (by kernel_rfl) (by kernel_rfl) ?q40 (Or.inl ⟨?w40, ?y40⟩) (by assumption) ?r40
  case' i40 => simp only [List.getElem?_toArray, List.getElem?_cons_succ, List.getElem?_cons_zero]
  case i40 => rfl
  case q40 => exact fun _ _ _ h => h
  case w40 => rfl
  case y40 => (intro w hSw; go_simp) <;> with_reducible rfl
  try simp only [Act.put, List.setIfInBounds_toArray, List.set_cons_zero, List.set_cons_succ]
  refine wpAnyH_take (i := 40) (oi := ?o41) (v := ?v41) ?i41 (by kernel_rfl) (by kernel_rfl) (by kernel_rfl) ?q41 (Or.inl ⟨?w41, ?y41⟩) (by assumption) ?r41
  case' i41 => simp only [List.getElem?_toArray, List.getElem?_cons_succ, List.getElem?_cons_zero]
  case i41 => rfl
  case q41 => exact fun _ _ _ h => h
  case w41 => rfl
  case y41 => (intro w hSw; go_simp) <;> with_reducible rfl
  try simp only [Act.put, List.setIfInBounds_toArray, List.set_cons_zero, List.set_cons_succ]
  refine wpAnyH_take (i := 41) (oi := ?o42) (v := ?v42) ?i42 (by kernel_rfl) (by kernel_rfl) (by kernel_rfl) ?q42 (Or.inl ⟨?w42, ?y42⟩) (by assumption) ?r42
  case' i42 => simp only [List.getElem?_toArray, List.getElem?_cons_succ, List.getElem?_cons_zero]
  case i42 => rfl
  case q42 => exact fun _ _ _ h => h
  case w42 => rfl
  case y42 => (intro w hSw; go_simp) <;> with_reducible rfl
  try simp only [Act.put, List.setIfInBounds_toArray, List.set_cons_zero, List.set_cons_succ]
  refine wpAnyH_take (i := 42) (oi := ?o43) (v := ?v43) ?i43 (by kernel_rfl) (by kernel_rfl) (by kernel_rfl) ?q43 (Or.inl ⟨?w43, ?y43⟩) (by assumption) ?r43
  case' i43 => simp only [List.getElem?_toArray, List.getElem?_cons_succ, List.getElem?_cons_zero]
  case i43 => rfl
  case q43 => exact fun _ _ _ h => h
  case w43 => rfl
  case y43 => (intro w hSw; go_simp) <;> with_reducible rfl
  try simp only [Act.put, List.setIfInBounds_toArray, List.set_cons_zero, List.set_cons_succ]
  refine wpAnyH_take (i := 43) (oi := ?o44) (v := ?v44) ?i44 (by kernel_rfl) (by kernel_rfl) (by kernel_rfl) ?q44 (Or.inl ⟨?w44, ?y44⟩) (by assumption) ?r44
  case' i44 => simp only [List.getElem?_toArray, List.getElem?_cons_succ, List.getElem?_cons_zero]
  case i44 => rfl
  case q44 => exact fun _ _ _ h => h
  case w44 => rfl
  case y44 => (intro w hSw; go_simp) <;> with_reducible rfl
  try simp only [Act.put, List.setIfInBounds_toArray, List.set_cons_zero, List.set_cons_succ]
  refine wpAnyH_take (i := 44) (oi := ?o45) (v := ?v45) ?i45 (by kernel_rfl) (by kernel_rfl) (by kernel_rfl) ?q45 (Or.inl ⟨?w45, ?y45⟩) (by assumption) ?r45
  case' i45 => simp only [List.getElem?_toArray, List.getElem?_cons_succ, List.getElem?_cons_zero]
  case i45 => rfl
  case q45 => exact fun _ _ _ h => h
  case w45 => rfl
  case y45 => (intro w hSw; go_simp) <;> with_reducible rfl
  try simp only [Act.put, List.setIfInBounds_toArray, List.set_cons_zero, List.set_cons_succ]
  refine wpAnyH_take (i := 45) (oi := ?o46) (v := ?v46) ?i46 (by kernel_rfl) (by kernel_rfl) (by kernel_rfl) ?q46 (Or.inl ⟨?w46, ?y46⟩) (by assumption) ?r46
  case' i46 => simp only [List.getElem?_toArray, List.getElem?_cons_succ, List.getElem?_cons_zero]
  case i46 => rfl
  case q46 => exact fun _ _ _ h => h
  case w46 => rfl
  case y46 => (intro w hSw; go_simp) <;> with_reducible rfl
  try simp only [Act.put, List.setIfInBounds_toArray, List.set_cons_zero, List.set_cons_succ]
  refine wpAnyH_take (i := 46) (oi := ?o47) (v := ?v47) ?i47 (by kernel_rfl) (by kernel_rfl) (by kernel_rfl) ?q47 (Or.inl ⟨?w47, ?y47⟩) (by assumption) ?r47
  case' i47 => simp only [List.getElem?_toArray, List.getElem?_cons_succ, List.getElem?_cons_zero]
  case i47 => rfl
  case q47 => exact fun _ _ _ h => h
  case w47 => rfl
  case y47 => (intro w hSw; go_simp) <;> with_reducible rfl
  try simp only [Act.put, List.setIfInBounds_toArray, List.set_cons_zero, List.set_cons_succ]
  refine wpAnyH_take (i := 47) (oi := ?o48) (v := ?v48) ?i48 (by kernel_rfl) (by kernel_rfl) (by kernel_rfl) ?q48 (Or.inl ⟨?w48, ?y48⟩) (by assumption) ?r48
  case' i48 => simp only [List.getElem?_toArray, List.getElem?_cons_succ, List.getElem?_cons_zero]
  case i48 => rfl
  case q48 => exact fun _ _ _ h => h
  case w48 => rfl
  case y48 => (intro w hSw; go_simp) <;> with_reducible rfl
  try simp only [Act.put, List.setIfInBounds_toArray, List.set_cons_zero, List.set_cons_succ]
  refine wpAnyH_take (i := 48) (oi := ?o49) (v := ?v49) ?i49 (by kernel_rfl) (by kernel_rfl) (by kernel_rfl) ?q49 (Or.inl ⟨?w49, ?y49⟩) (by assumption) ?r49
  case' i49 => simp only [List.getElem?_toArray, List.getElem?_cons_succ, List.getElem?_cons_zero]
  case i49 => rfl
  case q49 => exact fun _ _ _ h => h
  case w49 => rfl
  case y49 => (intro w hSw; go_simp) <;> with_reducible rfl
  try simp only [Act.put, List.setIfInBounds_toArray, List.set_cons_zero, List.set_cons_succ]
  refine wpAnyH_take (i := 49) (oi := ?o50) (v := ?v50) ?i50 (by kernel_rfl) (by kernel_rfl) (by kernel_rfl) ?q50 (Or.inl ⟨?w50, ?y50⟩) (by assumption) ?r50
  case' i50 => simp only [List.getElem?_toArray, List.getElem?_cons_succ, List.getElem?_cons_zero]
  case i50 => rfl
  case q50 => exact fun _ _ _ h => h
  case w50 => rfl
  case y50 => (intro w hSw; go_simp) <;> with_reducible rfl
  try simp only [Act.put, List.setIfInBounds_toArray, List.set_cons_zero, List.set_cons_succ]
  refine wpAnyH_take (i := 50) (oi := ?o51) (v := ?v51) ?i51 (by kernel_rfl) (by kernel_rfl) (by kernel_rfl) ?q51 (Or.inl ⟨?w51, ?y51⟩) (by assumption) ?r51
  case' i51 => simp only [List.getElem?_toArray, List.getElem?_cons_succ, List.getElem?_cons_zero]
  case i51 => rfl
  case q51 => exact fun _ _ _ h => h
  case w51 => rfl
  case y51 => (intro w hSw; go_simp) <;> with_reducible rfl
  try simp only [Act.put, List.setIfInBounds_toArray, List.set_cons_zero, List.set_cons_succ]
  refine wpAnyH_take (i := 51) (oi := ?o52) (v := ?v52) ?i52 (by kernel_rfl) (by kernel_rfl) (by kernel_rfl) ?q52 (Or.inl ⟨?w52, ?y52⟩) (by assumption) ?r52
  case' i52 => simp only [List.getElem?_toArray, List.getElem?_cons_succ, List.getElem?_cons_zero]
  case i52 => rfl
  case q52 => exact fun _ _ _ h => h
  case w52 => rfl
  case y52 => (intro w hSw; go_simp) <;> with_reducible rfl
  try simp only [Act.put, List.setIfInBounds_toArray, List.set_cons_zero, List.set_cons_succ]
  refine wpAnyH_take (i := 52) (oi := ?o53) (v := ?v53) ?i53 (by kernel_rfl) (by kernel_rfl) (by kernel_rfl) ?q53 (Or.inl ⟨?w53, ?y53⟩) (by assumption) ?r53
  case' i53 => simp only [List.getElem?_toArray, List.getElem?_cons_succ, List.getElem?_cons_zero]
  case i53 => rfl
  case q53 => exact fun _ _ _ h => h
  case w53 => rfl
  case y53 => (intro w hSw; go_simp) <;> with_reducible rfl
  try simp only [Act.put, List.setIfInBounds_toArray, List.set_cons_zero, List.set_cons_succ]
  refine wpAnyH_take (i := 53) (oi := ?o54) (v := ?v54) ?i54 (by kernel_rfl) (by kernel_rfl) (by kernel_rfl) ?q54 (Or.inl ⟨?w54, ?y54⟩) (by assumption) ?r54
  case' i54 => simp only [List.getElem?_toArray, List.getElem?_cons_succ, List.getElem?_cons_zero]
  case i54 => rfl
  case q54 => exact fun _ _ _ h => h
  case w54 => rfl
  case y54 => (intro w hSw; go_simp) <;> with_reducible rfl
  try simp only [Act.put, List.setIfInBounds_toArray, List.set_cons_zero, List.set_cons_succ]
  refine wpAnyH_take (i := 54) (oi := ?o55) (v := ?v55) ?i55 (by kernel_rfl) (by kernel_rfl) (by kernel_rfl) ?q55 (Or.inl ⟨?w55, ?y55⟩) (by assumption) ?r55
  case' i55 => simp only [List.getElem?_toArray, List.getElem?_cons_succ, List.getElem?_cons_zero]
  case i55 => rfl
  case q55 => exact fun _ _ _ h => h
  case w55 => rfl
  case y55 => (intro w hSw; go_simp) <;> with_reducible rfl
  try simp only [Act.put, List.setIfInBounds_toArray, List.set_cons_zero, List.set_cons_succ]
  refine wpAnyH_take (i := 55) (oi := ?o56) (v := ?v56) ?i56 (by kernel_rfl) (by kernel_rfl) (by kernel_rfl) ?q56 (Or.inl ⟨?w56, ?y56⟩) (by assumption) ?r56
  case' i56 => simp only [List.getElem?_toArray, List.getElem?_cons_succ, List.getElem?_cons_zero]
  case i56 => rfl
  case q56 => exact fun _ _ _ h => h
  case w56 => rfl
  case y56 => (intro w hSw; go_simp) <;> with_reducible rfl
  try simp only [Act.put, List.setIfInBounds_toArray, List.set_cons_zero, List.set_cons_succ]
  refine wpAnyH_take (i := 56) (oi := ?o57) (v := ?v57) ?i57 (by kernel_rfl) (by kernel_rfl) (by kernel_rfl) ?q57 (Or.inl ⟨?w57, ?y57⟩) (by assumption) ?r57
  case' i57 => simp only [List.getElem?_toArray, List.getElem?_cons_succ, List.getElem?_cons_zero]
  case i57 => rfl
  case q57 => exact fun _ _ _ h => h
  case w57 => rfl
  case y57 => (intro w hSw; go_simp) <;> with_reducible rfl
  try simp only [Act.put, List.setIfInBounds_toArray, List.set_cons_zero, List.set_cons_succ]
  refine wpAnyH_take (i := 57) (oi := ?o58) (v := ?v58) ?i58 (by kernel_rfl) (by kernel_rfl) (by kernel_rfl) ?q58 (Or.inl ⟨?w58, ?y58⟩) (by assumption) ?r58
  case' i58 => simp only [List.getElem?_toArray, List.getElem?_cons_succ, List.getElem?_cons_zero]
  case i58 => rfl
  case q58 => exact fun _ _ _ h => h
  case w58 => rfl
  case y58 => (intro w hSw; obtain ⟨k0, k1, k2, k3, k4, k5, k6, k7, k8, k9, k10, k11⟩ := hSw; go_simp) <;> with_reducible rfl
  try simp only [Act.put, List.setIfInBounds_toArray, List.set_cons_zero, List.set_cons_succ]
  refine wpAnyH_ready (rs := [58]) (by kernel_rfl) (by simp) ?_
  refine AllReadyH.cons (o := ?o59) ?i59 (fun K' hK => ?_) AllReadyH.nil
  case' i59 => simp only [List.getElem?_toArray, List.getElem?_cons_succ, List.getElem?_cons_zero]
  case i59 => rfl
  go_simp
  go_at_call 20
  refine (right_f 7 1 3 ⟨#[99, 100]⟩ _ (by decide) true (Lib.hid right_B)).mono ?_
  rintro e w' ⟨rfl, hb⟩
  have HBB' := Lib.hid (HBB.out.trans (hb.mono HBB.out.size))
  have hHeld' : SF g qd w' := hHeld.below hb
  clear HBB hb
  have HBB := HBB'
  clear HBB'
  go_wp2_with fail
  refine hK.out _ _ hHeld' (fun _ => ?_)
  clear hK K' hHeld
  have hHeld := hHeld'
  clear hHeld'
  try simp only [Act.put, List.setIfInBounds_toArray, List.set_cons_zero, List.set_cons_succ]
  refine wpAnyH_take (i := 59) (oi := ?o60) (v := ?v60) ?i60 (by kernel_rfl) (by kernel_rfl) (by kernel_rfl) ?q60 (Or.inl ⟨?w60, ?y60⟩) (by assumption) ?r60
  case' i60 => simp only [List.getElem?_toArray, List.getElem?_cons_succ, List.getElem?_cons_zero]
  case i60 => rfl
  case q60 => exact fun _ _ _ h => h
  case w60 => rfl
  case y60 => (intro w hSw; go_simp) <;> with_reducible rfl
  try simp only [Act.put, List.setIfInBounds_toArray, List.set_cons_zero, List.set_cons_succ]
  refine wpAnyH_take (i := 60) (oi := ?o61) (v := ?v61) ?i61 (by kernel_rfl) (by kernel_rfl) (by kernel_rfl) ?q61 (Or.inl ⟨?w61, ?y61⟩) (by assumption) ?r61
  case' i61 => simp only [List.getElem?_toArray, List.getElem?_cons_succ, List.getElem?_cons_zero]
  case i61 => rfl
  case q61 => exact fun _ _ _ h => h
  case w61 => rfl
  case y61 => (intro w hSw; go_simp) <;> with_reducible rfl
  try simp only [Act.put, List.setIfInBounds_toArray, List.set_cons_zero, List.set_cons_succ]
  refine wpAnyH_take (i := 61) (oi := ?o62) (v := ?v62) ?i62 (by kernel_rfl) (by kernel_rfl) (by kernel_rfl) ?q62 (Or.inl ⟨?w62, ?y62⟩) (by assumption) ?r62
  case' i62 => simp only [List.getElem?_toArray, List.getElem?_cons_succ, List.getElem?_cons_zero]
  case i62 => rfl
  case q62 => exact fun _ _ _ h => h
  case w62 => rfl
  case y62 => (intro w hSw; go_simp) <;> with_reducible rfl
  try simp only [Act.put, List.setIfInBounds_toArray, List.set_cons_zero, List.set_cons_succ]
  refine wpAnyH_ready (rs := [62]) (by kernel_rfl) (by simp) ?_
  refine AllReadyH.cons (o := ?o63) ?i63 (fun K' hK => ?_) AllReadyH.nil
  case' i63 => simp only [List.getElem?_toArray, List.getElem?_cons_succ, List.getElem?_cons_zero]
  case i63 => rfl
  go_simp
  go_at_call 20
  refine (right_f 0 0 0 ⟨#[]⟩ _ (by decide) false (Lib.hid right_zero)).mono ?_
  rintro e w' ⟨rfl, hb⟩
  have HBB' := Lib.hid (HBB.out.trans (hb.mono HBB.out.size))
  have hHeld' : SF g qd w' := hHeld.below hb
  clear HBB hb
  have HBB := HBB'
  clear HBB'
  go_wp2_with fail
  refine hK.out _ _ hHeld' (fun _ => ?_)
  clear hK K' hHeld
  have hHeld := hHeld'
  clear hHeld'
  try simp only [Act.put, List.setIfInBounds_toArray, List.set_cons_zero, List.set_cons_succ]
  refine wpAnyH_take (i := 63) (oi := ?o64) (v := ?v64) ?i64 (by kernel_rfl) (by kernel_rfl) (by kernel_rfl) ?q64 (Or.inl ⟨?w64, ?y64⟩) (by assumption) ?r64
  case' i64 => simp only [List.getElem?_toArray, List.getElem?_cons_succ, List.getElem?_cons_zero]
  case i64 => rfl
  case q64 => exact fun _ _ _ h => h
  case w64 => rfl
  case y64 => (intro w hSw; go_simp) <;> with_reducible rfl
  try simp only [Act.put, List.setIfInBounds_toArray, List.set_cons_zero, List.set_cons_succ]
  refine wpAnyH_take (i := 64) (oi := ?o65) (v := ?v65) ?i65 (by kernel_rfl) (by kernel_rfl) (by kernel_rfl) ?q65 (Or.inl ⟨?w65, ?y65⟩) (by assumption) ?r65
  case' i65 => simp only [List.getElem?_toArray, List.getElem?_cons_succ, List.getElem?_cons_zero]
  case i65 => rfl
  case q65 => exact fun _ _ _ h => h
  case w65 => rfl
  case y65 => (intro w hSw; go_simp) <;> with_reducible rfl
  try simp only [Act.put, List.setIfInBounds_toArray, List.set_cons_zero, List.set_cons_succ]
  refine wpAnyH_take (i := 65) (oi := ?o66) (v := ?v66) ?i66 (by kernel_rfl) (by kernel_rfl) (by kernel_rfl) ?q66 (Or.inl ⟨?w66, ?y66⟩) (by assumption) ?r66
  case' i66 => simp only [List.getElem?_toArray, List.getElem?_cons_succ, List.getElem?_cons_zero]
  case i66 => rfl
  case q66 => exact fun _ _ _ h => h
  case w66 => rfl
  case y66 => (intro w hSw; go_simp) <;> with_reducible rfl
  try simp only [Act.put, List.setIfInBounds_toArray, List.set_cons_zero, List.set_cons_succ]
  refine wpAnyH_done (by kernel_rfl) ?_ _
  go_wp2_with fail
  go_ret
  exact ⟨rfl, HBB.out⟩
end Go.Proofs.Ytjimkkakcgdgfaa
