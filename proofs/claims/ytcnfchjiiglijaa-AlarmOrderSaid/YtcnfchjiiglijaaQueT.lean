/- The program's queue: whether it has a number; a step taken: one gone, one moved, one new. -/
import Derived.Test.YtcnfchjiiglijaaQueW
import Derived.Test.YtcnfchjiiglijaaQueP
namespace Go.Proofs.Ytcnfchjiiglijaa
open Go.RowKit
set_option linter.unusedVariables false
set_option linter.unusedSimpArgs false
set_option maxRecDepth 20000
section
variable {w : World} {q m : Nat} {v : Value} {H : List On}
theorem QAt.look (h : QAt w q m v H) (id : Int) : (hasD id H = false ∧ ∀ W : World, W.heap = w.heap → (Instr.lookup 54 (.map (some m)) (.int .u64 id) true).run Try.prog W = .ok (.tuple #[.int .i64 0, .bool false]) W) ∨
    ∃ i : Nat, hasD id H = true ∧ i < H.length ∧ (gt H i).id = id ∧ ∀ W : World, W.heap = w.heap → (Instr.lookup 54 (.map (some m)) (.int .u64 id) true).run Try.prog W = .ok (.tuple #[.int .i64 i, .bool true]) W := by
  have hm : ∀ W : World, W.heap = w.heap → MapP W m (Places H) := fun W e => by
    obtain ⟨es, c, h1, h2⟩ := h.map
    exact ⟨es, c, by rw [e]; exact h1, h2⟩
  cases hb : hasD id H with
  | false =>
    refine .inl ⟨rfl, fun W e => ?_⟩
    rcases (hm W e).run_look Try.underlying54 Try.underlying29 (Try.zeroValue3 _) id with ⟨_, q⟩ | ⟨u, q, _⟩
    · exact q
    · exact absurd q (places_none hb u)
  | true =>
    obtain ⟨o, ho, e⟩ := has_iff.1 hb
    obtain ⟨i, hi, e2⟩ := mem_gt ho
    refine .inr ⟨i, rfl, hi, by rw [e2, e], fun W eW => ?_⟩
    rcases (hm W eW).run_look Try.underlying54 Try.underlying29 (Try.zeroValue3 _) id with ⟨q, _⟩ | ⟨u, q, q2, q3⟩
    · exact absurd ⟨i, hi, rfl, by rw [e2, e]⟩ (q i)
    · rw [q2 i ⟨i, hi, rfl, by rw [e2, e]⟩, q3]
set_option maxHeartbeats 2000000 in
theorem q_has (h : QAt w q m v H) (id : Int) : Calls Try.prog 22 #[.pointer (some ⟨q, 0, none⟩), .int .u64 id] w fun e w' => e = .returned (.bool (hasD id H)) ∧ Below w.heap.size w w' := by
  have c1 := cell_atA 1 h.blk
  simp at c1
  rcases h.look id with ⟨hb, hq⟩ | ⟨i, hb, _, _, hq⟩
  · rw [hb]
    have hq0 := hq w rfl
    clear hq h hb
    go_enter Try.func22, Try.ntmps22
    go_wp2_with fail
    go_ret
    exact ⟨rfl, Below.refl _ _⟩
  · rw [hb]
    have hq0 := hq w rfl
    clear hq h hb
    go_enter Try.func22, Try.ntmps22
    go_wp2_with fail
    go_ret
    exact ⟨rfl, Below.refl _ _⟩
/-- What a step makes of the queue. -/
def Step (w : World) (q m : Nat) (v : Value) (w' : World) (H' : List On) : Prop :=
  ∃ v', QAt w' q m v' H' ∧ HeapOn H'.length H' ∧ Chg (fun k => k = q ∨ k = m ∨ some k = v.ownBlock) w w' ∧ ∀ k, v'.ownBlock = some k → some k = v.ownBlock ∨ w.heap.size ≤ k
theorem QSt.step {w' : World} {H' : List On} (h : QSt w q m v.ownBlock H' w') (hh : HeapOn H'.length H') : Step w q m v w' H' := by
  obtain ⟨v', h1, h2, h3⟩ := h
  exact ⟨v', h1, hh, h2, h3⟩
theorem Step.of {T : Nat → Prop} {u2 w3 w4 : World} {H' : List On} (h : QAt w q m v H) (hb : Below w.heap.size w u2) (hs : QSt u2 q m v.ownBlock H' w3) (hh : HeapOn H'.length H') (hc : Chg T w3 w4) (hT : ∀ k, T k → w.heap.size ≤ k ∧ k < u2.heap.size) : Step w q m v w4 H' := by
  obtain ⟨v', h1, h2, h3⟩ := hs
  have hq := blk_lt h.blk
  have hm := h.map.lt
  have hown : ∀ k, v.ownBlock = some k → k < w.heap.size := fun k hk => by obtain ⟨_, _, cs, r⟩ := h.apart.2 k hk; exact blk_lt r
  have hrow : ∀ k, v'.ownBlock = some k → ¬ T k := fun k hk ht => by
    have := hT k ht
    rcases h3 k hk with r | r
    · have := hown k r.symm; omega
    · omega
  refine ⟨v', h1.chg hc (fun e => by have := hT q e; omega) (fun e => by have := hT m e; omega) hrow, hh, ((Chg.of_below hb).trans h2).wide hc (fun k e => .inr (hT k e).1), fun k hk => ?_⟩
  rcases h3 k hk with r | r
  · exact .inl r
  · exact .inr (Nat.le_trans hb.size r)
/-- The blocks that the call made: kept by the heap's calls. -/
theorem QSt.far {u2 w3 : World} {H' : List On} {o : Obj} {C : Nat} (h : QAt w q m v H) (hs : QSt u2 q m v.ownBlock H' w3) (hC : w.heap.size ≤ C) (ho : u2.heap[C]? = some o) : w3.heap[C]? = some o := by
  obtain ⟨v', h1, h2, h3⟩ := hs
  have hq := blk_lt h.blk
  have hm := h.map.lt
  refine h2.blk ho ?_
  rintro (e | e | e)
  · omega
  · omega
  · obtain ⟨_, _, cs, r⟩ := h.apart.2 C e.symm
    have := blk_lt r
    omega
theorem take_fill {u : World} {C : Nat} (h : u.heap[C]? = some (.cells #[.int .u64 0, .int .u64 0, .bool false] 61 (0, 0))) :
    (u.cell? ⟨C, 0, none⟩ = some (.int .u64 0) ∧ u.cell? ⟨C, 1, none⟩ = some (.int .u64 0) ∧ u.cell? ⟨C, 2, none⟩ = some (.bool false) ∧ u.frozen? ⟨C, 0, none⟩ = false ∧ u.frozen? ⟨C, 1, none⟩ = false ∧ u.frozen? ⟨C, 2, none⟩ = false) :=
  ⟨by rw [cell_atA 0 h]; rfl, by rw [cell_atA 1 h]; rfl, by rw [cell_atA 2 h]; rfl, frz_atA 0 h, frz_atA 1 h, frz_atA 2 h⟩
/-! ### The steps -/ --TAKES
theorem heap_cut {G : List On} {n : Nat} (h : HeapOn n G) (hn : n ≤ G.length) : HeapOn (G.take n).length (G.take n) := by
  have e : (G.take n).length = n := by rw [List.length_take]; omega
  rw [e]
  intro j j0 j1
  rw [gt_takeA (by omega), gt_takeA j1]
  exact h j j0 j1
theorem QSt.trans {u2 u5 w3 : World} {g0 : Option Nat} {H' : List On} (hc : Chg (fun k => k = q ∨ k = m ∨ some k = g0) u2 u5) (hs : QSt u5 q m g0 H' w3) : QSt u2 q m g0 H' w3 := by
  obtain ⟨v', h1, h2, h3⟩ := hs
  exact ⟨v', h1, hc.trans h2, fun k hk => (h3 k hk).imp id (fun r => Nat.le_trans hc.size r)⟩
theorem filled {u : World} {C : Nat} {x y z : Value} (h : u.heap[C]? = some (.cells #[x, y, z] 61 (0, 0))) (a b c : Value) :
    (((u.setCell ⟨C, 0, none⟩ a).setCell ⟨C, 1, none⟩ b).setCell ⟨C, 2, none⟩ c).heap[C]? = some (.cells #[a, b, c] 61 (0, 0)) ∧ Chg (fun k => k = C) u (((u.setCell ⟨C, 0, none⟩ a).setCell ⟨C, 1, none⟩ b).setCell ⟨C, 2, none⟩ c) := by
  refine ⟨?_, ((Chg.setCell _ _ _ _).trans (Chg.setCell _ _ _ _)).trans (Chg.setCell _ _ _ _)⟩
  have h1 := heap_setCell_same u C 0 _ _ a h
  have h2 := heap_setCell_same _ C 1 _ _ b h1
  have h3 := heap_setCell_same _ C 2 _ _ c h2
  simpa using h3
set_option maxHeartbeats 4000000 in
theorem take_gone (id at_ : Int) (h : QAt w q m v H) (hh : HeapOn H.length H) (hL : H.length ≤ 1000) (hb : hasD id H = true) :
    Calls Try.prog 27 #[.pointer (some ⟨q, 0, none⟩), .agg #[.int .u64 id, .int .u64 at_, .bool true]] w fun e w' => ∃ a b c H', e = .returned (.agg #[.int .u64 a, .int .u64 b, .bool c]) ∧ Step w q m v w' H' ∧ ∃ o, o.id = id ∧ (o :: H').Perm H := by
  obtain ⟨u1, hu1⟩ : ∃ u, u = (w.alloc (.cells #[.int .u64 id, .int .u64 at_, .bool true] 61)).alloc (.cells #[.int .u64 0, .int .u64 0, .bool false] 61) := ⟨_, rfl⟩
  have hb1 : Below w.heap.size w u1 := by rw [hu1]; exact (below_alloc w _).trans ((below_alloc _ _).mono (below_alloc w _).size)
  have h1 := h.below hb1
  rcases h1.look id with ⟨hb2, hq⟩ | ⟨i, _, hi, hid, hq⟩
  · rw [hb] at hb2; cases hb2
  have c1 := cell_atA 1 h1.blk
  simp at c1
  have hbx : u1.heap[w.heap.size]? = some (.cells #[.int .u64 id, .int .u64 at_, .bool true] 61 (0, 0)) := by rw [hu1]; exact ((below_alloc _ _).block w.heap.size (by simp)).trans (heap_alloc_new w _)
  have hby : u1.heap[w.heap.size + 1]? = some (.cells #[.int .u64 0, .int .u64 0, .bool false] 61 (0, 0)) := by
    rw [hu1]
    have := heap_alloc_new (w.alloc (.cells #[.int .u64 id, .int .u64 at_, .bool true] 61)) (.cells #[.int .u64 0, .int .u64 0, .bool false] 61)
    rw [World.size_alloc] at this
    exact this
  have hus : w.heap.size + 1 < u1.heap.size := blk_lt hby
  obtain ⟨B, hB⟩ : ∃ B, B = w.heap.size := ⟨_, rfl⟩
  obtain ⟨C, hC⟩ : ∃ C, C = w.heap.size + 1 := ⟨_, rfl⟩
  rw [← hB] at hbx
  rw [← hC] at hby hus
  have b0 := cell_atA 0 hbx
  have b1 := cell_atA 1 hbx
  have b2 := cell_atA 2 hbx
  simp at b0 b1 b2
  have hqd : ∀ k, (Instr.lookup 54 (.map (some m)) (.int .u64 id) true).run Try.prog (u1.drewN k) = .ok (.tuple #[.int .i64 i, .bool true]) (u1.drewN k) := fun k => hq _ rfl
  have HX := Lib.hid (And.intro h (And.intro hb1 (And.intro h1 (And.intro hbx (And.intro hby (And.intro hB (And.intro hC hus)))))))
  have HH := Lib.hid (And.intro hh (And.intro hL hb))
  clear hbx hby hus hq h h1 hb1 hh hL hb
  go_enter Try.func27, Try.ntmps27
  go_wp2_with fail
  rw [← hu1, ← hC, ← hB]
  clear hu1 hB hC
  go_quiet (fail)
  have HI := Lib.hid (And.intro hi hid)
  clear hi hid hqd
  have HQ := Lib.hid (show QAt (u1.drewN nq) q m v H from ⟨HX.out.2.2.1.blk, HX.out.2.2.1.row, HX.out.2.2.1.map, HX.out.2.2.1.once⟩)
  have HBW := Lib.hid (show Below w.heap.size w (u1.drewN nq) from HX.out.2.1.trans (drewN_belowA HX.out.2.1.size nq))
  have HBX := Lib.hid (show (u1.drewN nq).heap[B]? = _ from HX.out.2.2.2.1)
  have HYN := Lib.hid (show (u1.drewN nq).heap[C]? = _ from HX.out.2.2.2.2.1)
  have HUS := Lib.hid (show C < (u1.drewN nq).heap.size from HX.out.2.2.2.2.2.2.2)
  generalize u1.drewN nq = u2 at HQ HBW HBX HYN HUS ⊢
  clear b0 b1 b2 c1
  have b0 := cell_atA 0 HBX.out
  have b1 := cell_atA 1 HBX.out
  have b2 := cell_atA 2 HBX.out
  simp at b0 b1 b2
  clear b0 b1
  go_wp2_with fail
  clear b2
  refine (remove_k (St := QSt u2 q m v.ownBlock) (PV := fun o v _ => v = .iface 59 o.v) (Lib.hid q_len) (Lib.hid q_less) (Lib.hid q_swap) (Lib.hid q_pop) H i _ (Lib.hid (QSt.start HQ.out)) HI.out.1 (by have := HH.out.2.1; omega)).mono ?_
  rintro e w3 ⟨⟨v3, rfl, rfl⟩, hs⟩
  obtain ⟨⟨xi, xa⟩, hx⟩ : ∃ x, gt H i = x := ⟨_, rfl⟩
  rw [hx]
  have HSX := Lib.hid (And.intro hs hx)
  have hc3 := QSt.far HX.out.1 hs (by have := HX.out.2.2.2.2.2.2.1; omega) HYN.out
  have hta := run_assertA (.agg #[.int .u64 xi, .int .u64 xa]) w3
  have hc4 := ((below_alloc w3 (.cells #[.int .u64 xi, .int .u64 xa] 59)).block C (blk_lt hc3)).trans hc3
  obtain ⟨k0, k1, k2, k3, k4, k5⟩ := take_fill hc4
  have HC4 := Lib.hid hc4
  clear hs hx hc3 hc4
  rw [On.form]
  go_wp2_with fail
  try simp only [Exit.inBlock, Exit.then]
  refine bodyPost_ret (v := .agg #[.int .u64 xi, .int .u64 xa, .bool false]) ?_ rfl ?_
  · exact results_cell_row Try.results27 _ _ C 61 _ (0, 0) _ rfl (filled HC4.out (.int .u64 xi) (.int .u64 xa) (.bool false)).1 Try.underlying61 rfl (by kernel_rfl)
  · refine ⟨_, _, _, ((takeF i H).take (H.length - 1)), rfl, ?_, ⟨gt H i, HI.out.2, take_split HI.out.1⟩⟩
    exact Step.of (T := fun k => k = C) HX.out.1 HBW.out HSX.out.1 (heap_cut (take_heap HH.out.1 HI.out.1) (by rw [take_len HI.out.1]; omega)) ((Chg.alloc w3 _ _).trans (filled HC4.out (.int .u64 xi) (.int .u64 xa) (.bool false)).2) (fun k e => by subst e; have := HX.out.2.2.2.2.2.2.1; have := HUS.out; omega)
set_option maxHeartbeats 4000000 in
theorem take_move (id at_ : Int) (h : QAt w q m v H) (hh : HeapOn H.length H) (hL : H.length ≤ 1000) (hb : hasD id H = true) :
    Calls Try.prog 27 #[.pointer (some ⟨q, 0, none⟩), .agg #[.int .u64 id, .int .u64 at_, .bool false]] w fun e w' => ∃ a b c H', e = .returned (.agg #[.int .u64 a, .int .u64 b, .bool c]) ∧ Step w q m v w' H' ∧ ∃ i, i < H.length ∧ (gt H i).id = id ∧ H'.Perm (H.set i ⟨id, at_⟩) := by
  obtain ⟨u1, hu1⟩ : ∃ u, u = (w.alloc (.cells #[.int .u64 id, .int .u64 at_, .bool false] 61)).alloc (.cells #[.int .u64 0, .int .u64 0, .bool false] 61) := ⟨_, rfl⟩
  have hb1 : Below w.heap.size w u1 := by rw [hu1]; exact (below_alloc w _).trans ((below_alloc _ _).mono (below_alloc w _).size)
  have h1 := h.below hb1
  rcases h1.look id with ⟨hb2, hq⟩ | ⟨i, _, hi, hid, hq⟩
  · rw [hb] at hb2; cases hb2
  have c1 := cell_atA 1 h1.blk
  simp at c1
  have hbx : u1.heap[w.heap.size]? = some (.cells #[.int .u64 id, .int .u64 at_, .bool false] 61 (0, 0)) := by rw [hu1]; exact ((below_alloc _ _).block w.heap.size (by simp)).trans (heap_alloc_new w _)
  have hby : u1.heap[w.heap.size + 1]? = some (.cells #[.int .u64 0, .int .u64 0, .bool false] 61 (0, 0)) := by
    rw [hu1]
    have := heap_alloc_new (w.alloc (.cells #[.int .u64 id, .int .u64 at_, .bool false] 61)) (.cells #[.int .u64 0, .int .u64 0, .bool false] 61)
    rw [World.size_alloc] at this
    exact this
  have hus : w.heap.size + 1 < u1.heap.size := blk_lt hby
  obtain ⟨B, hB⟩ : ∃ B, B = w.heap.size := ⟨_, rfl⟩
  obtain ⟨C, hC⟩ : ∃ C, C = w.heap.size + 1 := ⟨_, rfl⟩
  rw [← hB] at hbx
  rw [← hC] at hby hus
  have b0 := cell_atA 0 hbx
  have b1 := cell_atA 1 hbx
  have b2 := cell_atA 2 hbx
  simp at b0 b1 b2
  have hqd : ∀ k, (Instr.lookup 54 (.map (some m)) (.int .u64 id) true).run Try.prog (u1.drewN k) = .ok (.tuple #[.int .i64 i, .bool true]) (u1.drewN k) := fun k => hq _ rfl
  have HX := Lib.hid (And.intro h (And.intro hb1 (And.intro h1 (And.intro hbx (And.intro hby (And.intro hB (And.intro hC hus)))))))
  have HH := Lib.hid (And.intro hh (And.intro hL hb))
  clear hbx hby hus hq h h1 hb1 hh hL hb
  go_enter Try.func27, Try.ntmps27
  go_wp2_with fail
  rw [← hu1, ← hC, ← hB]
  clear hu1 hB hC
  go_quiet (fail)
  have HI := Lib.hid (And.intro hi hid)
  clear hi hid hqd
  have HQ := Lib.hid (show QAt (u1.drewN nq) q m v H from ⟨HX.out.2.2.1.blk, HX.out.2.2.1.row, HX.out.2.2.1.map, HX.out.2.2.1.once⟩)
  have HBW := Lib.hid (show Below w.heap.size w (u1.drewN nq) from HX.out.2.1.trans (drewN_belowA HX.out.2.1.size nq))
  have HBX := Lib.hid (show (u1.drewN nq).heap[B]? = _ from HX.out.2.2.2.1)
  have HYN := Lib.hid (show (u1.drewN nq).heap[C]? = _ from HX.out.2.2.2.2.1)
  have HUS := Lib.hid (show C < (u1.drewN nq).heap.size from HX.out.2.2.2.2.2.2.2)
  generalize u1.drewN nq = u2 at HQ HBW HBX HYN HUS ⊢
  clear b0 b1 b2 c1
  have b0 := cell_atA 0 HBX.out
  have b1 := cell_atA 1 HBX.out
  have b2 := cell_atA 2 HBX.out
  simp at b0 b1 b2
  obtain ⟨g, cap, hv, hn1, hn2, hr⟩ := HQ.out.row.pos (by have := HI.out.1; omega)
  obtain ⟨n, hn⟩ : ∃ n, H.length = n := ⟨_, rfl⟩
  obtain ⟨⟨xi, xa⟩, hx⟩ : ∃ x, gt H i = x := ⟨_, rfl⟩
  obtain ⟨x0, x1, f0, f1⟩ := hr i HI.out.1
  rw [hx] at x0 x1
  rw [hn] at hv hn1
  have c0 := cell_atA 0 HQ.out.blk
  simp at c0
  rw [hv] at c0
  obtain ⟨u3, hu3⟩ : ∃ u, u = u2.alloc (.cells #[.int .u64 xi, .int .u64 xa] 59) := ⟨_, rfl⟩
  have hb3 : Below u2.heap.size u2 u3 := by rw [hu3]; exact below_alloc _ _
  have hq3 := HQ.out.below hb3
  have i1 : (i : Int) < (n : Int) := by have := HI.out.1; omega
  have i0 : (0 : Int) ≤ (i : Int) := by omega
  have hn3 : n ≤ 9223372036854775807 := by unfold maxLen at hn2; omega
  have e0 := (hb3.cell (block_lt_of_cell c0)).trans c0
  have e1 := (hb3.cell (block_lt_of_cell b0)).trans b0
  have e2 := (hb3.cell (block_lt_of_cell b1)).trans b1
  have e3 := (hb3.cell (block_lt_of_cell x0)).trans x0
  have e4 := (hb3.cell (block_lt_of_cell x1)).trans x1
  have e7 := (hb3.cell (block_lt_of_cell b2)).trans b2
  obtain ⟨_, _, e5, e6⟩ : _ ∧ _ ∧ u3.frozen? ⟨g, i * 2, none⟩ = false ∧ u3.frozen? ⟨g, i * 2 + 1, none⟩ = false := by
    have r := hq3.row.pos (by have := HI.out.1; omega)
    obtain ⟨g', cap', hv', _, _, r⟩ := r
    rw [hv] at hv'
    injection hv' with a1 _ a2
    injection a1 with a1
    injection a1 with a1
    subst a1
    exact r i HI.out.1
  have HV := Lib.hid (And.intro hv (And.intro hn (And.intro hx (And.intro hq3 hb3))))
  have HU3 := Lib.hid hu3
  rw [hu3] at e0 e1 e2 e3 e4 e5 e6 e7
  clear hv hn hx hn1 hn2 hr hq3 hb3 hu3
  go_wp2_with fail
  rw [← HU3.out] at e0 e1 e2 e3 e4 e5 e6 e7 ⊢
  clear b0 b1 b2 x0 x1 f0 f1 c0
  go_region
  go_wp2_with fail
  obtain ⟨u4, hu4⟩ : ∃ u, u = (u3.setCell ⟨g, i * 2, none⟩ (.int .u64 id)).setCell ⟨g, i * 2 + 1, none⟩ (.int .u64 at_) := ⟨_, rfl⟩
  rw [← hu4]
  have hst : (QAt u4.drew q m v (H.set i ⟨id, at_⟩) ∧ Chg (fun k => k = q ∨ k = m ∨ some k = v.ownBlock) u2 u4.drew) ∧ u4.drew.heap[C]? = some (.cells #[.int .u64 0, .int .u64 0, .bool false] 61 (0, 0)) ∧ ∃ bb, u4.drew.heap[u2.heap.size]? = some (.cells #[.int .u64 xi, .int .u64 xa] 59 (0, 0)) ∧ bb = u2.heap.size := by
    obtain ⟨hv, hn, hx, hq3, hb3⟩ := HV.out
    have ho := OwnO.set2 (t := 59) (base := 0) (by have := hq3.row; rw [hv] at this; exact this) hn (i := i) (by have := HI.out.1; omega) ⟨id, at_⟩
    have hc : Chg (fun k => k = g) u3 u4 := by rw [hu4]; exact (Chg.setCell _ _ _ _).trans (Chg.setCell _ _ _ _)
    rw [← hu4] at ho
    have ha := hq3.apart.2 g (by rw [hv]; rfl)
    have hg : g < w.heap.size := by obtain ⟨_, _, cs, r⟩ := HX.out.1.apart.2 g (by rw [hv]; rfl); exact blk_lt r
    have hid : (gt H i).id = id := HI.out.2
    have hCw := HX.out.2.2.2.2.2.2.1
    have hbw := HBW.out.size
    refine ⟨⟨⟨hc.blk hq3.blk (fun e => ha.1 e.symm), by rw [hv]; exact ho, (hq3.map.chg hc (fun e => ha.2.1 e.symm)).congr (fun k u => places_set HI.out.1 (by rw [hid]) k u), ?_⟩, ?_⟩, ?_, _, ?_, rfl⟩
    · have e : (H.set i (⟨id, at_⟩ : On)).map On.id = H.map On.id := by
        apply List.ext_getElem?
        intro k
        rw [List.getElem?_map, List.getElem?_map, List.getElem?_set]
        by_cases q : i = k
        · subst q
          rw [if_pos rfl, if_pos HI.out.1, List.getElem?_eq_getElem HI.out.1]
          rw [gt_eq HI.out.1] at hid
          simp [hid]
        · rw [if_neg q]
      unfold NoTwice
      rw [e]
      exact hq3.once
    · have : Chg (fun k => k = q ∨ k = m ∨ some k = v.ownBlock) u2 u4 := (Chg.of_below hb3).trans (hc.wide (Chg.of_below (S := fun k => k = g) (Below.refl _ _)) (fun k e => .inl e) |>.wide (Chg.of_below (S := fun k => k = g) (Below.refl _ _)) (fun k e => .inl e) |> fun h => ⟨h.os, h.tape, h.output, h.size, fun k hk hn => h.block k hk (fun e => hn (.inr (.inr (by rw [e, hv]; rfl))))⟩)
      exact ⟨this.os, this.tape, this.output, this.size, this.block⟩
    · exact hc.blk ((Chg.of_below (S := fun _ => False) hb3).blk HYN.out (fun e => e)) (by omega)
    · exact hc.blk (by rw [HU3.out]; exact heap_alloc_new _ _) (by omega)
  obtain ⟨hs4, hc4, _, hx4, _⟩ := hst
  have HS4 := Lib.hid hs4
  have HC40 := Lib.hid hc4
  have HX4 := Lib.hid hx4
  clear hs4 hc4 hx4 hu4 e0 e1 e2 e3 e4 e5 e6 e7 HU3
  generalize u4.drew = u5 at HS4 HC40 HX4 ⊢
  clear u4
  obtain ⟨D, hD⟩ : ∃ D, D = u2.heap.size := ⟨_, rfl⟩
  rw [← hD] at HX4 ⊢
  refine (fix_k (St := QSt u5 q m v.ownBlock) (Lib.hid q_len) (Lib.hid q_less) (Lib.hid q_swap) (H.set i ⟨id, at_⟩) i _ (Lib.hid (QSt.start HS4.out.1)) (by rw [List.length_set]; exact HI.out.1) (by rw [List.length_set]; have := HH.out.2.1; omega)).mono ?_
  rintro e w3 ⟨rfl, hs⟩
  have HSX := Lib.hid (QSt.trans HS4.out.2 hs)
  have hc3 := QSt.far HX.out.1 hs (by have := HX.out.2.2.2.2.2.2.1; omega) HC40.out
  have hx3 := QSt.far HX.out.1 hs (by have := HBW.out.size; omega) HX4.out
  have HC4 := Lib.hid hc3
  obtain ⟨k0, k1, k2, k3, k4, k5⟩ := take_fill hc3
  have j0 := cell_atA 0 hx3
  have j1 := cell_atA 1 hx3
  simp at j0 j1
  clear hs hc3 hx3 hD
  go_wp2_with fail
  try simp only [Exit.inBlock, Exit.then]
  refine bodyPost_ret (v := .agg #[.int .u64 xi, .int .u64 xa, .bool false]) ?_ rfl ?_
  · exact results_cell_row Try.results27 _ _ C 61 _ (0, 0) _ rfl (filled HC4.out (.int .u64 xi) (.int .u64 xa) (.bool false)).1 Try.underlying61 rfl (by kernel_rfl)
  · refine ⟨_, _, _, (mendF i (H.set i ⟨id, at_⟩).length (H.set i ⟨id, at_⟩)), rfl, ?_, ⟨i, HI.out.1, HI.out.2, mend_perm (by rw [List.length_set]; exact HI.out.1) (Nat.le_refl _)⟩⟩
    exact Step.of (T := fun k => k = C) HX.out.1 HBW.out HSX.out (by have e := mend_heap (i := i) (n := H.length) (H := H.set i ⟨id, at_⟩) HH.out.1 HI.out.1 (by rw [List.length_set]; exact Nat.le_refl _) (fun k hk hne => by rw [gt_set _ _ _ _ HI.out.1, if_neg hne]); rw [List.length_set]; have hl := (mend_perm (i := i) (n := H.length) (H := H.set i ⟨id, at_⟩) HI.out.1 (by rw [List.length_set]; exact Nat.le_refl _)).length_eq; rw [List.length_set] at hl; rw [hl]; exact e) ((Chg.of_below (Below.refl _ _)).trans (filled HC4.out (.int .u64 xi) (.int .u64 xa) (.bool false)).2) (fun k e => by subst e; have := HX.out.2.2.2.2.2.2.1; have := HUS.out; omega)
set_option maxHeartbeats 4000000 in
theorem take_new (id at_ : Int) (h : QAt w q m v H) (hh : HeapOn H.length H) (hL : H.length ≤ 1000) (hb : hasD id H = false) :
    Calls Try.prog 27 #[.pointer (some ⟨q, 0, none⟩), .agg #[.int .u64 id, .int .u64 at_, .bool false]] w fun e w' => ∃ a b c H', e = .returned (.agg #[.int .u64 a, .int .u64 b, .bool c]) ∧ Step w q m v w' H' ∧ H'.Perm (⟨id, at_⟩ :: H) := by
  obtain ⟨u1, hu1⟩ : ∃ u, u = (w.alloc (.cells #[.int .u64 id, .int .u64 at_, .bool false] 61)).alloc (.cells #[.int .u64 0, .int .u64 0, .bool false] 61) := ⟨_, rfl⟩
  have hb1 : Below w.heap.size w u1 := by rw [hu1]; exact (below_alloc w _).trans ((below_alloc _ _).mono (below_alloc w _).size)
  have h1 := h.below hb1
  rcases h1.look id with ⟨_, hq⟩ | ⟨i, hb2, _⟩
  rotate_left
  · rw [hb] at hb2; cases hb2
  have c1 := cell_atA 1 h1.blk
  simp at c1
  have hbx : u1.heap[w.heap.size]? = some (.cells #[.int .u64 id, .int .u64 at_, .bool false] 61 (0, 0)) := by rw [hu1]; exact ((below_alloc _ _).block w.heap.size (by simp)).trans (heap_alloc_new w _)
  have hby : u1.heap[w.heap.size + 1]? = some (.cells #[.int .u64 0, .int .u64 0, .bool false] 61 (0, 0)) := by
    rw [hu1]
    have := heap_alloc_new (w.alloc (.cells #[.int .u64 id, .int .u64 at_, .bool false] 61)) (.cells #[.int .u64 0, .int .u64 0, .bool false] 61)
    rw [World.size_alloc] at this
    exact this
  have hus : w.heap.size + 1 < u1.heap.size := blk_lt hby
  obtain ⟨B, hB⟩ : ∃ B, B = w.heap.size := ⟨_, rfl⟩
  obtain ⟨C, hC⟩ : ∃ C, C = w.heap.size + 1 := ⟨_, rfl⟩
  rw [← hB] at hbx
  rw [← hC] at hby hus
  have b0 := cell_atA 0 hbx
  have b1 := cell_atA 1 hbx
  have b2 := cell_atA 2 hbx
  simp at b0 b1 b2
  have hqd : ∀ k, (Instr.lookup 54 (.map (some m)) (.int .u64 id) true).run Try.prog (u1.drewN k) = .ok (.tuple #[.int .i64 0, .bool false]) (u1.drewN k) := fun k => hq _ rfl
  have HX := Lib.hid (And.intro h (And.intro hb1 (And.intro h1 (And.intro hbx (And.intro hby (And.intro hB (And.intro hC hus)))))))
  have HH := Lib.hid (And.intro hh (And.intro hL hb))
  clear hbx hby hus hq h h1 hb1 hh hL hb
  go_enter Try.func27, Try.ntmps27
  go_wp2_with fail
  rw [← hu1, ← hC, ← hB]
  clear hu1 hB hC
  go_quiet (fail)
  clear hqd
  have HQ := Lib.hid (show QAt (u1.drewN nq) q m v H from ⟨HX.out.2.2.1.blk, HX.out.2.2.1.row, HX.out.2.2.1.map, HX.out.2.2.1.once⟩)
  have HBW := Lib.hid (show Below w.heap.size w (u1.drewN nq) from HX.out.2.1.trans (drewN_belowA HX.out.2.1.size nq))
  have HBX := Lib.hid (show (u1.drewN nq).heap[B]? = _ from HX.out.2.2.2.1)
  have HYN := Lib.hid (show (u1.drewN nq).heap[C]? = _ from HX.out.2.2.2.2.1)
  have HUS := Lib.hid (show C < (u1.drewN nq).heap.size from HX.out.2.2.2.2.2.2.2)
  generalize u1.drewN nq = u2 at HQ HBW HBX HYN HUS ⊢
  clear b0 b1 b2 c1
  have b0 := cell_atA 0 HBX.out
  have b1 := cell_atA 1 HBX.out
  have b2 := cell_atA 2 HBX.out
  simp at b0 b1 b2
  go_wp2_with fail
  rw [show (Value.agg #[.int .u64 id, .int .u64 at_]) = On.v ⟨id, at_⟩ from rfl]
  refine (push_k (St := QSt u2 q m v.ownBlock) (x := ⟨id, at_⟩) (Lib.hid q_len) (Lib.hid q_less) (Lib.hid q_swap) H (Lib.hid (q_push ⟨id, at_⟩ H HH.out.2.2 HH.out.2.1)) _ (Lib.hid (QSt.start HQ.out)) (by have := HH.out.2.1; omega)).mono ?_
  rintro e w3 ⟨rfl, hs⟩
  have HSX := Lib.hid hs
  have hc3 := QSt.far HX.out.1 hs (by have := HX.out.2.2.2.2.2.2.1; omega) HYN.out
  have hx3 := QSt.far HX.out.1 hs (by have := HX.out.2.2.2.2.2.1; omega) HBX.out
  have HC4 := Lib.hid hc3
  obtain ⟨k0, k1, k2, k3, k4, k5⟩ := take_fill hc3
  have j0 := cell_atA 0 hx3
  have j1 := cell_atA 1 hx3
  simp at j0 j1
  clear hs hc3 hx3 b0 b1 b2
  rw [On.form]
  go_wp2_with fail
  try simp only [Exit.inBlock, Exit.then]
  refine bodyPost_ret (v := .agg #[.int .u64 id, .int .u64 at_, .bool true]) ?_ rfl ?_
  · exact results_cell_row Try.results27 _ _ C 61 _ (0, 0) _ rfl (filled HC4.out (.int .u64 id) (.int .u64 at_) (.bool true)).1 Try.underlying61 rfl (by kernel_rfl)
  · refine ⟨_, _, _, (upF H.length (H ++ [⟨id, at_⟩])), rfl, ?_, push_perm H _⟩
    exact Step.of (T := fun k => k = C) HX.out.1 HBW.out HSX.out (by have hl := (push_perm H ⟨id, at_⟩).length_eq; have hp := push_heap HH.out.1 ⟨id, at_⟩; rw [List.length_cons] at hl; rw [hl]; exact hp) ((Chg.of_below (Below.refl _ _)).trans (filled HC4.out (.int .u64 id) (.int .u64 at_) (.bool true)).2) (fun k e => by subst e; have := HX.out.2.2.2.2.2.2.1; have := HUS.out; omega)
end
end Go.Proofs.Ytcnfchjiiglijaa
