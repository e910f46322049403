/- The program's queue in memory: its heap's row, its map of places; what its methods tell. -/
import Derived.Test.YtcnfchjiiglijaaHeapK
import Derived.Test.YtcnfchjiiglijaaMapP
import Derived.Test.YtcnfchjiiglijaaAlarmR
import Derived.BigRegion
namespace Go.Proofs.Ytcnfchjiiglijaa
open Go.RowKit
set_option linter.unusedVariables false
set_option linter.unusedSimpArgs false
set_option maxRecDepth 20000

theorem drewN_belowA {B : Nat} {w : World} (h : B ≤ w.heap.size) (n : Nat) : Below B w (w.drewN n) := ⟨rfl, rfl, rfl, Nat.le_refl _, fun _ _ => rfl⟩
theorem Chg.wide {S T : Nat → Prop} {a b c : World} (h : Chg S a b) (k : Chg T b c) (hs : ∀ j, T j → S j ∨ a.heap.size ≤ j) : Chg S a c :=
  ⟨k.os.trans h.os, k.tape.trans h.tape, k.output.trans h.output, Nat.le_trans h.size k.size, fun j hj hn => (k.block j (Nat.lt_of_lt_of_le hj h.size) (fun q => by rcases hs j q with r | r; exact hn r; omega)).trans (h.block j hj hn)⟩
theorem infoA : (Try.prog.info? 59).map (fun i => (i.zero, i.size, i.bytes)) = some (some zeroO.v, 2, 16) := by kernel_rfl
/-- The queue at block q: its row v, its map at block m, H the heap in it. -/
structure QAt (w : World) (q m : Nat) (v : Value) (H : List On) : Prop where
  blk : w.heap[q]? = some (.cells #[v, .map (some m)] 57 (0, 0))
  row : OwnO 59 0 v H w
  map : MapP w m (Places H)
  once : NoTwice H
section
variable {w w' : World} {q m : Nat} {v : Value} {H : List On}
theorem QAt.apart (h : QAt w q m v H) : q ≠ m ∧ (∀ k, v.ownBlock = some k → k ≠ q ∧ k ≠ m ∧ ∃ cs, w.heap[k]? = some (.cells cs 59 (0, 0))) := by
  have h1 := h.blk
  obtain ⟨es, c, h2, _⟩ := h.map
  refine ⟨fun e => ?_, fun k hk => ?_⟩
  · subst e; rw [h1] at h2; cases h2
  · have h3 : w.ownsRow 0 59 2 v H.length (cellsO H) := h.row
    rcases h3.2 with ⟨hv, _⟩ | ⟨g, cap, cur, hv, _, hg, _⟩
    · rw [hv] at hk; cases hk
    · rw [hv] at hk
      obtain rfl : g = k := Option.some.inj hk
      refine ⟨fun e => ?_, fun e => ?_, cur, hg⟩
      · subst e; rw [h1] at hg; injection hg with hg; injection hg with _ hg; cases hg
      · subst e; rw [h2] at hg; cases hg
theorem QAt.chg {S : Nat → Prop} (h : QAt w q m v H) (hc : Chg S w w') (hq : ¬ S q) (hm : ¬ S m) (hr : ∀ k, v.ownBlock = some k → ¬ S k) : QAt w' q m v H :=
  ⟨hc.blk h.blk hq, h.row.chg hc hr, h.map.chg hc hm, h.once⟩
theorem QAt.below (h : QAt w q m v H) (hb : Below w.heap.size w w') : QAt w' q m v H := h.chg (Chg.of_below (S := fun _ => False) hb) (fun e => e) (fun e => e) (fun _ _ e => e)
/-- What is read of it. -/
theorem QAt.cells (h : QAt w q m v H) : ∃ a cap, v = .slice a H.length cap ∧ w.cell? ⟨q, 0, none⟩ = some (.slice a H.length cap) ∧ w.cell? ⟨q, 1, none⟩ = some (.map (some m)) ∧ w.frozen? ⟨q, 0, none⟩ = false ∧ RowO w a cap H := by
  obtain ⟨a, cap, hv, hr, _⟩ := h.row.at
  subst hv
  exact ⟨a, cap, rfl, by rw [cell_atA 0 h.blk]; rfl, by rw [cell_atA 1 h.blk]; rfl, frz_atA 0 h.blk, hr⟩
end
theorem cellsO_set (x : On) : ∀ (L : List On) (i : Nat), i < L.length → cellsO (L.set i x) = ((cellsO L).set (i * 2) (.int .u64 x.id)).set (i * 2 + 1) (.int .u64 x.at_)
  | [], i, h => by simp at h
  | f :: r, 0, _ => rfl
  | f :: r, i + 1, h => by
    have ih := cellsO_set x r i (by simpa using h)
    show f.cl.toList ++ cellsO (r.set i x) = _
    rw [ih, show (i + 1) * 2 = i * 2 + 1 + 1 by omega]
    rfl
/-- One alarm of a row of the call's own set anew. -/
theorem OwnO.set2 {t : TypeId} {base g cap n : Nat} {L : List On} {w : World} (h : OwnO t base (.slice (some ⟨g, 0, none⟩) n cap) L w) (hn : L.length = n) {i : Nat} (hi : i < n) (x : On) :
    OwnO t base (.slice (some ⟨g, 0, none⟩) n cap) (L.set i x) ((w.setCell ⟨g, i * 2, none⟩ (.int .u64 x.id)).setCell ⟨g, i * 2 + 1, none⟩ (.int .u64 x.at_)) := by
  subst hn
  have h1 := (World.ownsRow.stored (show w.ownsRow base t 2 _ L.length (cellsO L) from h) (i * 2) (.int .u64 x.id)).1
  have h2 := (World.ownsRow.stored h1 (i * 2 + 1) (.int .u64 x.at_)).1
  rw [← cellsO_set x L i hi] at h2
  unfold OwnO
  rw [List.length_set]
  exact h2
/-- A row of the call's own, with something in it. -/
theorem OwnO.pos {t : TypeId} {base : Nat} {v : Value} {L : List On} {w : World} (h : OwnO t base v L w) (h0 : 0 < L.length) : ∃ g cap, v = .slice (some ⟨g, 0, none⟩) L.length cap ∧ L.length ≤ cap ∧ cap ≤ maxLen ∧
    ∀ j, j < L.length → w.cell? ⟨g, j * 2, none⟩ = some (.int .u64 (gt L j).id) ∧ w.cell? ⟨g, j * 2 + 1, none⟩ = some (.int .u64 (gt L j).at_) ∧ w.frozen? ⟨g, j * 2, none⟩ = false ∧ w.frozen? ⟨g, j * 2 + 1, none⟩ = false := by
  have h' : w.ownsRow base t 2 v L.length (cellsO L) := h
  rcases h'.2 with ⟨hv, hn⟩ | ⟨g, cap, cur, hv, hg, hh, h1, h2, h3, h4⟩
  · omega
  · subst hv
    refine ⟨g, cap, rfl, h1, h2, fun j hj => ⟨?_, ?_, ?_, ?_⟩⟩
    · rw [World.ownsRow.cellAt h' (j * 2) (by omega)]
      have := cellsO_at L j 0 (by omega) hj
      rw [Nat.add_zero] at this
      rw [this]; rfl
    · rw [World.ownsRow.cellAt h' (j * 2 + 1) (by omega), cellsO_at L j 1 (by omega) hj]; rfl
    · exact World.ownsRow.frozenAt h' _
    · exact World.ownsRow.frozenAt h' _
theorem swap_self {H : List On} {i : Nat} (hi : i < H.length) : swapL H i i = H := by
  apply List.ext_getElem
  · exact swap_len H i i
  · intro k h1 h2
    rw [← gt_eq h1, ← gt_eq h2, gt_swap hi hi]
    split
    · rename_i e; rw [e]
    · rfl
def Z2 : Obj := .cells #[.int .u64 0, .int .u64 0] 59 (0, 0)
/-- What the heap's calls keep: the queue with a heap H, since a world w0 in which its row was at g0. -/
def QSt (w0 : World) (q m : Nat) (g0 : Option Nat) (H : List On) (w : World) : Prop :=
  ∃ v, QAt w q m v H ∧ Chg (fun k => k = q ∨ k = m ∨ some k = g0) w0 w ∧ ∀ k, v.ownBlock = some k → some k = g0 ∨ w0.heap.size ≤ k
section
variable {w0 w w' : World} {q m : Nat} {g0 : Option Nat} {H : List On}
theorem QSt.start {v : Value} (h : QAt w q m v H) : QSt w q m v.ownBlock H w := ⟨v, h, Chg.of_below (Below.refl _ _), fun k hk => .inl hk.symm⟩
theorem QSt.below (h : QSt w0 q m g0 H w) (hb : Below w.heap.size w w') : QSt w0 q m g0 H w' := by
  obtain ⟨v, h1, h2, h3⟩ := h
  exact ⟨v, h1.below hb, h2.trans (Chg.of_below hb), h3⟩
set_option maxHeartbeats 1000000 in
theorem q_len : HLen (QSt w0 q m g0) q := by
  intro H w hs
  obtain ⟨v, h1, h2, h3⟩ := hs
  obtain ⟨a, cap, _, c0, _, _, hr⟩ := h1.cells
  have HS : Hid (QSt w0 q m g0 H w) := Lib.hid ⟨v, h1, h2, h3⟩
  have hlen := hr.len
  clear h1 h2 h3 hr
  go_enter Try.func23, Try.ntmps23
  go_wp2_with fail
  go_ret
  exact ⟨rfl, HS.out⟩
set_option maxHeartbeats 4000000 in
theorem q_less : HLess (QSt w0 q m g0) q := by
  intro H w i j hs hi hj
  obtain ⟨v, h1, h2, h3⟩ := hs
  obtain ⟨a, cap, _, c0, _, _, hr⟩ := h1.cells
  have HS : Hid (QSt w0 q m g0 H w) := Lib.hid ⟨v, h1, h2, h3⟩
  have hlen := hr.len
  obtain ⟨_, _, b, off, hr⟩ := hr
  obtain ⟨hae, x0, x1⟩ := hr i hi
  obtain ⟨_, y0, y1⟩ := hr j hj
  subst hae
  have hij : (0 : Int) ≤ (i : Int) ∧ (i : Int) < (H.length : Int) ∧ (0 : Int) ≤ (j : Int) ∧ (j : Int) < (H.length : Int) := ⟨by omega, by omega, by omega, by omega⟩
  obtain ⟨i0, i1, j0, j1⟩ := hij
  clear h1 h2 h3 hr hi hj
  obtain ⟨n, hn⟩ : ∃ n, H.length = n := ⟨_, rfl⟩
  rw [hn] at c0 hlen i1 j1
  obtain ⟨⟨xi, xa⟩, hx⟩ : ∃ x, gt H i = x := ⟨_, rfl⟩
  obtain ⟨⟨yi, ya⟩, hy⟩ : ∃ x, gt H j = x := ⟨_, rfl⟩
  rw [hx] at x0 x1 ⊢
  rw [hy] at y0 y1 ⊢
  clear hn hx hy
  have al : ∀ {A : Addr} {u : Value}, w.cell? A = some u → ∀ o : Obj, (w.alloc o).cell? A = some u ∧ ∀ p : Obj, ((w.alloc o).alloc p).cell? A = some u := fun {A u} h o => by
    have h1 := ((below_alloc w o).cell (block_lt_of_cell h)).trans h
    exact ⟨h1, fun p => ((below_alloc _ p).cell (block_lt_of_cell h1)).trans h1⟩
  let X2 : Obj := .cells #[.int .u64 xi, .int .u64 xa] 59 (0, 0)
  let Y2 : Obj := .cells #[.int .u64 yi, .int .u64 ya] 59 (0, 0)
  have p1 := (al c0 Z2).1
  have p2 := (al c0 Z2).2 Z2
  have p3 := (al c0 Z2).2 X2
  have p4 := (al c0 Z2).2 Y2
  have p5 := (al c0 X2).1
  have p6 := (al c0 X2).2 Z2
  have p7 := (al c0 X2).2 Y2
  have p8 := (al c0 Y2).1
  have p9 := (al c0 Y2).2 Z2
  have p10 := (al c0 Y2).2 X2
  have p11 := (al x0 Z2).1
  have p12 := (al x0 Z2).2 Z2
  have p13 := (al x0 Z2).2 X2
  have p14 := (al x0 Z2).2 Y2
  have p15 := (al x0 X2).1
  have p16 := (al x0 X2).2 Z2
  have p17 := (al x0 X2).2 Y2
  have p18 := (al x0 Y2).1
  have p19 := (al x0 Y2).2 Z2
  have p20 := (al x0 Y2).2 X2
  have p21 := (al x1 Z2).1
  have p22 := (al x1 Z2).2 Z2
  have p23 := (al x1 Z2).2 X2
  have p24 := (al x1 Z2).2 Y2
  have p25 := (al x1 X2).1
  have p26 := (al x1 X2).2 Z2
  have p27 := (al x1 X2).2 Y2
  have p28 := (al x1 Y2).1
  have p29 := (al x1 Y2).2 Z2
  have p30 := (al x1 Y2).2 X2
  have p31 := (al y0 Z2).1
  have p32 := (al y0 Z2).2 Z2
  have p33 := (al y0 Z2).2 X2
  have p34 := (al y0 Z2).2 Y2
  have p35 := (al y0 X2).1
  have p36 := (al y0 X2).2 Z2
  have p37 := (al y0 X2).2 Y2
  have p38 := (al y0 Y2).1
  have p39 := (al y0 Y2).2 Z2
  have p40 := (al y0 Y2).2 X2
  have p41 := (al y1 Z2).1
  have p42 := (al y1 Z2).2 Z2
  have p43 := (al y1 Z2).2 X2
  have p44 := (al y1 Z2).2 Y2
  have p45 := (al y1 X2).1
  have p46 := (al y1 X2).2 Z2
  have p47 := (al y1 X2).2 Y2
  have p48 := (al y1 Y2).1
  have p49 := (al y1 Y2).2 Z2
  have p50 := (al y1 Y2).2 X2
  clear al
  simp only [Z2, X2, Y2] at p1 p2 p3 p4 p5 p6 p7 p8 p9 p10 p11 p12 p13 p14 p15 p16 p17 p18 p19 p20 p21 p22 p23 p24 p25 p26 p27 p28 p29 p30 p31 p32 p33 p34 p35 p36 p37 p38 p39 p40 p41 p42 p43 p44 p45 p46 p47 p48 p49 p50
  clear_value X2 Y2
  clear X2 Y2
  have fin : ∀ o p : Obj, QSt w0 q m g0 H ((w.alloc o).alloc p).drew := fun o p => by
    have hb : Below w.heap.size w ((w.alloc o).alloc p) := (below_alloc w o).trans ((below_alloc _ p).mono (below_alloc w o).size)
    exact (show QSt w0 q m g0 H ((w.alloc o).alloc p) from HS.out.below hb).below (drewN_belowA (Nat.le_refl _) 1)
  have HF := Lib.hid fin
  clear fin HS
  go_enter Try.func55, Try.ntmps55
  go_wp2_with fail
  go_region
  all_goals (clear p1 p2 p3 p4 p5 p6 p7 p8 p9 p10 p11 p12 p13 p14 p15 p16 p17 p18 p19 p20 p21 p22 p23 p24 p25 p26 p27 p28 p29 p30 p31 p32 p33 p34 p35 p36 p37 p38 p39 p40 p41 p42 p43 p44 p45 p46 p47 p48 p49 p50 c0 x0 x1 y0 y1 i0 i1 j0 j1 hlen)
  all_goals (cases hA : decide (xa < ya) <;> cases hB : (xa == ya) <;> cases hC : decide (xi < yi) <;> (
    go_wp2_with fail
    go_ret
    exact ⟨by simp only [ltO, hA, hB, hC]; rfl, HF.out _ _⟩))
/-- Two alarms of the row exchanged: what the row is, and what has turned. -/
theorem row_swapped {v : Value} {g n cap : Nat} (h : QAt w q m v H) (hv : v = .slice (some ⟨g, 0, none⟩) n cap) (hn : H.length = n) {i j : Nat} (hi : i < n) (hj : j < n) {x y : On} (hx : gt H i = x) (hy : gt H j = y) {w1 : World}
    (hw1 : w1 = (((w.setCell ⟨g, i * 2, none⟩ (.int .u64 y.id)).setCell ⟨g, i * 2 + 1, none⟩ (.int .u64 y.at_)).setCell ⟨g, j * 2, none⟩ (.int .u64 x.id)).setCell ⟨g, j * 2 + 1, none⟩ (.int .u64 x.at_)) :
    OwnO 59 0 v (swapL H i j) w1 ∧ Chg (fun k => k = g) w w1 ∧ w1.heap[q]? = some (.cells #[v, .map (some m)] 57 (0, 0)) ∧ MapP w1 m (Places H) := by
  subst hv hw1 hx hy
  have ho := (h.row.set2 hn hi (gt H j)).set2 (by rw [List.length_set]; exact hn) hj (gt H i)
  have hc : Chg (fun k => k = g) w ((((w.setCell ⟨g, i * 2, none⟩ (.int .u64 (gt H j).id)).setCell ⟨g, i * 2 + 1, none⟩ (.int .u64 (gt H j).at_)).setCell ⟨g, j * 2, none⟩ (.int .u64 (gt H i).id)).setCell ⟨g, j * 2 + 1, none⟩ (.int .u64 (gt H i).at_)) :=
    (((Chg.setCell _ _ _ _).trans (Chg.setCell _ _ _ _)).trans (Chg.setCell _ _ _ _)).trans (Chg.setCell _ _ _ _)
  have ha := h.apart.2 g rfl
  exact ⟨ho, hc, hc.blk h.blk (fun e => ha.1 e.symm), h.map.chg hc (fun e => ha.2.1 e.symm)⟩
end
end Go.Proofs.Ytcnfchjiiglijaa
