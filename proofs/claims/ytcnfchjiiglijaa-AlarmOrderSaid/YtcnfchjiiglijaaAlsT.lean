/- The program's set of alarms takes a step, to the next moment. -/
import Derived.Test.YtcnfchjiiglijaaAlsM
namespace Go.Proofs.Ytcnfchjiiglijaa
open Go.RowKit
set_option linter.unusedVariables false
set_option linter.unusedSimpArgs false
set_option maxRecDepth 20000
/-- What a step of the queue is to end in. -/
def Takes (q m : Nat) (v : Value) (H : List On) (id at_ : Int) (gone : Bool) (post : List On → Prop) : Prop := ∀ W : World, QAt W q m v H → Calls Try.prog 27 #[.pointer (some ⟨q, 0, none⟩), .agg #[.int .u64 id, .int .u64 at_, .bool gone]] W fun e w' => ∃ a b c H', e = .returned (.agg #[.int .u64 a, .int .u64 b, .bool c]) ∧ Step W q m v w' H' ∧ post H'
section
variable {w w' : World} {p c q m : Nat} {v : Value} {H L : List On} {most mm : Int}
/-- The set behind a step of its queue. -/
theorem Alq.took {u3 u4 u5 : World} {N : Nat} {H' : List On} (h : Alq w p c q m v H mm) (hb : Below w.heap.size w u3) (hN : u3.heap[N]? = some (.cells (nowCl q) 63 (0, 0))) (hNw : w.heap.size ≤ N)
    (hs : Step u3 q m v u4 H') (hc : Chg (fun k => k = c) u4 u5) : ∃ v', Alq (u5.setCell ⟨p, 1, none⟩ (.pointer (some ⟨N, 0, none⟩))) p N q m v' H' mm ∧ Chg (Fq p c q m v) w (u5.setCell ⟨p, 1, none⟩ (.pointer (some ⟨N, 0, none⟩))) ∧ ∀ k, v'.ownBlock = some k → some k = v.ownBlock ∨ w.heap.size ≤ k := by
  obtain ⟨v', s1, s2, s3, s4⟩ := hs
  obtain ⟨a1, a2, a3, a4, a5, a6⟩ := h.apart
  have lp := blk_lt h.box
  have lc := blk_lt h.now
  have lq := blk_lt h.que.blk
  have lm := h.que.map.lt
  have lo : ∀ k, v.ownBlock = some k → k < w.heap.size := fun k hk => h.lt k (.inr (.inr (.inr (.inr hk.symm))))
  have lN : N < u3.heap.size := blk_lt hN
  have own' : ∀ k, v'.ownBlock = some k → k ≠ p ∧ k ≠ c ∧ k ≠ N := fun k hk => by
    rcases s4 k hk with r | r
    · have := a6 k r.symm
      have := lo k r.symm
      exact ⟨by omega, by omega, by omega⟩
    · have := hb.size
      exact ⟨by omega, by omega, by omega⟩
  have box4 := s3.blk ((Chg.of_below (S := fun _ => False) hb).blk h.box (fun e => e)) (by
    rintro (e | e | e)
    · exact a2 e
    · exact a3 e
    · exact (a6 p e.symm).1 rfl)
  have box5 := hc.blk box4 a1
  have N4 := s3.blk hN (by
    rintro (e | e | e)
    · omega
    · omega
    · have := lo N e.symm; omega)
  have N5 := hc.blk N4 (by omega)
  have cs := Chg.setCell u5 p 1 (.pointer (some ⟨N, 0, none⟩))
  have N6 := cs.blk N5 (by omega)
  refine ⟨v', ⟨?_, N6, (s1.chg hc (fun e => a4 e.symm) (fun e => a5 e.symm) (fun k hk e => (own' k hk).2.1 e)).chg cs (fun e => a2 e.symm) (fun e => a3 e.symm) (fun k hk e => (own' k hk).1 e), s2⟩, ?_, fun k hk => (s4 k hk).imp (fun e => e) (fun e => Nat.le_trans hb.size e)⟩
  · have := heap_setCell_same u5 p 1 _ _ (.pointer (some ⟨N, 0, none⟩)) box5
    simpa using this
  · exact (((Chg.of_below (S := Fq p c q m v) hb).wide s3 (fun k e => .inl (.inr (.inr e)))).wide hc (fun k e => .inl (.inr (.inl e)))).wide cs (fun k e => .inl (.inl e))
theorem sets5 (u : World) (c : Nat) (a0 a1 a2 a3 a4 : Value) : Chg (fun k => k = c) u (((((u.setCell ⟨c, 0, none⟩ a0).setCell ⟨c, 1, none⟩ a1).setCell ⟨c, 2, none⟩ a2).setCell ⟨c, 3, none⟩ a3).setCell ⟨c, 4, none⟩ a4) :=
  ((((Chg.setCell _ _ _ _).trans (Chg.setCell _ _ _ _)).trans (Chg.setCell _ _ _ _)).trans (Chg.setCell _ _ _ _)).trans (Chg.setCell _ _ _ _)
theorem five_cells {u : World} {c q : Nat} (h : u.heap[c]? = some (.cells (nowCl q) 63 (0, 0))) : (u.cell? ⟨c, 0, none⟩ = some (.pointer (some ⟨q, 0, none⟩)) ∧ u.cell? ⟨c, 1, none⟩ = some (.pointer none) ∧ u.cell? ⟨c, 2, none⟩ = some (.int .u64 0) ∧ u.cell? ⟨c, 3, none⟩ = some (.int .u64 0) ∧ u.cell? ⟨c, 4, none⟩ = some (.bool false)) ∧
    (u.frozen? ⟨c, 0, none⟩ = false ∧ u.frozen? ⟨c, 1, none⟩ = false ∧ u.frozen? ⟨c, 2, none⟩ = false ∧ u.frozen? ⟨c, 3, none⟩ = false ∧ u.frozen? ⟨c, 4, none⟩ = false) :=
  ⟨⟨by rw [cell_atA 0 h]; rfl, by rw [cell_atA 1 h]; rfl, by rw [cell_atA 2 h]; rfl, by rw [cell_atA 3 h]; rfl, by rw [cell_atA 4 h]; rfl⟩, frz_atA 0 h, frz_atA 1 h, frz_atA 2 h, frz_atA 3 h, frz_atA 4 h⟩
set_option maxHeartbeats 4000000 in
theorem a_take (post : List On → Prop) (id at_ : Int) (gone : Bool) (h : Alq w p c q m v H mm) (ht : Takes q m v H id at_ gone post) :
    Calls Try.prog 24 #[.pointer (some ⟨p, 0, none⟩), .agg #[.int .u64 id, .int .u64 at_, .bool gone]] w fun e w' => e = .returned (.tuple #[]) ∧ ∃ c' v' H', Alq w' p c' q m v' H' mm ∧ post H' ∧ Chg (Fq p c q m v) w w' ∧ w.heap.size ≤ c' ∧ ∀ k, v'.ownBlock = some k → some k = v.ownBlock ∨ w.heap.size ≤ k := by
  have HT := Lib.hid ht
  have HA := Lib.hid h
  obtain ⟨u1, hu1⟩ : ∃ u, u = w.alloc (.cells #[.int .u64 id, .int .u64 at_, .bool gone] 61) := ⟨_, rfl⟩
  obtain ⟨B, hB⟩ : ∃ B, B = w.heap.size := ⟨_, rfl⟩
  have hb1 : Below w.heap.size w u1 := by rw [hu1]; exact below_alloc _ _
  have HBX : Hid (u1.heap[B]? = some (.cells #[.int .u64 id, .int .u64 at_, .bool gone] 61 (0, 0))) := Lib.hid (by rw [hu1, hB]; exact heap_alloc_new _ _)
  have HB1 := Lib.hid hb1
  have HBE := Lib.hid hB
  have HA1 := Lib.hid (h.below hb1)
  clear h ht hb1
  go_enter Try.func24, Try.ntmps24
  go_wp2_with fail
  rw [← hu1, ← hB]
  clear hu1 hB
  refine (a_queue HA1.out).mono ?_
  rintro e w2 ⟨rfl, hb2⟩
  have HB2 := Lib.hid (HB1.out.trans (hb2.mono HB1.out.size))
  have HBX2 := Lib.hid ((hb2.block B (blk_lt HBX.out)).trans HBX.out)
  clear hb2 HBX HB1 HA1
  go_wp2_with fail
  obtain ⟨u3, hu3⟩ : ∃ u, u = w2.alloc (.cells (nowCl q) 63) := ⟨_, rfl⟩
  obtain ⟨N, hN⟩ : ∃ N, N = w2.heap.size := ⟨_, rfl⟩
  have e3 : w2.alloc (.cells #[.pointer (some ⟨q, 0, none⟩), .pointer none, .int .u64 0, .int .u64 0, .bool false] 63) = u3 := hu3.symm
  have hb3 : Below w2.heap.size w2 u3 := by rw [hu3]; exact below_alloc _ _
  have hNN : u3.heap[N]? = some (.cells (nowCl q) 63 (0, 0)) := by rw [hu3, hN]; exact heap_alloc_new _ _
  have hbx3 := (hb3.block B (blk_lt HBX2.out)).trans HBX2.out
  have HBB := Lib.hid (HB2.out.trans (hb3.mono HB2.out.size))
  have hlt : B < N := by rw [hN]; exact blk_lt HBX2.out
  rw [e3, ← hN]
  have ha3 := HA.out.below HBB.out
  have HA3 := Lib.hid ha3
  have HNN := Lib.hid (And.intro hNN (And.intro hlt hbx3))
  have HS0 : Hid (u3.cell? ⟨p, 1, none⟩ = some (.pointer (some ⟨c, 0, none⟩)) ∧ u3.cell? ⟨N, 0, none⟩ = some (.pointer (some ⟨q, 0, none⟩)) ∧ u3.cell? ⟨B, 0, none⟩ = some (.int .u64 id) ∧ u3.cell? ⟨B, 1, none⟩ = some (.int .u64 at_) ∧ u3.cell? ⟨B, 2, none⟩ = some (.bool gone)) := Lib.hid ⟨ha3.cells.2.1, by rw [cell_atA 0 hNN]; rfl, by rw [cell_atA 0 hbx3]; rfl, by rw [cell_atA 1 hbx3]; rfl, by rw [cell_atA 2 hbx3]; rfl⟩
  clear e3 hb3 hNN hbx3 hlt ha3 hu3 hN HBX2 HB2
  refine wp_region_held_drew (S := fun u => u.cell? ⟨p, 1, none⟩ = some (.pointer (some ⟨c, 0, none⟩)) ∧ u.cell? ⟨N, 0, none⟩ = some (.pointer (some ⟨q, 0, none⟩)) ∧ u.cell? ⟨B, 0, none⟩ = some (.int .u64 id) ∧ u.cell? ⟨B, 1, none⟩ = some (.int .u64 at_) ∧ u.cell? ⟨B, 2, none⟩ = some (.bool gone)) (by kernel_rfl) HS0.out (fun hHeld => ?_)
  clear HS0
  refine wpAnyH_take (i := 0) (oi := ?o1) (v := ?v1) ?i1 (by kernel_rfl) (by kernel_rfl) (by kernel_rfl) ?q1 (Or.inl ⟨?w1, ?y1⟩) (by assumption) ?r1
  case' i1 => simp only [List.getElem?_toArray, List.getElem?_cons_succ, List.getElem?_cons_zero]
  case i1 => rfl
  case q1 => exact fun _ _ _ h => h
  case w1 => rfl
  case y1 => (intro w hSw; (try dsimp only at hSw); go_simp) <;> with_reducible rfl
  try simp only [Act.put, List.setIfInBounds_toArray, List.set_cons_zero, List.set_cons_succ]
  refine wpAnyH_take (i := 1) (oi := ?o2) (v := ?v2) ?i2 (by kernel_rfl) (by kernel_rfl) (by kernel_rfl) ?q2 (Or.inl ⟨?w2, ?y2⟩) (by assumption) ?r2
  case' i2 => simp only [List.getElem?_toArray, List.getElem?_cons_succ, List.getElem?_cons_zero]
  case i2 => rfl
  case q2 => exact fun _ _ _ h => h
  case w2 => rfl
  case y2 => (intro w hSw; (try dsimp only at hSw); go_simp) <;> with_reducible rfl
  try simp only [Act.put, List.setIfInBounds_toArray, List.set_cons_zero, List.set_cons_succ]
  refine wpAnyH_take (i := 2) (oi := ?o3) (v := ?v3) ?i3 (by kernel_rfl) (by kernel_rfl) (by kernel_rfl) ?q3 (Or.inl ⟨?w3, ?y3⟩) (by assumption) ?r3
  case' i3 => simp only [List.getElem?_toArray, List.getElem?_cons_succ, List.getElem?_cons_zero]
  case i3 => rfl
  case q3 => exact fun _ _ _ h => h
  case w3 => rfl
  case y3 => (intro w hSw; (try dsimp only at hSw); go_simp) <;> with_reducible rfl
  try simp only [Act.put, List.setIfInBounds_toArray, List.set_cons_zero, List.set_cons_succ]
  refine wpAnyH_take (i := 3) (oi := ?o4) (v := ?v4) ?i4 (by kernel_rfl) (by kernel_rfl) (by kernel_rfl) ?q4 (Or.inl ⟨?w4, ?y4⟩) (by assumption) ?r4
  case' i4 => simp only [List.getElem?_toArray, List.getElem?_cons_succ, List.getElem?_cons_zero]
  case i4 => rfl
  case q4 => exact fun _ _ _ h => h
  case w4 => rfl
  case y4 => (intro w hSw; obtain ⟨k0, k1, k2, k3, k4⟩ := hSw; go_simp) <;> with_reducible rfl
  try simp only [Act.put, List.setIfInBounds_toArray, List.set_cons_zero, List.set_cons_succ]
  refine wpAnyH_take (i := 4) (oi := ?o5) (v := ?v5) ?i5 (by kernel_rfl) (by kernel_rfl) (by kernel_rfl) ?q5 (Or.inl ⟨?w5, ?y5⟩) (by assumption) ?r5
  case' i5 => simp only [List.getElem?_toArray, List.getElem?_cons_succ, List.getElem?_cons_zero]
  case i5 => rfl
  case q5 => exact fun _ _ _ h => h
  case w5 => rfl
  case y5 => (intro w hSw; (try dsimp only at hSw); go_simp) <;> with_reducible rfl
  try simp only [Act.put, List.setIfInBounds_toArray, List.set_cons_zero, List.set_cons_succ]
  refine wpAnyH_take (i := 5) (oi := ?o6) (v := ?v6) ?i6 (by kernel_rfl) (by kernel_rfl) (by kernel_rfl) ?q6 (Or.inl ⟨?w6, ?y6⟩) (by assumption) ?r6
  case' i6 => simp only [List.getElem?_toArray, List.getElem?_cons_succ, List.getElem?_cons_zero]
  case i6 => rfl
  case q6 => exact fun _ _ _ h => h
  case w6 => rfl
  case y6 => (intro w hSw; (try dsimp only at hSw); go_simp) <;> with_reducible rfl
  try simp only [Act.put, List.setIfInBounds_toArray, List.set_cons_zero, List.set_cons_succ]
  refine wpAnyH_take (i := 6) (oi := ?o7) (v := ?v7) ?i7 (by kernel_rfl) (by kernel_rfl) (by kernel_rfl) ?q7 (Or.inl ⟨?w7, ?y7⟩) (by assumption) ?r7
  case' i7 => simp only [List.getElem?_toArray, List.getElem?_cons_succ, List.getElem?_cons_zero]
  case i7 => rfl
  case q7 => exact fun _ _ _ h => h
  case w7 => rfl
  case y7 => (intro w hSw; (try dsimp only at hSw); go_simp) <;> with_reducible rfl
  try simp only [Act.put, List.setIfInBounds_toArray, List.set_cons_zero, List.set_cons_succ]
  refine wpAnyH_take (i := 7) (oi := ?o8) (v := ?v8) ?i8 (by kernel_rfl) (by kernel_rfl) (by kernel_rfl) ?q8 (Or.inl ⟨?w8, ?y8⟩) (by assumption) ?r8
  case' i8 => simp only [List.getElem?_toArray, List.getElem?_cons_succ, List.getElem?_cons_zero]
  case i8 => rfl
  case q8 => exact fun _ _ _ h => h
  case w8 => rfl
  case y8 => (intro w hSw; (try dsimp only at hSw); go_simp) <;> with_reducible rfl
  try simp only [Act.put, List.setIfInBounds_toArray, List.set_cons_zero, List.set_cons_succ]
  refine wpAnyH_take (i := 8) (oi := ?o9) (v := ?v9) ?i9 (by kernel_rfl) (by kernel_rfl) (by kernel_rfl) ?q9 (Or.inl ⟨?w9, ?y9⟩) (by assumption) ?r9
  case' i9 => simp only [List.getElem?_toArray, List.getElem?_cons_succ, List.getElem?_cons_zero]
  case i9 => rfl
  case q9 => exact fun _ _ _ h => h
  case w9 => rfl
  case y9 => (intro w hSw; obtain ⟨k0, k1, k2, k3, k4⟩ := hSw; go_simp) <;> with_reducible rfl
  try simp only [Act.put, List.setIfInBounds_toArray, List.set_cons_zero, List.set_cons_succ]
  refine wpAnyH_take (i := 9) (oi := ?o10) (v := ?v10) ?i10 (by kernel_rfl) (by kernel_rfl) (by kernel_rfl) ?q10 (Or.inl ⟨?w10, ?y10⟩) (by assumption) ?r10
  case' i10 => simp only [List.getElem?_toArray, List.getElem?_cons_succ, List.getElem?_cons_zero]
  case i10 => rfl
  case q10 => exact fun _ _ _ h => h
  case w10 => rfl
  case y10 => (intro w hSw; obtain ⟨k0, k1, k2, k3, k4⟩ := hSw; go_simp) <;> with_reducible rfl
  try simp only [Act.put, List.setIfInBounds_toArray, List.set_cons_zero, List.set_cons_succ]
  refine wpAnyH_ready (rs := [10]) (by kernel_rfl) (by simp) ?_
  refine AllReadyH.cons (o := ?o11) ?i11 (fun K' hK => ?_) AllReadyH.nil
  case' i11 => simp only [List.getElem?_toArray, List.getElem?_cons_succ, List.getElem?_cons_zero]
  case i11 => rfl
  go_simp
  go_at_call 27
  refine (HT.out _ (show QAt u3.drew q m v H from ⟨HA3.out.que.blk, HA3.out.que.row, HA3.out.que.map, HA3.out.que.once⟩)).mono ?_
  rintro e u4 ⟨a1, a2, a3, H', rfl, hs, hp⟩
  have hs2 : Step u3 q m v u4 H' := by
    obtain ⟨v', s1, s2, s3, s4⟩ := hs
    exact ⟨v', s1, s2, ⟨s3.os, s3.tape, s3.output, s3.size, s3.block⟩, s4⟩
  have HS := Lib.hid (And.intro hs2 hp)
  have kept : ∀ k o, u3.heap[k]? = some o → k ≠ q → k ≠ m → some k ≠ v.ownBlock → u4.heap[k]? = some o := fun k o ho n1 n2 n3 => by
    obtain ⟨v', s1, s2, s3, s4⟩ := hs2
    refine s3.blk ho ?_
    rintro (e | e | e)
    · exact n1 e
    · exact n2 e
    · exact n3 e
  have hown : ∀ k, v.ownBlock = some k → k < w.heap.size := fun k hk => HA.out.lt k (.inr (.inr (.inr (.inr hk.symm))))
  obtain ⟨p1, p2, p3, p4, p5, p6⟩ := HA.out.apart
  have lq := blk_lt HA.out.que.blk
  have lm := HA.out.que.map.lt
  have hBw := HBE.out
  have hlt := HNN.out.2.1
  have kp := kept p _ HA3.out.box p2 p3 (fun e => (p6 p e.symm).1 rfl)
  have kc := kept c _ HA3.out.now p4 p5 (fun e => (p6 c e.symm).2 rfl)
  have kB := kept B _ HNN.out.2.2 (by omega) (by omega) (fun e => by have := hown B e.symm; omega)
  have kN := kept N _ HNN.out.1 (by omega) (by omega) (fun e => by have := hown N e.symm; omega)
  have HKC := Lib.hid kc
  have HKP := Lib.hid kp
  have hH : u4.cell? ⟨p, 1, none⟩ = some (.pointer (some ⟨c, 0, none⟩)) ∧ u4.cell? ⟨N, 0, none⟩ = some (.pointer (some ⟨q, 0, none⟩)) ∧ u4.cell? ⟨B, 0, none⟩ = some (.int .u64 id) ∧ u4.cell? ⟨B, 1, none⟩ = some (.int .u64 at_) ∧ u4.cell? ⟨B, 2, none⟩ = some (.bool gone) := ⟨by rw [cell_atA 1 kp]; rfl, by rw [cell_atA 0 kN]; rfl, by rw [cell_atA 0 kB]; rfl, by rw [cell_atA 1 kB]; rfl, by rw [cell_atA 2 kB]; rfl⟩
  clear hHeld hs hp hs2 kept hown p1 p2 p3 p4 p5 p6 lq lm hBw hlt kp kc kB kN
  refine hK.out _ _ hH (fun hHeld => ?_)
  clear hK K' hH
  try simp only [Act.put, List.setIfInBounds_toArray, List.set_cons_zero, List.set_cons_succ]
  refine wpAnyH_take (i := 11) (oi := ?o12) (v := ?v12) ?i12 (by kernel_rfl) (by kernel_rfl) (by kernel_rfl) ?q12 (Or.inl ⟨?w12, ?y12⟩) (by assumption) ?r12
  case' i12 => simp only [List.getElem?_toArray, List.getElem?_cons_succ, List.getElem?_cons_zero]
  case i12 => rfl
  case q12 => exact fun _ _ _ h => h
  case w12 => rfl
  case y12 => (intro w hSw; (try dsimp only at hSw); go_simp) <;> with_reducible rfl
  try simp only [Act.put, List.setIfInBounds_toArray, List.set_cons_zero, List.set_cons_succ]
  refine wpAnyH_take (i := 12) (oi := ?o13) (v := ?v13) ?i13 (by kernel_rfl) (by kernel_rfl) (by kernel_rfl) ?q13 (Or.inl ⟨?w13, ?y13⟩) (by assumption) ?r13
  case' i13 => simp only [List.getElem?_toArray, List.getElem?_cons_succ, List.getElem?_cons_zero]
  case i13 => rfl
  case q13 => exact fun _ _ _ h => h
  case w13 => rfl
  case y13 => (intro w hSw; (try dsimp only at hSw); go_simp) <;> with_reducible rfl
  try simp only [Act.put, List.setIfInBounds_toArray, List.set_cons_zero, List.set_cons_succ]
  refine wpAnyH_ready (rs := [13]) (by kernel_rfl) (by simp) ?_
  refine AllReadyH.cons (o := ?o14) ?i14 (fun K' hK => ?_) AllReadyH.nil
  case' i14 => simp only [List.getElem?_toArray, List.getElem?_cons_succ, List.getElem?_cons_zero]
  case i14 => rfl
  obtain ⟨⟨z0, z1, z2, z3, z4⟩, y0, y1, y2, y3, y4⟩ := five_cells HKC.out
  go_simp
  clear z0 z1 z2 z3 z4 y0 y1 y2 y3 y4
  have HC5 : Hid (Chg (fun k => k = c) u4 (((((u4.setCell ⟨c, 0, none⟩ (.pointer none)).setCell ⟨c, 1, none⟩ (.pointer (some ⟨N, 0, none⟩))).setCell ⟨c, 2, none⟩ (.int .u64 a1)).setCell ⟨c, 3, none⟩ (.int .u64 a2)).setCell ⟨c, 4, none⟩ (.bool a3))) := Lib.hid (sets5 _ _ _ _ _ _ _)
  have hH : (((((u4.setCell ⟨c, 0, none⟩ (.pointer none)).setCell ⟨c, 1, none⟩ (.pointer (some ⟨N, 0, none⟩))).setCell ⟨c, 2, none⟩ (.int .u64 a1)).setCell ⟨c, 3, none⟩ (.int .u64 a2)).setCell ⟨c, 4, none⟩ (.bool a3)).cell? ⟨p, 1, none⟩ = some (.pointer (some ⟨c, 0, none⟩)) ∧ (((((u4.setCell ⟨c, 0, none⟩ (.pointer none)).setCell ⟨c, 1, none⟩ (.pointer (some ⟨N, 0, none⟩))).setCell ⟨c, 2, none⟩ (.int .u64 a1)).setCell ⟨c, 3, none⟩ (.int .u64 a2)).setCell ⟨c, 4, none⟩ (.bool a3)).cell? ⟨N, 0, none⟩ = some (.pointer (some ⟨q, 0, none⟩)) ∧ (((((u4.setCell ⟨c, 0, none⟩ (.pointer none)).setCell ⟨c, 1, none⟩ (.pointer (some ⟨N, 0, none⟩))).setCell ⟨c, 2, none⟩ (.int .u64 a1)).setCell ⟨c, 3, none⟩ (.int .u64 a2)).setCell ⟨c, 4, none⟩ (.bool a3)).cell? ⟨B, 0, none⟩ = some (.int .u64 id) ∧ (((((u4.setCell ⟨c, 0, none⟩ (.pointer none)).setCell ⟨c, 1, none⟩ (.pointer (some ⟨N, 0, none⟩))).setCell ⟨c, 2, none⟩ (.int .u64 a1)).setCell ⟨c, 3, none⟩ (.int .u64 a2)).setCell ⟨c, 4, none⟩ (.bool a3)).cell? ⟨B, 1, none⟩ = some (.int .u64 at_) ∧ (((((u4.setCell ⟨c, 0, none⟩ (.pointer none)).setCell ⟨c, 1, none⟩ (.pointer (some ⟨N, 0, none⟩))).setCell ⟨c, 2, none⟩ (.int .u64 a1)).setCell ⟨c, 3, none⟩ (.int .u64 a2)).setCell ⟨c, 4, none⟩ (.bool a3)).cell? ⟨B, 2, none⟩ = some (.bool gone) := by
    have hcp : p ≠ c := HA.out.apart.1
    have hcl := blk_lt HA.out.now
    have hBw := HBE.out
    have hlt := HNN.out.2.1
    have far : ∀ (A : Addr) (v : Value), A.block ≠ c → u4.cell? A = some v → ((((((u4.setCell ⟨c, 0, none⟩ (.pointer none)).setCell ⟨c, 1, none⟩ (.pointer (some ⟨N, 0, none⟩))).setCell ⟨c, 2, none⟩ (.int .u64 a1)).setCell ⟨c, 3, none⟩ (.int .u64 a2)).setCell ⟨c, 4, none⟩ (.bool a3))).cell? A = some v := fun A v hA hv => by
      have := HC5.out.block A.block (block_lt_of_cell hv) hA
      simp only [World.cell?, this]
      exact hv
    exact ⟨far _ _ hcp hHeld.1, far _ _ (by show N ≠ c; omega) hHeld.2.1, far _ _ (by show B ≠ c; omega) hHeld.2.2.1, far _ _ (by show B ≠ c; omega) hHeld.2.2.2.1, far _ _ (by show B ≠ c; omega) hHeld.2.2.2.2⟩
  clear hHeld
  refine hK.out _ _ hH (fun hHeld => ?_)
  clear hK K' hH
  try simp only [Act.put, List.setIfInBounds_toArray, List.set_cons_zero, List.set_cons_succ]
  have HKP5 := Lib.hid (HC5.out.blk HKP.out HA.out.apart.1)
  generalize (((((u4.setCell ⟨c, 0, none⟩ (.pointer none)).setCell ⟨c, 1, none⟩ (.pointer (some ⟨N, 0, none⟩))).setCell ⟨c, 2, none⟩ (.int .u64 a1)).setCell ⟨c, 3, none⟩ (.int .u64 a2)).setCell ⟨c, 4, none⟩ (.bool a3)) = u5 at HC5 HKP5 hHeld ⊢
  refine wpAnyH_done (by kernel_rfl) ?_ _
  have f1 := frz_atA 1 HKP5.out
  have hp1 := hHeld.1
  go_wp2_with fail
  go_end0
  obtain ⟨v', r1, r2, r3⟩ := Alq.took HA.out HBB.out HNN.out.1 (by have := HBE.out; have := HNN.out.2.1; omega) HS.out.1 HC5.out
  exact ⟨rfl, N, v', H', r1, HS.out.2, r2, by have := HBE.out; have := HNN.out.2.1; omega, r3⟩
end
end Go.Proofs.Ytcnfchjiiglijaa
