/- The program's queue: its Push and Pop. -/
import Derived.Test.YtcnfchjiiglijaaQueM
import Derived.Deep.RegionHeld3
namespace Go.Proofs.Ytcnfchjiiglijaa
open Go.RowKit
set_option linter.unusedVariables false
set_option linter.unusedSimpArgs false
set_option maxRecDepth 20000
/-- One alarm appended, at an operation of a region that draws its order. -/
theorem oper_appO1 {ops : Array Oper} {o : Oper} {a : Act} {K : Act → World → Prop} {Q : Exit → Act → World → Prop} {E : Prop} {w : World} (hgd : o.guard = none) (s xo : Operand) (t e : TypeId)
    (ht : Try.prog.underlying t = some (.slice e)) (hinf : (Try.prog.info? e).map (fun i => (i.zero, i.size, i.bytes)) = some (some zeroO.v, 2, 16))
    (ho : o.op = .call { callee := .builtin .append, args := #[s, xo], argTypes := #[t, t] })
    (base : Nat) (v : Value) (M : List On) (x : On) (hs : a.eval s = v) (hown : OwnO e base v M w)
    (B c : Nat) (hx : a.eval xo = .slice (some ⟨B, 0, none⟩) 1 c) (hB : w.heap[B]? = some (.cells x.cl e (0, 0))) (hM : M.length < 90000) (hbase : base ≤ w.heap.size)
    (h : ∀ v' w', AppdO e base v v' M [x] w w' → (∀ k, v'.ownBlock = some k → v.ownBlock = some k ∨ k = w.heap.size) → K (a.put o.dst v') w') :
    if Region.wanted o (yielded ops a.tmps) = true then Oper.wp Try.prog o a w K Q else E := by
  obtain ⟨i0, hi0, hz0, hz1, hz2⟩ : ∃ i0, Try.prog.info? e = some i0 ∧ i0.zero = some zeroO.v ∧ i0.size = 2 ∧ i0.bytes = 16 := by
    cases hi : Try.prog.info? e with
    | none => rw [hi] at hinf; cases hinf
    | some i0 =>
      rw [hi] at hinf
      simp only [Option.map_some, Option.some.injEq, Prod.mk.injEq] at hinf
      exact ⟨i0, rfl, hinf.1, hinf.2.1, hinf.2.2⟩
  refine step_append_lies w hgd s xo t ho base e i0 zeroO.v 2 16 ht hi0 hz0 hz1 hz2 rfl (by decide) v M.length (cellsO M) hs hown ⟨B, 0, none⟩ 1 c x.cl.toList hx rfl ?_ ?_ (by decide) (by unfold maxLen; omega) (by omega) hbase w.heap.size rfl ?_
  · intro j u hu
    rw [addr_add]
    simpa [World.cell?, hB] using hu
  · intro u hu
    simp only [On.cl, List.mem_cons, List.not_mem_nil, or_false] at hu
    rcases hu with rfl | rfl <;> rfl
  · intro g cap w' h1 h2 h3 _
    refine h _ w' ⟨?_, (Chg.grown h2).below (fun j hj => (World.ownsRow.lt hown j hj.symm).1) hbase, h2.size, h2⟩ (fun k hk => ?_)
    · unfold OwnO
      rw [List.length_append, cellsO_app, cellsO, cellsO, List.append_nil]
      exact h1
    · obtain rfl : g = k := Option.some.inj hk
      exact h3
theorem run_assertA (v : Value) (w : World) : (Instr.typeAssert (.iface 59 v) 20 59 false).run Try.prog w = .ok v w := by kernel_rfl
theorem On.form (x : On) : x.v = .agg #[.int .u64 x.id, .int .u64 x.at_] := rfl
section
variable {w0 w w' : World} {q m : Nat} {g0 : Option Nat} {H : List On}
theorem nt_app {x : On} (h : NoTwice H) (hx : hasD x.id H = false) : NoTwice (H ++ [x]) :=
  nt_perm (A := x :: H) ((List.perm_append_singleton x H).symm) (List.nodup_cons.2 ⟨fun q => by
    obtain ⟨o, ho, e⟩ := List.mem_map.1 q
    exact has_not hx o ho e.symm, h⟩)
theorem QSt.pushed {v v' : Value} {x : On} {u1 u2 u3 u4 : World} (h1 : QAt w q m v H) (h2 : Chg (fun k => k = q ∨ k = m ∨ some k = g0) w0 w) (h3 : ∀ k, v.ownBlock = some k → some k = g0 ∨ w0.heap.size ≤ k) (hb1 : Below w.heap.size w u1)
    (hc : Chg (fun k => k = m) u1 u2) (hm : MapP u2 m (putG (Places H) x.id H.length)) (hb2 : Below u2.heap.size u2 u3) (ha : AppdO 59 0 v v' H [x] u3 u4)
    (hg : ∀ k, v'.ownBlock = some k → v.ownBlock = some k ∨ k = u3.heap.size) (hx : hasD x.id H = false) : QSt w0 q m g0 (H ++ [x]) (u4.setCell ⟨q, 0, none⟩ v') := by
  have ap := h1.apart
  have c1 : Chg (fun k => k = m) w u3 := ((Chg.of_below hb1).trans hc).trans (Chg.of_below hb2)
  have b3 := c1.blk h1.blk (fun e => ap.1 e)
  have m3 := hm.below hb2
  have c2 := Chg.grown ha.grown
  have nq : ¬ some q = v.ownBlock := fun e => (ap.2 q e.symm).1 rfl
  have nm : ¬ some m = v.ownBlock := fun e => (ap.2 m e.symm).2.1 rfl
  have b4 := c2.blk b3 nq
  have m4 := m3.chg c2 nm
  have hq' : ∀ k, v'.ownBlock = some k → k ≠ q := fun k hk e => by
    rcases hg k hk with r | r
    · exact (ap.2 k r).1 e
    · have := blk_lt b3; omega
  have cs := Chg.setCell u4 q 0 v'
  refine ⟨v', ⟨?_, ha.own.chg cs hq', (m4.chg cs (fun e => ap.1 e.symm)).congr (fun k u => places_push hx k u), nt_app h1.once hx⟩, ((h2.wide c1 (fun k e => .inl (.inr (.inl e)))).wide c2 (fun k e => ?_)).wide cs (fun k e => .inl (.inl e)), fun k hk => ?_⟩
  · have := heap_setCell_same u4 q 0 _ _ v' b4
    simpa using this
  · rcases h3 k e.symm with r | r
    · exact .inl (.inr (.inr r))
    · exact .inr r
  · rcases hg k hk with r | r
    · exact h3 k r
    · refine .inr ?_
      have := h2.size; have := c1.size; omega
set_option maxHeartbeats 4000000 in
theorem q_push (x : On) (H : List On) (hx : hasD x.id H = false) (hl : H.length ≤ 1000) : HPush (QSt w0 q m g0) q (.iface 59 x.v) x H := by
  intro w hs
  obtain ⟨v, h1, h2, h3⟩ := hs
  obtain ⟨a, cap, hv, c0, c1, f0, hr⟩ := h1.cells
  obtain ⟨n, hn⟩ : ∃ n, H.length = n := ⟨_, rfl⟩
  have hn1 : n ≤ 1000 := by omega
  rw [hn] at c0 hv
  have HX := Lib.hid (And.intro h1 (And.intro h2 (And.intro h3 (And.intro hv (And.intro hn hx)))))
  obtain ⟨u1, hu1⟩ : ∃ u, u = w.alloc (.cells #[.int .u64 x.id, .int .u64 x.at_] 59) := ⟨_, rfl⟩
  have hb1 : Below w.heap.size w u1 := by rw [hu1]; exact below_alloc _ _
  have hbox : u1.heap[w.heap.size]? = some (.cells #[.int .u64 x.id, .int .u64 x.at_] 59 (0, 0)) := by rw [hu1]; exact heap_alloc_new _ _
  have hqB : q < w.heap.size := blk_lt h1.blk
  obtain ⟨B, hB⟩ : ∃ B, B = w.heap.size := ⟨_, rfl⟩
  have d0 := (hb1.cell (block_lt_of_cell c0)).trans c0
  have d1 := (hb1.cell (block_lt_of_cell c1)).trans c1
  rw [← hB] at hbox hqB
  have e0 := cell_atA 0 hbox
  have e1 := cell_atA 1 hbox
  simp at e0 e1
  have HB := Lib.hid (And.intro hb1 (And.intro hbox (And.intro hB hqB)))
  have HM := Lib.hid (h1.map.below hb1)
  have hno := places_none hx
  have HNO := Lib.hid hno
  rw [On.form]
  generalize hid : x.id = xi at *
  generalize hat : x.at_ = xa at *
  clear h1 h2 h3 hr hn hx hv c0 c1 f0 hb1 hbox hqB hno hl
  have hta := run_assertA (.agg #[.int .u64 xi, .int .u64 xa]) w
  go_enter Try.func57, Try.ntmps57
  go_wp2_with fail
  rw [← hu1, ← hB]
  clear hu1 hB
  go_still_tail 11, (by kernel_rfl)
  change wpList _ _ _ _ _ u1.drew
  refine wpList_put rfl (.tmp 10) (.tmp 12) (.tmp 17) 54 29 3 rfl Try.underlying54 Try.underlying29 xi n rfl rfl rfl (show MapP u1.drew m (Places H) from HM.out) HNO.out ?_
  intro u2 hm hc
  have HM2 := Lib.hid hm
  have HC2 : Hid (Chg (fun j => j = m) u1 u2) := Lib.hid ⟨hc.os, hc.tape, hc.output, hc.size, hc.block⟩
  have far : ∀ (A : Addr) (v : Value), A.block ≠ m → u1.cell? A = some v → u2.cell? A = some v := fun A v hA hv => by
    have := HC2.out.block A.block (block_lt_of_cell hv) hA
    simp only [World.cell?, this]
    exact hv
  have HNE : Hid (q ≠ m ∧ B ≠ m ∧ q ≠ B) := Lib.hid ⟨HX.out.1.apart.1, by have := HX.out.1.map.lt; have := HB.out.2.2.1; omega, by have := HB.out.2.2.2; omega⟩
  have d2 := far _ _ HNE.out.1 d0
  have d4 := far _ _ HNE.out.2.1 e0
  have d5 := far _ _ HNE.out.2.1 e1
  clear hm hc far d0 d1 e0 e1
  go_wp2_with fail
  try simp only [Act.put, List.setIfInBounds_toArray, List.set_cons_zero, List.set_cons_succ]
  refine wp_region_held_drew (S := fun u => u.cell? ⟨B, 0, none⟩ = some (.int .u64 xi) ∧ u.cell? ⟨B, 1, none⟩ = some (.int .u64 xa)) (by kernel_rfl) ⟨d4, d5⟩ (fun hHeld => ?_)
  have HB2 : Hid (Below u2.heap.size u2 u2.drew) := Lib.hid (drewN_belowA (Nat.le_refl _) 1)
  have HQ2 : Hid (u2.drew.cell? ⟨q, 0, none⟩ = some (.slice a n cap)) := Lib.hid d2
  clear d2 d4 d5
  refine wpAnyH_take (i := 0) (oi := ?o1) (v := ?v1) ?i1 (by kernel_rfl) (by kernel_rfl) (by kernel_rfl) ?q1 (Or.inl ⟨?w1, ?y1⟩) (by assumption) ?r1
  case' i1 => simp only [List.getElem?_toArray, List.getElem?_cons_succ, List.getElem?_cons_zero]
  case i1 => rfl
  case q1 => exact fun _ _ _ h => h
  case w1 => rfl
  case y1 => (intro w hSw; (try dsimp only at hSw); go_simp) <;> with_reducible rfl
  try simp only [Act.put, List.setIfInBounds_toArray, List.set_cons_zero, List.set_cons_succ]
  refine wpAnyH_take (i := 1) (oi := ?o2) (v := ?v2) ?i2 (by kernel_rfl) (by kernel_rfl) (by kernel_rfl) ?q2 (Or.inl ⟨?w2, ?y2⟩) (by assumption) ?r2
  case' i2 => simp only [List.getElem?_toArray, List.getElem?_cons_succ, List.getElem?_cons_zero]
  case i2 => rfl
  case q2 => exact fun _ _ _ h => h
  case w2 => rfl
  case y2 => (intro w hSw; (try dsimp only at hSw); go_simp) <;> with_reducible rfl
  try simp only [Act.put, List.setIfInBounds_toArray, List.set_cons_zero, List.set_cons_succ]
  refine wpAnyH_take (i := 2) (oi := ?o3) (v := ?v3) ?i3 (by kernel_rfl) (by kernel_rfl) (by kernel_rfl) ?q3 (Or.inl ⟨?w3, ?y3⟩) (by assumption) ?r3
  case' i3 => simp only [List.getElem?_toArray, List.getElem?_cons_succ, List.getElem?_cons_zero]
  case i3 => rfl
  case q3 => exact fun _ _ _ h => h
  case w3 => rfl
  case y3 => (intro w hSw; (try dsimp only at hSw); go_simp) <;> with_reducible rfl
  try simp only [Act.put, List.setIfInBounds_toArray, List.set_cons_zero, List.set_cons_succ]
  refine wpAnyH_take (i := 3) (oi := ?o4) (v := ?v4) ?i4 (by kernel_rfl) (by kernel_rfl) (by kernel_rfl) ?q4 (Or.inl ⟨?w4, ?y4⟩) (by assumption) ?r4
  case' i4 => simp only [List.getElem?_toArray, List.getElem?_cons_succ, List.getElem?_cons_zero]
  case i4 => rfl
  case q4 => exact fun _ _ _ h => h
  case w4 => rfl
  case y4 => (intro w hSw; (try dsimp only at hSw); go_simp) <;> with_reducible rfl
  try simp only [Act.put, List.setIfInBounds_toArray, List.set_cons_zero, List.set_cons_succ]
  refine wpAnyH_take (i := 5) (oi := ?o5) (v := ?v5) ?i5 (by kernel_rfl) (by kernel_rfl) (by kernel_rfl) ?q5 (Or.inl ⟨?w5, ?y5⟩) (by assumption) ?r5
  case' i5 => simp only [List.getElem?_toArray, List.getElem?_cons_succ, List.getElem?_cons_zero]
  case i5 => rfl
  case q5 => exact fun _ _ _ h => h
  case w5 => rfl
  case y5 => (intro w hSw; obtain ⟨k0, k1⟩ := hSw; go_simp) <;> with_reducible rfl
  try simp only [Act.put, List.setIfInBounds_toArray, List.set_cons_zero, List.set_cons_succ]
  refine wpAnyH_ready (rs := [4, 6]) (by kernel_rfl) (by simp) ?_
  refine AllReadyH.cons (o := ?o16) ?i16 (fun K' hK => ?g16) (AllReadyH.cons (o := ?o17) ?i17 (fun K' hK => ?g17) AllReadyH.nil)
  case' i16 => simp only [List.getElem?_toArray, List.getElem?_cons_succ, List.getElem?_cons_zero]
  case i16 => rfl
  case' i17 => simp only [List.getElem?_toArray, List.getElem?_cons_succ, List.getElem?_cons_zero]
  case i17 => rfl
  case g16 =>
    have zz := HQ2.out
    go_simp
    clear zz
    refine hK.out _ _ hHeld (fun hHeld => ?_)
    clear hK K'
    try simp only [Act.put, List.setIfInBounds_toArray, List.set_cons_zero, List.set_cons_succ]
    refine wpAnyH_ready (rs := [6]) (by kernel_rfl) (by simp) ?_
    refine AllReadyH.cons (o := ?o6) ?i6 (fun K' hK => ?_) AllReadyH.nil
    case' i6 => simp only [List.getElem?_toArray, List.getElem?_cons_succ, List.getElem?_cons_zero]
    case i6 => rfl
    go_simp
    have hal : Below u2.heap.size u2 ((u2.alloc (.cells #[.int .u64 xi, .int .u64 xa] 59)).drew) := (below_alloc u2 _).trans (drewN_belowA (below_alloc u2 _).size 1)
    have hH : ((u2.alloc (.cells #[.int .u64 xi, .int .u64 xa] 59)).drew).cell? ⟨B, 0, none⟩ = some (.int .u64 xi) ∧ ((u2.alloc (.cells #[.int .u64 xi, .int .u64 xa] 59)).drew).cell? ⟨B, 1, none⟩ = some (.int .u64 xa) := ⟨(hal.cell (block_lt_of_cell (w := u2) hHeld.1)).trans hHeld.1, (hal.cell (block_lt_of_cell (w := u2) hHeld.2)).trans hHeld.2⟩
    clear hHeld
    refine hK.out _ _ hH (fun hHeld => ?_)
    clear hK K' hH
    try simp only [Act.put, List.setIfInBounds_toArray, List.set_cons_zero, List.set_cons_succ]
    have HN3 : Hid (((u2.alloc (.cells #[.int .u64 xi, .int .u64 xa] 59)).drew).heap[u2.heap.size]? = some (.cells #[.int .u64 xi, .int .u64 xa] 59 (0, 0))) := Lib.hid (heap_alloc_new u2 _)
    replace HQ2 : Hid (((u2.alloc (.cells #[.int .u64 xi, .int .u64 xa] 59)).drew).cell? ⟨q, 0, none⟩ = some (.slice a n cap)) := Lib.hid ((hal.cell (block_lt_of_cell (w := u2) HQ2.out)).trans HQ2.out)
    replace HB2 : Hid (Below u2.heap.size u2 ((u2.alloc (.cells #[.int .u64 xi, .int .u64 xa] 59)).drew)) := Lib.hid hal
    clear hal
    generalize (u2.alloc (.cells #[.int .u64 xi, .int .u64 xa] 59)).drew = u3 at hHeld HN3 HQ2 HB2 ⊢
    generalize u2.heap.size = b3 at HN3 ⊢
    refine wpAnyH_ready (rs := [7]) (by kernel_rfl) (by simp) ?_
    refine AllReadyH.cons (o := ?o7) ?i7 (fun K' hK => ?_) AllReadyH.nil
    case' i7 => simp only [List.getElem?_toArray, List.getElem?_cons_succ, List.getElem?_cons_zero]
    case i7 => rfl
    have hva := HX.out.2.2.2.1
    have hrow : OwnO 59 0 (.slice a n cap) H u3 := by
      have := HX.out.1.row
      rw [hva] at this
      have hnb : ∀ k, (Value.slice a n cap).ownBlock = some k → ¬ (k = m) := fun k hk => (HX.out.1.apart.2 k (by rw [hva]; exact hk)).2.1
      exact ((this.below HB.out.1).chg HC2.out hnb).below HB2.out
    refine oper_appO1 rfl (.tmp 22) (.tmp 24) 55 59 Try.underlying55 infoA rfl 0 (.slice a n cap) H ⟨xi, xa⟩ rfl hrow b3 1 rfl HN3.out (by have := HX.out.2.2.2.2.1; omega) (Nat.zero_le _) ?_
    clear hva hrow
    intro v4 u4 hA hg
    obtain ⟨a4, c4, hv4, _, _⟩ := hA.own.at
    obtain ⟨n4, hn4⟩ : ∃ n4, (H ++ [(⟨xi, xa⟩ : On)]).length = n4 := ⟨_, rfl⟩
    rw [hn4] at hv4
    clear hn4
    subst hv4
    have HA := Lib.hid (And.intro hA hg)
    have HG : Hid (∀ k, k ≠ 0 + k → True) := Lib.hid (fun _ _ => trivial)
    have hva := HX.out.2.2.2.1
    have hnot : ∀ k, (Value.slice a n cap).ownBlock = some k → k ≠ q ∧ k ≠ B := fun k hk => by
      obtain ⟨r1, _, cs, r2⟩ := HX.out.1.apart.2 k (by rw [hva]; exact hk)
      exact ⟨r1, by have := blk_lt r2; have := HB.out.2.2.1; omega⟩
    have far : ∀ (A : Addr) (v : Value), (A.block = q ∨ A.block = B) → u3.cell? A = some v → u4.cell? A = some v := fun A v hA2 hv => by
      have := (Chg.grown hA.grown).block A.block (block_lt_of_cell hv) (fun e => by
        have := hnot _ e.symm
        rcases hA2 with r | r
        · exact this.1 r
        · exact this.2 r)
      simp only [World.cell?, this]
      exact hv
    have hH : u4.cell? ⟨B, 0, none⟩ = some (.int .u64 xi) ∧ u4.cell? ⟨B, 1, none⟩ = some (.int .u64 xa) := ⟨far _ _ (.inr rfl) hHeld.1, far _ _ (.inr rfl) hHeld.2⟩
    replace HQ2 := Lib.hid (far _ _ (.inl rfl) HQ2.out)
    have HF4 : Hid (u4.frozen? ⟨q, 0, none⟩ = false) := Lib.hid (by
      have b0 := HX.out.1.blk
      have b2 := ((Chg.of_below (S := fun _ => False) HB2.out).blk (HC2.out.blk ((Chg.of_below (S := fun _ => False) HB.out.1).blk b0 (fun e => e)) HNE.out.1) (fun e => e))
      exact frz_atA 0 ((Chg.grown hA.grown).blk b2 (fun e => (hnot q e.symm).1 rfl)))
    clear hA hg hva hnot far hHeld
    refine hK.out _ _ hH (fun hHeld => ?_)
    clear hK K' hH
    try simp only [Act.put, List.setIfInBounds_toArray, List.set_cons_zero, List.set_cons_succ]
    refine wpAnyH_ready (rs := [8]) (by kernel_rfl) (by simp) ?_
    refine AllReadyH.cons (o := ?o8) ?i8 (fun K' hK => ?_) AllReadyH.nil
    case' i8 => simp only [List.getElem?_toArray, List.getElem?_cons_succ, List.getElem?_cons_zero]
    case i8 => rfl
    go_simp
    refine hK.out _ _ hHeld (fun hHeld => ?_)
    clear hK K'
    try simp only [Act.put, List.setIfInBounds_toArray, List.set_cons_zero, List.set_cons_succ]
    refine wpAnyH_ready (rs := [9]) (by kernel_rfl) (by simp) ?_
    refine AllReadyH.cons (o := ?o9) ?i9 (fun K' hK => ?_) AllReadyH.nil
    case' i9 => simp only [List.getElem?_toArray, List.getElem?_cons_succ, List.getElem?_cons_zero]
    case i9 => rfl
    go_simp
    refine hK.out _ _ hHeld (fun hHeld => ?_)
    clear hK K'
    try simp only [Act.put, List.setIfInBounds_toArray, List.set_cons_zero, List.set_cons_succ]
    refine wpAnyH_ready (rs := [10]) (by kernel_rfl) (by simp) ?_
    refine AllReadyH.cons (o := ?o10) ?i10 (fun K' hK => ?_) AllReadyH.nil
    case' i10 => simp only [List.getElem?_toArray, List.getElem?_cons_succ, List.getElem?_cons_zero]
    case i10 => rfl
    have zz := HQ2.out
    have zf := HF4.out
    go_simp
    clear zz zf
    have hH : (u4.setCell ⟨q, 0, none⟩ (.slice a4 n4 c4)).cell? ⟨B, 0, none⟩ = some (.int .u64 xi) ∧ (u4.setCell ⟨q, 0, none⟩ (.slice a4 n4 c4)).cell? ⟨B, 1, none⟩ = some (.int .u64 xa) := ⟨by rw [World.cell?_setCell_other _ _ _ _ (by have := HNE.out.2.2; simp [this])]; exact hHeld.1, by rw [World.cell?_setCell_other _ _ _ _ (by have := HNE.out.2.2; simp [this])]; exact hHeld.2⟩
    clear hHeld
    refine hK.out _ _ hH (fun hHeld => ?_)
    clear hK K' hH
    try simp only [Act.put, List.setIfInBounds_toArray, List.set_cons_zero, List.set_cons_succ]
    refine wpAnyH_done (by kernel_rfl) ?_ _
    go_wp2_with fail
    go_end0
    refine ⟨rfl, ?_⟩
    have hxe : x = ⟨xi, xa⟩ := by rw [← hid, ← hat]
    rw [hxe]
    obtain ⟨h1, h2, h3, hv, hn, hx⟩ := HX.out
    exact QSt.pushed h1 h2 h3 HB.out.1 HC2.out (by rw [hn]; exact HM2.out) HB2.out (by rw [hv]; exact HA.out.1) (by rw [hv]; exact HA.out.2) hx
  case g17 =>
    go_simp
    have hal : Below u2.heap.size u2 ((u2.alloc (.cells #[.int .u64 xi, .int .u64 xa] 59)).drew) := (below_alloc u2 _).trans (drewN_belowA (below_alloc u2 _).size 1)
    have hH : ((u2.alloc (.cells #[.int .u64 xi, .int .u64 xa] 59)).drew).cell? ⟨B, 0, none⟩ = some (.int .u64 xi) ∧ ((u2.alloc (.cells #[.int .u64 xi, .int .u64 xa] 59)).drew).cell? ⟨B, 1, none⟩ = some (.int .u64 xa) := ⟨(hal.cell (block_lt_of_cell (w := u2) hHeld.1)).trans hHeld.1, (hal.cell (block_lt_of_cell (w := u2) hHeld.2)).trans hHeld.2⟩
    clear hHeld
    refine hK.out _ _ hH (fun hHeld => ?_)
    clear hK K' hH
    try simp only [Act.put, List.setIfInBounds_toArray, List.set_cons_zero, List.set_cons_succ]
    have HN3 : Hid (((u2.alloc (.cells #[.int .u64 xi, .int .u64 xa] 59)).drew).heap[u2.heap.size]? = some (.cells #[.int .u64 xi, .int .u64 xa] 59 (0, 0))) := Lib.hid (heap_alloc_new u2 _)
    replace HQ2 : Hid (((u2.alloc (.cells #[.int .u64 xi, .int .u64 xa] 59)).drew).cell? ⟨q, 0, none⟩ = some (.slice a n cap)) := Lib.hid ((hal.cell (block_lt_of_cell (w := u2) HQ2.out)).trans HQ2.out)
    replace HB2 : Hid (Below u2.heap.size u2 ((u2.alloc (.cells #[.int .u64 xi, .int .u64 xa] 59)).drew)) := Lib.hid hal
    clear hal
    generalize (u2.alloc (.cells #[.int .u64 xi, .int .u64 xa] 59)).drew = u3 at hHeld HN3 HQ2 HB2 ⊢
    generalize u2.heap.size = b3 at HN3 ⊢
    refine wpAnyH_ready (rs := [4]) (by kernel_rfl) (by simp) ?_
    refine AllReadyH.cons (o := ?o11) ?i11 (fun K' hK => ?_) AllReadyH.nil
    case' i11 => simp only [List.getElem?_toArray, List.getElem?_cons_succ, List.getElem?_cons_zero]
    case i11 => rfl
    have zz := HQ2.out
    go_simp
    clear zz
    refine hK.out _ _ hHeld (fun hHeld => ?_)
    clear hK K'
    try simp only [Act.put, List.setIfInBounds_toArray, List.set_cons_zero, List.set_cons_succ]
    refine wpAnyH_ready (rs := [7]) (by kernel_rfl) (by simp) ?_
    refine AllReadyH.cons (o := ?o12) ?i12 (fun K' hK => ?_) AllReadyH.nil
    case' i12 => simp only [List.getElem?_toArray, List.getElem?_cons_succ, List.getElem?_cons_zero]
    case i12 => rfl
    have hva := HX.out.2.2.2.1
    have hrow : OwnO 59 0 (.slice a n cap) H u3 := by
      have := HX.out.1.row
      rw [hva] at this
      have hnb : ∀ k, (Value.slice a n cap).ownBlock = some k → ¬ (k = m) := fun k hk => (HX.out.1.apart.2 k (by rw [hva]; exact hk)).2.1
      exact ((this.below HB.out.1).chg HC2.out hnb).below HB2.out
    refine oper_appO1 rfl (.tmp 22) (.tmp 24) 55 59 Try.underlying55 infoA rfl 0 (.slice a n cap) H ⟨xi, xa⟩ rfl hrow b3 1 rfl HN3.out (by have := HX.out.2.2.2.2.1; omega) (Nat.zero_le _) ?_
    clear hva hrow
    intro v4 u4 hA hg
    obtain ⟨a4, c4, hv4, _, _⟩ := hA.own.at
    obtain ⟨n4, hn4⟩ : ∃ n4, (H ++ [(⟨xi, xa⟩ : On)]).length = n4 := ⟨_, rfl⟩
    rw [hn4] at hv4
    clear hn4
    subst hv4
    have HA := Lib.hid (And.intro hA hg)
    have HG : Hid (∀ k, k ≠ 0 + k → True) := Lib.hid (fun _ _ => trivial)
    have hva := HX.out.2.2.2.1
    have hnot : ∀ k, (Value.slice a n cap).ownBlock = some k → k ≠ q ∧ k ≠ B := fun k hk => by
      obtain ⟨r1, _, cs, r2⟩ := HX.out.1.apart.2 k (by rw [hva]; exact hk)
      exact ⟨r1, by have := blk_lt r2; have := HB.out.2.2.1; omega⟩
    have far : ∀ (A : Addr) (v : Value), (A.block = q ∨ A.block = B) → u3.cell? A = some v → u4.cell? A = some v := fun A v hA2 hv => by
      have := (Chg.grown hA.grown).block A.block (block_lt_of_cell hv) (fun e => by
        have := hnot _ e.symm
        rcases hA2 with r | r
        · exact this.1 r
        · exact this.2 r)
      simp only [World.cell?, this]
      exact hv
    have hH : u4.cell? ⟨B, 0, none⟩ = some (.int .u64 xi) ∧ u4.cell? ⟨B, 1, none⟩ = some (.int .u64 xa) := ⟨far _ _ (.inr rfl) hHeld.1, far _ _ (.inr rfl) hHeld.2⟩
    replace HQ2 := Lib.hid (far _ _ (.inl rfl) HQ2.out)
    have HF4 : Hid (u4.frozen? ⟨q, 0, none⟩ = false) := Lib.hid (by
      have b0 := HX.out.1.blk
      have b2 := ((Chg.of_below (S := fun _ => False) HB2.out).blk (HC2.out.blk ((Chg.of_below (S := fun _ => False) HB.out.1).blk b0 (fun e => e)) HNE.out.1) (fun e => e))
      exact frz_atA 0 ((Chg.grown hA.grown).blk b2 (fun e => (hnot q e.symm).1 rfl)))
    clear hA hg hva hnot far hHeld
    refine hK.out _ _ hH (fun hHeld => ?_)
    clear hK K' hH
    try simp only [Act.put, List.setIfInBounds_toArray, List.set_cons_zero, List.set_cons_succ]
    refine wpAnyH_ready (rs := [8]) (by kernel_rfl) (by simp) ?_
    refine AllReadyH.cons (o := ?o13) ?i13 (fun K' hK => ?_) AllReadyH.nil
    case' i13 => simp only [List.getElem?_toArray, List.getElem?_cons_succ, List.getElem?_cons_zero]
    case i13 => rfl
    go_simp
    refine hK.out _ _ hHeld (fun hHeld => ?_)
    clear hK K'
    try simp only [Act.put, List.setIfInBounds_toArray, List.set_cons_zero, List.set_cons_succ]
    refine wpAnyH_ready (rs := [9]) (by kernel_rfl) (by simp) ?_
    refine AllReadyH.cons (o := ?o14) ?i14 (fun K' hK => ?_) AllReadyH.nil
    case' i14 => simp only [List.getElem?_toArray, List.getElem?_cons_succ, List.getElem?_cons_zero]
    case i14 => rfl
    go_simp
    refine hK.out _ _ hHeld (fun hHeld => ?_)
    clear hK K'
    try simp only [Act.put, List.setIfInBounds_toArray, List.set_cons_zero, List.set_cons_succ]
    refine wpAnyH_ready (rs := [10]) (by kernel_rfl) (by simp) ?_
    refine AllReadyH.cons (o := ?o15) ?i15 (fun K' hK => ?_) AllReadyH.nil
    case' i15 => simp only [List.getElem?_toArray, List.getElem?_cons_succ, List.getElem?_cons_zero]
    case i15 => rfl
    have zz := HQ2.out
    have zf := HF4.out
    go_simp
    clear zz zf
    have hH : (u4.setCell ⟨q, 0, none⟩ (.slice a4 n4 c4)).cell? ⟨B, 0, none⟩ = some (.int .u64 xi) ∧ (u4.setCell ⟨q, 0, none⟩ (.slice a4 n4 c4)).cell? ⟨B, 1, none⟩ = some (.int .u64 xa) := ⟨by rw [World.cell?_setCell_other _ _ _ _ (by have := HNE.out.2.2; simp [this])]; exact hHeld.1, by rw [World.cell?_setCell_other _ _ _ _ (by have := HNE.out.2.2; simp [this])]; exact hHeld.2⟩
    clear hHeld
    refine hK.out _ _ hH (fun hHeld => ?_)
    clear hK K' hH
    try simp only [Act.put, List.setIfInBounds_toArray, List.set_cons_zero, List.set_cons_succ]
    refine wpAnyH_done (by kernel_rfl) ?_ _
    go_wp2_with fail
    go_end0
    refine ⟨rfl, ?_⟩
    have hxe : x = ⟨xi, xa⟩ := by rw [← hid, ← hat]
    rw [hxe]
    obtain ⟨h1, h2, h3, hv, hn, hx⟩ := HX.out
    exact QSt.pushed h1 h2 h3 HB.out.1 HC2.out (by rw [hn]; exact HM2.out) HB2.out (by rw [hv]; exact HA.out.1) (by rw [hv]; exact HA.out.2) hx
theorem QSt.popped {g n cap l : Nat} {x : On} {u1 u2 u3 : World} (h1 : QAt w q m (.slice (some ⟨g, 0, none⟩) n cap) H) (h2 : Chg (fun k => k = q ∨ k = m ∨ some k = g0) w0 w) (h3 : ∀ k, (Value.slice (some ⟨g, 0, none⟩) n cap).ownBlock = some k → some k = g0 ∨ w0.heap.size ≤ k)
    (hn : H.length = n) (hl : l + 1 = n) (hx : gt H l = x) (hb1 : Below w.heap.size w u1) (hu2 : u2 = u1.setCell ⟨q, 0, none⟩ (.slice (some ⟨g, 0, none⟩) l cap)) (hc : Chg (fun k => k = m) u2 u3) (hm : MapP u3 m (delG (Places H) x.id)) : QSt w0 q m g0 (H.take (H.length - 1)) u3 := by
  have ap := h1.apart
  have hgq := ap.2 g rfl
  have b1 := (Chg.of_below (S := fun _ => False) hb1).blk h1.blk (fun e => e)
  have cs := Chg.setCell u1 q 0 (.slice (some ⟨g, 0, none⟩) l cap)
  rw [← hu2] at cs
  have r0 : w.ownsRow 0 59 2 (.slice (some ⟨g, 0, none⟩) n cap) H.length (cellsO H) := h1.row
  have r1 : OwnO 59 0 (.slice (some ⟨g, 0, none⟩) l cap) (H.take l) w := by
    rcases r0.2 with ⟨hv, _⟩ | ⟨g', cap', cur, hv, hg1, hg2, hg3, hg4, hg5, hg6⟩
    · cases hv
    · injection hv with e1 e2 e3
      injection e1 with e1
      injection e1 with e1
      subst e1 e3
      have hll : (H.take l).length = l := by rw [List.length_take]; omega
      refine ⟨by rw [cellsO_len], .inr ⟨g, cap, cur, by rw [hll], hg1, hg2, by rw [hll]; omega, hg4, hg5, ?_⟩⟩
      have h4 : cellsO H = cellsO (H.take l) ++ cellsO (H.drop l) := by rw [← cellsO_app, List.take_append_drop]
      have h5 : (cellsO (H.take l)).length = l * 2 := by rw [cellsO_len, hll]
      rw [hll]
      have h6 : (cur.toList.take (H.length * 2)).take (l * 2) = (cellsO H).take (l * 2) := by rw [hg6]
      rw [List.take_take, Nat.min_eq_left (by omega)] at h6
      rw [h6, h4, ← h5, List.take_left']
      rfl
  have r2 := ((r1.below hb1).chg cs (fun k hk e => by
    obtain rfl : g = k := Option.some.inj hk
    exact hgq.1 e)).chg hc (fun k hk e => by
    obtain rfl : g = k := Option.some.inj hk
    exact hgq.2.1 e)
  have e1 : H.length - 1 = l := by omega
  rw [e1]
  refine ⟨_, ⟨?_, r2, hm.congr (fun k u => ?_), List.Nodup.sublist ((List.take_sublist l H).map On.id) h1.once⟩, ((h2.wide (Chg.of_below (S := fun _ => False) hb1) (fun _ e => e.elim)).wide cs (fun k e => .inl (.inl e))).wide hc (fun k e => .inl (.inr (.inl e))), fun k hk => h3 k hk⟩
  · refine hc.blk ?_ ap.1
    have := heap_setCell_same u1 q 0 _ _ (.slice (some ⟨g, 0, none⟩) l cap) b1
    rw [hu2]
    simpa using this
  · have := places_pop h1.once (by omega) k u
    rw [e1, hx] at this
    exact this
set_option maxHeartbeats 4000000 in
theorem q_pop : HPop (QSt w0 q m g0) q (fun o v _ => v = .iface 59 o.v) := by
  intro H w hs h0
  obtain ⟨v, h1, h2, h3⟩ := hs
  obtain ⟨g, cap, hv, hn1, hn2, hr⟩ := h1.row.pos h0
  obtain ⟨n, hn⟩ : ∃ n, H.length = n := ⟨_, rfl⟩
  obtain ⟨l, hl⟩ : ∃ l, l + 1 = n := ⟨n - 1, by omega⟩
  have e1 : H.length - 1 = l := by omega
  rw [e1]
  obtain ⟨⟨xi, xa⟩, hx⟩ : ∃ x, gt H l = x := ⟨_, rfl⟩
  obtain ⟨x0, x1, _, _⟩ := hr l (by omega)
  rw [hx] at x0 x1 ⊢
  rw [hn] at hv hn1
  subst hv
  have c0 := cell_atA 0 h1.blk
  have c1 := cell_atA 1 h1.blk
  have f0 := frz_atA 0 h1.blk
  simp at c0 c1
  have l1 : (n : Int) - 1 = (l : Int) := by omega
  have l2 : (l : Int) ≤ (cap : Int) := by omega
  have l3 : (l : Int) < (n : Int) := by omega
  have l4 : (0 : Int) ≤ (l : Int) := by omega
  have hcap : cap ≤ 9223372036854775807 := by unfold maxLen at hn2; omega
  have hn3 : n ≤ 9223372036854775807 := by omega
  have ap := h1.apart
  have HX := Lib.hid (And.intro h1 (And.intro h2 (And.intro h3 (And.intro hn (And.intro hl hx)))))
  obtain ⟨u1, hu1⟩ : ∃ u, u = w.alloc (.cells #[.int .u64 xi, .int .u64 xa] 59) := ⟨_, rfl⟩
  have hb1 : Below w.heap.size w u1 := by rw [hu1]; exact below_alloc _ _
  have hbox : u1.heap[w.heap.size]? = some (.cells #[.int .u64 xi, .int .u64 xa] 59 (0, 0)) := by rw [hu1]; exact heap_alloc_new _ _
  have hqB : q < w.heap.size := blk_lt h1.blk
  have hmB : m < w.heap.size := h1.map.lt
  obtain ⟨B, hB⟩ : ∃ B, B = w.heap.size := ⟨_, rfl⟩
  have d0 := (hb1.cell (block_lt_of_cell c0)).trans c0
  have d1 := (hb1.cell (block_lt_of_cell c1)).trans c1
  have df := frz_atA 0 ((Chg.of_below (S := fun _ => False) hb1).blk h1.blk (fun e => e))
  rw [← hB] at hbox hqB hmB
  have hbc : Chg (fun k => k = q) u1 (u1.setCell ⟨q, 0, none⟩ (.slice (some ⟨g, 0, none⟩) l cap)) := Chg.setCell _ _ _ _
  have hbox2 := hbc.blk hbox (by omega)
  have HM : Hid (MapP (u1.setCell ⟨q, 0, none⟩ (.slice (some ⟨g, 0, none⟩) l cap)) m (Places H)) := Lib.hid ((h1.map.below hb1).chg hbc (fun e => ap.1 e.symm))
  have b1 := cell_atA 1 (by
    have := heap_setCell_same u1 q 0 _ _ (.slice (some ⟨g, 0, none⟩) l cap) ((Chg.of_below (S := fun _ => False) hb1).blk h1.blk (fun e => e))
    exact this)
  simp at b1
  have HB := Lib.hid (And.intro hb1 (And.intro hbox2 (And.intro hB (And.intro hqB hmB))))
  obtain ⟨u2, hu2⟩ : ∃ u, u = u1.setCell ⟨q, 0, none⟩ (.slice (some ⟨g, 0, none⟩) l cap) := ⟨_, rfl⟩
  have HU2 := Lib.hid hu2
  rw [← hu2] at b1 hbox2 HM
  have g0' := cell_atA 0 hbox2
  have g1' := cell_atA 1 hbox2
  simp at g0' g1'
  have HU1 := Lib.hid hu1
  have HB1 := Lib.hid hB
  rw [hu2, hu1] at b1
  rw [hu1] at d0 d1 df
  rw [hu2, hu1, hB] at g0' g1'
  clear h1 h2 h3 hr hn hl hx hn1 hn2 h0 e1 hb1 hbox hqB hmB hbc hbox2 ap hu1 hu2 hB
  go_enter Try.func56, Try.ntmps56
  go_wp2_with fail
  rw [← HU1.out, ← HU2.out, ← HB1.out]
  rw [← HU1.out, ← HU2.out] at b1
  rw [← HU1.out, ← HU2.out, ← HB1.out] at g0' g1'
  rw [← HU1.out] at d0 d1 df
  clear c0 c1 f0 x0 x1 d0 d1 df
  go_still_tail 6, (by kernel_rfl)
  change wpList _ _ _ _ _ u2.drew
  refine wpList_del rfl (.tmp 30) (.tmp 32) 54 29 3 rfl Try.underlying54 Try.underlying29 xi rfl rfl (show MapP u2.drew m (Places H) from HM.out) ?_
  intro u3 hm hc
  have HM3 := Lib.hid hm
  have HC3 : Hid (Chg (fun j => j = m) u2 u3) := Lib.hid ⟨hc.os, hc.tape, hc.output, hc.size, hc.block⟩
  have far : ∀ (A : Addr) (v : Value), A.block ≠ m → u2.cell? A = some v → u3.cell? A = some v := fun A v hA hv => by
    have := HC3.out.block A.block (block_lt_of_cell hv) hA
    simp only [World.cell?, this]
    exact hv
  have hBm : B ≠ m := by have := HB.out.2.2.2; omega
  have e0 := far _ _ hBm g0'
  have e1 := far _ _ hBm g1'
  clear hm hc far g0' g1' b1
  go_wp2_with fail
  go_ret
  obtain ⟨h1, h2, h3, hn, hl, hx⟩ := HX.out
  have hp := QSt.popped h1 h2 h3 hn hl hx HB.out.1 HU2.out HC3.out HM3.out
  rw [show H.length - 1 = l by omega] at hp
  exact ⟨⟨_, rfl, rfl⟩, hp⟩
end
end Go.Proofs.Ytcnfchjiiglijaa
