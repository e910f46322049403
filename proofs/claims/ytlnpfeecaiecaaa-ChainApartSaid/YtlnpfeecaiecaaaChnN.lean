/- Chains: the program's way through the epochs, handed on one by one. Chains: the program's To. Chains: the program's To, where the epoch is not too far. -/
import Derived.Test.YtlnpfeecaiecaaaChnJ
import Derived.Test.YtlnpfeecaiecaaaChnP
import Derived.Shelf.Abstract
import Derived.Shelf.RegionOpen
import Derived.WalkKit
import Derived.OwnWalkIn
import Derived.TacticsInMore
import Derived.LoopNIn
import Derived.LoopIn
namespace Go.Proofs.Ytlnpfeecaiecaaa
open Go.RowKit Go.Shelf
attribute [local go_sem] Oper.semAt_some
set_option linter.unusedVariables false
set_option linter.unusedSimpArgs false
set_option maxRecDepth 20000
/-- What is handed on, and where that is. -/
structure Gz where
  bat : Nat
  a : Int
  y : Int
  ey : Int
  ly : Int
  le : Int
  js : List Int
  M : List Tm
  v : Value
def Gz.encs (z : Gz) : Array Value := #[.int .i64 z.a, .agg #[.int .i64 z.y, .int .i64 z.ey]]
def atObj (y ey : Int) : Obj := .cells #[.int .i64 y, .int .i64 ey] 30 (0, 0)
/-- Ahead of a round of the caller's. -/
def IpC (c : ToC) (z : Gz) (W : World) : Prop := z.js.length ≤ 4 ∧ c.n + 11 ≤ z.bat ∧ ∃ r, ToI c (fun k => k = z.bat) ⟨0, z.v, z.v, z.ly, z.le, z.js, z.M⟩ r W ∧ W.heap[z.bat]? = some (atObj z.y z.ey)
/-- Behind it. -/
def IbC (c : ToC) (z : Gz) (W : World) : Prop := ∃ r v', ToI c (fun k => k = z.bat) ⟨0, v', v', z.y, z.ey, z.js ++ [z.a], z.M⟩ r W ∧ W.heap[z.bat]? = some (atObj z.y z.ey)
/-- At the end of all. -/
def IeC (c : ToC) (x' ep' err : Int) (ks : List Int) (L' : List Tm) (W : World) : Prop := ∃ r u, ToI c (fun _ => False) u r W ∧ u.v = u.vb ∧ u.M = L' ∧ u.er = err ∧ ((err = 0 ∧ u.ly = x' ∧ u.le = ep' ∧ u.js = ks) ∨ (err ≠ 0 ∧ x' = 0 ∧ ep' = 0 ∧ ks = []))
theorem IeC.ok {c : ToC} {x' ep' : Int} {ks : List Int} {L' : List Tm} {W : World} {X : Nat → Prop} {v : Value} {r : Loop} (h : ToI c X ⟨0, v, v, x', ep', ks, L'⟩ r W) : IeC c x' ep' 0 ks L' W :=
  ⟨r, _, h.less (fun k q => q.elim), rfl, rfl, rfl, .inl ⟨rfl, rfl, rfl, rfl⟩⟩
theorem IeC.bad {c : ToC} {e : Int} {L' : List Tm} {W : World} {X : Nat → Prop} {v : Value} {ly le : Int} {js : List Int} {r : Loop} (he : e ≠ 0) (h : ToI c X ⟨e, v, v, ly, le, js, L'⟩ r W) : IeC c 0 0 e [] L' W :=
  ⟨r, _, h.less (fun k q => q.elim), rfl, rfl, rfl, .inr ⟨he, rfl, rfl, rfl⟩⟩
theorem at_cells {W : World} {B : Nat} {y ey : Int} (h : W.heap[B]? = some (atObj y ey)) : W.cell? ⟨B, 0, none⟩ = some (.int .i64 y) ∧ W.cell? ⟨B, 1, none⟩ = some (.int .i64 ey) ∧ W.frozen? ⟨B, 0, none⟩ = false ∧ W.frozen? ⟨B, 1, none⟩ = false := cells2 h
theorem one_cell {W : World} {B : Nat} {y : Value} {t : TypeId} (h : W.heap[B]? = some (.cells #[y] t (0, 0))) : W.cell? ⟨B, 0, none⟩ = some y ∧ W.frozen? ⟨B, 0, none⟩ = false := by
  refine ⟨?_, ?_⟩
  · simp [World.cell?, h]
  · simp [World.frozen?, h]
theorem drew_below (w : World) : Below w.heap.size w w.drew := ⟨rfl, rfl, rfl, Nat.le_refl _, fun _ _ => rfl⟩
set_option maxRecDepth 100000 in
set_option maxHeartbeats 4000000 in
theorem upTo1_k (c : ToC) (o : c.Ok) (m : Nat) {L L' : List Tm} {x' ep' err : Int} {ks : List Int} {t : Nat} (hx : I64 c.x) (ht : c.epoch = c.ep + (t : Int) ∧ t ≤ 4) (hep : I64 c.ep) (hepo : I64 c.epoch)
    (hf : toA c.most t L ⟨c.x, c.ep⟩ [] = (⟨x', ep'⟩, ks, err, L')) (r : Loop)
    (hY : ∀ z W1, IpC c z W1 → Held (c.n + 9) r W1 → YieldAt Fence.wide m Try.prog (c.n + 9 + 1) z.encs W1 fun e W' => e = .returned (.bool true) ∧ IbC c z W' ∧ Held (c.n + 9) r W')
    (W : World) (hI : ToI c (fun _ => False) ⟨0, .slice none 0 0, .slice none 0 0, c.x, c.ep, [], L⟩ r W) :
    Calls Try.prog 42 #[.func (.yield (c.n + 9 + 1)) #[] #[], .pointer (some ⟨c.n + 5, 0, none⟩), .pointer (some ⟨c.n + 7, 0, none⟩), .pointer (some ⟨c.n + 6, 0, none⟩), .pointer (some ⟨c.n + 8, 0, none⟩)] W fun e W' =>
      (∃ v, e = .returned v) ∧ IeC c x' ep' err ks L' W' ∧ Held (c.n + 9) r W' := by
  obtain ⟨bep1, bep2⟩ := Go.bounds_i64 hep
  obtain ⟨beq1, beq2⟩ := Go.bounds_i64 hepo
  have HB : Hid ((-9223372036854775808 ≤ c.ep ∧ c.ep ≤ 9223372036854775807) ∧ -9223372036854775808 ≤ c.epoch ∧ c.epoch ≤ 9223372036854775807) := Lib.hid ⟨⟨by omega, by omega⟩, by omega, by omega⟩
  have HT := Lib.hid ht
  have HF := Lib.hid hf
  have HX := Lib.hid hx
  have HY := Lib.hid hY
  have HI1 : Hid (ToI c (fun k => k = W.heap.size) ⟨0, .slice none 0 0, .slice none 0 0, c.x, c.ep, [], L⟩ r (W.alloc (.cells #[.int .i64 c.x, .int .i64 c.ep] 30 : Obj))) := Lib.hid ((hI.box o _).less (fun k q => .inr q))
  have hlt : c.n + 11 ≤ W.heap.size := by have := hI.pair.klt (c.n + 10) (ToC.own (by omega)); omega
  have HA1 : Hid ((W.alloc (.cells #[.int .i64 c.x, .int .i64 c.ep] 30 : Obj)).heap[W.heap.size]? = some (atObj c.x c.ep)) := Lib.hid (heap_alloc_new W _)
  have HLT := Lib.hid hlt
  have HI := Lib.hid hI
  clear bep1 bep2 beq1 beq2 ht hf hx hY hI hlt hep hepo
  obtain ⟨q5, q5', _, _⟩ := cells2 HI.out.bc
  go_enter Try.func42, Try.ntmps42
  go_wp2_with fail
  go_loopg [6] t (fun gk s6 wr => ∃ (B : Nat) (j : Nat) (v : Value) (y ey : Int) (js : List Int) (M : List Tm), (j + gk = t ∧ c.n + 11 ≤ B) ∧ s6 = .pointer (some ⟨B, 0, none⟩) ∧ Hid (js.length = j ∧ I64 y ∧ ey = c.ep + (j : Int)) ∧ Hid (toA c.most gk M ⟨y, ey⟩ js = (⟨x', ep'⟩, ks, err, L')) ∧ Hid (ToI c (fun k => k = B) ⟨0, v, v, y, ey, js, M⟩ r wr) ∧ Hid (wr.heap[B]? = some (atObj y ey)))
  case atStart =>
    refine ⟨W.heap.size, 0, .slice none 0 0, c.x, c.ep, [], L, ⟨by omega, HLT.out⟩, rfl, Lib.hid ⟨rfl, HX.out, by simp⟩, HF, ?_, ?_⟩
    · exact HI1
    · exact HA1
  case round =>
    obtain ⟨B, j, v, y, ey, js, M, ⟨hjt, hB⟩, rfl, HJ, HF, HI, HA⟩ := hrel
    have HIw := Lib.hid (HI.out.below o (drew_below wr))
    have HAw : Hid (wr.drew.heap[B]? = some (atObj y ey)) := HA
    obtain ⟨r0, r1, r2, r3⟩ := at_cells HAw.out
    obtain ⟨e0, _⟩ := one_cell HIw.out.be
    have HJT := Lib.hid hjt
    have HBn := Lib.hid hB
    clear hjt hB
    cases gk with
    | zero =>
      have hf := HF.out
      rw [to_zero] at hf
      injection hf with h1 h2
      injection h1 with h3 h4
      injection h2 with h5 h6
      injection h6 with h7 h8
      have HEE : Hid (ey = c.epoch) := Lib.hid (by have := HJ.out.2.2; have := HT.out.1; have := HJT.out; omega)
      subst h3 h4 h5 h7 h8
      have HC : Hid (∀ w, Calls Try.prog 43 #[.agg #[.int .i64 y, .int .i64 ey], .int .i64 c.epoch] w fun e w' => e = .returned (.agg #[.int .i64 y, .int .i64 c.epoch]) ∧ Below w.heap.size w w') := Lib.hid (in_k y ey c.epoch)
      have hne : ∀ w, (binOp .neq 30 (.agg #[.int .i64 y, .int .i64 ey]) (.agg #[.int .i64 y, .int .i64 c.epoch])).run Try.prog w = .ok (.bool false) w := fun w => by
        rw [neqC, HEE.out]
        simp
      go_upto_region 1 with fail
      go_region_held3 (fun w' => w'.cell? ⟨B, 0, none⟩ = some (.int .i64 y) ∧ w'.cell? ⟨B, 1, none⟩ = some (.int .i64 ey) ∧ w'.cell? ⟨c.n + 7, 0, none⟩ = some (.int .i64 c.epoch)) (first | assumption | go_keep) ((go_at_call 43; refine (HC.out _).mono ?_; rintro e1 w2 ⟨rfl, hb2⟩; have HI2 := Lib.hid (HIw.out.below o hb2); have HA2 : Hid (w2.heap[B]? = some (atObj y ey)) := Lib.hid ((hb2.block B (blk_lt HAw.out)).trans HAw.out); have hS2 : w2.cell? ⟨B, 0, none⟩ = some (.int .i64 y) ∧ w2.cell? ⟨B, 1, none⟩ = some (.int .i64 ey) ∧ w2.cell? ⟨c.n + 7, 0, none⟩ = some (.int .i64 c.epoch) := ⟨(at_cells HA2.out).1, (at_cells HA2.out).2.1, (one_cell HI2.out.be).1⟩; clear hb2))
      go_wp2_with fail
      go_end0
      exact ⟨⟨_, rfl⟩, IeC.ok HI2.out, HI2.out.held⟩
    | succ gk =>
      have HC : Hid (∀ w, Calls Try.prog 43 #[.agg #[.int .i64 y, .int .i64 ey], .int .i64 c.epoch] w fun e w' => e = .returned (.agg #[.int .i64 y, .int .i64 c.epoch]) ∧ Below w.heap.size w w') := Lib.hid (in_k y ey c.epoch)
      have hne : ∀ w, (binOp .neq 30 (.agg #[.int .i64 y, .int .i64 ey]) (.agg #[.int .i64 y, .int .i64 c.epoch])).run Try.prog w = .ok (.bool true) w := fun w => by
        rw [neqC]
        have h1 := HJ.out.2.2
        have h2 := HT.out.1
        have h3 := HJT.out
        have h4 : (ey == c.epoch) = false := by simp; omega
        simp [h4]
      go_upto_region 1 with fail
      go_region_held3 (fun w' => w'.cell? ⟨B, 0, none⟩ = some (.int .i64 y) ∧ w'.cell? ⟨B, 1, none⟩ = some (.int .i64 ey) ∧ w'.cell? ⟨c.n + 7, 0, none⟩ = some (.int .i64 c.epoch)) (first | assumption | go_keep) ((go_at_call 43; refine (HC.out _).mono ?_; rintro e1 w2 ⟨rfl, hb2⟩; have HI2 := Lib.hid (HIw.out.below o hb2); have HA2 : Hid (w2.heap[B]? = some (atObj y ey)) := Lib.hid ((hb2.block B (blk_lt HAw.out)).trans HAw.out); have hS2 : w2.cell? ⟨B, 0, none⟩ = some (.int .i64 y) ∧ w2.cell? ⟨B, 1, none⟩ = some (.int .i64 ey) ∧ w2.cell? ⟨c.n + 7, 0, none⟩ = some (.int .i64 c.epoch) := ⟨(at_cells HA2.out).1, (at_cells HA2.out).2.1, (one_cell HI2.out.be).1⟩; clear hb2))
      go_upto_region 3 with fail
      clear hne r0 r1 r2 r3 e0 hS2 HC
      obtain ⟨a, f, M1, hq⟩ : ∃ a f M1, putF M c.most (keyT y 1) = (a, f, M1) := ⟨_, _, _, rfl⟩
      have HQ := Lib.hid hq
      have HI3 := Lib.hid (HI2.out.below o (drew_below w2))
      have HA3 : Hid (w2.drew.heap[B]? = some (atObj y ey)) := HA2
      obtain ⟨r0, r1, _, _⟩ := at_cells HA3.out
      obtain ⟨p0, _⟩ := one_cell HI3.out.bp
      obtain ⟨s0, _⟩ := one_cell HI3.out.bs
      have hB3 : B ≠ c.n + 3 := by have := HBn.out; omega
      clear hq
      go_region_held3 (fun w' => w'.cell? ⟨B, 0, none⟩ = some (.int .i64 y) ∧ w'.cell? ⟨B, 1, none⟩ = some (.int .i64 ey) ∧ w'.cell? ⟨c.n + 6, 0, none⟩ = some (.pointer (some ⟨c.g, 0, none⟩)) ∧ w'.cell? ⟨c.n + 8, 0, none⟩ = some (.pointer (some ⟨c.n + 3, 0, none⟩))) (first | assumption | (refine ⟨?_, ?_, ?_, ?_⟩ <;> first | assumption | (rw [World.cell?_setCell_other _ _ _ _ (by simp [hB3])]; simp only [hS4]) | (rw [World.cell?_setCell_other _ _ _ _ (by simp [hB3.symm])]; simp only [hS4])) | go_keep) ((go_at_call 10; refine (HI3.out.pair.csealP (o.gw _ _) HJ.out.2.1 HQ.out).mono ?_; rintro e1 w4 ⟨rfl, hp4, hk4⟩; have HI4 := Lib.hid (HI3.out.step hp4 hk4); have HA4 : Hid (w4.heap[B]? = some (atObj y ey)) := Lib.hid ((hk4 B (.inr rfl)).trans HA3.out); have hS4 : w4.cell? ⟨B, 0, none⟩ = some (.int .i64 y) ∧ w4.cell? ⟨B, 1, none⟩ = some (.int .i64 ey) ∧ w4.cell? ⟨c.n + 6, 0, none⟩ = some (.pointer (some ⟨c.g, 0, none⟩)) ∧ w4.cell? ⟨c.n + 8, 0, none⟩ = some (.pointer (some ⟨c.n + 3, 0, none⟩)) := ⟨(at_cells HA4.out).1, (at_cells HA4.out).2.1, (one_cell HI4.out.bs).1, (one_cell HI4.out.bp).1⟩; obtain ⟨x0, x1⟩ := one_cell HI4.out.b10; clear hp4 hk4))
      go_upto_region 4 with fail
      clear r0 r1 p0 s0 x0 x1 hS4 hB3
      obtain ⟨w5, hw5⟩ : ∃ w5, w5 = w4.setCell ⟨c.n + 3, 0, none⟩ (.int .i64 f) := ⟨_, rfl⟩
      have HI5 : Hid (ToI c (fun k => k = B) ⟨f, v, v, y, ey, js, M1⟩ r w5) := Lib.hid (by rw [hw5]; exact HI4.out.setErr o f)
      have HA5 : Hid (w5.heap[B]? = some (atObj y ey)) := Lib.hid (by rw [hw5]; exact (heap_setCell_other _ _ _ _ (by show B ≠ c.n + 3; have := HBn.out; omega)).trans HA4.out)
      rw [← hw5]
      clear hw5 HI4 HA4 HI3 HA3 HI2 HA2
      obtain ⟨p0, _⟩ := one_cell HI5.out.bp
      obtain ⟨x0, x1⟩ := one_cell HI5.out.b10
      by_cases hf0 : f = 0
      · subst hf0
        obtain ⟨y2, ey2, f2, M2, hx⟩ : ∃ y2 ey2 f2 M2, nextF M1 c.most ⟨y, ey⟩ = (⟨y2, ey2⟩, f2, M2) := ⟨_, _, _, _, rfl⟩
        have HXN := Lib.hid hx
        have HEY : Hid (I64 ey) := Lib.hid (i64_of (by have := HJ.out.2.2; have := HB.out; omega) (by have := HJ.out.2.2; have := HT.out; have := HB.out; have := HJT.out; omega))
        have HI6 := Lib.hid (HI5.out.below o (drew_below w5))
        have HFI : Hid ((M1.length : Int) ≤ c.most ∧ c.most ≤ 1048576) := Lib.hid (And.intro HI5.out.pair.facts.2.1 HI5.out.pair.facts.2.2)
        have HA6 : Hid (w5.drew.heap[B]? = some (atObj y ey)) := HA5
        clear hx
        go_upto_region 5 with fail
        clear p0 x0 x1
        obtain ⟨r0, r1, _, _⟩ := at_cells HA6.out
        obtain ⟨p0, _⟩ := one_cell HI6.out.bp
        obtain ⟨s0, _⟩ := one_cell HI6.out.bs
        have hB3 : B ≠ c.n + 3 := by have := HBn.out; omega
        have hB6 : B ≠ c.n + 6 := by have := HBn.out; omega
        have hB8 : B ≠ c.n + 8 := by have := HBn.out; omega
        refine wp_region_held_drew (S := (fun w' => w'.cell? ⟨c.n + 6, 0, none⟩ = some (.pointer (some ⟨c.g, 0, none⟩)) ∧ w'.cell? ⟨c.n + 8, 0, none⟩ = some (.pointer (some ⟨c.n + 3, 0, none⟩)))) (by kernel_rfl) ⟨s0, p0⟩ (fun hHeld => ?_)
        refine wpAnyH_take (i := 0) (oi := ?o101) (v := ?v101) ?i101 (by kernel_rfl) (by kernel_rfl) (by kernel_rfl) ?q101 (Or.inl ⟨?w101, ?y101⟩) (by assumption) ?r101
        case' i101 => simp only [List.getElem?_toArray, List.getElem?_cons_succ, List.getElem?_cons_zero]
        case i101 => rfl
        case q101 => exact fun _ _ _ h => h
        case w101 => rfl
        case y101 => (intro w hSw; obtain ⟨z0, z1⟩ := hSw; go_simp) <;> with_reducible rfl
        try simp only [Act.put, List.setIfInBounds_toArray, List.set_cons_zero, List.set_cons_succ]
        refine wpAnyH_take (i := 2) (oi := ?o102) (v := ?v102) ?i102 (by kernel_rfl) (by kernel_rfl) (by kernel_rfl) ?q102 (Or.inl ⟨?w102, ?y102⟩) (by assumption) ?r102
        case' i102 => simp only [List.getElem?_toArray, List.getElem?_cons_succ, List.getElem?_cons_zero]
        case i102 => rfl
        case q102 => exact fun _ _ _ h => h
        case w102 => rfl
        case y102 => (intro w hSw; obtain ⟨z0, z1⟩ := hSw; go_simp) <;> with_reducible rfl
        try simp only [Act.put, List.setIfInBounds_toArray, List.set_cons_zero, List.set_cons_succ]
        refine wpAnyH_ready (rs := [1]) (by kernel_rfl) (by simp) ?_
        refine AllReadyH.cons (o := ?o103) ?i103 (fun K' hK => ?_) AllReadyH.nil
        case' i103 => simp only [List.getElem?_toArray, List.getElem?_cons_succ, List.getElem?_cons_zero]
        case i103 => rfl
        go_simp
        refine hK.out _ _ hHeld (fun hHeld => ?_)
        clear hK K'
        try simp only [Act.put, List.setIfInBounds_toArray, List.set_cons_zero, List.set_cons_succ]
        refine wpAnyH_ready (rs := [3]) (by kernel_rfl) (by simp) ?_
        refine AllReadyH.cons (o := ?o104) ?i104 (fun K' hK => ?_) AllReadyH.nil
        case' i104 => simp only [List.getElem?_toArray, List.getElem?_cons_succ, List.getElem?_cons_zero]
        case i104 => rfl
        go_simp
        go_at_call 13
        refine (HI6.out.pair.cnextP (o.gw _ _) HJ.out.2.1 HEY.out HXN.out).mono ?_
        rintro e1 w7 ⟨rfl, hp7, hk7⟩
        have HI7 := Lib.hid (HI6.out.step hp7 hk7)
        have HA7 : Hid (w7.heap[B]? = some (atObj y ey)) := Lib.hid ((hk7 B (.inr rfl)).trans HA6.out)
        clear hp7 hk7
        go_wp2_with fail
        refine hK.out _ _ ⟨(one_cell HI7.out.bs).1, (one_cell HI7.out.bp).1⟩ (fun hHeld => ?_)
        clear hK K'
        try simp only [Act.put, List.setIfInBounds_toArray, List.set_cons_zero, List.set_cons_succ]
        have HI8 := Lib.hid (HI7.out.setAt o rfl HBn.out y2 ey2)
        have HA8 := Lib.hid (fill2 B (.int .i64 y2) (.int .i64 ey2) HA7.out)
        clear r0 r1 p0 s0 hHeld
        obtain ⟨t0, t1, t2, t3⟩ := at_cells HA7.out
        have hHeld := (And.intro (one_cell HI7.out.bs).1 (one_cell HI7.out.bp).1)
        refine wpAnyH_take (i := 4) (oi := ?o105) (v := ?v105) ?i105 (by kernel_rfl) (by kernel_rfl) (by kernel_rfl) ?q105 (Or.inl ⟨?w105, ?y105⟩) (by assumption) ?r105
        case' i105 => simp only [List.getElem?_toArray, List.getElem?_cons_succ, List.getElem?_cons_zero]
        case i105 => rfl
        case q105 => exact fun _ _ _ h => h
        case w105 => rfl
        case y105 => (intro w hSw; go_simp) <;> with_reducible rfl
        try simp only [Act.put, List.setIfInBounds_toArray, List.set_cons_zero, List.set_cons_succ]
        refine wpAnyH_take (i := 5) (oi := ?o106) (v := ?v106) ?i106 (by kernel_rfl) (by kernel_rfl) (by kernel_rfl) ?q106 (Or.inl ⟨?w106, ?y106⟩) (by assumption) ?r106
        case' i106 => simp only [List.getElem?_toArray, List.getElem?_cons_succ, List.getElem?_cons_zero]
        case i106 => rfl
        case q106 => exact fun _ _ _ h => h
        case w106 => rfl
        case y106 => (intro w hSw; go_simp) <;> with_reducible rfl
        try simp only [Act.put, List.setIfInBounds_toArray, List.set_cons_zero, List.set_cons_succ]
        refine wpAnyH_take (i := 6) (oi := ?o107) (v := ?v107) ?i107 (by kernel_rfl) (by kernel_rfl) (by kernel_rfl) ?q107 (Or.inl ⟨?w107, ?y107⟩) (by assumption) ?r107
        case' i107 => simp only [List.getElem?_toArray, List.getElem?_cons_succ, List.getElem?_cons_zero]
        case i107 => rfl
        case q107 => exact fun _ _ _ h => h
        case w107 => rfl
        case y107 => (intro w hSw; go_simp) <;> with_reducible rfl
        try simp only [Act.put, List.setIfInBounds_toArray, List.set_cons_zero, List.set_cons_succ]
        refine wpAnyH_ready (rs := [7]) (by kernel_rfl) (by simp) ?_
        refine AllReadyH.cons (o := ?o108) ?i108 (fun K' hK => ?_) AllReadyH.nil
        case' i108 => simp only [List.getElem?_toArray, List.getElem?_cons_succ, List.getElem?_cons_zero]
        case i108 => rfl
        go_simp
        refine hK.out _ _ ⟨(one_cell HI8.out.bs).1, (one_cell HI8.out.bp).1⟩ (fun hHeld => ?_)
        clear hK K'
        try simp only [Act.put, List.setIfInBounds_toArray, List.set_cons_zero, List.set_cons_succ]
        refine wpAnyH_take (i := 8) (oi := ?o201) (v := ?v201) ?i201 (by kernel_rfl) (by kernel_rfl) (by kernel_rfl) ?q201 (Or.inl ⟨?w201, ?y201⟩) (by assumption) ?r201
        case' i201 => simp only [List.getElem?_toArray, List.getElem?_cons_succ, List.getElem?_cons_zero]
        case i201 => rfl
        case q201 => exact fun _ _ _ h => h
        case w201 => rfl
        case y201 => (intro w hSw; go_simp) <;> with_reducible rfl
        try simp only [Act.put, List.setIfInBounds_toArray, List.set_cons_zero, List.set_cons_succ]
        clear t0 t1 t2 t3
        obtain ⟨w8, hw8⟩ : ∃ w8, w8 = (w7.setCell ⟨B, 0, none⟩ (.int .i64 y2)).setCell ⟨B, 1, none⟩ (.int .i64 ey2) := ⟨_, rfl⟩
        rw [← hw8] at HI8 HA8 ⊢
        obtain ⟨x0, x1⟩ := one_cell HI8.out.b10
        have HI9 := Lib.hid (HI8.out.setErr o f2)
        have HA9 : Hid ((w8.setCell ⟨c.n + 3, 0, none⟩ (.int .i64 f2)).heap[B]? = some (atObj y2 ey2)) := Lib.hid ((heap_setCell_other _ _ _ _ (by show B ≠ c.n + 3; have := HBn.out; omega)).trans HA8.out)
        rw [← hw8] at hHeld
        clear hw8
        refine wpAnyH_ready (rs := [9]) (by kernel_rfl) (by simp) ?_
        refine AllReadyH.cons (o := ?o202) ?i202 (fun K' hK => ?_) AllReadyH.nil
        case' i202 => simp only [List.getElem?_toArray, List.getElem?_cons_succ, List.getElem?_cons_zero]
        case i202 => rfl
        go_simp
        refine hK.out _ _ ⟨(one_cell HI9.out.bs).1, (one_cell HI9.out.bp).1⟩ (fun hHeld => ?_)
        clear hK K'
        try simp only [Act.put, List.setIfInBounds_toArray, List.set_cons_zero, List.set_cons_succ]
        refine wpAnyH_done (by kernel_rfl) ?_ _
        clear hHeld x0 x1
        go_upto_region 6 with fail
        obtain ⟨w9, hw9⟩ : ∃ w9, w9 = w8.setCell ⟨c.n + 3, 0, none⟩ (.int .i64 f2) := ⟨_, rfl⟩
        rw [← hw9] at HI9 HA9 ⊢
        clear hw9 HI8 HA8 HI7 HA7 HI6 HA6 HI5 HA5 HIw HAw HI HA hB3 hB6 hB8
        obtain ⟨p0, _⟩ := one_cell HI9.out.bp
        obtain ⟨x0, x1⟩ := one_cell HI9.out.b10
        obtain ⟨t0, t1, _, _⟩ := at_cells HA9.out
        by_cases hf2 : f2 = 0
        · subst hf2
          obtain ⟨fn, tmps, assign, body, hy, hR⟩ := HY.out ⟨B, a, y2, ey2, y, ey, js, M2, v⟩ w9 ⟨by show js.length ≤ 4; have := HJ.out.1; have := HJT.out; have := HT.out.2; omega, HBn.out, r, HI9.out, HA9.out⟩ HI9.out.held
          dsimp only [Gz.encs] at hy
          have hm : 1 ≤ m + 1 := by omega
          refine (wpIn_wide (n := m + 1)).1 ?_
          gi_wp2_with fail
          refine hR.mono ?_
          rintro e w10 ⟨rfl, hIb, hH⟩
          obtain ⟨r', v', hI10, hA10⟩ := hIb
          have hrr : r' = r := by
            have h1 := hI10.held.record.symm.trans hH.record
            injection h1 with h2
            injection h2
          subst hrr
          have HI10 := Lib.hid hI10
          have HA10 : Hid (w10.heap[B]? = some (atObj y2 ey2)) := Lib.hid hA10
          have HNX := next_ok HXN.out
          have HE2 : Hid ((js ++ [a]).length = j + 1 ∧ I64 y2 ∧ ey2 = c.ep + ((j + 1 : Nat) : Int)) := Lib.hid ⟨by rw [List.length_append, HJ.out.1]; rfl, next_name HFI.out.1 HFI.out.2 HXN.out, by rw [HNX.1, HJ.out.2.2]; push_cast; omega⟩
          have HF2 : Hid (toA c.most gk M2 ⟨y2, ey2⟩ (js ++ [a]) = (⟨x', ep'⟩, ks, err, L')) := Lib.hid (by rw [← HF.out]; exact (to_on (c := ⟨y, ey⟩) HQ.out HXN.out).symm)
          have HI11 : Hid (ToI c (fun k => k = w10.heap.size) ⟨0, v', v', y2, ey2, js ++ [a], M2⟩ r' (w10.alloc (.cells #[.int .i64 y2, .int .i64 ey2] 30 : Obj))) := Lib.hid ((HI10.out.box o _).less (fun k q => .inr q))
          have HA11 : Hid ((w10.alloc (.cells #[.int .i64 y2, .int .i64 ey2] 30 : Obj)).heap[w10.heap.size]? = some (atObj y2 ey2)) := Lib.hid (heap_alloc_new w10 _)
          have HL11 : Hid (c.n + 11 ≤ w10.heap.size) := Lib.hid (by have := HI10.out.pair.klt (c.n + 10) (ToC.own (by omega)); omega)
          clear hI10 hA10 hH HNX p0 x0 x1 t0 t1
          obtain ⟨t0, t1, _, _⟩ := at_cells HA10.out
          gi_wp2
          go_upto_region 7 with fail
          go_wp2_with fail
          go_roundg gk
          case rel => exact ⟨w10.heap.size, j + 1, v', y2, ey2, js ++ [a], M2, ⟨by have := HJT.out; omega, HL11.out⟩, rfl, HE2, HF2, HI11, HA11⟩
          case measure => omega
        · have hne2 : (f2 != 0) = true := by simpa using hf2
          have hf := HF.out
          rw [to_next (c := ⟨y, ey⟩) HQ.out HXN.out hf2] at hf
          injection hf with h1 h2
          injection h1 with h3 h4
          injection h2 with h5 h6
          injection h6 with h7 h8
          subst h3 h4 h5 h7 h8
          have HNE := Lib.hid hf2
          clear hf2
          go_wp2_with fail
          refine bodyPost_ret (results_none rfl _ _ _) rfl ?_
          exact ⟨⟨_, rfl⟩, IeC.bad HNE.out HI9.out, HI9.out.held⟩
      · have hne2 : (f != 0) = true := by simpa using hf0
        have hf := HF.out
        rw [to_seal (c := ⟨y, ey⟩) HQ.out hf0] at hf
        injection hf with h1 h2
        injection h1 with h3 h4
        injection h2 with h5 h6
        injection h6 with h7 h8
        subst h3 h4 h5 h7 h8
        have HNE := Lib.hid hf0
        clear hf0
        go_wp2_with fail
        refine bodyPost_ret (results_none rfl _ _ _) rfl ?_
        exact ⟨⟨_, rfl⟩, IeC.bad HNE.out HI5.out, HI5.out.held⟩
end Go.Proofs.Ytlnpfeecaiecaaa

namespace Go.Proofs.Ytlnpfeecaiecaaa
open Go.RowKit Go.Shelf
attribute [local go_sem] Oper.semAt_some
set_option linter.unusedVariables false
set_option linter.unusedSimpArgs false
set_option maxRecDepth 20000
theorem u64_diff (a b : Int) (h0 : 0 ≤ a - b) (h1 : a - b < 18446744073709551616) : IntKind.u64.wrap (IntKind.u64.wrap a - IntKind.u64.wrap b) = a - b := by
  simp [IntKind.wrap, IntKind.bits, IntKind.signed]
  omega
section
variable {base g : Nat} {most : Int} {Q2 : (Nat → Prop) → List Tm → World → Prop} {L L2 : List Tm} {K : Nat → Prop} {w0 w : World} {L' : List Tm} {x ep epoch x' ep' err : Int} {ks : List Int}
set_option maxHeartbeats 2000000 in
theorem Pair.ctoP_old (g2 : Good base Q2) (h : Pair base (PSq base g most) Q2 L L2 K w0 w) (hold : epoch < ep) :
    Calls Try.prog 15 #[.agg #[.int .i64 x, .int .i64 ep], .pointer (some ⟨g, 0, none⟩), .int .i64 epoch] w fun e w' => ∃ v, e = .returned (.tuple #[.agg #[.int .i64 0, .int .i64 0], v, .int .i64 12]) ∧ Pair base (PSq base g most) (WithRow base Q2 v []) L L2 K w0 w' ∧ ∀ k, K k → w'.heap[k]? = w.heap[k]? := by
  have gS := PSq.good base g most
  obtain ⟨o0, ho0⟩ : ∃ o0, o0 = w.alloc (.cells #[.int .i64 x, .int .i64 ep] 30 : Obj) := ⟨_, rfl⟩
  obtain ⟨o1, ho1⟩ : ∃ o1, o1 = o0.alloc (.cells #[.int .i64 0, .int .i64 0] 30 : Obj) := ⟨_, rfl⟩
  obtain ⟨Bc, hBc⟩ : ∃ Bc, Bc = w.heap.size := ⟨_, rfl⟩
  obtain ⟨Br, hBr⟩ : ∃ Br, Br = o0.heap.size := ⟨_, rfl⟩
  have hcr : Bc + 1 = Br := by rw [hBr, ho0, hBc]; simp
  have HK := Lib.hid h.klt
  have HBB : Hid (base ≤ Br) := Lib.hid (by have := h.base_le; omega)
  have HBW : Hid (w.heap.size ≤ Br) := Lib.hid (by omega)
  have hb0 : o0.heap[Bc]? = some (.cells #[.int .i64 x, .int .i64 ep] 30 (0, 0)) := by rw [ho0, hBc]; exact heap_alloc_new w _
  have HBC1 : Hid (o1.heap[Bc]? = some (.cells #[.int .i64 x, .int .i64 ep] 30 (0, 0))) := Lib.hid (by
    rw [ho1]
    exact ((below_alloc o0 _).block _ (block_lt_of_some hb0)).trans hb0)
  have HBR1 : Hid (o1.heap[Br]? = some (.cells #[.int .i64 0, .int .i64 0] 30 (0, 0))) := Lib.hid (by rw [ho1, hBr]; exact heap_alloc_new o0 _)
  have HP1 : Hid (Pair base (PSq base g most) Q2 L L2 (fun k => (K k ∨ k = Bc) ∨ k = Br) w0 o1) := Lib.hid (by
    rw [ho1, hBr, hBc, ho0]
    exact (h.box gS g2 _).box gS g2 _)
  have HKK1 : Hid (∀ k, K k → o1.heap[k]? = w.heap[k]?) := Lib.hid (fun k q => by
    rw [ho1, ho0]
    exact ((below_alloc _ _).block k (by have := HK.out k q; simp; omega)).trans ((below_alloc w _).block k (HK.out k q)))
  have HO := Lib.hid (And.intro ho0 (And.intro hBc (And.intro ho1 hcr)))
  have hlt : decide (epoch < ep) = true := decide_eq_true hold
  have HP2 := Lib.hid HP1.out.addRow
  clear ho0 ho1 hBc hBr hcr hb0 h hold
  go_enter Try.func15, Try.ntmps15
  go_upto_region 1 with fail
  rw [← HO.out.1, ← HO.out.2.1, ← HO.out.2.2.1, HO.out.2.2.2]
  obtain ⟨r0, r1, q0, q1⟩ := cells2 HBC1.out
  obtain ⟨s0, s1, t0, t1⟩ := cells2 HBR1.out
  have hk9 := fill2 Br (.int .i64 0) (.int .i64 0) HBR1.out
  have HF9 := Lib.hid (HP2.out.fill gS (gW g2 _ _) HBB.out (.int .i64 0) (.int .i64 0))
  have HK9 : Hid (∀ k, K k → ((o1.setCell ⟨Br, 0, none⟩ (.int .i64 0)).setCell ⟨Br, 1, none⟩ (.int .i64 0)).heap[k]? = w.heap[k]?) := Lib.hid (fun k q => (fill2_other Br _ _ (fun e => by have := HK.out k q; have := HBW.out; omega)).trans (HKK1.out k q))
  obtain ⟨c0, c1, _, _⟩ := cells2 hk9
  clear hk9
  go_wp2_with fail
  exact bodyPost_ret (v := .tuple #[.agg #[.int .i64 0, .int .i64 0], .slice none 0 0, .int .i64 12]) (by simp [results, Try.results15, go_sem, c0, c1]) rfl ⟨_, rfl, HF9.out, HK9.out⟩
set_option maxHeartbeats 2000000 in
theorem Pair.ctoP_lim (g2 : Good base Q2) (h : Pair base (PSq base g most) Q2 L L2 K w0 w) (hep : I64 ep) (hepo : I64 epoch) (hlim : 4 < epoch - ep) :
    Calls Try.prog 15 #[.agg #[.int .i64 x, .int .i64 ep], .pointer (some ⟨g, 0, none⟩), .int .i64 epoch] w fun e w' => ∃ v, e = .returned (.tuple #[.agg #[.int .i64 0, .int .i64 0], v, .int .i64 13]) ∧ Pair base (PSq base g most) (WithRow base Q2 v []) L L2 K w0 w' ∧ ∀ k, K k → w'.heap[k]? = w.heap[k]? := by
  have gS := PSq.good base g most
  obtain ⟨bep1, bep2⟩ := Go.bounds_i64 hep
  obtain ⟨beq1, beq2⟩ := Go.bounds_i64 hepo
  obtain ⟨o0, ho0⟩ : ∃ o0, o0 = w.alloc (.cells #[.int .i64 x, .int .i64 ep] 30 : Obj) := ⟨_, rfl⟩
  obtain ⟨o1, ho1⟩ : ∃ o1, o1 = o0.alloc (.cells #[.int .i64 0, .int .i64 0] 30 : Obj) := ⟨_, rfl⟩
  obtain ⟨Bc, hBc⟩ : ∃ Bc, Bc = w.heap.size := ⟨_, rfl⟩
  obtain ⟨Br, hBr⟩ : ∃ Br, Br = o0.heap.size := ⟨_, rfl⟩
  have hcr : Bc + 1 = Br := by rw [hBr, ho0, hBc]; simp
  have HK := Lib.hid h.klt
  have HBB : Hid (base ≤ Br) := Lib.hid (by have := h.base_le; omega)
  have HBW : Hid (w.heap.size ≤ Br) := Lib.hid (by omega)
  have hb0 : o0.heap[Bc]? = some (.cells #[.int .i64 x, .int .i64 ep] 30 (0, 0)) := by rw [ho0, hBc]; exact heap_alloc_new w _
  have HBC1 : Hid (o1.heap[Bc]? = some (.cells #[.int .i64 x, .int .i64 ep] 30 (0, 0))) := Lib.hid (by
    rw [ho1]
    exact ((below_alloc o0 _).block _ (block_lt_of_some hb0)).trans hb0)
  have HBR1 : Hid (o1.heap[Br]? = some (.cells #[.int .i64 0, .int .i64 0] 30 (0, 0))) := Lib.hid (by rw [ho1, hBr]; exact heap_alloc_new o0 _)
  have HP1 : Hid (Pair base (PSq base g most) Q2 L L2 (fun k => (K k ∨ k = Bc) ∨ k = Br) w0 o1) := Lib.hid (by
    rw [ho1, hBr, hBc, ho0]
    exact (h.box gS g2 _).box gS g2 _)
  have HKK1 : Hid (∀ k, K k → o1.heap[k]? = w.heap[k]?) := Lib.hid (fun k q => by
    rw [ho1, ho0]
    exact ((below_alloc _ _).block k (by have := HK.out k q; simp; omega)).trans ((below_alloc w _).block k (HK.out k q)))
  have HO := Lib.hid (And.intro ho0 (And.intro hBc (And.intro ho1 hcr)))
  have hlt : decide (epoch < ep) = false := decide_eq_false (by omega)
  obtain ⟨D, hD⟩ : ∃ D, epoch - ep = D := ⟨_, rfl⟩
  obtain ⟨E, hE⟩ : ∃ E, IntKind.u64.wrap epoch = E := ⟨_, rfl⟩
  obtain ⟨P, hP⟩ : ∃ P, IntKind.u64.wrap ep = P := ⟨_, rfl⟩
  have hDD : IntKind.u64.wrap (E - P) = D := by rw [← hE, ← hP, ← hD]; exact u64_diff _ _ (by omega) (by omega)
  have hd4 : decide (4 < D) = true := decide_eq_true (by omega)
  have HP2 := Lib.hid HP1.out.addRow
  clear ho0 ho1 hBc hBr hcr hb0 h hlim bep1 bep2 beq1 beq2 hD hep hepo
  go_enter Try.func15, Try.ntmps15
  go_upto_region 1 with fail
  rw [← HO.out.1, ← HO.out.2.1, ← HO.out.2.2.1, HO.out.2.2.2]
  obtain ⟨r0, r1, q0, q1⟩ := cells2 HBC1.out
  obtain ⟨s0, s1, t0, t1⟩ := cells2 HBR1.out
  have hk9 := fill2 Br (.int .i64 0) (.int .i64 0) HBR1.out
  have HF9 := Lib.hid (HP2.out.fill gS (gW g2 _ _) HBB.out (.int .i64 0) (.int .i64 0))
  have HK9 : Hid (∀ k, K k → ((o1.setCell ⟨Br, 0, none⟩ (.int .i64 0)).setCell ⟨Br, 1, none⟩ (.int .i64 0)).heap[k]? = w.heap[k]?) := Lib.hid (fun k q => (fill2_other Br _ _ (fun e => by have := HK.out k q; have := HBW.out; omega)).trans (HKK1.out k q))
  obtain ⟨c0, c1, _, _⟩ := cells2 hk9
  clear hk9
  go_wp2_with fail
  exact bodyPost_ret (v := .tuple #[.agg #[.int .i64 0, .int .i64 0], .slice none 0 0, .int .i64 13]) (by simp [results, Try.results15, go_sem, c0, c1]) rfl ⟨_, rfl, HF9.out, HK9.out⟩
theorem own11 {A : Prop} {n k : Nat} (q : (A ∨ (n ≤ k ∧ k < n + 11)) ∨ False) : ((((((((((A ∨ k = n) ∨ k = n + 1) ∨ k = n + 2) ∨ k = n + 3) ∨ k = n + 4) ∨ k = n + 5) ∨ k = n + 6) ∨ k = n + 7) ∨ k = n + 8) ∨ k = n + 9) ∨ k = n + 10 := by
  rcases q with (a | a) | a
  · simp [a]
  · obtain ⟨i, rfl⟩ : ∃ i, k = n + i := ⟨k - n, by omega⟩
    have : i = 0 ∨ i = 1 ∨ i = 2 ∨ i = 3 ∨ i = 4 ∨ i = 5 ∨ i = 6 ∨ i = 7 ∨ i = 8 ∨ i = 9 ∨ i = 10 := by omega
    rcases this with e | e | e | e | e | e | e | e | e | e | e <;> subst e <;> simp
  · exact a.elim
set_option maxHeartbeats 2000000 in
/-- What the call finds when it has laid its boxes, and the loop its record. -/
theorem start_toI (c : ToC) (o : c.Ok) {L : List Tm} (h : Pair c.base (PSq c.base c.g c.most) c.Q2 L c.L2 c.K c.w0 c.wz) (hn : c.n = c.wz.heap.size) (r : Loop) {o0 o1 o2 o3 o5 o6 o7 o8 o9 : World}
    (e0 : o0 = c.wz.alloc (.cells #[.int .i64 c.x, .int .i64 c.ep] 30 : Obj)) (e1 : o1 = o0.alloc (.cells #[.int .i64 0, .int .i64 0] 30 : Obj)) (e2 : o2 = o1.alloc (.cells #[.slice none 0 0] 41 : Obj)) (e3 : o3 = o2.alloc (.cells #[.int .i64 0] 31 : Obj))
    (e5 : o5 = o3.alloc (.cells #[.int .i64 c.x, .int .i64 c.ep] 30 : Obj)) (e6 : o6 = o5.alloc (.cells #[.int .i64 c.x, .int .i64 c.ep] 30 : Obj)) (e7 : o7 = o6.alloc (.cells #[.pointer (some ⟨c.g, 0, none⟩)] 24 : Obj)) (e8 : o8 = o7.alloc (.cells #[.int .i64 c.epoch] 3 : Obj)) (e9 : o9 = o8.alloc (.cells #[.pointer (some ⟨c.n + 3, 0, none⟩)] 81 : Obj)) :
    ToI c (fun _ => False) ⟨0, .slice none 0 0, .slice none 0 0, c.x, c.ep, [], L⟩ r ((o9.alloc (.deferred (some []))).alloc (.loop r)) := by
  have gS := PSq.good c.base c.g c.most
  have gR := o.gw (.slice none 0 0) []
  have hl := o.low
  obtain ⟨oD, eD⟩ : ∃ oD, oD = o9.alloc (.deferred (some [])) := ⟨_, rfl⟩
  obtain ⟨oL, eL⟩ : ∃ oL, oL = oD.alloc (.loop r) := ⟨_, rfl⟩
  rw [← eD, ← eL]
  have z0 : o0.heap.size = c.n + 1 := by rw [e0, hn]; simp
  have z1 : o1.heap.size = c.n + 2 := by rw [e1]; simp [z0]
  have z2 : o2.heap.size = c.n + 3 := by rw [e2]; simp [z1]
  have z3 : o3.heap.size = c.n + 4 := by rw [e3]; simp [z2]
  have z5 : o5.heap.size = c.n + 5 := by rw [e5]; simp [z3]
  have z6 : o6.heap.size = c.n + 6 := by rw [e6]; simp [z5]
  have z7 : o7.heap.size = c.n + 7 := by rw [e7]; simp [z6]
  have z8 : o8.heap.size = c.n + 8 := by rw [e8]; simp [z7]
  have z9 : o9.heap.size = c.n + 9 := by rw [e9]; simp [z8]
  have zD : oD.heap.size = c.n + 10 := by rw [eD]; simp [z9]
  have p := h.addRow
  have p0 := p.box gS gR (.cells #[.int .i64 c.x, .int .i64 c.ep] 30 : Obj)
  rw [← e0] at p0
  have p1 := p0.box gS gR (.cells #[.int .i64 0, .int .i64 0] 30 : Obj)
  rw [← e1] at p1
  have p2 := p1.box gS gR (.cells #[.slice none 0 0] 41 : Obj)
  rw [← e2] at p2
  have p3 := p2.box gS gR (.cells #[.int .i64 0] 31 : Obj)
  rw [← e3] at p3
  have p5 := p3.box gS gR (.cells #[.int .i64 c.x, .int .i64 c.ep] 30 : Obj)
  rw [← e5] at p5
  have p6 := p5.box gS gR (.cells #[.int .i64 c.x, .int .i64 c.ep] 30 : Obj)
  rw [← e6] at p6
  have p7 := p6.box gS gR (.cells #[.pointer (some ⟨c.g, 0, none⟩)] 24 : Obj)
  rw [← e7] at p7
  have p8 := p7.box gS gR (.cells #[.int .i64 c.epoch] 3 : Obj)
  rw [← e8] at p8
  have p9 := p8.box gS gR (.cells #[.pointer (some ⟨c.n + 3, 0, none⟩)] 81 : Obj)
  rw [← e9] at p9
  have pD := p9.box gS gR (.deferred (some []))
  rw [← eD] at pD
  have pL := pD.box gS gR (.loop r)
  rw [← eL, z0, z1, z2, z3, z5, z6, z7, z8, z9, zD, ← hn] at pL
  have q0 : o0.heap[c.n]? = some (.cells #[.int .i64 c.x, .int .i64 c.ep] 30 (0, 0)) := by rw [e0, hn]; exact heap_alloc_new _ _
  have q1 : o1.heap[c.n + 1]? = some (.cells #[.int .i64 0, .int .i64 0] 30 (0, 0)) := by rw [e1, ← z0]; exact heap_alloc_new _ _
  have q2 : o2.heap[c.n + 2]? = some (.cells #[.slice none 0 0] 41 (0, 0)) := by rw [e2, ← z1]; exact heap_alloc_new _ _
  have q3 : o3.heap[c.n + 3]? = some (.cells #[.int .i64 0] 31 (0, 0)) := by rw [e3, ← z2]; exact heap_alloc_new _ _
  have q5 : o5.heap[c.n + 4]? = some (.cells #[.int .i64 c.x, .int .i64 c.ep] 30 (0, 0)) := by rw [e5, ← z3]; exact heap_alloc_new _ _
  have q6 : o6.heap[c.n + 5]? = some (.cells #[.int .i64 c.x, .int .i64 c.ep] 30 (0, 0)) := by rw [e6, ← z5]; exact heap_alloc_new _ _
  have q7 : o7.heap[c.n + 6]? = some (.cells #[.pointer (some ⟨c.g, 0, none⟩)] 24 (0, 0)) := by rw [e7, ← z6]; exact heap_alloc_new _ _
  have q8 : o8.heap[c.n + 7]? = some (.cells #[.int .i64 c.epoch] 3 (0, 0)) := by rw [e8, ← z7]; exact heap_alloc_new _ _
  have q9 : o9.heap[c.n + 8]? = some (.cells #[.pointer (some ⟨c.n + 3, 0, none⟩)] 81 (0, 0)) := by rw [e9, ← z8]; exact heap_alloc_new _ _
  have qD : oD.heap[c.n + 9]? = some (.deferred (some [])) := by rw [eD, ← z9]; exact World.alloc_heap_new _ _
  have qL : oL.heap[c.n + 10]? = some (.loop r) := by rw [eL, ← zD]; exact World.alloc_heap_new _ _
  -- what lay stays
  have s01 : ∀ k, k < c.n + 1 → o1.heap[k]? = o0.heap[k]? := fun k q => by rw [e1]; exact (below_alloc o0 _).block k (by omega)
  have s12 : ∀ k, k < c.n + 2 → o2.heap[k]? = o1.heap[k]? := fun k q => by rw [e2]; exact (below_alloc o1 _).block k (by omega)
  have s23 : ∀ k, k < c.n + 3 → o3.heap[k]? = o2.heap[k]? := fun k q => by rw [e3]; exact (below_alloc o2 _).block k (by omega)
  have s35 : ∀ k, k < c.n + 4 → o5.heap[k]? = o3.heap[k]? := fun k q => by rw [e5]; exact (below_alloc o3 _).block k (by omega)
  have s56 : ∀ k, k < c.n + 5 → o6.heap[k]? = o5.heap[k]? := fun k q => by rw [e6]; exact (below_alloc o5 _).block k (by omega)
  have s67 : ∀ k, k < c.n + 6 → o7.heap[k]? = o6.heap[k]? := fun k q => by rw [e7]; exact (below_alloc o6 _).block k (by omega)
  have s78 : ∀ k, k < c.n + 7 → o8.heap[k]? = o7.heap[k]? := fun k q => by rw [e8]; exact (below_alloc o7 _).block k (by omega)
  have s89 : ∀ k, k < c.n + 8 → o9.heap[k]? = o8.heap[k]? := fun k q => by rw [e9]; exact (below_alloc o8 _).block k (by omega)
  have s9D : ∀ k, k < c.n + 9 → oD.heap[k]? = o9.heap[k]? := fun k q => by rw [eD]; exact (below_alloc o9 _).block k (by omega)
  have sDL : ∀ k, k < c.n + 10 → oL.heap[k]? = oD.heap[k]? := fun k q => by rw [eL]; exact (below_alloc oD _).block k (by omega)
  have u9 : ∀ k, k < c.n + 9 → oL.heap[k]? = o9.heap[k]? := fun k q => (sDL k (by omega)).trans (s9D k q)
  have u8 : ∀ k, k < c.n + 8 → oL.heap[k]? = o8.heap[k]? := fun k q => (u9 k (by omega)).trans (s89 k q)
  have u7 : ∀ k, k < c.n + 7 → oL.heap[k]? = o7.heap[k]? := fun k q => (u8 k (by omega)).trans (s78 k q)
  have u6 : ∀ k, k < c.n + 6 → oL.heap[k]? = o6.heap[k]? := fun k q => (u7 k (by omega)).trans (s67 k q)
  have u5 : ∀ k, k < c.n + 5 → oL.heap[k]? = o5.heap[k]? := fun k q => (u6 k (by omega)).trans (s56 k q)
  have u3 : ∀ k, k < c.n + 4 → oL.heap[k]? = o3.heap[k]? := fun k q => (u5 k (by omega)).trans (s35 k q)
  have u2 : ∀ k, k < c.n + 3 → oL.heap[k]? = o2.heap[k]? := fun k q => (u3 k (by omega)).trans (s23 k q)
  have u1 : ∀ k, k < c.n + 2 → oL.heap[k]? = o1.heap[k]? := fun k q => (u2 k (by omega)).trans (s12 k q)
  have u0 : ∀ k, k < c.n + 1 → oL.heap[k]? = o0.heap[k]? := fun k q => (u1 k (by omega)).trans (s01 k q)
  exact { pair := pL.less (fun k q => own11 q)
          old := fun k q => by
            have := o.klt k q
            rw [u0 k (by omega), e0]
            exact (below_alloc c.wz _).block k (by omega)
          b3 := (u0 _ (by omega)).trans q0
          b6 := (u1 _ (by omega)).trans q1
          b9 := (u2 _ (by omega)).trans q2
          b10 := (u3 _ (by omega)).trans q3
          b11 := (u5 _ (by omega)).trans q5
          bc := (u6 _ (by omega)).trans q6
          bs := (u7 _ (by omega)).trans q7
          be := (u8 _ (by omega)).trans q8
          bp := (u9 _ (by omega)).trans q9
          held := ⟨qL, (sDL _ (by omega)).trans qD⟩ }
end
end Go.Proofs.Ytlnpfeecaiecaaa

namespace Go.Proofs.Ytlnpfeecaiecaaa
open Go.RowKit Go.Shelf
attribute [local go_sem] Oper.semAt_some
set_option linter.unusedVariables false
set_option linter.unusedSimpArgs false
set_option maxRecDepth 20000
/-- Behind the assignment to the loop's variables. -/
def AxC (c : ToC) (E P D : Int) (z : Gz) (a' : Act) (W : World) : Prop := z.js.length ≤ 4 ∧ c.n + 11 ≤ z.bat ∧ ∃ r B, c.n + 11 ≤ B ∧ z.bat ≠ B ∧ ToI c (fun k => k = z.bat ∨ k = B) ⟨0, z.v, z.v, z.ly, z.le, z.js, z.M⟩ r W ∧ W.heap[z.bat]? = some (atObj z.y z.ey) ∧ W.heap[B]? = some (atObj z.y z.ey) ∧
  a' = { tmps := #[.agg #[.int .i64 c.x, .int .i64 c.ep], .pointer (some ⟨c.g, 0, none⟩), .int .i64 c.epoch, .pointer (some ⟨c.n, 0, none⟩), undef, undef, .pointer (some ⟨c.n + 1, 0, none⟩), .slice none 0 0, .int .i64 0, .pointer (some ⟨c.n + 2, 0, none⟩), .pointer (some ⟨c.n + 3, 0, none⟩), .pointer (some ⟨c.n + 4, 0, none⟩), .int .i64 z.a, .pointer (some ⟨B, 0, none⟩), .int .i64 c.epoch, .pointer (some ⟨c.n, 1, none⟩), .int .i64 c.ep, .bool false, undef, .int .i64 c.epoch, .int .u64 E, .pointer (some ⟨c.n, 1, none⟩), .int .i64 c.ep, .int .u64 P, .int .u64 D, .bool false, undef, .agg #[.int .i64 c.x, .int .i64 c.ep], .agg #[.int .i64 c.x, .int .i64 c.ep], .pointer (some ⟨c.g, 0, none⟩), .int .i64 c.epoch, .func (.func 42) #[] #[.pointer (some ⟨c.n + 5, 0, none⟩), .pointer (some ⟨c.n + 7, 0, none⟩), .pointer (some ⟨c.n + 6, 0, none⟩), .pointer (some ⟨c.n + 8, 0, none⟩)], .int .i64 z.a, .agg #[.int .i64 z.y, .int .i64 z.ey], undef, undef, undef, undef, undef, undef, undef, undef, undef, undef, undef], defers := [] }
set_option maxRecDepth 100000 in
set_option maxHeartbeats 4000000 in
theorem ctoP_go (c : ToC) (o : c.Ok) (hn : c.n = c.wz.heap.size) {L L' : List Tm} {x' ep' err : Int} {ks : List Int} {t : Nat} (h : Pair c.base (PSq c.base c.g c.most) c.Q2 L c.L2 c.K c.w0 c.wz) (hx : I64 c.x) (hep : I64 c.ep) (hepo : I64 c.epoch) (ht : c.epoch = c.ep + (t : Int) ∧ t ≤ 4) (hf : toA c.most t L ⟨c.x, c.ep⟩ [] = (⟨x', ep'⟩, ks, err, L')) :
    Calls Try.prog 15 #[.agg #[.int .i64 c.x, .int .i64 c.ep], .pointer (some ⟨c.g, 0, none⟩), .int .i64 c.epoch] c.wz fun e w' => ∃ v, e = .returned (.tuple #[.agg #[.int .i64 x', .int .i64 ep'], v, .int .i64 err]) ∧ Pair c.base (PSq c.base c.g c.most) (WithRow c.base c.Q2 v ks) L' c.L2 c.K c.w0 w' ∧ ∀ k, c.K k → w'.heap[k]? = c.wz.heap[k]? := by
  obtain ⟨bep1, bep2⟩ := Go.bounds_i64 hep
  obtain ⟨beq1, beq2⟩ := Go.bounds_i64 hepo
  have HN := Lib.hid hn
  have HP := Lib.hid h
  have HX := Lib.hid hx
  have HEP := Lib.hid hep
  have HEPO := Lib.hid hepo
  have HT := Lib.hid ht
  have HF := Lib.hid hf
  obtain ⟨o0, ho0⟩ : ∃ o0, o0 = c.wz.alloc (.cells #[.int .i64 c.x, .int .i64 c.ep] 30 : Obj) := ⟨_, rfl⟩
  obtain ⟨o1, ho1⟩ : ∃ o1, o1 = o0.alloc (.cells #[.int .i64 0, .int .i64 0] 30 : Obj) := ⟨_, rfl⟩
  obtain ⟨o2, ho2⟩ : ∃ o2, o2 = o1.alloc (.cells #[.slice none 0 0] 41 : Obj) := ⟨_, rfl⟩
  obtain ⟨o3, ho3⟩ : ∃ o3, o3 = o2.alloc (.cells #[.int .i64 0] 31 : Obj) := ⟨_, rfl⟩
  obtain ⟨o5, ho5⟩ : ∃ o5, o5 = o3.alloc (.cells #[.int .i64 c.x, .int .i64 c.ep] 30 : Obj) := ⟨_, rfl⟩
  have z0 : o0.heap.size = c.n + 1 := by rw [ho0, hn]; simp
  have z1 : o1.heap.size = c.n + 2 := by rw [ho1]; simp [z0]
  have z2 : o2.heap.size = c.n + 3 := by rw [ho2]; simp [z1]
  have z3 : o3.heap.size = c.n + 4 := by rw [ho3]; simp [z2]
  have z5 : o5.heap.size = c.n + 5 := by rw [ho5]; simp [z3]
  have k0 : o0.heap[c.n]? = some (.cells #[.int .i64 c.x, .int .i64 c.ep] 30 (0, 0)) := by rw [ho0, hn]; exact heap_alloc_new _ _
  have k1 : o1.heap[c.n]? = some (.cells #[.int .i64 c.x, .int .i64 c.ep] 30 (0, 0)) := by
    rw [ho1]
    exact ((below_alloc o0 _).block _ (block_lt_of_some k0)).trans k0
  have HK1 := Lib.hid k1
  have k3 : o3.heap[c.n]? = some (.cells #[.int .i64 c.x, .int .i64 c.ep] 30 (0, 0)) := by
    rw [ho3, ho2]
    exact ((below_alloc _ _).block _ (by simp; omega)).trans (((below_alloc o1 _).block _ (by omega)).trans k1)
  have HK3 := Lib.hid k3
  have k5 : o5.heap[c.n]? = some (.cells #[.int .i64 c.x, .int .i64 c.ep] 30 (0, 0)) := by
    rw [ho5]
    exact ((below_alloc o3 _).block _ (by omega)).trans k3
  have HK5 := Lib.hid k5
  have HO := Lib.hid (And.intro ho0 (And.intro ho1 (And.intro ho2 (And.intro ho3 ho5))))
  have HZ := Lib.hid (And.intro z0 (And.intro z1 (And.intro z2 (And.intro z3 z5))))
  have hlt : decide (c.epoch < c.ep) = false := decide_eq_false (by omega)
  obtain ⟨D, hD⟩ : ∃ D, c.epoch - c.ep = D := ⟨_, rfl⟩
  obtain ⟨E, hE⟩ : ∃ E, IntKind.u64.wrap c.epoch = E := ⟨_, rfl⟩
  obtain ⟨P, hP⟩ : ∃ P, IntKind.u64.wrap c.ep = P := ⟨_, rfl⟩
  have hDD : IntKind.u64.wrap (E - P) = D := by rw [← hE, ← hP, ← hD]; exact u64_diff _ _ (by omega) (by omega)
  have hd4 : decide (4 < D) = false := decide_eq_false (by omega)
  clear ho0 ho1 ho2 ho3 ho5 z0 z1 z2 z3 z5 k0 k1 k3 k5 h bep1 bep2 beq1 beq2 hD hep hepo hx ht hf hn
  refine (callsIn_wide (n := 3)).1 ?_
  refine callsIn_of_wp_marks Try.func15 rfl trivial ?_ rfl
  simp only [Try.ntmps15, List.size_toArray, List.length_cons, List.length_nil, Nat.reduceAdd, Nat.reduceSub, Array.replicate_succ, Array.replicate_zero, List.push_toArray, List.append_toArray, List.nil_append, List.cons_append]
  refine wpIn_wide.2 ?_
  go_upto_region 1 with fail
  rw [← HO.out.1, ← HO.out.2.1, ← HN.out]
  obtain ⟨r0, r1, q0, q1⟩ := cells2 HK1.out
  go_upto_region 5 with fail
  clear r0 r1 q0 q1
  go_upto_region 7 with fail
  rw [← HO.out.2.2.1, ← HO.out.2.2.2.1]
  rw [HZ.out.2.1]
  obtain ⟨r0, r1, q0, q1⟩ := cells2 HK3.out
  go_upto_region 8 with fail
  rw [← HO.out.2.2.2.2, HZ.out.2.2.2.1]
  clear r0 r1 q0 q1
  obtain ⟨r0, r1, q0, q1⟩ := cells2 HK5.out
  go_wp2_with fail
  refine (upTo_k c.x c.ep c.epoch c.g (c.n + 3) o5).mono ?_
  rintro e o9 ⟨rfl, ho9⟩
  have HS : Hid (∀ r, ToI c (fun _ => False) ⟨0, .slice none 0 0, .slice none 0 0, c.x, c.ep, [], L⟩ r ((o9.alloc (.deferred (some []))).alloc (.loop r))) := Lib.hid (fun r => start_toI c o HP.out HN.out r HO.out.1 HO.out.2.1 HO.out.2.2.1 HO.out.2.2.2.1 HO.out.2.2.2.2 rfl rfl rfl ho9)
  have HD : Hid (o9.heap.size = c.n + 9) := Lib.hid (by rw [ho9]; simp [HZ.out.2.2.2.2])
  rw [HZ.out.2.2.2.2, show c.n + 5 + 2 = c.n + 7 from rfl, show c.n + 5 + 1 = c.n + 6 from rfl, show c.n + 5 + 3 = c.n + 8 from rfl, show c.n + 2 + 1 = c.n + 3 from rfl]
  clear r0 r1 q0 q1 ho9 HO HZ HK1 HK3 HK5 hlt hE hP hDD hd4
  go_wp2_with fail
  refine (wpIn_wide (n := 3)).1 ?_
  refine wpIn_rangeFunc_turns (c.n + 9) HD.out rfl (by decide) (gf := 42) (lb := #[.pointer (some ⟨c.n + 5, 0, none⟩), .pointer (some ⟨c.n + 7, 0, none⟩), .pointer (some ⟨c.n + 6, 0, none⟩), .pointer (some ⟨c.n + 8, 0, none⟩)]) rfl trivial (enters_of Try.func42 (by kernel_rfl) rfl)
    Gz.encs (fun _ => rfl) (fun W => ∃ r, ToI c (fun _ => False) ⟨0, .slice none 0 0, .slice none 0 0, c.x, c.ep, [], L⟩ r W) (IeC c x' ep' err ks L') (IpC c) (IbC c)
    (AxC c E P D)
    ?tx ?tb ?te ?h0 ?hit ?assign ?body ?done
  case assign =>
    rintro z W r hI hH
    simp only [Gz.encs]
    obtain ⟨hj, hb, r', hT, hat⟩ := hI
    have hrr : r' = r := by
      have h1 := hT.held.record.symm.trans hH.record
      injection h1 with h2
      injection h2
    subst hrr
    have HA : Hid (AxC c E P D z ({ tmps := #[.agg #[.int .i64 c.x, .int .i64 c.ep], .pointer (some ⟨c.g, 0, none⟩), .int .i64 c.epoch, .pointer (some ⟨c.n, 0, none⟩), undef, undef, .pointer (some ⟨c.n + 1, 0, none⟩), .slice none 0 0, .int .i64 0, .pointer (some ⟨c.n + 2, 0, none⟩), .pointer (some ⟨c.n + 3, 0, none⟩), .pointer (some ⟨c.n + 4, 0, none⟩), .int .i64 z.a, .pointer (some ⟨W.heap.size, 0, none⟩), .int .i64 c.epoch, .pointer (some ⟨c.n, 1, none⟩), .int .i64 c.ep, .bool false, undef, .int .i64 c.epoch, .int .u64 E, .pointer (some ⟨c.n, 1, none⟩), .int .i64 c.ep, .int .u64 P, .int .u64 D, .bool false, undef, .agg #[.int .i64 c.x, .int .i64 c.ep], .agg #[.int .i64 c.x, .int .i64 c.ep], .pointer (some ⟨c.g, 0, none⟩), .int .i64 c.epoch, .func (.func 42) #[] #[.pointer (some ⟨c.n + 5, 0, none⟩), .pointer (some ⟨c.n + 7, 0, none⟩), .pointer (some ⟨c.n + 6, 0, none⟩), .pointer (some ⟨c.n + 8, 0, none⟩)], .int .i64 z.a, .agg #[.int .i64 z.y, .int .i64 z.ey], undef, undef, undef, undef, undef, undef, undef, undef, undef, undef, undef], defers := [] } : Act) (W.alloc (.cells #[.int .i64 z.y, .int .i64 z.ey] 30 : Obj))) := Lib.hid ⟨hj, hb, r', W.heap.size, by have := hT.pair.klt (c.n + 10) (ToC.own (by omega)); omega, Nat.ne_of_lt (blk_lt hat), hT.box o _, ((below_alloc W _).block _ (blk_lt hat)).trans hat, heap_alloc_new W _, rfl⟩
    have HH : Hid (Held (c.n + 9) r' (W.alloc (.cells #[.int .i64 z.y, .int .i64 z.ey] 30 : Obj))) := Lib.hid (hT.box o _).held
    clear hj hb hT hat hH
    gi_wp2
    exact ⟨HA.out, HH.out⟩
  case tx =>
    rintro z a' W r r' ⟨hj, hb, r2, B, hB, hne, hT, h1, h2, he⟩ hH
    have hh : ∀ k, c.n + 11 ≤ k → (W.putObj (c.n + 9 + 1) (.loop r')).heap[k]? = W.heap[k]? := fun k q => World.putObj_heap_other (by omega)
    exact ⟨hj, hb, r', B, hB, hne, hT.putLoop o r', (hh _ hb).trans h1, (hh _ hB).trans h2, he⟩
  case tb =>
    rintro z W r r' ⟨r2, v', hT, h1⟩ hH
    refine ⟨r', v', hT.putLoop o r', ?_⟩
    exact (World.putObj_heap_other (by
      intro e
      have h2 := hH.record
      rw [← e, h1] at h2
      cases h2)).trans h1
  case te =>
    rintro W r r' ⟨r2, u, hT, h1, h2⟩ hH
    exact ⟨r', u, hT.putLoop o r', h1, h2⟩
  case h0 => exact fun r => ⟨r, HS.out r⟩
  case hit =>
    rintro r W ⟨r', hT⟩ hH hY
    have hrr : r' = r := by
      have h1 := hT.held.record.symm.trans hH.record
      injection h1 with h2
      injection h2
    subst hrr
    exact callsIn_wide.2 (upTo1_k c o _ HX.out HT.out HEP.out HEPO.out HF.out r' hY W hT)
  case body =>
    rintro z a' W r ⟨hj, hb, r', B, hB, hne, hT, h1, h2, rfl⟩ hH
    have hrr : r' = r := by
      have h1 := hT.held.record.symm.trans hH.record
      injection h1 with h2
      injection h2
    subst hrr
    have HTI := Lib.hid (hT.below o (drew_below W))
    have HAD : Hid (W.drew.heap[z.bat]? = some (atObj z.y z.ey)) := Lib.hid h1
    have HBD : Hid (W.drew.heap[B]? = some (atObj z.y z.ey)) := Lib.hid h2
    have HB := Lib.hid (And.intro hb (And.intro hB hne))
    have HJ := Lib.hid hj
    have HRow := Lib.hid hT.pair.rowOf
    have HSZ := Lib.hid hT.pair.base_le
    obtain ⟨v0, hv0⟩ : ∃ v0, v0 = z.v := ⟨_, rfl⟩
    have HV0 := Lib.hid hv0
    obtain ⟨k0, k1⟩ := one_cell HTI.out.b9
    obtain ⟨r0, r1, q0, q1⟩ := at_cells HBD.out
    obtain ⟨i0, hi0, hz0, hz1, hz2⟩ := info_parts2
    dsimp only at k0
    rw [← hv0] at k0
    dsimp only at HRow
    rw [← hv0] at HRow
    clear hj hb hB hne hT h1 h2 hH hv0
    gi_wp2
    refine wpIn_round_held (fun w' => w'.cell? ⟨B, 0, none⟩ = some (.int .i64 z.y) ∧ w'.cell? ⟨B, 1, none⟩ = some (.int .i64 z.ey)) (by kernel_rfl) (by intro i oo hio cc; rcases i with _ | _ | _ | _ | _ | _ | _ | i <;> first | (simp at hio; done) | (simp at hio; subst hio; intro hc; cases hc)) (by rintro ⟨_, _, hq⟩; exact hq) ⟨r0, r1⟩ (fun hHeld => ?_)
    refine wpAnyH_take (i := 1) (oi := ?o501) (v := ?v501) ?i501 (by kernel_rfl) (by kernel_rfl) (by kernel_rfl) ?q501 (Or.inl ⟨?w501, ?y501⟩) (by assumption) ?r501
    case' i501 => simp only [List.getElem?_toArray, List.getElem?_cons_succ, List.getElem?_cons_zero]
    case i501 => rfl
    case q501 => exact fun _ _ _ h => h
    case w501 => rfl
    case y501 => (intro w hSw; go_simp) <;> with_reducible rfl
    try simp only [Act.put, List.setIfInBounds_toArray, List.set_cons_zero, List.set_cons_succ]
    refine wpAnyH_take (i := 4) (oi := ?o502) (v := ?v502) ?i502 (by kernel_rfl) (by kernel_rfl) (by kernel_rfl) ?q502 (Or.inl ⟨?w502, ?y502⟩) (by assumption) ?r502
    case' i502 => simp only [List.getElem?_toArray, List.getElem?_cons_succ, List.getElem?_cons_zero]
    case i502 => rfl
    case q502 => exact fun _ _ _ h => h
    case w502 => rfl
    case y502 => (intro w hSw; obtain ⟨z0, z1⟩ := hSw; go_simp) <;> with_reducible rfl
    try simp only [Act.put, List.setIfInBounds_toArray, List.set_cons_zero, List.set_cons_succ]
    refine wpAnyH_ready (rs := [0, 2]) (by kernel_rfl) (by simp) ?_
    refine AllReadyH.cons (o := ?o503) ?i503 (fun K' hK => ?_) (AllReadyH.cons (o := ?o504) ?i504 (fun K' hK => ?_) AllReadyH.nil)
    case' i503 => simp only [List.getElem?_toArray, List.getElem?_cons_succ, List.getElem?_cons_zero]
    case i503 => rfl
    case' i504 => simp only [List.getElem?_toArray, List.getElem?_cons_succ, List.getElem?_cons_zero]
    case i504 => rfl
    · go_simp
      refine hK.out _ _ ⟨r0, r1⟩ (fun hHeld => ?_)
      clear hK K'
      try simp only [Act.put, List.setIfInBounds_toArray, List.set_cons_zero, List.set_cons_succ]
      refine wpAnyH_ready (rs := [2]) (by kernel_rfl) (by simp) ?_
      refine AllReadyH.cons (o := ?o505) ?i505 (fun K' hK => ?_) AllReadyH.nil
      case' i505 => simp only [List.getElem?_toArray, List.getElem?_cons_succ, List.getElem?_cons_zero]
      case i505 => rfl
      go_simp
      refine hK.out _ _ ⟨(at_cells ((below_alloc W.drew (.cells #[.int .i64 z.a] 3)).block B (blk_lt HBD.out) |>.trans HBD.out)).1, (at_cells ((below_alloc W.drew (.cells #[.int .i64 z.a] 3)).block B (blk_lt HBD.out) |>.trans HBD.out)).2.1⟩ (fun hHeld => ?_)
      clear hK K'
      try simp only [Act.put, List.setIfInBounds_toArray, List.set_cons_zero, List.set_cons_succ]
      refine wpAnyH_ready (rs := [3]) (by kernel_rfl) (by simp) ?_
      refine AllReadyH.cons (o := ?o506) ?i506 (fun K' hK => ?_) AllReadyH.nil
      case' i506 => simp only [List.getElem?_toArray, List.getElem?_cons_succ, List.getElem?_cons_zero]
      case i506 => rfl
      refine step_append_lies _ rfl _ _ 41 rfl c.base 3 i0 (.int .i64 0) 1 8 Try.underlying41 hi0 hz0 hz1 hz2 rfl (by decide) v0 z.js.length (intsR z.js) rfl (HRow.out.alloc _) ⟨W.heap.size, 0, none⟩ 1 1 [.int .i64 z.a] rfl rfl (World.news_of_block (cs := #[.int .i64 z.a]) (t := 3) (fr := (0, 0)) (heap_alloc_new W.drew _)) (by simp [Value.oneCell']) (by omega) (by have := HJ.out; unfold maxLen; omega) (by have := HJ.out; omega) (by have := HSZ.out; simp; omega) (W.heap.size + 1) (by simp) ?_
      intro g3 cap3 w3 hown3 hgrow3 hat3 hlt3
      obtain ⟨hT3, hk3⟩ := HTI.out.app o (x := z.a) hown3 (by rw [← HV0.out]; exact hgrow3) (by rw [← HV0.out]; exact hat3)
      have HT3 := Lib.hid hT3
      have HA3 : Hid (w3.heap[z.bat]? = some (atObj z.y z.ey)) := Lib.hid ((hk3 _ (.inr (.inl rfl))).trans HAD.out)
      have HB3 : Hid (w3.heap[B]? = some (atObj z.y z.ey)) := Lib.hid ((hk3 _ (.inr (.inr rfl))).trans HBD.out)
      clear hown3 hgrow3 hat3 hlt3 hT3 hk3 k0 k1 r0 r1 q0 q1
      obtain ⟨k0, k1⟩ := one_cell HT3.out.b9
      refine hK.out _ _ ⟨(at_cells HB3.out).1, (at_cells HB3.out).2.1⟩ (fun hHeld => ?_)
      clear hK K'
      try simp only [Act.put, List.setIfInBounds_toArray, List.set_cons_zero, List.set_cons_succ]
      have HT4 := Lib.hid (HT3.out.setKeys o (.slice (some ⟨g3, 0, none⟩) (z.js.length + 1) cap3))
      have HA4 := Lib.hid ((heap_setCell_other w3 (⟨c.n + 2, 0, none⟩ : Addr) z.bat (.slice (some ⟨g3, 0, none⟩) (z.js.length + 1) cap3) (by show z.bat ≠ c.n + 2; have := HB.out.1; omega)).trans HA3.out)
      have HB4 := Lib.hid ((heap_setCell_other w3 (⟨c.n + 2, 0, none⟩ : Addr) B (.slice (some ⟨g3, 0, none⟩) (z.js.length + 1) cap3) (by show B ≠ c.n + 2; have := HB.out.2.1; omega)).trans HB3.out)
      refine wpAnyH_ready (rs := [5]) (by kernel_rfl) (by simp) ?_
      refine AllReadyH.cons (o := ?o507) ?i507 (fun K' hK => ?_) AllReadyH.nil
      case' i507 => simp only [List.getElem?_toArray, List.getElem?_cons_succ, List.getElem?_cons_zero]
      case i507 => rfl
      go_simp
      refine hK.out _ _ ⟨(at_cells HB4.out).1, (at_cells HB4.out).2.1⟩ (fun hHeld => ?_)
      clear hK K'
      try simp only [Act.put, List.setIfInBounds_toArray, List.set_cons_zero, List.set_cons_succ]
      clear k0 k1
      obtain ⟨w4, hw4⟩ : ∃ w4, w4 = w3.setCell ⟨c.n + 2, 0, none⟩ (.slice (some ⟨g3, 0, none⟩) (z.js.length + 1) cap3) := ⟨_, rfl⟩
      rw [← hw4] at HT4 HA4 HB4 hHeld ⊢
      clear hw4 HT3 HA3 HB3
      obtain ⟨s0, s1, t0, t1⟩ := cells2 HT4.out.b11
      have HT5 := Lib.hid (HT4.out.setLast o z.y z.ey)
      have HA5 := Lib.hid ((fill2_other (u := w4) (c.n + 4) (.int .i64 z.y) (.int .i64 z.ey) (k := z.bat) (by have := HB.out.1; omega)).trans HA4.out)
      have HB5 := Lib.hid ((fill2_other (u := w4) (c.n + 4) (.int .i64 z.y) (.int .i64 z.ey) (k := B) (by have := HB.out.2.1; omega)).trans HB4.out)
      refine wpAnyH_ready (rs := [6]) (by kernel_rfl) (by simp) ?_
      refine AllReadyH.cons (o := ?o508) ?i508 (fun K' hK => ?_) AllReadyH.nil
      case' i508 => simp only [List.getElem?_toArray, List.getElem?_cons_succ, List.getElem?_cons_zero]
      case i508 => rfl
      go_simp
      refine hK.out _ _ ⟨(at_cells HB5.out).1, (at_cells HB5.out).2.1⟩ (fun hHeld => ?_)
      clear hK K'
      try simp only [Act.put, List.setIfInBounds_toArray, List.set_cons_zero, List.set_cons_succ]
      refine wpAnyH_done (by kernel_rfl) ?_ _
      exact ⟨⟨r', _, HT5.out.less (fun k q => .inl q), HA5.out⟩, HT5.out.held⟩
    · go_simp
      refine hK.out _ _ ⟨(at_cells ((below_alloc W.drew (.cells #[.int .i64 z.a] 3)).block B (blk_lt HBD.out) |>.trans HBD.out)).1, (at_cells ((below_alloc W.drew (.cells #[.int .i64 z.a] 3)).block B (blk_lt HBD.out) |>.trans HBD.out)).2.1⟩ (fun hHeld => ?_)
      clear hK K'
      try simp only [Act.put, List.setIfInBounds_toArray, List.set_cons_zero, List.set_cons_succ]
      have k2 := ((below_alloc W.drew (.cells #[.int .i64 z.a] 3)).block (c.n + 2) (blk_lt HTI.out.b9)).trans HTI.out.b9
      obtain ⟨k3, k4⟩ := one_cell k2
      dsimp only at k3
      rw [← HV0.out] at k3
      have k5 : (W.alloc (.cells #[.int .i64 z.a] 3)).cell? ⟨c.n + 2, 0, none⟩ = some v0 := k3
      clear k2 k3 k4
      refine wpAnyH_ready (rs := [0]) (by kernel_rfl) (by simp) ?_
      refine AllReadyH.cons (o := ?o509) ?i509 (fun K' hK => ?_) AllReadyH.nil
      case' i509 => simp only [List.getElem?_toArray, List.getElem?_cons_succ, List.getElem?_cons_zero]
      case i509 => rfl
      go_simp
      refine hK.out _ _ hHeld (fun hHeld => ?_)
      clear hK K'
      try simp only [Act.put, List.setIfInBounds_toArray, List.set_cons_zero, List.set_cons_succ]
      clear k5
      refine wpAnyH_ready (rs := [3]) (by kernel_rfl) (by simp) ?_
      refine AllReadyH.cons (o := ?o510) ?i510 (fun K' hK => ?_) AllReadyH.nil
      case' i510 => simp only [List.getElem?_toArray, List.getElem?_cons_succ, List.getElem?_cons_zero]
      case i510 => rfl
      refine step_append_lies _ rfl _ _ 41 rfl c.base 3 i0 (.int .i64 0) 1 8 Try.underlying41 hi0 hz0 hz1 hz2 rfl (by decide) v0 z.js.length (intsR z.js) rfl (HRow.out.alloc _) ⟨W.heap.size, 0, none⟩ 1 1 [.int .i64 z.a] rfl rfl (World.news_of_block (cs := #[.int .i64 z.a]) (t := 3) (fr := (0, 0)) (heap_alloc_new W.drew _)) (by simp [Value.oneCell']) (by omega) (by have := HJ.out; unfold maxLen; omega) (by have := HJ.out; omega) (by have := HSZ.out; simp; omega) (W.heap.size + 1) (by simp) ?_
      intro g3 cap3 w3 hown3 hgrow3 hat3 hlt3
      obtain ⟨hT3, hk3⟩ := HTI.out.app o (x := z.a) hown3 (by rw [← HV0.out]; exact hgrow3) (by rw [← HV0.out]; exact hat3)
      have HT3 := Lib.hid hT3
      have HA3 : Hid (w3.heap[z.bat]? = some (atObj z.y z.ey)) := Lib.hid ((hk3 _ (.inr (.inl rfl))).trans HAD.out)
      have HB3 : Hid (w3.heap[B]? = some (atObj z.y z.ey)) := Lib.hid ((hk3 _ (.inr (.inr rfl))).trans HBD.out)
      clear hown3 hgrow3 hat3 hlt3 hT3 hk3 k0 k1 r0 r1 q0 q1
      obtain ⟨k0, k1⟩ := one_cell HT3.out.b9
      refine hK.out _ _ ⟨(at_cells HB3.out).1, (at_cells HB3.out).2.1⟩ (fun hHeld => ?_)
      clear hK K'
      try simp only [Act.put, List.setIfInBounds_toArray, List.set_cons_zero, List.set_cons_succ]
      have HT4 := Lib.hid (HT3.out.setKeys o (.slice (some ⟨g3, 0, none⟩) (z.js.length + 1) cap3))
      have HA4 := Lib.hid ((heap_setCell_other w3 (⟨c.n + 2, 0, none⟩ : Addr) z.bat (.slice (some ⟨g3, 0, none⟩) (z.js.length + 1) cap3) (by show z.bat ≠ c.n + 2; have := HB.out.1; omega)).trans HA3.out)
      have HB4 := Lib.hid ((heap_setCell_other w3 (⟨c.n + 2, 0, none⟩ : Addr) B (.slice (some ⟨g3, 0, none⟩) (z.js.length + 1) cap3) (by show B ≠ c.n + 2; have := HB.out.2.1; omega)).trans HB3.out)
      refine wpAnyH_ready (rs := [5]) (by kernel_rfl) (by simp) ?_
      refine AllReadyH.cons (o := ?o511) ?i511 (fun K' hK => ?_) AllReadyH.nil
      case' i511 => simp only [List.getElem?_toArray, List.getElem?_cons_succ, List.getElem?_cons_zero]
      case i511 => rfl
      go_simp
      refine hK.out _ _ ⟨(at_cells HB4.out).1, (at_cells HB4.out).2.1⟩ (fun hHeld => ?_)
      clear hK K'
      try simp only [Act.put, List.setIfInBounds_toArray, List.set_cons_zero, List.set_cons_succ]
      clear k0 k1
      obtain ⟨w4, hw4⟩ : ∃ w4, w4 = w3.setCell ⟨c.n + 2, 0, none⟩ (.slice (some ⟨g3, 0, none⟩) (z.js.length + 1) cap3) := ⟨_, rfl⟩
      rw [← hw4] at HT4 HA4 HB4 hHeld ⊢
      clear hw4 HT3 HA3 HB3
      obtain ⟨s0, s1, t0, t1⟩ := cells2 HT4.out.b11
      have HT5 := Lib.hid (HT4.out.setLast o z.y z.ey)
      have HA5 := Lib.hid ((fill2_other (u := w4) (c.n + 4) (.int .i64 z.y) (.int .i64 z.ey) (k := z.bat) (by have := HB.out.1; omega)).trans HA4.out)
      have HB5 := Lib.hid ((fill2_other (u := w4) (c.n + 4) (.int .i64 z.y) (.int .i64 z.ey) (k := B) (by have := HB.out.2.1; omega)).trans HB4.out)
      refine wpAnyH_ready (rs := [6]) (by kernel_rfl) (by simp) ?_
      refine AllReadyH.cons (o := ?o512) ?i512 (fun K' hK => ?_) AllReadyH.nil
      case' i512 => simp only [List.getElem?_toArray, List.getElem?_cons_succ, List.getElem?_cons_zero]
      case i512 => rfl
      go_simp
      refine hK.out _ _ ⟨(at_cells HB5.out).1, (at_cells HB5.out).2.1⟩ (fun hHeld => ?_)
      clear hK K'
      try simp only [Act.put, List.setIfInBounds_toArray, List.set_cons_zero, List.set_cons_succ]
      refine wpAnyH_done (by kernel_rfl) ?_ _
      exact ⟨⟨r', _, HT5.out.less (fun k q => .inl q), HA5.out⟩, HT5.out.held⟩
  case done =>
    rintro W ⟨r, u, hT, hvb, hM, her, hcase⟩ hD
    have HE := Lib.hid (And.intro hvb (And.intro hM (And.intro her hcase)))
    have HTI := Lib.hid hT
    have HDD := Lib.hid hD
    obtain ⟨e0, _⟩ := one_cell hT.b10
    obtain ⟨s0, s1, t0, t1⟩ := cells2 hT.b6
    rw [her] at e0
    clear hT hvb hM her hcase hD
    by_cases h0 : err = 0
    · have hc := HE.out.2.2.2
      subst h0
      obtain ⟨_, hly, hle, hjs⟩ : (0 : Int) = 0 ∧ u.ly = x' ∧ u.le = ep' ∧ u.js = ks := by
        rcases hc with q | q
        · exact q
        · exact absurd rfl q.1
      obtain ⟨l0, l1, _, _⟩ := cells2 HTI.out.b11
      obtain ⟨k0, _⟩ := one_cell HTI.out.b9
      rw [hly] at l0
      rw [hle] at l1
      have HF9 := Lib.hid (HTI.out.finish o x' ep')
      have HJS := Lib.hid hjs
      obtain ⟨vb, hvb⟩ : ∃ vb, vb = u.vb := ⟨_, rfl⟩
      have HVB := Lib.hid hvb
      rw [← hvb] at k0
      clear hc hly hle hjs hvb
      go_upto_region 14 with fail
      go_region
      go_wp2_with fail
      obtain ⟨hp, hk, c0, c1, hd⟩ := HF9.out
      refine ⟨by simp, .inl ⟨_, _, rfl, run_takeDeferred hd, ?_⟩⟩
      refine ⟨.tuple #[.agg #[.int .i64 x', .int .i64 ep'], vb, .int .i64 0], ?_, vb, rfl, ?_, hk⟩
      · unfold ToC.fin at c0 c1
        simp [results, Try.results15, go_sem, c0, c1]
      · rw [HJS.out, HE.out.2.1, HE.out.1, ← HVB.out] at hp
        exact hp
    · have hc := HE.out.2.2.2
      obtain ⟨_, hly, hle, hks⟩ : err ≠ 0 ∧ x' = 0 ∧ ep' = 0 ∧ ks = [] := by
        rcases hc with q | q
        · exact absurd q.1 h0
        · exact q
      subst hly hle hks
      have hne : (err != 0) = true := by simpa using h0
      have HF9 := Lib.hid (HTI.out.finish o 0 0)
      clear h0 hc
      go_upto_region 13 with fail
      go_region
      go_wp2_with fail
      obtain ⟨hp, hk, c0, c1, hd⟩ := HF9.out
      refine ⟨by simp, .inl ⟨_, _, rfl, run_takeDeferred hd, ?_⟩⟩
      refine ⟨.tuple #[.agg #[.int .i64 0, .int .i64 0], .slice none 0 0, .int .i64 err], ?_, _, rfl, ?_, hk⟩
      · unfold ToC.fin at c0 c1
        simp [results, Try.results15, go_sem, c0, c1]
      · rw [HE.out.2.1] at hp
        exact hp.dropRow.1.addRow
section
variable {base g : Nat} {most : Int} {Q2 : (Nat → Prop) → List Tm → World → Prop} {L L2 : List Tm} {K : Nat → Prop} {w0 w : World} {L' : List Tm} {x ep epoch x' ep' err : Int} {ks : List Int}
/-- The program's To. -/
theorem Pair.ctoP (g2 : Good base Q2) (h : Pair base (PSq base g most) Q2 L L2 K w0 w) (hx : I64 x) (hep : I64 ep) (hepo : I64 epoch) (hf : toF L most ⟨x, ep⟩ epoch = (⟨x', ep'⟩, ks, err, L')) :
    Calls Try.prog 15 #[.agg #[.int .i64 x, .int .i64 ep], .pointer (some ⟨g, 0, none⟩), .int .i64 epoch] w fun e w' => ∃ v, e = .returned (.tuple #[.agg #[.int .i64 x', .int .i64 ep'], v, .int .i64 err]) ∧ Pair base (PSq base g most) (WithRow base Q2 v ks) L' L2 K w0 w' ∧ ∀ k, K k → w'.heap[k]? = w.heap[k]? := by
  by_cases hold : epoch < ep
  · rw [to_old hold] at hf
    injection hf with h1 h2
    injection h1 with h3 h4
    injection h2 with h5 h6
    injection h6 with h7 h8
    subst h3 h4 h5 h7 h8
    exact h.ctoP_old g2 hold
  · by_cases hlim : 4 < epoch - ep
    · rw [to_lim (c := ⟨x, ep⟩) (by show 4 < epoch - ep; omega)] at hf
      injection hf with h1 h2
      injection h1 with h3 h4
      injection h2 with h5 h6
      injection h6 with h7 h8
      subst h3 h4 h5 h7 h8
      exact h.ctoP_lim g2 hep hepo hlim
    · obtain ⟨t, ht⟩ : ∃ t : Nat, epoch = ep + (t : Int) := ⟨(epoch - ep).toNat, by omega⟩
      have ht4 : t ≤ 4 := by omega
      rw [to_go (c := ⟨x, ep⟩) ht ht4] at hf
      exact ctoP_go ⟨w.heap.size, base, g, most, Q2, L2, K, w0, w, x, ep, epoch⟩ ⟨g2, h.base_le, h.klt⟩ rfl h hx hep hepo ⟨ht, ht4⟩ hf
end
end Go.Proofs.Ytlnpfeecaiecaaa
