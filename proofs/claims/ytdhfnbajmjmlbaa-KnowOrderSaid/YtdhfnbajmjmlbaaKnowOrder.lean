/- KnowOrder: for every row of terms, of what is known: in which order, or how often, makes no difference; what can be made rises. -/
import Derived.Test.YtdhfnbajmjmlbaaRows
import Derived.Test.YtdhfnbajmjmlbaaKnowG
import Derived.WalkKit
import Derived.ProofKit
import Derived.OpenShut
import Derived.ShutString
import Derived.ChangeOld
import Derived.Below
import Derived.Test.YtdhfnbajmjmlbaaOpens
namespace Go.Proofs.Ytdhfnbajmjmlbaa.knowOrder
open Go.ChangeShapes Go.WideShapes Go.ChangeAt Go.RowKit
open Go.ChangeMaps (open_string shut_string)
open Go.Proofs.Ytdhfnbajmjmlbaa
set_option linter.unusedVariables false
set_option linter.unusedSimpArgs false
set_option maxRecDepth 20000

theorem own : ownKnob Try.prog.godebug = none := by kernel_rfl
theorem laidOut : laidOutB Try.prog = true := by kernel_rfl

/-- A row of integers that came in, or nil. -/
def IsRow (k : IntKind) (w : World) (a : Option Addr) (len cap : Nat) (zs : List Int) : Prop :=
  (a = none ∧ len = 0 ∧ cap = 0 ∧ zs = []) ∨
  ∃ x, a = some x ∧ len ≤ cap ∧ cap ≤ maxLen ∧ zs.length = cap ∧ (∀ i, i < zs.length → w.cell? (x.add i) = some (.int k (zs.getD i 0))) ∧ ∀ n ∈ zs, (Lit.int k n).wf = true

theorem IsRow.plain {k : IntKind} {w : World} {a : Option Addr} {len cap : Nat} {zs : List Int} (h : IsRow k w a len cap zs) : len ≤ cap ∧ cap ≤ maxLen ∧ zs.length = cap ∧ ∃ b off, ∀ i, i < len → a = some ⟨b, off, none⟩ ∧ w.cell? ⟨b, off + i, none⟩ = some (.int k (zs.getD i 0)) ∧ (Lit.int k (zs.getD i 0)).wf = true := by
  rcases h with ⟨rfl, rfl, rfl, rfl⟩ | ⟨x, rfl, hl, hm, hz, hc, hw⟩
  · exact ⟨Nat.le_refl _, Nat.zero_le _, rfl, 0, 0, fun i hi => absurd hi (Nat.not_lt_zero _)⟩
  · by_cases hp : 0 < zs.length
    · obtain ⟨b, off, rfl, hcell⟩ := ints_at hc hp
      exact ⟨hl, hm, hz, b, off, fun i hi => ⟨rfl, hcell i (by omega), hw _ (getD_mem (by omega))⟩⟩
    · exact ⟨hl, hm, hz, 0, 0, fun i hi => by omega⟩

set_option maxHeartbeats 8000000 in
set_option maxRecDepth 100000 in
theorem walk (a0 : Option Addr) (len0 cap0 : Nat) (T0 : Nat → Tm) (a1 : Option Addr) (len1 cap1 : Nat) (z1 : List Int) (w : World) (w0 : Terms w a0 len0 cap0 T0) (w1 : IsRow .u8 w a1 len1 cap1 z1) :
    Calls Try.prog 7 #[.slice a0 len0 cap0, .slice a1 len1 cap1] w fun e w' => e = .returned (.bool true) ∧ Below w.heap.size w w' := by
  have HT := Lib.hid w0
  obtain ⟨hl1, hm1, hz1, bk, ok, hc1⟩ := w1.plain
  have HC1 := Lib.hid hc1
  unfold maxLen at hm1
  clear w0 w1 hc1 hz1
  go_enter Try.func7, Try.ntmps7
  go_wp2_with fail
  refine (stores_fine 40 a0 len0 cap0 T0 _ (by omega) HT.out).mono ?_
  rintro e ws ⟨g1, g2, L, rfl, hL, hfine, hp⟩
  have HK : Hid (Known ws g1 L) := Lib.hid (hp.known hfine)
  have HB : Hid (Below w.heap.size w ws) := Lib.hid hp.belowW
  have HP := Lib.hid hp
  have HFN := Lib.hid hfine
  have hLn : L.length ≤ 40 := hL
  clear hp hL HT hfine
  by_cases hn : L.length = 0
  · have hl0 : ((L.length : Int) == 0) = true := by simp [hn]
    clear hn
    go_wp2_with fail
    refine (HK.out.st.len (Below.refl _ _)).mono ?_
    rintro e w2 ⟨rfl, rfl⟩
    go_wp2_with fail
    refine (fixed_any _).mono ?_
    rintro e w3 ⟨rfl, hb3⟩
    go_wp2
    go_ret
    exact ⟨rfl, HB.out.trans (hb3.mono HB.out.size)⟩
  · have hl0 : ((L.length : Int) == 0) = false := by simpa using hn
    have hn1 : (0 : Int) < L.length := by omega
    have hn2 : (L.length : Int) ≤ 40 := by omega
    have hn3 : 0 < L.length := by omega
    have hL0 : ¬ L = [] := fun e => by rw [e] at hn3; simp at hn3
    clear hn
    go_wp2_with fail
    refine (HK.out.st.len (Below.refl _ _)).mono ?_
    rintro e w2 ⟨rfl, rfl⟩
    go_wp2_with fail
    obtain ⟨ws2, hws2⟩ : ∃ ws2, ws2 = ws := ⟨_, rfl⟩
    rw [← hws2] at HK HB HP ⊢
    clear hws2
    have HK2 := HK
    have HB2 := HB
    have HOW0 : True := trivial
    have HBW0 : True := trivial
    have HOB0 : Hid (((ws2.alloc (.cells #[] 3)).alloc (.cells #[] 3)).heap[ws2.heap.size + 1]? = some (.cells #[] 3 (0, 0))) := Lib.hid (by
      have := heap_alloc_new (ws2.alloc (.cells #[] 3)) (.cells #[] 3)
      rwa [show (ws2.alloc (.cells #[] 3)).heap.size = ws2.heap.size + 1 by simp] at this)
    have HBB0 : Hid (Below ws2.heap.size ws2 ((ws2.alloc (.cells #[] 3)).alloc (.cells #[] 3))) := Lib.hid ((below_alloc _ _).trans ((below_alloc _ _).mono (by simp)))
    have HOO0 : Hid (OwnI ws2.heap.size (.slice (some ⟨ws2.heap.size, 0, none⟩) 0 0) [] ((ws2.alloc (.cells #[] 3)).alloc (.cells #[] 3))) := Lib.hid ((OwnI.new ws2 (Nat.le_refl _)).below (below_alloc _ _))
    obtain ⟨i0, hi0, hz0, hz1, hz2⟩ := info_parts info3
    go_loopw [7, 9] (fun s9 s10 wr => ∃ (i ga ca : Nat) (xs : List Int), i ≤ 10 ∧ i ≤ len1 ∧ s10 = .int .i64 i ∧ s9 = .slice (some ⟨ga, 0, none⟩) i ca ∧ Hid (xs.length = i) ∧ Hid (∀ x, x ∈ xs → InL L x) ∧ Hid (OwnI ws2.heap.size (.slice (some ⟨ga, 0, none⟩) i ca) xs wr) ∧ Hid (Below ws2.heap.size ws2 wr) ∧ Hid (wr.heap[ws2.heap.size + 1]? = some (.cells #[] 3 (0, 0)) ∧ ga ≠ ws2.heap.size + 1)) (fun _ s10 _ => 10 - (intOf s10).toNat)
    case atStart => exact ⟨0, ws2.heap.size, 0, [], by omega, by omega, rfl, rfl, Lib.hid rfl, Lib.hid (by simp), HOO0, HBB0, Lib.hid ⟨HOB0.out, by omega⟩⟩
    case round =>
      clear HBW0 HOW0 HBB0 HOO0 HOB0
      obtain ⟨i, ga, ca, xs, hi, hi2, rfl, rfl, HX, HXI, HO, HBW, HOB⟩ := hrel
      by_cases hlt : i < len1 ∧ i < 10
      · obtain ⟨hlt1, hlt2⟩ := hlt
        obtain ⟨rfl, q0, hwfy⟩ := HC1.out i hlt1
        obtain ⟨y, hy⟩ : ∃ y, y = z1.getD i 0 := ⟨_, rfl⟩
        rw [← hy] at q0 hwfy
        have HBall : Hid (Below w.heap.size w wr) := Lib.hid (HB2.out.trans (HBW.out.mono HB2.out.size))
        have hbl0 := block_lt_of_cell q0
        have qy : wr.cell? ⟨bk, ok + i, none⟩ = some (.int .u8 y) := (HBall.out.cell hbl0).trans q0
        have HBL : Hid (bk < wr.heap.size) := Lib.hid (block_lt_of_cell qy)
        have HBKN : Hid (bk ≠ ga) := Lib.hid (fun e => by have h1 := (World.ownsRow.lt HO.out ga rfl).1; have h2 := HB2.out.size; have h3 : bk < w.heap.size := hbl0; omega)
        obtain ⟨p, hp⟩ : ∃ p, wrap64 (1 + (wrap64 y).tmod (L.length : Int)) = p := ⟨_, rfl⟩
        have HPI : Hid (InL L p) := Lib.hid (by rw [← hp]; exact pick_InL hwfy hn3 (by omega))
        have hp2 : IntKind.i64.wrap (1 + (IntKind.i64.wrap y).tmod (L.length : Int)) = p := by rw [IntWalk.i64_left, IntWalk.i64_left]; exact hp
        have hxl := HX.out
        have HRow : Hid (wr.drew.ownsRow ws2.heap.size 3 1 (.slice (some ⟨ga, 0, none⟩) i ca) i (intsR xs)) := Lib.hid (by
          have h5 : OwnI ws2.heap.size (.slice (some ⟨ga, 0, none⟩) i ca) xs wr.drew := HO.out.below (drewN_below wr 1)
          have h7 : wr.drew.ownsRow ws2.heap.size 3 1 (.slice (some ⟨ga, 0, none⟩) i ca) xs.length (intsR xs) := h5
          rw [hxl] at h7
          exact h7)
        have HNW : Hid ((wr.drew.alloc (.cells #[.int .i64 p] 3)).heap[wr.heap.size]? = some (.cells #[.int .i64 p] 3 (0, 0))) := Lib.hid (heap_alloc_new wr.drew _)
        have B1 : Hid (i + 1 ≤ maxLen) := Lib.hid (by unfold maxLen; omega)
        have B2 : Hid ((i + 1) * 8 ≤ 140737488355328) := Lib.hid (by omega)
        have B4 : Hid ((wr.drew.alloc (.cells #[.int .i64 p] 3)).heap.size = wr.heap.size + 1) := Lib.hid (size_drew_alloc _ _)
        have B3 : Hid (ws2.heap.size ≤ (wr.drew.alloc (.cells #[.int .i64 p] 3)).heap.size) := Lib.hid (by have := B4.out; have := HBW.out.size; omega)
        have e1 : decide (i < len1) = true := by simpa using hlt1
        have e2 : decide (i < 10) = true := by simpa using hlt2
        have e3 : decide ((i : Int) < 10) = true := decide_eq_true (by omega)
        have hi3 : (i : Int) < (len1 : Int) := by omega
        have HI := Lib.hid (And.intro hlt1 hlt2)
        have hS0 : wr.drew.cell? ⟨bk, ok + i, none⟩ = some (.int .u8 y) := qy
        have HLEN : Hid (∀ w2, Hid (Below wr.heap.size wr w2) → Calls Try.prog 18 #[.pointer (some ⟨g1, 0, none⟩)] w2 fun e W2 => e = .returned (.int .i64 L.length) ∧ w2 = W2) := Lib.hid (fun w2 hb => (HK2.out.st.below HBW.out).len hb.out)
        have HBD : Hid (Below wr.heap.size wr wr.drew) := Lib.hid (drewN_below wr 1)
        clear hy q0 hlt1 hlt2 hi hi2 hbl0 hwfy hxl
        go_wp2_with fail
        refine wp_region_held_drew (S := (fun w' => w'.cell? ⟨bk, ok + i, none⟩ = some (.int .u8 y))) (by kernel_rfl) hS0 (fun hHeld => ?_)
        refine wpAnyH_take (i := 0) (oi := ?o1) (v := ?v1) ?i1 (by kernel_rfl) (by kernel_rfl) (by kernel_rfl) ?q1 (Or.inl ⟨?w1, ?y1⟩) (by assumption) ?r1
        case' i1 => simp only [List.getElem?_toArray, List.getElem?_cons_succ, List.getElem?_cons_zero]
        case i1 => rfl
        case q1 => exact fun _ _ _ h => h
        case w1 => rfl
        case y1 => (intro w hSw; (try dsimp only at hSw); go_simp) <;> with_reducible rfl
        try simp only [Act.put, List.setIfInBounds_toArray, List.set_cons_zero, List.set_cons_succ]
        refine wpAnyH_take (i := 1) (oi := ?o2) (v := ?v2) ?i2 (by kernel_rfl) (by kernel_rfl) (by kernel_rfl) ?q2 (Or.inl ⟨?w2, ?y2⟩) (by assumption) ?r2
        case' i2 => simp only [List.getElem?_toArray, List.getElem?_cons_succ, List.getElem?_cons_zero]
        case i2 => rfl
        case q2 => exact fun _ _ _ h => h
        case w2 => rfl
        case y2 => (intro w hSw; (try dsimp only at hSw); go_simp) <;> with_reducible rfl
        try simp only [Act.put, List.setIfInBounds_toArray, List.set_cons_zero, List.set_cons_succ]
        refine wpAnyH_take (i := 2) (oi := ?o3) (v := ?v3) ?i3 (by kernel_rfl) (by kernel_rfl) (by kernel_rfl) ?q3 (Or.inl ⟨?w3, ?y3⟩) (by assumption) ?r3
        case' i3 => simp only [List.getElem?_toArray, List.getElem?_cons_succ, List.getElem?_cons_zero]
        case i3 => rfl
        case q3 => exact fun _ _ _ h => h
        case w3 => rfl
        case y3 => (intro w hSw; (try dsimp only at hSw); go_simp) <;> with_reducible rfl
        try simp only [Act.put, List.setIfInBounds_toArray, List.set_cons_zero, List.set_cons_succ]
        refine wpAnyH_take (i := 3) (oi := ?o4) (v := ?v4) ?i4 (by kernel_rfl) (by kernel_rfl) (by kernel_rfl) ?q4 (Or.inl ⟨?w4, ?y4⟩) (by assumption) ?r4
        case' i4 => simp only [List.getElem?_toArray, List.getElem?_cons_succ, List.getElem?_cons_zero]
        case i4 => rfl
        case q4 => exact fun _ _ _ h => h
        case w4 => rfl
        case y4 => (intro w hSw; (try dsimp only at hSw); go_simp) <;> with_reducible rfl
        try simp only [Act.put, List.setIfInBounds_toArray, List.set_cons_zero, List.set_cons_succ]
        refine wpAnyH_take (i := 4) (oi := ?o5) (v := ?v5) ?i5 (by kernel_rfl) (by kernel_rfl) (by kernel_rfl) ?q5 (Or.inl ⟨?w5, ?y5⟩) (by assumption) ?r5
        case' i5 => simp only [List.getElem?_toArray, List.getElem?_cons_succ, List.getElem?_cons_zero]
        case i5 => rfl
        case q5 => exact fun _ _ _ h => h
        case w5 => rfl
        case y5 => (intro w hSw; (try dsimp only at hSw); go_simp) <;> with_reducible rfl
        try simp only [Act.put, List.setIfInBounds_toArray, List.set_cons_zero, List.set_cons_succ]
        refine wpAnyH_take (i := 5) (oi := ?o6) (v := ?v6) ?i6 (by kernel_rfl) (by kernel_rfl) (by kernel_rfl) ?q6 (Or.inl ⟨?w6, ?y6⟩) (by assumption) ?r6
        case' i6 => simp only [List.getElem?_toArray, List.getElem?_cons_succ, List.getElem?_cons_zero]
        case i6 => rfl
        case q6 => exact fun _ _ _ h => h
        case w6 => rfl
        case y6 => (intro w hSw; (try dsimp only at hSw); go_simp) <;> with_reducible rfl
        try simp only [Act.put, List.setIfInBounds_toArray, List.set_cons_zero, List.set_cons_succ]
        refine wpAnyH_take (i := 6) (oi := ?o7) (v := ?v7) ?i7 (by kernel_rfl) (by kernel_rfl) (by kernel_rfl) ?q7 (Or.inl ⟨?w7, ?y7⟩) (by assumption) ?r7
        case' i7 => simp only [List.getElem?_toArray, List.getElem?_cons_succ, List.getElem?_cons_zero]
        case i7 => rfl
        case q7 => exact fun _ _ _ h => h
        case w7 => rfl
        case y7 => (intro w hSw; (try dsimp only at hSw); go_simp) <;> with_reducible rfl
        try simp only [Act.put, List.setIfInBounds_toArray, List.set_cons_zero, List.set_cons_succ]
        refine wpAnyH_ready (rs := [7]) (by kernel_rfl) (by simp) ?_
        refine AllReadyH.cons (o := ?o8) ?i8 (fun K' hK => ?_) AllReadyH.nil
        case' i8 => simp only [List.getElem?_toArray, List.getElem?_cons_succ, List.getElem?_cons_zero]
        case i8 => rfl
        go_simp
        go_at_call 18
        refine (HLEN.out _ HBD).mono ?_
        rintro e wX ⟨rfl, rfl⟩
        go_wp2_with fail
        refine hK.out _ _ hS0 (fun hHeld => ?_)
        clear hK K'
        try simp only [Act.put, List.setIfInBounds_toArray, List.set_cons_zero, List.set_cons_succ]
        refine wpAnyH_take (i := 8) (oi := ?o9) (v := ?v9) ?i9 (by kernel_rfl) (by kernel_rfl) (by kernel_rfl) ?q9 (Or.inl ⟨?w9, ?y9⟩) (by assumption) ?r9
        case' i9 => simp only [List.getElem?_toArray, List.getElem?_cons_succ, List.getElem?_cons_zero]
        case i9 => rfl
        case q9 => exact fun _ _ _ h => h
        case w9 => rfl
        case y9 => (intro w hSw; (try dsimp only at hSw); go_simp) <;> with_reducible rfl
        try simp only [Act.put, List.setIfInBounds_toArray, List.set_cons_zero, List.set_cons_succ]
        refine wpAnyH_take (i := 9) (oi := ?o10) (v := ?v10) ?i10 (by kernel_rfl) (by kernel_rfl) (by kernel_rfl) ?q10 (Or.inl ⟨?w10, ?y10⟩) (by assumption) ?r10
        case' i10 => simp only [List.getElem?_toArray, List.getElem?_cons_succ, List.getElem?_cons_zero]
        case i10 => rfl
        case q10 => exact fun _ _ _ h => h
        case w10 => rfl
        case y10 => (intro w hSw; (try dsimp only at hSw); go_simp) <;> with_reducible rfl
        try simp only [Act.put, List.setIfInBounds_toArray, List.set_cons_zero, List.set_cons_succ]
        refine wpAnyH_ready (rs := [10]) (by kernel_rfl) (by simp) ?_
        refine AllReadyH.cons (o := ?o11) ?i11 (fun K' hK => ?_) AllReadyH.nil
        case' i11 => simp only [List.getElem?_toArray, List.getElem?_cons_succ, List.getElem?_cons_zero]
        case i11 => rfl
        go_simp
        refine hK.out _ _ (by show (wr.alloc _).cell? _ = _; rw [World.cell?_alloc_past (hn := HBL.out)]; exact qy) (fun hHeld => ?_)
        clear hK K'
        try simp only [Act.put, List.setIfInBounds_toArray, List.set_cons_zero, List.set_cons_succ]
        refine wpAnyH_ready (rs := [11]) (by kernel_rfl) (by simp) ?_
        refine AllReadyH.cons (o := ?o12) ?i12 (fun K' hK => ?_) AllReadyH.nil
        case' i12 => simp only [List.getElem?_toArray, List.getElem?_cons_succ, List.getElem?_cons_zero]
        case i12 => rfl
        refine step_append_lies _ rfl (.tmp 45) (.tmp 55) 23 rfl ws2.heap.size 3 i0 (.int .i64 0) 1 8 Try.underlying23 hi0 hz0 hz1 hz2 rfl (by decide) _ _ _ rfl (HRow.out.alloc _) ⟨wr.heap.size, 0, none⟩ 1 1 [.int .i64 p] rfl rfl (World.news_of_block (cs := #[.int .i64 p]) (t := 3) (fr := (0, 0)) HNW.out) (by simp [Value.oneCell']) (by omega) B1.out B2.out B3.out (wr.heap.size + 1) B4.out ?_
        intro g3 cap4 w6 hown6 hgrow6 hat6 hlt6
        refine hK.out _ _ (by rw [World.cell?_of_block (a := ⟨bk, ok + i, none⟩) (hgrow6.block bk (by rw [size_alloc_drew]; have := HBL.out; omega) (fun e => HBKN.out (by injection e with e)))]; show (wr.alloc _).cell? _ = _; rw [World.cell?_alloc_past (hn := HBL.out)]; exact qy) (fun hHeld => ?_)
        clear hK K'
        try simp only [Act.put, List.setIfInBounds_toArray, List.set_cons_zero, List.set_cons_succ]
        refine wpAnyH_take (i := 12) (oi := ?o13) (v := ?v13) ?i13 (by kernel_rfl) (by kernel_rfl) (by kernel_rfl) ?q13 (Or.inl ⟨?w13, ?y13⟩) (by assumption) ?r13
        case' i13 => simp only [List.getElem?_toArray, List.getElem?_cons_succ, List.getElem?_cons_zero]
        case i13 => rfl
        case q13 => exact fun _ _ _ h => h
        case w13 => rfl
        case y13 => (intro w hSw; (try dsimp only at hSw); go_simp) <;> with_reducible rfl
        try simp only [Act.put, List.setIfInBounds_toArray, List.set_cons_zero, List.set_cons_succ]
        refine wpAnyH_done (by kernel_rfl) ?_ _
        have C6 : Chg (fun k => some k = some ga) wr w6 := (Chg.drew wr _).trans ((Chg.alloc wr.drew _ _).trans (Chg.grown hgrow6))
        have HO6 : Hid (OwnI ws2.heap.size (.slice (some ⟨g3, 0, none⟩) (i + 1) cap4) (xs ++ [p]) w6) := Lib.hid (by
          have h8 := OwnI.app (M := xs) (x := p) (g := g3) (cap := cap4) (base := ws2.heap.size) (w' := w6) (by rw [HX.out]; exact hown6)
          rw [HX.out] at h8
          exact h8)
        have hat7 : ga = g3 ∨ g3 = wr.heap.size + 1 := by
          rcases hat6 with q | q
          · exact .inl (by injection q)
          · exact .inr q
        go_wp2_with fail
        go_roundw
        case rel => exact ⟨i + 1, g3, cap4, xs ++ [p], by have := HI.out; omega, by have := HI.out; omega, by go_num, rfl, Lib.hid (by have := HX.out; simp; omega), Lib.hid (fun x hx => by
          rcases List.mem_append.1 hx with q | q
          · exact HXI.out x q
          · rw [List.mem_singleton.1 q]; exact HPI.out), HO6, Lib.hid (HBW.out.trans (C6.below (fun k e => by injection e with e; subst e; exact (World.ownsRow.lt HO.out k rfl).1) HBW.out.size)), Lib.hid ⟨by rw [C6.block (ws2.heap.size + 1) (blk_lt HOB.out.1) (fun e => HOB.out.2 (by injection e with e; exact e.symm))]; exact HOB.out.1, by have h1 := blk_lt HOB.out.1; rcases hat7 with q | q; exact (by rw [← q]; exact HOB.out.2); omega⟩⟩
        case measure => have := HI.out; simp [intOf]; omega
      · have e12 : decide (i < len1) = false ∨ (decide (i < len1) = true ∧ decide ((i : Int) < 10) = false) := by
          simp only [decide_eq_false_iff_not, decide_eq_true_eq]
          omega
        have hi3 : (i : Int) ≤ 10 := by omega
        have hi4 : i ≤ 10 := hi
        clear hlt hi hi2
        rcases e12 with e1 | ⟨e1, e2⟩
        · go_wp2_with fail
          obtain ⟨n0, hn0⟩ : ∃ n0, n0 = i := ⟨_, rfl⟩
          rw [← hn0] at HX HO hi3 hi4
          have HGX : Hid (ga < wr.heap.size) := Lib.hid (World.ownsRow.lt HO.out ga rfl).2
          have HOO : Hid (OwnI ws2.heap.size (.slice (some ⟨ws2.heap.size + 1, 0, none⟩) 0 0) [] wr) := Lib.hid ⟨rfl, .inr ⟨ws2.heap.size + 1, 0, #[], rfl, by omega, HOB.out.1, Nat.le_refl _, Nat.zero_le _, by simp, by simp [intsR]⟩⟩
          have HOK : Hid (OwnI ws2.heap.size (.slice (some ⟨ga, 0, none⟩) n0 ca) xs wr) := HO
          have HGO : Hid (ga ≠ ws2.heap.size + 1) := Lib.hid HOB.out.2
          have HBK : Hid (Below ws2.heap.size ws2 wr) := HBW
          try rw [← hn0]
          clear hn0 HO HOB HBW HP HFN
          go_loopw [8, 10] (fun s8 s10 wr => ∃ (t go co ny : Nat) (ys : List Int), t ≤ n0 ∧ s10 = .int .i64 ((t : Int) - 1) ∧ s8 = .slice (some ⟨go, 0, none⟩) ny co ∧ Hid (ys.length = ny ∧ ny + 2 * t = 2 * n0) ∧ Hid ((∀ y, y ∈ ys → y ∈ xs) ∧ ∀ k, t ≤ k → k < n0 → xs.getD k 0 ∈ ys) ∧ Hid (OwnI ws2.heap.size (.slice (some ⟨go, 0, none⟩) ny co) ys wr) ∧ Hid (OwnI ws2.heap.size (.slice (some ⟨ga, 0, none⟩) n0 ca) xs wr) ∧ Hid (ga ≠ go) ∧ Hid (Below ws2.heap.size ws2 wr)) (fun _ s10 _ => (intOf s10 + 1).toNat)
          case atStart => exact ⟨n0, ws2.heap.size + 1, 0, 0, [], Nat.le_refl _, by go_num, rfl, Lib.hid ⟨rfl, by omega⟩, Lib.hid ⟨by simp, fun k h1 h2 => by omega⟩, HOO, HOK, HGO, HBK⟩
          case round =>
            clear HOO HOK HGO HBK HGX
            obtain ⟨t, go, co, ny, ys, ht, rfl, rfl, HY, HYS, HOO, HOK, HGO, HBW⟩ := hrel
            by_cases h0 : 0 < t
            · obtain ⟨j, rfl⟩ : ∃ j, t = j + 1 := ⟨t - 1, by omega⟩
              have ej : ((j + 1 : Nat) : Int) - 1 = (j : Int) := by omega
              rw [ej]
              have hxl := HX.out
              obtain ⟨aa, cc, ee, qx0, _⟩ := HOK.out.nat (i := j) (by omega)
              injection ee with ee1 ee2 ee3
              injection ee1 with ee1
              injection ee1 with ee1
              subst ee1
              obtain ⟨aa, cc2, ee, qy0, _⟩ := HOK.out.nat (i := 0) (by omega)
              injection ee with ee1 ee4 ee5
              injection ee1 with ee1
              injection ee1 with ee1
              subst ee1
              obtain ⟨x, hx⟩ : ∃ x, x = xs.getD j 0 := ⟨_, rfl⟩
              obtain ⟨y, hy⟩ : ∃ y, y = xs.getD 0 0 := ⟨_, rfl⟩
              rw [← hx] at qx0
              rw [← hy] at qy0
              have qx : wr.cell? ⟨ga, j, none⟩ = some (.int .i64 x) := qx0
              have qy : wr.cell? ⟨ga, 0, none⟩ = some (.int .i64 y) := qy0
              have HXM : Hid (x ∈ xs ∧ y ∈ xs ∧ x = xs.getD j 0) := Lib.hid ⟨by rw [hx]; exact getD_mem (by omega), by rw [hy]; exact getD_mem (by omega), hx⟩
              have HGL : Hid (ga < wr.heap.size) := Lib.hid (World.ownsRow.lt HOK.out ga rfl).2
              have HGN : Hid (ga ≠ go) := HGO
              have hyl := HY.out
              have HRow : Hid (wr.drew.ownsRow ws2.heap.size 3 1 (.slice (some ⟨go, 0, none⟩) ny co) ny (intsR ys)) := Lib.hid (by
                have h5 : OwnI ws2.heap.size (.slice (some ⟨go, 0, none⟩) ny co) ys wr.drew := HOO.out.below (drewN_below wr 1)
                have h7 : wr.drew.ownsRow ws2.heap.size 3 1 (.slice (some ⟨go, 0, none⟩) ny co) ys.length (intsR ys) := h5
                rw [hyl.1] at h7
                exact h7)
              have HNW : Hid ((wr.drew.alloc (.cells #[.int .i64 x, .int .i64 y] 3)).heap[wr.heap.size]? = some (.cells #[.int .i64 x, .int .i64 y] 3 (0, 0))) := Lib.hid (heap_alloc_new wr.drew _)
              have B1 : Hid (ny + 2 ≤ maxLen) := Lib.hid (by unfold maxLen; omega)
              have B2 : Hid ((ny + 2) * 8 ≤ 140737488355328) := Lib.hid (by omega)
              have B4 : Hid ((wr.drew.alloc (.cells #[.int .i64 x, .int .i64 y] 3)).heap.size = wr.heap.size + 1) := Lib.hid (size_drew_alloc _ _)
              have B3 : Hid (ws2.heap.size ≤ (wr.drew.alloc (.cells #[.int .i64 x, .int .i64 y] 3)).heap.size) := Lib.hid (by have := B4.out; have := HBW.out.size; omega)
              have hS0 : wr.drew.cell? ⟨ga, j, none⟩ = some (.int .i64 x) ∧ wr.drew.cell? ⟨ga, 0, none⟩ = some (.int .i64 y) := ⟨qx, qy⟩
              have hj1 : (j : Int) < (n0 : Int) := by omega
              have hj2 : (0 : Int) < (n0 : Int) := by omega
              have hj5 : 0 < n0 := by omega
              have hj3 : (0 : Int) ≤ (j : Int) := by omega
              have hj4 : decide ((0 : Int) ≤ (j : Int)) = true := decide_eq_true hj3
              have HT := Lib.hid ht
              clear hx hy qx0 qy0 ht h0 ej hxl hyl ee2 ee3 ee4 ee5
              go_wp2_with fail
              refine wp_region_held_drew (S := (fun w' => w'.cell? ⟨ga, j, none⟩ = some (.int .i64 x) ∧ w'.cell? ⟨ga, 0, none⟩ = some (.int .i64 y))) (by kernel_rfl) hS0 (fun hHeld => ?_)
              refine wpAnyH_take (i := 0) (oi := ?o14) (v := ?v14) ?i14 (by kernel_rfl) (by kernel_rfl) (by kernel_rfl) ?q14 (Or.inl ⟨?w14, ?y14⟩) (by assumption) ?r14
              case' i14 => simp only [List.getElem?_toArray, List.getElem?_cons_succ, List.getElem?_cons_zero]
              case i14 => rfl
              case q14 => exact fun _ _ _ h => h
              case w14 => rfl
              case y14 => (intro w hSw; (try dsimp only at hSw); go_simp) <;> with_reducible rfl
              try simp only [Act.put, List.setIfInBounds_toArray, List.set_cons_zero, List.set_cons_succ]
              refine wpAnyH_take (i := 1) (oi := ?o15) (v := ?v15) ?i15 (by kernel_rfl) (by kernel_rfl) (by kernel_rfl) ?q15 (Or.inl ⟨?w15, ?y15⟩) (by assumption) ?r15
              case' i15 => simp only [List.getElem?_toArray, List.getElem?_cons_succ, List.getElem?_cons_zero]
              case i15 => rfl
              case q15 => exact fun _ _ _ h => h
              case w15 => rfl
              case y15 => (intro w hSw; (try dsimp only at hSw); go_simp) <;> with_reducible rfl
              try simp only [Act.put, List.setIfInBounds_toArray, List.set_cons_zero, List.set_cons_succ]
              refine wpAnyH_take (i := 2) (oi := ?o16) (v := ?v16) ?i16 (by kernel_rfl) (by kernel_rfl) (by kernel_rfl) ?q16 (Or.inl ⟨?w16, ?y16⟩) (by assumption) ?r16
              case' i16 => simp only [List.getElem?_toArray, List.getElem?_cons_succ, List.getElem?_cons_zero]
              case i16 => rfl
              case q16 => exact fun _ _ _ h => h
              case w16 => rfl
              case y16 => (intro w hSw; (try dsimp only at hSw); go_simp) <;> with_reducible rfl
              try simp only [Act.put, List.setIfInBounds_toArray, List.set_cons_zero, List.set_cons_succ]
              refine wpAnyH_take (i := 3) (oi := ?o17) (v := ?v17) ?i17 (by kernel_rfl) (by kernel_rfl) (by kernel_rfl) ?q17 (Or.inl ⟨?w17, ?y17⟩) (by assumption) ?r17
              case' i17 => simp only [List.getElem?_toArray, List.getElem?_cons_succ, List.getElem?_cons_zero]
              case i17 => rfl
              case q17 => exact fun _ _ _ h => h
              case w17 => rfl
              case y17 => (intro w hSw; (try dsimp only at hSw); go_simp) <;> with_reducible rfl
              try simp only [Act.put, List.setIfInBounds_toArray, List.set_cons_zero, List.set_cons_succ]
              refine wpAnyH_take (i := 4) (oi := ?o18) (v := ?v18) ?i18 (by kernel_rfl) (by kernel_rfl) (by kernel_rfl) ?q18 (Or.inl ⟨?w18, ?y18⟩) (by assumption) ?r18
              case' i18 => simp only [List.getElem?_toArray, List.getElem?_cons_succ, List.getElem?_cons_zero]
              case i18 => rfl
              case q18 => exact fun _ _ _ h => h
              case w18 => rfl
              case y18 => (intro w hSw; (try dsimp only at hSw); go_simp) <;> with_reducible rfl
              try simp only [Act.put, List.setIfInBounds_toArray, List.set_cons_zero, List.set_cons_succ]
              refine wpAnyH_take (i := 5) (oi := ?o19) (v := ?v19) ?i19 (by kernel_rfl) (by kernel_rfl) (by kernel_rfl) ?q19 (Or.inl ⟨?w19, ?y19⟩) (by assumption) ?r19
              case' i19 => simp only [List.getElem?_toArray, List.getElem?_cons_succ, List.getElem?_cons_zero]
              case i19 => rfl
              case q19 => exact fun _ _ _ h => h
              case w19 => rfl
              case y19 => (intro w hSw; (try dsimp only at hSw); go_simp) <;> with_reducible rfl
              try simp only [Act.put, List.setIfInBounds_toArray, List.set_cons_zero, List.set_cons_succ]
              refine wpAnyH_take (i := 6) (oi := ?o20) (v := ?v20) ?i20 (by kernel_rfl) (by kernel_rfl) (by kernel_rfl) ?q20 (Or.inl ⟨?w20, ?y20⟩) (by assumption) ?r20
              case' i20 => simp only [List.getElem?_toArray, List.getElem?_cons_succ, List.getElem?_cons_zero]
              case i20 => rfl
              case q20 => exact fun _ _ _ h => h
              case w20 => rfl
              case y20 => (intro w hSw; (try dsimp only at hSw); go_simp) <;> with_reducible rfl
              try simp only [Act.put, List.setIfInBounds_toArray, List.set_cons_zero, List.set_cons_succ]
              refine wpAnyH_take (i := 7) (oi := ?o21) (v := ?v21) ?i21 (by kernel_rfl) (by kernel_rfl) (by kernel_rfl) ?q21 (Or.inl ⟨?w21, ?y21⟩) (by assumption) ?r21
              case' i21 => simp only [List.getElem?_toArray, List.getElem?_cons_succ, List.getElem?_cons_zero]
              case i21 => rfl
              case q21 => exact fun _ _ _ h => h
              case w21 => rfl
              case y21 => (intro w hSw; (try dsimp only at hSw); go_simp) <;> with_reducible rfl
              try simp only [Act.put, List.setIfInBounds_toArray, List.set_cons_zero, List.set_cons_succ]
              refine wpAnyH_ready (rs := [8]) (by kernel_rfl) (by simp) ?_
              refine AllReadyH.cons (o := ?o22) ?i22 (fun K' hK => ?_) AllReadyH.nil
              case' i22 => simp only [List.getElem?_toArray, List.getElem?_cons_succ, List.getElem?_cons_zero]
              case i22 => rfl
              go_simp
              refine hK.out _ _ (by show (wr.alloc _).cell? _ = _ ∧ (wr.alloc _).cell? _ = _; rw [World.cell?_alloc_past (hn := HGL.out), World.cell?_alloc_past (hn := HGL.out)]; exact ⟨qx, qy⟩) (fun hHeld => ?_)
              clear hK K'
              try simp only [Act.put, List.setIfInBounds_toArray, List.set_cons_zero, List.set_cons_succ]
              refine wpAnyH_ready (rs := [9]) (by kernel_rfl) (by simp) ?_
              refine AllReadyH.cons (o := ?o23) ?i23 (fun K' hK => ?_) AllReadyH.nil
              case' i23 => simp only [List.getElem?_toArray, List.getElem?_cons_succ, List.getElem?_cons_zero]
              case i23 => rfl
              refine step_append_lies _ rfl (.tmp 64) (.tmp 72) 23 rfl ws2.heap.size 3 i0 (.int .i64 0) 1 8 Try.underlying23 hi0 hz0 hz1 hz2 rfl (by decide) _ _ _ rfl (HRow.out.alloc _) ⟨wr.heap.size, 0, none⟩ 2 2 [.int .i64 x, .int .i64 y] rfl rfl (World.news_of_block (cs := #[.int .i64 x, .int .i64 y]) (t := 3) (fr := (0, 0)) HNW.out) (by simp [Value.oneCell']) (by omega) B1.out B2.out B3.out (wr.heap.size + 1) B4.out ?_
              intro g3 cap4 w6 hown6 hgrow6 hat6 hlt6
              refine hK.out _ _ (by rw [World.cell?_of_block (a := ⟨ga, j, none⟩) (hgrow6.block ga (by rw [size_alloc_drew]; have := HGL.out; omega) (fun e => HGN.out (by injection e with e))), World.cell?_of_block (a := ⟨ga, 0, none⟩) (hgrow6.block ga (by rw [size_alloc_drew]; have := HGL.out; omega) (fun e => HGN.out (by injection e with e)))]; show (wr.alloc _).cell? _ = _ ∧ (wr.alloc _).cell? _ = _; rw [World.cell?_alloc_past (hn := HGL.out), World.cell?_alloc_past (hn := HGL.out)]; exact ⟨qx, qy⟩) (fun hHeld => ?_)
              clear hK K'
              try simp only [Act.put, List.setIfInBounds_toArray, List.set_cons_zero, List.set_cons_succ]
              refine wpAnyH_take (i := 10) (oi := ?o24) (v := ?v24) ?i24 (by kernel_rfl) (by kernel_rfl) (by kernel_rfl) ?q24 (Or.inl ⟨?w24, ?y24⟩) (by assumption) ?r24
              case' i24 => simp only [List.getElem?_toArray, List.getElem?_cons_succ, List.getElem?_cons_zero]
              case i24 => rfl
              case q24 => exact fun _ _ _ h => h
              case w24 => rfl
              case y24 => (intro w hSw; (try dsimp only at hSw); go_simp) <;> with_reducible rfl
              try simp only [Act.put, List.setIfInBounds_toArray, List.set_cons_zero, List.set_cons_succ]
              refine wpAnyH_done (by kernel_rfl) ?_ _

              have C6 : Chg (fun k => some k = some go) wr w6 := (Chg.drew wr _).trans ((Chg.alloc wr.drew _ _).trans (Chg.grown hgrow6))
              have hat7 : go = g3 ∨ g3 = wr.heap.size + 1 := by
                rcases hat6 with q | q
                · exact .inl (by injection q)
                · exact .inr q
              have HO6 : Hid (OwnI ws2.heap.size (.slice (some ⟨g3, 0, none⟩) (ny + 2) cap4) (ys ++ [x, y]) w6) := Lib.hid (by
                unfold OwnI
                rw [show (ys ++ [x, y]).length = ny + 2 by have := HY.out.1; simp; omega, show intsR (ys ++ [x, y]) = intsR ys ++ [.int .i64 x, .int .i64 y] by simp [intsR]]
                exact hown6)
              have HK6 : Hid (OwnI ws2.heap.size (.slice (some ⟨ga, 0, none⟩) n0 ca) xs w6) := Lib.hid (HOK.out.chg C6 (fun k hk e => HGO.out ((show ga = k by injection hk).trans (show k = go by injection e))))
              clear qx qy hS0
              go_wp2_with fail
              go_roundw
              case rel => exact ⟨j, g3, cap4, ny + 2, ys ++ [x, y], by have := HT.out; omega, by go_num, rfl, Lib.hid (by have := HY.out; simp; omega), Lib.hid ⟨fun z hz => by
                  rcases List.mem_append.1 hz with q | q
                  · exact HYS.out.1 z q
                  · rcases (by simpa using q : z = x ∨ z = y) with r | r
                    · rw [r]; exact HXM.out.1
                    · rw [r]; exact HXM.out.2.1, fun k h1 h2 => by
                  rcases (by omega : k = j ∨ j + 1 ≤ k) with r | r
                  · rw [r, ← HXM.out.2.2]; simp
                  · exact List.mem_append_left _ (HYS.out.2 k r h2)⟩, HO6, HK6, Lib.hid (by
                    rcases hat7 with q | q
                    · rw [← q]; exact HGO.out
                    · have := HGL.out; omega), Lib.hid (HBW.out.trans (C6.below (fun k e => by injection e with e; subst e; exact (World.ownsRow.lt HOO.out k rfl).1) HBW.out.size))⟩
              case measure => first | (simp [intOf]; done) | (have := HT.out; simp [intOf]; omega)
            · obtain rfl : t = 0 := by omega
              have ej : ((0 : Nat) : Int) - 1 = -1 := by omega
              rw [ej]
              have HSM : Hid (∀ z, z ∈ xs ↔ z ∈ ys) := Lib.hid (fun z => ⟨fun q => by
                obtain ⟨k, hk, e⟩ := mem_getD q
                rw [← e]
                exact HYS.out.2 k (Nat.zero_le _) (by have := HX.out; omega), HYS.out.1 z⟩)
              have HYI : Hid (∀ z, z ∈ ys → InL L z) := Lib.hid (fun z hz => HXI.out z (HYS.out.1 z hz))
              obtain ⟨C, hC⟩ := least_is HK.out.fit HXI.out false false
              obtain ⟨D, hD⟩ := least_is HK.out.fit HYI.out false false
              have HC := Lib.hid hC
              have HD := Lib.hid hD
              have HSAME : Hid (namesIn L C = namesIn L D) := Lib.hid (hC.same hD HSM.out)
              have HK3 : Hid (Known wr g1 L) := Lib.hid (HK.out.below HBW.out)
              have HBw : Hid (Below w.heap.size w wr) := Lib.hid (HB.out.trans (HBW.out.mono HB.out.size))
              have HR1 := Lib.hid HOK.out.ints.2
              have HR2 := Lib.hid HOO.out.ints.2
              have HNY : Hid (ny = ys.length) := Lib.hid HY.out.1.symm
              clear hC hD ht h0 HYS HOO HOK HGO HY
              go_wp2_with fail
              refine (all_least HK3.out HC.out HXI.out (some ⟨ga, 0, none⟩) ca n0 HX.out.symm HR1.out).mono ?_
              rintro e w4 ⟨aa, na, ca2, rfl, hna, ho, hb⟩
              replace HBw : Hid (Below w.heap.size w w4) := Lib.hid (HBw.out.trans (hb.mono HBw.out.size))
              replace HK3 : Hid (Known w4 g1 L) := Lib.hid (HK3.out.below hb)
              replace HR2 := Lib.hid (HR2.out.below hb)
              have HA := Lib.hid ho.ints.2
              have HNA := Lib.hid hna
              clear ho hna hb
              go_wp2_with fail
              refine (all_least HK3.out HD.out HYI.out (some ⟨go, 0, none⟩) co ny HNY.out HR2.out).mono ?_
              rintro e w5 ⟨ab, nb, cb, rfl, hnb, ho, hb⟩
              replace HBw : Hid (Below w.heap.size w w5) := Lib.hid (HBw.out.trans (hb.mono HBw.out.size))
              replace HA := Lib.hid (HA.out.below hb)
              have HBr := Lib.hid ho.ints.2
              have HNB := Lib.hid hnb
              clear ho hnb hb
              obtain ⟨ns, hns⟩ : ∃ ns, ns = namesIn L C := ⟨_, rfl⟩
              have HRISE : Hid (ns.Pairwise (· < ·)) := Lib.hid (by rw [hns]; exact namesIn_rises L C)
              have hnl : ns.length ≤ 40 := by rw [hns]; have := namesIn_len L C; omega
              rw [← hns] at HA HNA
              have HSM2 : Hid (ns = namesIn L D) := Lib.hid (by rw [hns]; exact HSAME.out)
              obtain ⟨ba, oa, hca⟩ := HA.out.2.2
              have HCA := Lib.hid hca
              have hna : na = ns.length := HNA.out
              have hna2 : na ≤ 40 := by omega
              clear hca hns hna
              go_wp2_with fail
              go_loopw [15] (fun s15 wr => ∃ (t q : Nat), 1 ≤ t ∧ t ≤ 41 ∧ s15 = .int .i64 t ∧ wr = w5.drewN q) (fun s15 _ => 100 - (intOf s15).toNat)
              case atStart => exact ⟨1, 0, by omega, by omega, by go_num, rfl⟩
              case round =>
                obtain ⟨t, q, ht1, ht2, rfl, rfl⟩ := hrel
                by_cases hlt : t < na
                · obtain ⟨k0, rfl⟩ : ∃ k0, t = k0 + 1 := ⟨t - 1, by omega⟩
                  obtain ⟨rfl, q1⟩ := HCA.out k0 (by rw [← HNA.out]; omega)
                  obtain ⟨_, q2⟩ := HCA.out (k0 + 1) (by rw [← HNA.out]; omega)
                  have hxy : ns.getD k0 0 < ns.getD (k0 + 1) 0 := by
                    have h1 : k0 < ns.length := by rw [← HNA.out]; omega
                    have h2 : k0 + 1 < ns.length := by rw [← HNA.out]; omega
                    have := (List.pairwise_iff_getElem.1 HRISE.out) k0 (k0 + 1) h1 h2 (by omega)
                    simpa [List.getD, h1, h2] using this
                  obtain ⟨x, hx⟩ : ∃ x, x = ns.getD k0 0 := ⟨_, rfl⟩
                  obtain ⟨y, hy⟩ : ∃ y, y = ns.getD (k0 + 1) 0 := ⟨_, rfl⟩
                  rw [← hx, ← hy] at hxy
                  rw [← hx] at q1
                  rw [← hy] at q2
                  have hS0 : (w5.drewN q).drew.cell? ⟨ba, oa + k0, none⟩ = some (.int .i64 x) ∧ (w5.drewN q).drew.cell? ⟨ba, oa + (k0 + 1), none⟩ = some (.int .i64 y) := ⟨q1, q2⟩
                  have t1 : decide (k0 + 1 < na) = true := by simpa using hlt
                  have t2 : decide (y ≤ x) = false := decide_eq_false (by omega)
                  have hk1 : (k0 : Int) < (na : Int) := by omega
                  have hk2 : ((k0 : Int) + 1) < (na : Int) := by omega
                  have hw : IntKind.i64.wrap (k0 : Int) = (k0 : Int) := wrap_small _ (by omega) (by omega)
                  have hk3 : (0 : Int) ≤ (k0 : Int) := by omega
                  have hk4 : (0 : Int) ≤ (k0 : Int) + 1 := by omega
                  have HLT := Lib.hid hlt
                  clear hx hy q1 q2 hxy ht1 ht2 hlt
                  go_wp2_with fail
                  refine wp_region_held_drew (S := (fun w' => w'.cell? ⟨ba, oa + k0, none⟩ = some (.int .i64 x) ∧ w'.cell? ⟨ba, oa + (k0 + 1), none⟩ = some (.int .i64 y))) (by kernel_rfl) hS0 (fun hHeld => ?_)
                  refine wpAnyH_take (i := 0) (oi := ?o25) (v := ?v25) ?i25 (by kernel_rfl) (by kernel_rfl) (by kernel_rfl) ?q25 (Or.inl ⟨?w25, ?y25⟩) (by assumption) ?r25
                  case' i25 => simp only [List.getElem?_toArray, List.getElem?_cons_succ, List.getElem?_cons_zero]
                  case i25 => rfl
                  case q25 => exact fun _ _ _ h => h
                  case w25 => rfl
                  case y25 => (intro w hSw; (try dsimp only at hSw); go_simp) <;> with_reducible rfl
                  try simp only [Act.put, List.setIfInBounds_toArray, List.set_cons_zero, List.set_cons_succ]
                  refine wpAnyH_take (i := 1) (oi := ?o26) (v := ?v26) ?i26 (by kernel_rfl) (by kernel_rfl) (by kernel_rfl) ?q26 (Or.inl ⟨?w26, ?y26⟩) (by assumption) ?r26
                  case' i26 => simp only [List.getElem?_toArray, List.getElem?_cons_succ, List.getElem?_cons_zero]
                  case i26 => rfl
                  case q26 => exact fun _ _ _ h => h
                  case w26 => rfl
                  case y26 => (intro w hSw; (try dsimp only at hSw); go_simp) <;> with_reducible rfl
                  try simp only [Act.put, List.setIfInBounds_toArray, List.set_cons_zero, List.set_cons_succ]
                  refine wpAnyH_take (i := 2) (oi := ?o27) (v := ?v27) ?i27 (by kernel_rfl) (by kernel_rfl) (by kernel_rfl) ?q27 (Or.inl ⟨?w27, ?y27⟩) (by assumption) ?r27
                  case' i27 => simp only [List.getElem?_toArray, List.getElem?_cons_succ, List.getElem?_cons_zero]
                  case i27 => rfl
                  case q27 => exact fun _ _ _ h => h
                  case w27 => rfl
                  case y27 => (intro w hSw; (try dsimp only at hSw); go_simp) <;> with_reducible rfl
                  try simp only [Act.put, List.setIfInBounds_toArray, List.set_cons_zero, List.set_cons_succ]
                  refine wpAnyH_take (i := 3) (oi := ?o28) (v := ?v28) ?i28 (by kernel_rfl) (by kernel_rfl) (by kernel_rfl) ?q28 (Or.inl ⟨?w28, ?y28⟩) (by assumption) ?r28
                  case' i28 => simp only [List.getElem?_toArray, List.getElem?_cons_succ, List.getElem?_cons_zero]
                  case i28 => rfl
                  case q28 => exact fun _ _ _ h => h
                  case w28 => rfl
                  case y28 => (intro w hSw; (try dsimp only at hSw); go_simp) <;> with_reducible rfl
                  try simp only [Act.put, List.setIfInBounds_toArray, List.set_cons_zero, List.set_cons_succ]
                  refine wpAnyH_take (i := 4) (oi := ?o29) (v := ?v29) ?i29 (by kernel_rfl) (by kernel_rfl) (by kernel_rfl) ?q29 (Or.inl ⟨?w29, ?y29⟩) (by assumption) ?r29
                  case' i29 => simp only [List.getElem?_toArray, List.getElem?_cons_succ, List.getElem?_cons_zero]
                  case i29 => rfl
                  case q29 => exact fun _ _ _ h => h
                  case w29 => rfl
                  case y29 => (intro w hSw; (try dsimp only at hSw); go_simp) <;> with_reducible rfl
                  try simp only [Act.put, List.setIfInBounds_toArray, List.set_cons_zero, List.set_cons_succ]
                  refine wpAnyH_take (i := 5) (oi := ?o30) (v := ?v30) ?i30 (by kernel_rfl) (by kernel_rfl) (by kernel_rfl) ?q30 (Or.inl ⟨?w30, ?y30⟩) (by assumption) ?r30
                  case' i30 => simp only [List.getElem?_toArray, List.getElem?_cons_succ, List.getElem?_cons_zero]
                  case i30 => rfl
                  case q30 => exact fun _ _ _ h => h
                  case w30 => rfl
                  case y30 => (intro w hSw; (try dsimp only at hSw); go_simp) <;> with_reducible rfl
                  try simp only [Act.put, List.setIfInBounds_toArray, List.set_cons_zero, List.set_cons_succ]
                  refine wpAnyH_take (i := 6) (oi := ?o31) (v := ?v31) ?i31 (by kernel_rfl) (by kernel_rfl) (by kernel_rfl) ?q31 (Or.inl ⟨?w31, ?y31⟩) (by assumption) ?r31
                  case' i31 => simp only [List.getElem?_toArray, List.getElem?_cons_succ, List.getElem?_cons_zero]
                  case i31 => rfl
                  case q31 => exact fun _ _ _ h => h
                  case w31 => rfl
                  case y31 => (intro w hSw; (try dsimp only at hSw); go_simp) <;> with_reducible rfl
                  try simp only [Act.put, List.setIfInBounds_toArray, List.set_cons_zero, List.set_cons_succ]
                  refine wpAnyH_take (i := 7) (oi := ?o32) (v := ?v32) ?i32 (by kernel_rfl) (by kernel_rfl) (by kernel_rfl) ?q32 (Or.inl ⟨?w32, ?y32⟩) (by assumption) ?r32
                  case' i32 => simp only [List.getElem?_toArray, List.getElem?_cons_succ, List.getElem?_cons_zero]
                  case i32 => rfl
                  case q32 => exact fun _ _ _ h => h
                  case w32 => rfl
                  case y32 => (intro w hSw; (try dsimp only at hSw); go_simp) <;> with_reducible rfl
                  try simp only [Act.put, List.setIfInBounds_toArray, List.set_cons_zero, List.set_cons_succ]
                  refine wpAnyH_take (i := 8) (oi := ?o33) (v := ?v33) ?i33 (by kernel_rfl) (by kernel_rfl) (by kernel_rfl) ?q33 (Or.inl ⟨?w33, ?y33⟩) (by assumption) ?r33
                  case' i33 => simp only [List.getElem?_toArray, List.getElem?_cons_succ, List.getElem?_cons_zero]
                  case i33 => rfl
                  case q33 => exact fun _ _ _ h => h
                  case w33 => rfl
                  case y33 => (intro w hSw; (try dsimp only at hSw); go_simp) <;> with_reducible rfl
                  try simp only [Act.put, List.setIfInBounds_toArray, List.set_cons_zero, List.set_cons_succ]
                  refine wpAnyH_take (i := 9) (oi := ?o34) (v := ?v34) ?i34 (by kernel_rfl) (by kernel_rfl) (by kernel_rfl) ?q34 (Or.inl ⟨?w34, ?y34⟩) (by assumption) ?r34
                  case' i34 => simp only [List.getElem?_toArray, List.getElem?_cons_succ, List.getElem?_cons_zero]
                  case i34 => rfl
                  case q34 => exact fun _ _ _ h => h
                  case w34 => rfl
                  case y34 => (intro w hSw; (try dsimp only at hSw); go_simp) <;> with_reducible rfl
                  try simp only [Act.put, List.setIfInBounds_toArray, List.set_cons_zero, List.set_cons_succ]
                  refine wpAnyH_done (by kernel_rfl) ?_ _

                  clear hS0 hHeld
                  go_wp2_with fail
                  go_roundw
                  case rel => exact ⟨k0 + 1 + 1, q + 1, by omega, by have := HLT.out; omega, by go_num, rfl⟩
                  case measure => have := HLT.out; simp [intOf]; omega
                · have t1 : decide (t < na) = false := by simpa using hlt
                  have HBw2 : Hid (Below w.heap.size w (w5.drewN q)) := Lib.hid (HBw.out.trans ((drewN_below w5 q).mono HBw.out.size))
                  have HA2 := Lib.hid (HA.out.below (drewN_below w5 q))
                  have HB3 := Lib.hid (HBr.out.below (drewN_below w5 q))
                  clear hlt ht1 ht2
                  generalize w5.drewN q = w6 at HBw2 HA2 HB3 ⊢
                  go_wp2_with fail
                  rw [HNA.out, HNB.out]
                  refine (same_k aa ab ca2 cb ns (namesIn L D) w6 HA2.out HB3.out).mono ?_
                  rintro e w7 ⟨rfl, q7, hq7⟩
                  have hb : Below w6.heap.size w6 w7 := by rw [hq7]; exact drewN_below w6 q7
                  rw [decide_eq_true HSM2.out]
                  replace HBw2 : Hid (Below w.heap.size w w7) := Lib.hid (HBw2.out.trans (hb.mono HBw2.out.size))
                  clear hb hq7
                  go_wp2_with fail
                  refine (fixed_any _).mono ?_
                  rintro e wz ⟨rfl, hb⟩
                  go_wp2_with fail
                  go_ret
                  exact ⟨rfl, HBw2.out.trans (hb.mono HBw2.out.size)⟩
        · go_wp2_with fail
          obtain ⟨n0, hn0⟩ : ∃ n0, n0 = i := ⟨_, rfl⟩
          rw [← hn0] at HX HO hi3 hi4
          have HGX : Hid (ga < wr.heap.size) := Lib.hid (World.ownsRow.lt HO.out ga rfl).2
          have HOO : Hid (OwnI ws2.heap.size (.slice (some ⟨ws2.heap.size + 1, 0, none⟩) 0 0) [] wr) := Lib.hid ⟨rfl, .inr ⟨ws2.heap.size + 1, 0, #[], rfl, by omega, HOB.out.1, Nat.le_refl _, Nat.zero_le _, by simp, by simp [intsR]⟩⟩
          have HOK : Hid (OwnI ws2.heap.size (.slice (some ⟨ga, 0, none⟩) n0 ca) xs wr) := HO
          have HGO : Hid (ga ≠ ws2.heap.size + 1) := Lib.hid HOB.out.2
          have HBK : Hid (Below ws2.heap.size ws2 wr) := HBW
          try rw [← hn0]
          clear hn0 HO HOB HBW HP HFN
          go_loopw [8, 10] (fun s8 s10 wr => ∃ (t go co ny : Nat) (ys : List Int), t ≤ n0 ∧ s10 = .int .i64 ((t : Int) - 1) ∧ s8 = .slice (some ⟨go, 0, none⟩) ny co ∧ Hid (ys.length = ny ∧ ny + 2 * t = 2 * n0) ∧ Hid ((∀ y, y ∈ ys → y ∈ xs) ∧ ∀ k, t ≤ k → k < n0 → xs.getD k 0 ∈ ys) ∧ Hid (OwnI ws2.heap.size (.slice (some ⟨go, 0, none⟩) ny co) ys wr) ∧ Hid (OwnI ws2.heap.size (.slice (some ⟨ga, 0, none⟩) n0 ca) xs wr) ∧ Hid (ga ≠ go) ∧ Hid (Below ws2.heap.size ws2 wr)) (fun _ s10 _ => (intOf s10 + 1).toNat)
          case atStart => exact ⟨n0, ws2.heap.size + 1, 0, 0, [], Nat.le_refl _, by go_num, rfl, Lib.hid ⟨rfl, by omega⟩, Lib.hid ⟨by simp, fun k h1 h2 => by omega⟩, HOO, HOK, HGO, HBK⟩
          case round =>
            clear HOO HOK HGO HBK HGX
            obtain ⟨t, go, co, ny, ys, ht, rfl, rfl, HY, HYS, HOO, HOK, HGO, HBW⟩ := hrel
            by_cases h0 : 0 < t
            · obtain ⟨j, rfl⟩ : ∃ j, t = j + 1 := ⟨t - 1, by omega⟩
              have ej : ((j + 1 : Nat) : Int) - 1 = (j : Int) := by omega
              rw [ej]
              have hxl := HX.out
              obtain ⟨aa, cc, ee, qx0, _⟩ := HOK.out.nat (i := j) (by omega)
              injection ee with ee1 ee2 ee3
              injection ee1 with ee1
              injection ee1 with ee1
              subst ee1
              obtain ⟨aa, cc2, ee, qy0, _⟩ := HOK.out.nat (i := 0) (by omega)
              injection ee with ee1 ee4 ee5
              injection ee1 with ee1
              injection ee1 with ee1
              subst ee1
              obtain ⟨x, hx⟩ : ∃ x, x = xs.getD j 0 := ⟨_, rfl⟩
              obtain ⟨y, hy⟩ : ∃ y, y = xs.getD 0 0 := ⟨_, rfl⟩
              rw [← hx] at qx0
              rw [← hy] at qy0
              have qx : wr.cell? ⟨ga, j, none⟩ = some (.int .i64 x) := qx0
              have qy : wr.cell? ⟨ga, 0, none⟩ = some (.int .i64 y) := qy0
              have HXM : Hid (x ∈ xs ∧ y ∈ xs ∧ x = xs.getD j 0) := Lib.hid ⟨by rw [hx]; exact getD_mem (by omega), by rw [hy]; exact getD_mem (by omega), hx⟩
              have HGL : Hid (ga < wr.heap.size) := Lib.hid (World.ownsRow.lt HOK.out ga rfl).2
              have HGN : Hid (ga ≠ go) := HGO
              have hyl := HY.out
              have HRow : Hid (wr.drew.ownsRow ws2.heap.size 3 1 (.slice (some ⟨go, 0, none⟩) ny co) ny (intsR ys)) := Lib.hid (by
                have h5 : OwnI ws2.heap.size (.slice (some ⟨go, 0, none⟩) ny co) ys wr.drew := HOO.out.below (drewN_below wr 1)
                have h7 : wr.drew.ownsRow ws2.heap.size 3 1 (.slice (some ⟨go, 0, none⟩) ny co) ys.length (intsR ys) := h5
                rw [hyl.1] at h7
                exact h7)
              have HNW : Hid ((wr.drew.alloc (.cells #[.int .i64 x, .int .i64 y] 3)).heap[wr.heap.size]? = some (.cells #[.int .i64 x, .int .i64 y] 3 (0, 0))) := Lib.hid (heap_alloc_new wr.drew _)
              have B1 : Hid (ny + 2 ≤ maxLen) := Lib.hid (by unfold maxLen; omega)
              have B2 : Hid ((ny + 2) * 8 ≤ 140737488355328) := Lib.hid (by omega)
              have B4 : Hid ((wr.drew.alloc (.cells #[.int .i64 x, .int .i64 y] 3)).heap.size = wr.heap.size + 1) := Lib.hid (size_drew_alloc _ _)
              have B3 : Hid (ws2.heap.size ≤ (wr.drew.alloc (.cells #[.int .i64 x, .int .i64 y] 3)).heap.size) := Lib.hid (by have := B4.out; have := HBW.out.size; omega)
              have hS0 : wr.drew.cell? ⟨ga, j, none⟩ = some (.int .i64 x) ∧ wr.drew.cell? ⟨ga, 0, none⟩ = some (.int .i64 y) := ⟨qx, qy⟩
              have hj1 : (j : Int) < (n0 : Int) := by omega
              have hj2 : (0 : Int) < (n0 : Int) := by omega
              have hj5 : 0 < n0 := by omega
              have hj3 : (0 : Int) ≤ (j : Int) := by omega
              have hj4 : decide ((0 : Int) ≤ (j : Int)) = true := decide_eq_true hj3
              have HT := Lib.hid ht
              clear hx hy qx0 qy0 ht h0 ej hxl hyl ee2 ee3 ee4 ee5
              go_wp2_with fail
              refine wp_region_held_drew (S := (fun w' => w'.cell? ⟨ga, j, none⟩ = some (.int .i64 x) ∧ w'.cell? ⟨ga, 0, none⟩ = some (.int .i64 y))) (by kernel_rfl) hS0 (fun hHeld => ?_)
              refine wpAnyH_take (i := 0) (oi := ?o35) (v := ?v35) ?i35 (by kernel_rfl) (by kernel_rfl) (by kernel_rfl) ?q35 (Or.inl ⟨?w35, ?y35⟩) (by assumption) ?r35
              case' i35 => simp only [List.getElem?_toArray, List.getElem?_cons_succ, List.getElem?_cons_zero]
              case i35 => rfl
              case q35 => exact fun _ _ _ h => h
              case w35 => rfl
              case y35 => (intro w hSw; (try dsimp only at hSw); go_simp) <;> with_reducible rfl
              try simp only [Act.put, List.setIfInBounds_toArray, List.set_cons_zero, List.set_cons_succ]
              refine wpAnyH_take (i := 1) (oi := ?o36) (v := ?v36) ?i36 (by kernel_rfl) (by kernel_rfl) (by kernel_rfl) ?q36 (Or.inl ⟨?w36, ?y36⟩) (by assumption) ?r36
              case' i36 => simp only [List.getElem?_toArray, List.getElem?_cons_succ, List.getElem?_cons_zero]
              case i36 => rfl
              case q36 => exact fun _ _ _ h => h
              case w36 => rfl
              case y36 => (intro w hSw; (try dsimp only at hSw); go_simp) <;> with_reducible rfl
              try simp only [Act.put, List.setIfInBounds_toArray, List.set_cons_zero, List.set_cons_succ]
              refine wpAnyH_take (i := 2) (oi := ?o37) (v := ?v37) ?i37 (by kernel_rfl) (by kernel_rfl) (by kernel_rfl) ?q37 (Or.inl ⟨?w37, ?y37⟩) (by assumption) ?r37
              case' i37 => simp only [List.getElem?_toArray, List.getElem?_cons_succ, List.getElem?_cons_zero]
              case i37 => rfl
              case q37 => exact fun _ _ _ h => h
              case w37 => rfl
              case y37 => (intro w hSw; (try dsimp only at hSw); go_simp) <;> with_reducible rfl
              try simp only [Act.put, List.setIfInBounds_toArray, List.set_cons_zero, List.set_cons_succ]
              refine wpAnyH_take (i := 3) (oi := ?o38) (v := ?v38) ?i38 (by kernel_rfl) (by kernel_rfl) (by kernel_rfl) ?q38 (Or.inl ⟨?w38, ?y38⟩) (by assumption) ?r38
              case' i38 => simp only [List.getElem?_toArray, List.getElem?_cons_succ, List.getElem?_cons_zero]
              case i38 => rfl
              case q38 => exact fun _ _ _ h => h
              case w38 => rfl
              case y38 => (intro w hSw; (try dsimp only at hSw); go_simp) <;> with_reducible rfl
              try simp only [Act.put, List.setIfInBounds_toArray, List.set_cons_zero, List.set_cons_succ]
              refine wpAnyH_take (i := 4) (oi := ?o39) (v := ?v39) ?i39 (by kernel_rfl) (by kernel_rfl) (by kernel_rfl) ?q39 (Or.inl ⟨?w39, ?y39⟩) (by assumption) ?r39
              case' i39 => simp only [List.getElem?_toArray, List.getElem?_cons_succ, List.getElem?_cons_zero]
              case i39 => rfl
              case q39 => exact fun _ _ _ h => h
              case w39 => rfl
              case y39 => (intro w hSw; (try dsimp only at hSw); go_simp) <;> with_reducible rfl
              try simp only [Act.put, List.setIfInBounds_toArray, List.set_cons_zero, List.set_cons_succ]
              refine wpAnyH_take (i := 5) (oi := ?o40) (v := ?v40) ?i40 (by kernel_rfl) (by kernel_rfl) (by kernel_rfl) ?q40 (Or.inl ⟨?w40, ?y40⟩) (by assumption) ?r40
              case' i40 => simp only [List.getElem?_toArray, List.getElem?_cons_succ, List.getElem?_cons_zero]
              case i40 => rfl
              case q40 => exact fun _ _ _ h => h
              case w40 => rfl
              case y40 => (intro w hSw; (try dsimp only at hSw); go_simp) <;> with_reducible rfl
              try simp only [Act.put, List.setIfInBounds_toArray, List.set_cons_zero, List.set_cons_succ]
              refine wpAnyH_take (i := 6) (oi := ?o41) (v := ?v41) ?i41 (by kernel_rfl) (by kernel_rfl) (by kernel_rfl) ?q41 (Or.inl ⟨?w41, ?y41⟩) (by assumption) ?r41
              case' i41 => simp only [List.getElem?_toArray, List.getElem?_cons_succ, List.getElem?_cons_zero]
              case i41 => rfl
              case q41 => exact fun _ _ _ h => h
              case w41 => rfl
              case y41 => (intro w hSw; (try dsimp only at hSw); go_simp) <;> with_reducible rfl
              try simp only [Act.put, List.setIfInBounds_toArray, List.set_cons_zero, List.set_cons_succ]
              refine wpAnyH_take (i := 7) (oi := ?o42) (v := ?v42) ?i42 (by kernel_rfl) (by kernel_rfl) (by kernel_rfl) ?q42 (Or.inl ⟨?w42, ?y42⟩) (by assumption) ?r42
              case' i42 => simp only [List.getElem?_toArray, List.getElem?_cons_succ, List.getElem?_cons_zero]
              case i42 => rfl
              case q42 => exact fun _ _ _ h => h
              case w42 => rfl
              case y42 => (intro w hSw; (try dsimp only at hSw); go_simp) <;> with_reducible rfl
              try simp only [Act.put, List.setIfInBounds_toArray, List.set_cons_zero, List.set_cons_succ]
              refine wpAnyH_ready (rs := [8]) (by kernel_rfl) (by simp) ?_
              refine AllReadyH.cons (o := ?o43) ?i43 (fun K' hK => ?_) AllReadyH.nil
              case' i43 => simp only [List.getElem?_toArray, List.getElem?_cons_succ, List.getElem?_cons_zero]
              case i43 => rfl
              go_simp
              refine hK.out _ _ (by show (wr.alloc _).cell? _ = _ ∧ (wr.alloc _).cell? _ = _; rw [World.cell?_alloc_past (hn := HGL.out), World.cell?_alloc_past (hn := HGL.out)]; exact ⟨qx, qy⟩) (fun hHeld => ?_)
              clear hK K'
              try simp only [Act.put, List.setIfInBounds_toArray, List.set_cons_zero, List.set_cons_succ]
              refine wpAnyH_ready (rs := [9]) (by kernel_rfl) (by simp) ?_
              refine AllReadyH.cons (o := ?o44) ?i44 (fun K' hK => ?_) AllReadyH.nil
              case' i44 => simp only [List.getElem?_toArray, List.getElem?_cons_succ, List.getElem?_cons_zero]
              case i44 => rfl
              refine step_append_lies _ rfl (.tmp 64) (.tmp 72) 23 rfl ws2.heap.size 3 i0 (.int .i64 0) 1 8 Try.underlying23 hi0 hz0 hz1 hz2 rfl (by decide) _ _ _ rfl (HRow.out.alloc _) ⟨wr.heap.size, 0, none⟩ 2 2 [.int .i64 x, .int .i64 y] rfl rfl (World.news_of_block (cs := #[.int .i64 x, .int .i64 y]) (t := 3) (fr := (0, 0)) HNW.out) (by simp [Value.oneCell']) (by omega) B1.out B2.out B3.out (wr.heap.size + 1) B4.out ?_
              intro g3 cap4 w6 hown6 hgrow6 hat6 hlt6
              refine hK.out _ _ (by rw [World.cell?_of_block (a := ⟨ga, j, none⟩) (hgrow6.block ga (by rw [size_alloc_drew]; have := HGL.out; omega) (fun e => HGN.out (by injection e with e))), World.cell?_of_block (a := ⟨ga, 0, none⟩) (hgrow6.block ga (by rw [size_alloc_drew]; have := HGL.out; omega) (fun e => HGN.out (by injection e with e)))]; show (wr.alloc _).cell? _ = _ ∧ (wr.alloc _).cell? _ = _; rw [World.cell?_alloc_past (hn := HGL.out), World.cell?_alloc_past (hn := HGL.out)]; exact ⟨qx, qy⟩) (fun hHeld => ?_)
              clear hK K'
              try simp only [Act.put, List.setIfInBounds_toArray, List.set_cons_zero, List.set_cons_succ]
              refine wpAnyH_take (i := 10) (oi := ?o45) (v := ?v45) ?i45 (by kernel_rfl) (by kernel_rfl) (by kernel_rfl) ?q45 (Or.inl ⟨?w45, ?y45⟩) (by assumption) ?r45
              case' i45 => simp only [List.getElem?_toArray, List.getElem?_cons_succ, List.getElem?_cons_zero]
              case i45 => rfl
              case q45 => exact fun _ _ _ h => h
              case w45 => rfl
              case y45 => (intro w hSw; (try dsimp only at hSw); go_simp) <;> with_reducible rfl
              try simp only [Act.put, List.setIfInBounds_toArray, List.set_cons_zero, List.set_cons_succ]
              refine wpAnyH_done (by kernel_rfl) ?_ _

              have C6 : Chg (fun k => some k = some go) wr w6 := (Chg.drew wr _).trans ((Chg.alloc wr.drew _ _).trans (Chg.grown hgrow6))
              have hat7 : go = g3 ∨ g3 = wr.heap.size + 1 := by
                rcases hat6 with q | q
                · exact .inl (by injection q)
                · exact .inr q
              have HO6 : Hid (OwnI ws2.heap.size (.slice (some ⟨g3, 0, none⟩) (ny + 2) cap4) (ys ++ [x, y]) w6) := Lib.hid (by
                unfold OwnI
                rw [show (ys ++ [x, y]).length = ny + 2 by have := HY.out.1; simp; omega, show intsR (ys ++ [x, y]) = intsR ys ++ [.int .i64 x, .int .i64 y] by simp [intsR]]
                exact hown6)
              have HK6 : Hid (OwnI ws2.heap.size (.slice (some ⟨ga, 0, none⟩) n0 ca) xs w6) := Lib.hid (HOK.out.chg C6 (fun k hk e => HGO.out ((show ga = k by injection hk).trans (show k = go by injection e))))
              clear qx qy hS0
              go_wp2_with fail
              go_roundw
              case rel => exact ⟨j, g3, cap4, ny + 2, ys ++ [x, y], by have := HT.out; omega, by go_num, rfl, Lib.hid (by have := HY.out; simp; omega), Lib.hid ⟨fun z hz => by
                  rcases List.mem_append.1 hz with q | q
                  · exact HYS.out.1 z q
                  · rcases (by simpa using q : z = x ∨ z = y) with r | r
                    · rw [r]; exact HXM.out.1
                    · rw [r]; exact HXM.out.2.1, fun k h1 h2 => by
                  rcases (by omega : k = j ∨ j + 1 ≤ k) with r | r
                  · rw [r, ← HXM.out.2.2]; simp
                  · exact List.mem_append_left _ (HYS.out.2 k r h2)⟩, HO6, HK6, Lib.hid (by
                    rcases hat7 with q | q
                    · rw [← q]; exact HGO.out
                    · have := HGL.out; omega), Lib.hid (HBW.out.trans (C6.below (fun k e => by injection e with e; subst e; exact (World.ownsRow.lt HOO.out k rfl).1) HBW.out.size))⟩
              case measure => first | (simp [intOf]; done) | (have := HT.out; simp [intOf]; omega)
            · obtain rfl : t = 0 := by omega
              have ej : ((0 : Nat) : Int) - 1 = -1 := by omega
              rw [ej]
              have HSM : Hid (∀ z, z ∈ xs ↔ z ∈ ys) := Lib.hid (fun z => ⟨fun q => by
                obtain ⟨k, hk, e⟩ := mem_getD q
                rw [← e]
                exact HYS.out.2 k (Nat.zero_le _) (by have := HX.out; omega), HYS.out.1 z⟩)
              have HYI : Hid (∀ z, z ∈ ys → InL L z) := Lib.hid (fun z hz => HXI.out z (HYS.out.1 z hz))
              obtain ⟨C, hC⟩ := least_is HK.out.fit HXI.out false false
              obtain ⟨D, hD⟩ := least_is HK.out.fit HYI.out false false
              have HC := Lib.hid hC
              have HD := Lib.hid hD
              have HSAME : Hid (namesIn L C = namesIn L D) := Lib.hid (hC.same hD HSM.out)
              have HK3 : Hid (Known wr g1 L) := Lib.hid (HK.out.below HBW.out)
              have HBw : Hid (Below w.heap.size w wr) := Lib.hid (HB.out.trans (HBW.out.mono HB.out.size))
              have HR1 := Lib.hid HOK.out.ints.2
              have HR2 := Lib.hid HOO.out.ints.2
              have HNY : Hid (ny = ys.length) := Lib.hid HY.out.1.symm
              clear hC hD ht h0 HYS HOO HOK HGO HY
              go_wp2_with fail
              refine (all_least HK3.out HC.out HXI.out (some ⟨ga, 0, none⟩) ca n0 HX.out.symm HR1.out).mono ?_
              rintro e w4 ⟨aa, na, ca2, rfl, hna, ho, hb⟩
              replace HBw : Hid (Below w.heap.size w w4) := Lib.hid (HBw.out.trans (hb.mono HBw.out.size))
              replace HK3 : Hid (Known w4 g1 L) := Lib.hid (HK3.out.below hb)
              replace HR2 := Lib.hid (HR2.out.below hb)
              have HA := Lib.hid ho.ints.2
              have HNA := Lib.hid hna
              clear ho hna hb
              go_wp2_with fail
              refine (all_least HK3.out HD.out HYI.out (some ⟨go, 0, none⟩) co ny HNY.out HR2.out).mono ?_
              rintro e w5 ⟨ab, nb, cb, rfl, hnb, ho, hb⟩
              replace HBw : Hid (Below w.heap.size w w5) := Lib.hid (HBw.out.trans (hb.mono HBw.out.size))
              replace HA := Lib.hid (HA.out.below hb)
              have HBr := Lib.hid ho.ints.2
              have HNB := Lib.hid hnb
              clear ho hnb hb
              obtain ⟨ns, hns⟩ : ∃ ns, ns = namesIn L C := ⟨_, rfl⟩
              have HRISE : Hid (ns.Pairwise (· < ·)) := Lib.hid (by rw [hns]; exact namesIn_rises L C)
              have hnl : ns.length ≤ 40 := by rw [hns]; have := namesIn_len L C; omega
              rw [← hns] at HA HNA
              have HSM2 : Hid (ns = namesIn L D) := Lib.hid (by rw [hns]; exact HSAME.out)
              obtain ⟨ba, oa, hca⟩ := HA.out.2.2
              have HCA := Lib.hid hca
              have hna : na = ns.length := HNA.out
              have hna2 : na ≤ 40 := by omega
              clear hca hns hna
              go_wp2_with fail
              go_loopw [15] (fun s15 wr => ∃ (t q : Nat), 1 ≤ t ∧ t ≤ 41 ∧ s15 = .int .i64 t ∧ wr = w5.drewN q) (fun s15 _ => 100 - (intOf s15).toNat)
              case atStart => exact ⟨1, 0, by omega, by omega, by go_num, rfl⟩
              case round =>
                obtain ⟨t, q, ht1, ht2, rfl, rfl⟩ := hrel
                by_cases hlt : t < na
                · obtain ⟨k0, rfl⟩ : ∃ k0, t = k0 + 1 := ⟨t - 1, by omega⟩
                  obtain ⟨rfl, q1⟩ := HCA.out k0 (by rw [← HNA.out]; omega)
                  obtain ⟨_, q2⟩ := HCA.out (k0 + 1) (by rw [← HNA.out]; omega)
                  have hxy : ns.getD k0 0 < ns.getD (k0 + 1) 0 := by
                    have h1 : k0 < ns.length := by rw [← HNA.out]; omega
                    have h2 : k0 + 1 < ns.length := by rw [← HNA.out]; omega
                    have := (List.pairwise_iff_getElem.1 HRISE.out) k0 (k0 + 1) h1 h2 (by omega)
                    simpa [List.getD, h1, h2] using this
                  obtain ⟨x, hx⟩ : ∃ x, x = ns.getD k0 0 := ⟨_, rfl⟩
                  obtain ⟨y, hy⟩ : ∃ y, y = ns.getD (k0 + 1) 0 := ⟨_, rfl⟩
                  rw [← hx, ← hy] at hxy
                  rw [← hx] at q1
                  rw [← hy] at q2
                  have hS0 : (w5.drewN q).drew.cell? ⟨ba, oa + k0, none⟩ = some (.int .i64 x) ∧ (w5.drewN q).drew.cell? ⟨ba, oa + (k0 + 1), none⟩ = some (.int .i64 y) := ⟨q1, q2⟩
                  have t1 : decide (k0 + 1 < na) = true := by simpa using hlt
                  have t2 : decide (y ≤ x) = false := decide_eq_false (by omega)
                  have hk1 : (k0 : Int) < (na : Int) := by omega
                  have hk2 : ((k0 : Int) + 1) < (na : Int) := by omega
                  have hw : IntKind.i64.wrap (k0 : Int) = (k0 : Int) := wrap_small _ (by omega) (by omega)
                  have hk3 : (0 : Int) ≤ (k0 : Int) := by omega
                  have hk4 : (0 : Int) ≤ (k0 : Int) + 1 := by omega
                  have HLT := Lib.hid hlt
                  clear hx hy q1 q2 hxy ht1 ht2 hlt
                  go_wp2_with fail
                  refine wp_region_held_drew (S := (fun w' => w'.cell? ⟨ba, oa + k0, none⟩ = some (.int .i64 x) ∧ w'.cell? ⟨ba, oa + (k0 + 1), none⟩ = some (.int .i64 y))) (by kernel_rfl) hS0 (fun hHeld => ?_)
                  refine wpAnyH_take (i := 0) (oi := ?o46) (v := ?v46) ?i46 (by kernel_rfl) (by kernel_rfl) (by kernel_rfl) ?q46 (Or.inl ⟨?w46, ?y46⟩) (by assumption) ?r46
                  case' i46 => simp only [List.getElem?_toArray, List.getElem?_cons_succ, List.getElem?_cons_zero]
                  case i46 => rfl
                  case q46 => exact fun _ _ _ h => h
                  case w46 => rfl
                  case y46 => (intro w hSw; (try dsimp only at hSw); go_simp) <;> with_reducible rfl
                  try simp only [Act.put, List.setIfInBounds_toArray, List.set_cons_zero, List.set_cons_succ]
                  refine wpAnyH_take (i := 1) (oi := ?o47) (v := ?v47) ?i47 (by kernel_rfl) (by kernel_rfl) (by kernel_rfl) ?q47 (Or.inl ⟨?w47, ?y47⟩) (by assumption) ?r47
                  case' i47 => simp only [List.getElem?_toArray, List.getElem?_cons_succ, List.getElem?_cons_zero]
                  case i47 => rfl
                  case q47 => exact fun _ _ _ h => h
                  case w47 => rfl
                  case y47 => (intro w hSw; (try dsimp only at hSw); go_simp) <;> with_reducible rfl
                  try simp only [Act.put, List.setIfInBounds_toArray, List.set_cons_zero, List.set_cons_succ]
                  refine wpAnyH_take (i := 2) (oi := ?o48) (v := ?v48) ?i48 (by kernel_rfl) (by kernel_rfl) (by kernel_rfl) ?q48 (Or.inl ⟨?w48, ?y48⟩) (by assumption) ?r48
                  case' i48 => simp only [List.getElem?_toArray, List.getElem?_cons_succ, List.getElem?_cons_zero]
                  case i48 => rfl
                  case q48 => exact fun _ _ _ h => h
                  case w48 => rfl
                  case y48 => (intro w hSw; (try dsimp only at hSw); go_simp) <;> with_reducible rfl
                  try simp only [Act.put, List.setIfInBounds_toArray, List.set_cons_zero, List.set_cons_succ]
                  refine wpAnyH_take (i := 3) (oi := ?o49) (v := ?v49) ?i49 (by kernel_rfl) (by kernel_rfl) (by kernel_rfl) ?q49 (Or.inl ⟨?w49, ?y49⟩) (by assumption) ?r49
                  case' i49 => simp only [List.getElem?_toArray, List.getElem?_cons_succ, List.getElem?_cons_zero]
                  case i49 => rfl
                  case q49 => exact fun _ _ _ h => h
                  case w49 => rfl
                  case y49 => (intro w hSw; (try dsimp only at hSw); go_simp) <;> with_reducible rfl
                  try simp only [Act.put, List.setIfInBounds_toArray, List.set_cons_zero, List.set_cons_succ]
                  refine wpAnyH_take (i := 4) (oi := ?o50) (v := ?v50) ?i50 (by kernel_rfl) (by kernel_rfl) (by kernel_rfl) ?q50 (Or.inl ⟨?w50, ?y50⟩) (by assumption) ?r50
                  case' i50 => simp only [List.getElem?_toArray, List.getElem?_cons_succ, List.getElem?_cons_zero]
                  case i50 => rfl
                  case q50 => exact fun _ _ _ h => h
                  case w50 => rfl
                  case y50 => (intro w hSw; (try dsimp only at hSw); go_simp) <;> with_reducible rfl
                  try simp only [Act.put, List.setIfInBounds_toArray, List.set_cons_zero, List.set_cons_succ]
                  refine wpAnyH_take (i := 5) (oi := ?o51) (v := ?v51) ?i51 (by kernel_rfl) (by kernel_rfl) (by kernel_rfl) ?q51 (Or.inl ⟨?w51, ?y51⟩) (by assumption) ?r51
                  case' i51 => simp only [List.getElem?_toArray, List.getElem?_cons_succ, List.getElem?_cons_zero]
                  case i51 => rfl
                  case q51 => exact fun _ _ _ h => h
                  case w51 => rfl
                  case y51 => (intro w hSw; (try dsimp only at hSw); go_simp) <;> with_reducible rfl
                  try simp only [Act.put, List.setIfInBounds_toArray, List.set_cons_zero, List.set_cons_succ]
                  refine wpAnyH_take (i := 6) (oi := ?o52) (v := ?v52) ?i52 (by kernel_rfl) (by kernel_rfl) (by kernel_rfl) ?q52 (Or.inl ⟨?w52, ?y52⟩) (by assumption) ?r52
                  case' i52 => simp only [List.getElem?_toArray, List.getElem?_cons_succ, List.getElem?_cons_zero]
                  case i52 => rfl
                  case q52 => exact fun _ _ _ h => h
                  case w52 => rfl
                  case y52 => (intro w hSw; (try dsimp only at hSw); go_simp) <;> with_reducible rfl
                  try simp only [Act.put, List.setIfInBounds_toArray, List.set_cons_zero, List.set_cons_succ]
                  refine wpAnyH_take (i := 7) (oi := ?o53) (v := ?v53) ?i53 (by kernel_rfl) (by kernel_rfl) (by kernel_rfl) ?q53 (Or.inl ⟨?w53, ?y53⟩) (by assumption) ?r53
                  case' i53 => simp only [List.getElem?_toArray, List.getElem?_cons_succ, List.getElem?_cons_zero]
                  case i53 => rfl
                  case q53 => exact fun _ _ _ h => h
                  case w53 => rfl
                  case y53 => (intro w hSw; (try dsimp only at hSw); go_simp) <;> with_reducible rfl
                  try simp only [Act.put, List.setIfInBounds_toArray, List.set_cons_zero, List.set_cons_succ]
                  refine wpAnyH_take (i := 8) (oi := ?o54) (v := ?v54) ?i54 (by kernel_rfl) (by kernel_rfl) (by kernel_rfl) ?q54 (Or.inl ⟨?w54, ?y54⟩) (by assumption) ?r54
                  case' i54 => simp only [List.getElem?_toArray, List.getElem?_cons_succ, List.getElem?_cons_zero]
                  case i54 => rfl
                  case q54 => exact fun _ _ _ h => h
                  case w54 => rfl
                  case y54 => (intro w hSw; (try dsimp only at hSw); go_simp) <;> with_reducible rfl
                  try simp only [Act.put, List.setIfInBounds_toArray, List.set_cons_zero, List.set_cons_succ]
                  refine wpAnyH_take (i := 9) (oi := ?o55) (v := ?v55) ?i55 (by kernel_rfl) (by kernel_rfl) (by kernel_rfl) ?q55 (Or.inl ⟨?w55, ?y55⟩) (by assumption) ?r55
                  case' i55 => simp only [List.getElem?_toArray, List.getElem?_cons_succ, List.getElem?_cons_zero]
                  case i55 => rfl
                  case q55 => exact fun _ _ _ h => h
                  case w55 => rfl
                  case y55 => (intro w hSw; (try dsimp only at hSw); go_simp) <;> with_reducible rfl
                  try simp only [Act.put, List.setIfInBounds_toArray, List.set_cons_zero, List.set_cons_succ]
                  refine wpAnyH_done (by kernel_rfl) ?_ _

                  clear hS0 hHeld
                  go_wp2_with fail
                  go_roundw
                  case rel => exact ⟨k0 + 1 + 1, q + 1, by omega, by have := HLT.out; omega, by go_num, rfl⟩
                  case measure => have := HLT.out; simp [intOf]; omega
                · have t1 : decide (t < na) = false := by simpa using hlt
                  have HBw2 : Hid (Below w.heap.size w (w5.drewN q)) := Lib.hid (HBw.out.trans ((drewN_below w5 q).mono HBw.out.size))
                  have HA2 := Lib.hid (HA.out.below (drewN_below w5 q))
                  have HB3 := Lib.hid (HBr.out.below (drewN_below w5 q))
                  clear hlt ht1 ht2
                  generalize w5.drewN q = w6 at HBw2 HA2 HB3 ⊢
                  go_wp2_with fail
                  rw [HNA.out, HNB.out]
                  refine (same_k aa ab ca2 cb ns (namesIn L D) w6 HA2.out HB3.out).mono ?_
                  rintro e w7 ⟨rfl, q7, hq7⟩
                  have hb : Below w6.heap.size w6 w7 := by rw [hq7]; exact drewN_below w6 q7
                  rw [decide_eq_true HSM2.out]
                  replace HBw2 : Hid (Below w.heap.size w w7) := Lib.hid (HBw2.out.trans (hb.mono HBw2.out.size))
                  clear hb hq7
                  go_wp2_with fail
                  refine (fixed_any _).mono ?_
                  rintro e wz ⟨rfl, hb⟩
                  go_wp2_with fail
                  go_ret
                  exact ⟨rfl, HBw2.out.trans (hb.mono HBw2.out.size)⟩
set_option maxRecDepth 100000 in
theorem lifted (os : Os) (started : os.Started) (H : Type) (enc : TypeId × Value → H) :
    ReturnsInHanded {} Try.checked os 7 .any (Rows.knowOrderSpec.pre6 enc Try.prog Try.f7 Rows.knowOrderRow.domain false) (Rows.knowOrderSpec.post enc Try.prog Try.f7 false true false false) := by
  refine returnsInHanded_of_change (C := Try.checked) own started (by kernel_rfl) Try.func7
    (ChangeSpec.witness6 (enc := enc) (C := Try.checked) false ⟨#[], #[.slice none 0 0, .slice none 0 0], []⟩ 8 (by kernel_rfl) (by kernel_rfl) (by kernel_rfl) (by kernel_rfl)) ?_
  intro W base args ds gs before hval0 hW hcnd _
  have hval : ∀ (j : Nat) t v, Try.f7.params[j]? = some t → args[j]? = some v → Value.okWide Try.prog W .any base t v := hval0
  have hW' := hW
  obtain ⟨p, q, hA0, hV, rfl, hfz, hnd⟩ := hW
  have hA : DataW.TrodAll enc Try.prog W 0 (fun _ => true) true Try.f7.params.toList args.toList ds p := hA0
  rw [Try.params7] at hA hval
  obtain ⟨v0, vs0, d0, ds0, p0, q0, hargs, rfl, rfl, h0, r0⟩ := trodAll_cons hA
  obtain ⟨v1, vs1, d1, ds1, p1, q1, rfl, rfl, rfl, h1, r1⟩ := trodAll_cons r0
  obtain ⟨rfl, rfl, rfl⟩ := trodAll_nil r1
  obtain rfl : args = #[v0, v1] := by cases args; simp_all
  obtain ⟨rfl, rfl⟩ := trodVars_none hV
  obtain ⟨a0, len0, cap0, rfl⟩ := okWide_slice Try.underlying22 (hval 0 22 v0 rfl rfl)
  have k0 := h0
  have lt0 : ∀ x ∈ p0, x.block < W.heap.size := by obtain ⟨m, hm⟩ := k0; exact DataW.trod_lt m _ _ _ hm
  obtain ⟨T0, w0⟩ : ∃ T, Terms W a0 len0 cap0 T := by
    obtain ⟨fuel, hf⟩ := h0
    exact open_terms (by simpa [Value.cells] using hf)
  obtain ⟨a1, len1, cap1, rfl⟩ := okWide_slice Try.underlying41 (hval 1 41 v1 rfl rfl)
  have k1 := h1
  have lt1 : ∀ x ∈ p1, x.block < W.heap.size := by obtain ⟨m, hm⟩ := k1; exact DataW.trod_lt m _ _ _ hm
  obtain ⟨z1, w1⟩ : ∃ zs, IsRow .u8 W a1 len1 cap1 zs := by
    obtain ⟨fuel, hf⟩ := h1
    rcases open_ints Try.underlying41 Try.underlying5 (by kernel_rfl) hf with ⟨hcs, _⟩ | ⟨x, l, c, zs, hcs, _, hl, hm, hz, _, hcell, hwz⟩
    · simp [Value.cells] at hcs
      obtain ⟨rfl, rfl, rfl⟩ := hcs
      exact ⟨[], .inl ⟨rfl, rfl, rfl, rfl⟩⟩
    · simp [Value.cells] at hcs
      obtain ⟨rfl, rfl, rfl⟩ := hcs
      exact ⟨zs, .inr ⟨_, rfl, hl, hm, by simpa using hz, hcell, hwz⟩⟩
  clear hA0 hval0
  refine (walk a0 len0 cap0 T0 a1 len1 cap1 z1 W w0 w1).mono fun e W' ⟨he, bel⟩ => ?_
  subst he
  exact ⟨_, rfl, _, _, _, [], _, [], hW', trodAll_mk1 (shut_bool Try.underlying4 _), (trodAll_cons_mk (Below.trod laidOut (by kernel_rfl) (of_decide_eq_true (by kernel_rfl)) k0 bel lt0) (trodAll_cons_mk (Below.trod laidOut (by kernel_rfl) (of_decide_eq_true (by kernel_rfl)) k1 bel lt1) trodAll_mk0)), rfl, bel.frame _, fun h => by cases h⟩

theorem over : Rows.knowOrderRow.holds Try.pinned (OpenSpec.ofChange Rows.knowOrderSpec) :=
  OpenClaim.holds_of_wide 7 Try.f7 rfl rfl rfl rfl rfl rfl rfl ⟨rfl, rfl, rfl, rfl, rfl⟩ rfl rfl rfl rfl rfl (by kernel_rfl) Try.func7 (by kernel_rfl)
    (of_decide_eq_true (by kernel_rfl)) (by unfold Func.isWrapper; first | (rw [if_pos (by decide +kernel)]; kernel_rfl) | (rw [if_neg (by decide +kernel)]; exact ⟨rfl, rfl⟩))
    (fun os started H enc _ => lifted os started H enc)

theorem proved : Rows.KnowOrderSaid := over
#print axioms proved
end Go.Proofs.Ytdhfnbajmjmlbaa.knowOrder
