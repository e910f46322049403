/- KnowAsks: for every row of terms, of what is known: what can be made is asked one by one as it is told at once. -/
import Derived.Test.YtdhfnbajmjmlbaaRows
import Derived.Test.YtdhfnbajmjmlbaaKnowG
import Derived.WalkKit
import Derived.ProofKit
import Derived.OpenShut
import Derived.ShutString
import Derived.ChangeOld
import Derived.Below
import Derived.Test.YtdhfnbajmjmlbaaOpens
namespace Go.Proofs.Ytdhfnbajmjmlbaa.knowAsks
open Go.ChangeShapes Go.WideShapes Go.ChangeAt Go.RowKit
open Go.ChangeMaps (open_string shut_string)
open Go.Proofs.Ytdhfnbajmjmlbaa
set_option linter.unusedVariables false
set_option linter.unusedSimpArgs false
set_option maxRecDepth 20000

theorem own : ownKnob Try.prog.godebug = none := by kernel_rfl
theorem laidOut : laidOutB Try.prog = true := by kernel_rfl

/-- A row of integers that came in, or nil. -/
def IsRow (k : IntKind) (w : World) (a : Option Addr) (len cap : Nat) (zs : List Int) : Prop :=
  (a = none ∧ len = 0 ∧ cap = 0 ∧ zs = []) ∨
  ∃ x, a = some x ∧ len ≤ cap ∧ cap ≤ maxLen ∧ zs.length = cap ∧ (∀ i, i < zs.length → w.cell? (x.add i) = some (.int k (zs.getD i 0))) ∧ ∀ n ∈ zs, (Lit.int k n).wf = true

theorem IsRow.plain {k : IntKind} {w : World} {a : Option Addr} {len cap : Nat} {zs : List Int} (h : IsRow k w a len cap zs) : len ≤ cap ∧ cap ≤ maxLen ∧ zs.length = cap ∧ ∃ b off, ∀ i, i < len → a = some ⟨b, off, none⟩ ∧ w.cell? ⟨b, off + i, none⟩ = some (.int k (zs.getD i 0)) ∧ (Lit.int k (zs.getD i 0)).wf = true := by
  rcases h with ⟨rfl, rfl, rfl, rfl⟩ | ⟨x, rfl, hl, hm, hz, hc, hw⟩
  · exact ⟨Nat.le_refl _, Nat.zero_le _, rfl, 0, 0, fun i hi => absurd hi (Nat.not_lt_zero _)⟩
  · by_cases hp : 0 < zs.length
    · obtain ⟨b, off, rfl, hcell⟩ := ints_at hc hp
      exact ⟨hl, hm, hz, b, off, fun i hi => ⟨rfl, hcell i (by omega), hw _ (getD_mem (by omega))⟩⟩
    · exact ⟨hl, hm, hz, 0, 0, fun i hi => by omega⟩

set_option maxHeartbeats 8000000 in
set_option maxRecDepth 100000 in
theorem walk (a0 : Option Addr) (len0 cap0 : Nat) (T0 : Nat → Tm) (a1 : Option Addr) (len1 cap1 : Nat) (z1 : List Int) (x2 : Int) (w : World) (w0 : Terms w a0 len0 cap0 T0) (w1 : IsRow .u8 w a1 len1 cap1 z1) (h2 : (Lit.int .u8 x2).wf = true) :
    Calls Try.prog 8 #[.slice a0 len0 cap0, .slice a1 len1 cap1, .int .u8 x2] w fun e w' => e = .returned (.bool true) ∧ Below w.heap.size w w' := by
  have HT := Lib.hid w0
  obtain ⟨hl1, hm1, hz1, bk, ok, hc1⟩ := w1.plain
  have HC1 := Lib.hid hc1
  unfold maxLen at hm1
  obtain ⟨dh, hd⟩ : ∃ dh : Bool, (bits BinOp.and IntKind.u8 x2 1 == 1) = dh := ⟨_, rfl⟩
  obtain ⟨kem, hke⟩ : ∃ kem : Bool, (bits BinOp.and IntKind.u8 x2 2 == 2) = kem := ⟨_, rfl⟩
  clear w0 w1 hc1 hz1
  go_enter Try.func8, Try.ntmps8
  go_wp2_with fail
  refine (stores_fine 30 a0 len0 cap0 T0 _ (by omega) HT.out).mono ?_
  rintro e ws ⟨g1, g2, L, rfl, hL, hfine, hp⟩
  have HK : Hid (Known ws g1 L) := Lib.hid (hp.known hfine)
  have HB : Hid (Below w.heap.size w ws) := Lib.hid hp.belowW
  have HP := Lib.hid hp
  have HFN := Lib.hid hfine
  have hLn : L.length ≤ 30 := hL
  clear hp hL HT hfine
  by_cases hn : L.length = 0
  · have hl0 : ((L.length : Int) == 0) = true := by simp [hn]
    clear hn
    go_wp2_with fail
    refine (HK.out.st.len (Below.refl _ _)).mono ?_
    rintro e w2 ⟨rfl, rfl⟩
    go_wp2_with fail
    refine (fixed_any _).mono ?_
    rintro e w3 ⟨rfl, hb3⟩
    go_wp2
    go_ret
    exact ⟨rfl, HB.out.trans (hb3.mono HB.out.size)⟩
  · have hl0 : ((L.length : Int) == 0) = false := by simpa using hn
    have hn1 : (0 : Int) < L.length := by omega
    have hn2 : (L.length : Int) ≤ 30 := by omega
    have hn3 : 0 < L.length := by omega
    have hL0 : ¬ L = [] := fun e => by rw [e] at hn3; simp at hn3
    clear hn
    go_wp2_with fail
    refine (HK.out.st.len (Below.refl _ _)).mono ?_
    rintro e w2 ⟨rfl, rfl⟩
    go_wp2_with fail
    obtain ⟨ws2, hws2⟩ : ∃ ws2, ws2 = ws := ⟨_, rfl⟩
    rw [← hws2] at HK HB HP ⊢
    clear hws2
    have HK2 := HK
    have HB2 := HB
    have HOW0 : True := trivial
    have HBW0 : True := trivial
    obtain ⟨i0, hi0, hz0, hz1, hz2⟩ := info_parts info3
    go_loopw [9, 10] (fun s9 s10 wr => ∃ (i ga ca : Nat) (xs : List Int), i ≤ 10 ∧ i ≤ len1 ∧ s10 = .int .i64 i ∧ s9 = .slice (some ⟨ga, 0, none⟩) i ca ∧ Hid (xs.length = i) ∧ Hid (∀ x, x ∈ xs → InL L x) ∧ Hid (OwnI ws2.heap.size (.slice (some ⟨ga, 0, none⟩) i ca) xs wr) ∧ Hid (Below ws2.heap.size ws2 wr)) (fun _ s10 _ => 10 - (intOf s10).toNat)
    case atStart => exact ⟨0, ws2.heap.size, 0, [], by omega, by omega, rfl, rfl, Lib.hid rfl, Lib.hid (by simp), Lib.hid (OwnI.new ws2 (Nat.le_refl _)), Lib.hid (below_alloc _ _)⟩
    case round =>
      clear HBW0 HOW0
      obtain ⟨i, ga, ca, xs, hi, hi2, rfl, rfl, HX, HXI, HO, HBW⟩ := hrel
      by_cases hlt : i < len1 ∧ i < 10
      · obtain ⟨hlt1, hlt2⟩ := hlt
        obtain ⟨rfl, q0, hwfy⟩ := HC1.out i hlt1
        obtain ⟨y, hy⟩ : ∃ y, y = z1.getD i 0 := ⟨_, rfl⟩
        rw [← hy] at q0 hwfy
        have HBall : Hid (Below w.heap.size w wr) := Lib.hid (HB2.out.trans (HBW.out.mono HB2.out.size))
        have hbl0 := block_lt_of_cell q0
        have qy : wr.cell? ⟨bk, ok + i, none⟩ = some (.int .u8 y) := (HBall.out.cell hbl0).trans q0
        have HBL : Hid (bk < wr.heap.size) := Lib.hid (block_lt_of_cell qy)
        have HBKN : Hid (bk ≠ ga) := Lib.hid (fun e => by have h1 := (World.ownsRow.lt HO.out ga rfl).1; have h2 := HB2.out.size; have h3 : bk < w.heap.size := hbl0; omega)
        obtain ⟨p, hp⟩ : ∃ p, wrap64 (1 + (wrap64 y).tmod (L.length : Int)) = p := ⟨_, rfl⟩
        have HPI : Hid (InL L p) := Lib.hid (by rw [← hp]; exact pick_InL hwfy hn3 (by omega))
        have hp2 : IntKind.i64.wrap (1 + (IntKind.i64.wrap y).tmod (L.length : Int)) = p := by rw [IntWalk.i64_left, IntWalk.i64_left]; exact hp
        have hxl := HX.out
        have HRow : Hid (wr.drew.ownsRow ws2.heap.size 3 1 (.slice (some ⟨ga, 0, none⟩) i ca) i (intsR xs)) := Lib.hid (by
          have h5 : OwnI ws2.heap.size (.slice (some ⟨ga, 0, none⟩) i ca) xs wr.drew := HO.out.below (drewN_below wr 1)
          have h7 : wr.drew.ownsRow ws2.heap.size 3 1 (.slice (some ⟨ga, 0, none⟩) i ca) xs.length (intsR xs) := h5
          rw [hxl] at h7
          exact h7)
        have HNW : Hid ((wr.drew.alloc (.cells #[.int .i64 p] 3)).heap[wr.heap.size]? = some (.cells #[.int .i64 p] 3 (0, 0))) := Lib.hid (heap_alloc_new wr.drew _)
        have B1 : Hid (i + 1 ≤ maxLen) := Lib.hid (by unfold maxLen; omega)
        have B2 : Hid ((i + 1) * 8 ≤ 140737488355328) := Lib.hid (by omega)
        have B4 : Hid ((wr.drew.alloc (.cells #[.int .i64 p] 3)).heap.size = wr.heap.size + 1) := Lib.hid (size_drew_alloc _ _)
        have B3 : Hid (ws2.heap.size ≤ (wr.drew.alloc (.cells #[.int .i64 p] 3)).heap.size) := Lib.hid (by have := B4.out; have := HBW.out.size; omega)
        have e1 : decide (i < len1) = true := by simpa using hlt1
        have e2 : decide (i < 10) = true := by simpa using hlt2
        have e3 : decide ((i : Int) < 10) = true := decide_eq_true (by omega)
        have hi3 : (i : Int) < (len1 : Int) := by omega
        have HI := Lib.hid (And.intro hlt1 hlt2)
        have hS0 : wr.drew.cell? ⟨bk, ok + i, none⟩ = some (.int .u8 y) := qy
        have HLEN : Hid (∀ w2, Hid (Below wr.heap.size wr w2) → Calls Try.prog 18 #[.pointer (some ⟨g1, 0, none⟩)] w2 fun e W2 => e = .returned (.int .i64 L.length) ∧ w2 = W2) := Lib.hid (fun w2 hb => (HK2.out.st.below HBW.out).len hb.out)
        have HBD : Hid (Below wr.heap.size wr wr.drew) := Lib.hid (drewN_below wr 1)
        clear hy q0 hlt1 hlt2 hi hi2 hbl0 hwfy hxl
        go_wp2_with fail
        refine wp_region_held_drew (S := (fun w' => w'.cell? ⟨bk, ok + i, none⟩ = some (.int .u8 y))) (by kernel_rfl) hS0 (fun hHeld => ?_)
        refine wpAnyH_take (i := 0) (oi := ?o1) (v := ?v1) ?i1 (by kernel_rfl) (by kernel_rfl) (by kernel_rfl) ?q1 (Or.inl ⟨?w1, ?y1⟩) (by assumption) ?r1
        case' i1 => simp only [List.getElem?_toArray, List.getElem?_cons_succ, List.getElem?_cons_zero]
        case i1 => rfl
        case q1 => exact fun _ _ _ h => h
        case w1 => rfl
        case y1 => (intro w hSw; (try dsimp only at hSw); go_simp) <;> with_reducible rfl
        try simp only [Act.put, List.setIfInBounds_toArray, List.set_cons_zero, List.set_cons_succ]
        refine wpAnyH_take (i := 1) (oi := ?o2) (v := ?v2) ?i2 (by kernel_rfl) (by kernel_rfl) (by kernel_rfl) ?q2 (Or.inl ⟨?w2, ?y2⟩) (by assumption) ?r2
        case' i2 => simp only [List.getElem?_toArray, List.getElem?_cons_succ, List.getElem?_cons_zero]
        case i2 => rfl
        case q2 => exact fun _ _ _ h => h
        case w2 => rfl
        case y2 => (intro w hSw; (try dsimp only at hSw); go_simp) <;> with_reducible rfl
        try simp only [Act.put, List.setIfInBounds_toArray, List.set_cons_zero, List.set_cons_succ]
        refine wpAnyH_take (i := 2) (oi := ?o3) (v := ?v3) ?i3 (by kernel_rfl) (by kernel_rfl) (by kernel_rfl) ?q3 (Or.inl ⟨?w3, ?y3⟩) (by assumption) ?r3
        case' i3 => simp only [List.getElem?_toArray, List.getElem?_cons_succ, List.getElem?_cons_zero]
        case i3 => rfl
        case q3 => exact fun _ _ _ h => h
        case w3 => rfl
        case y3 => (intro w hSw; (try dsimp only at hSw); go_simp) <;> with_reducible rfl
        try simp only [Act.put, List.setIfInBounds_toArray, List.set_cons_zero, List.set_cons_succ]
        refine wpAnyH_take (i := 3) (oi := ?o4) (v := ?v4) ?i4 (by kernel_rfl) (by kernel_rfl) (by kernel_rfl) ?q4 (Or.inl ⟨?w4, ?y4⟩) (by assumption) ?r4
        case' i4 => simp only [List.getElem?_toArray, List.getElem?_cons_succ, List.getElem?_cons_zero]
        case i4 => rfl
        case q4 => exact fun _ _ _ h => h
        case w4 => rfl
        case y4 => (intro w hSw; (try dsimp only at hSw); go_simp) <;> with_reducible rfl
        try simp only [Act.put, List.setIfInBounds_toArray, List.set_cons_zero, List.set_cons_succ]
        refine wpAnyH_take (i := 4) (oi := ?o5) (v := ?v5) ?i5 (by kernel_rfl) (by kernel_rfl) (by kernel_rfl) ?q5 (Or.inl ⟨?w5, ?y5⟩) (by assumption) ?r5
        case' i5 => simp only [List.getElem?_toArray, List.getElem?_cons_succ, List.getElem?_cons_zero]
        case i5 => rfl
        case q5 => exact fun _ _ _ h => h
        case w5 => rfl
        case y5 => (intro w hSw; (try dsimp only at hSw); go_simp) <;> with_reducible rfl
        try simp only [Act.put, List.setIfInBounds_toArray, List.set_cons_zero, List.set_cons_succ]
        refine wpAnyH_take (i := 5) (oi := ?o6) (v := ?v6) ?i6 (by kernel_rfl) (by kernel_rfl) (by kernel_rfl) ?q6 (Or.inl ⟨?w6, ?y6⟩) (by assumption) ?r6
        case' i6 => simp only [List.getElem?_toArray, List.getElem?_cons_succ, List.getElem?_cons_zero]
        case i6 => rfl
        case q6 => exact fun _ _ _ h => h
        case w6 => rfl
        case y6 => (intro w hSw; (try dsimp only at hSw); go_simp) <;> with_reducible rfl
        try simp only [Act.put, List.setIfInBounds_toArray, List.set_cons_zero, List.set_cons_succ]
        refine wpAnyH_take (i := 6) (oi := ?o7) (v := ?v7) ?i7 (by kernel_rfl) (by kernel_rfl) (by kernel_rfl) ?q7 (Or.inl ⟨?w7, ?y7⟩) (by assumption) ?r7
        case' i7 => simp only [List.getElem?_toArray, List.getElem?_cons_succ, List.getElem?_cons_zero]
        case i7 => rfl
        case q7 => exact fun _ _ _ h => h
        case w7 => rfl
        case y7 => (intro w hSw; (try dsimp only at hSw); go_simp) <;> with_reducible rfl
        try simp only [Act.put, List.setIfInBounds_toArray, List.set_cons_zero, List.set_cons_succ]
        refine wpAnyH_ready (rs := [7]) (by kernel_rfl) (by simp) ?_
        refine AllReadyH.cons (o := ?o8) ?i8 (fun K' hK => ?_) AllReadyH.nil
        case' i8 => simp only [List.getElem?_toArray, List.getElem?_cons_succ, List.getElem?_cons_zero]
        case i8 => rfl
        go_simp
        go_at_call 18
        refine (HLEN.out _ HBD).mono ?_
        rintro e wX ⟨rfl, rfl⟩
        go_wp2_with fail
        refine hK.out _ _ hS0 (fun hHeld => ?_)
        clear hK K'
        try simp only [Act.put, List.setIfInBounds_toArray, List.set_cons_zero, List.set_cons_succ]
        refine wpAnyH_take (i := 8) (oi := ?o9) (v := ?v9) ?i9 (by kernel_rfl) (by kernel_rfl) (by kernel_rfl) ?q9 (Or.inl ⟨?w9, ?y9⟩) (by assumption) ?r9
        case' i9 => simp only [List.getElem?_toArray, List.getElem?_cons_succ, List.getElem?_cons_zero]
        case i9 => rfl
        case q9 => exact fun _ _ _ h => h
        case w9 => rfl
        case y9 => (intro w hSw; (try dsimp only at hSw); go_simp) <;> with_reducible rfl
        try simp only [Act.put, List.setIfInBounds_toArray, List.set_cons_zero, List.set_cons_succ]
        refine wpAnyH_take (i := 9) (oi := ?o10) (v := ?v10) ?i10 (by kernel_rfl) (by kernel_rfl) (by kernel_rfl) ?q10 (Or.inl ⟨?w10, ?y10⟩) (by assumption) ?r10
        case' i10 => simp only [List.getElem?_toArray, List.getElem?_cons_succ, List.getElem?_cons_zero]
        case i10 => rfl
        case q10 => exact fun _ _ _ h => h
        case w10 => rfl
        case y10 => (intro w hSw; (try dsimp only at hSw); go_simp) <;> with_reducible rfl
        try simp only [Act.put, List.setIfInBounds_toArray, List.set_cons_zero, List.set_cons_succ]
        refine wpAnyH_ready (rs := [10]) (by kernel_rfl) (by simp) ?_
        refine AllReadyH.cons (o := ?o11) ?i11 (fun K' hK => ?_) AllReadyH.nil
        case' i11 => simp only [List.getElem?_toArray, List.getElem?_cons_succ, List.getElem?_cons_zero]
        case i11 => rfl
        go_simp
        refine hK.out _ _ (by show (wr.alloc _).cell? _ = _; rw [World.cell?_alloc_past (hn := HBL.out)]; exact qy) (fun hHeld => ?_)
        clear hK K'
        try simp only [Act.put, List.setIfInBounds_toArray, List.set_cons_zero, List.set_cons_succ]
        refine wpAnyH_ready (rs := [11]) (by kernel_rfl) (by simp) ?_
        refine AllReadyH.cons (o := ?o12) ?i12 (fun K' hK => ?_) AllReadyH.nil
        case' i12 => simp only [List.getElem?_toArray, List.getElem?_cons_succ, List.getElem?_cons_zero]
        case i12 => rfl
        refine step_append_lies _ rfl (.tmp 45) (.tmp 55) 23 rfl ws2.heap.size 3 i0 (.int .i64 0) 1 8 Try.underlying23 hi0 hz0 hz1 hz2 rfl (by decide) _ _ _ rfl (HRow.out.alloc _) ⟨wr.heap.size, 0, none⟩ 1 1 [.int .i64 p] rfl rfl (World.news_of_block (cs := #[.int .i64 p]) (t := 3) (fr := (0, 0)) HNW.out) (by simp [Value.oneCell']) (by omega) B1.out B2.out B3.out (wr.heap.size + 1) B4.out ?_
        intro g3 cap4 w6 hown6 hgrow6 hat6 hlt6
        refine hK.out _ _ (by rw [World.cell?_of_block (a := ⟨bk, ok + i, none⟩) (hgrow6.block bk (by rw [size_alloc_drew]; have := HBL.out; omega) (fun e => HBKN.out (by injection e with e)))]; show (wr.alloc _).cell? _ = _; rw [World.cell?_alloc_past (hn := HBL.out)]; exact qy) (fun hHeld => ?_)
        clear hK K'
        try simp only [Act.put, List.setIfInBounds_toArray, List.set_cons_zero, List.set_cons_succ]
        refine wpAnyH_take (i := 12) (oi := ?o13) (v := ?v13) ?i13 (by kernel_rfl) (by kernel_rfl) (by kernel_rfl) ?q13 (Or.inl ⟨?w13, ?y13⟩) (by assumption) ?r13
        case' i13 => simp only [List.getElem?_toArray, List.getElem?_cons_succ, List.getElem?_cons_zero]
        case i13 => rfl
        case q13 => exact fun _ _ _ h => h
        case w13 => rfl
        case y13 => (intro w hSw; (try dsimp only at hSw); go_simp) <;> with_reducible rfl
        try simp only [Act.put, List.setIfInBounds_toArray, List.set_cons_zero, List.set_cons_succ]
        refine wpAnyH_done (by kernel_rfl) ?_ _
        have C6 : Chg (fun k => some k = some ga) wr w6 := (Chg.drew wr _).trans ((Chg.alloc wr.drew _ _).trans (Chg.grown hgrow6))
        have HO6 : Hid (OwnI ws2.heap.size (.slice (some ⟨g3, 0, none⟩) (i + 1) cap4) (xs ++ [p]) w6) := Lib.hid (by
          have h8 := OwnI.app (M := xs) (x := p) (g := g3) (cap := cap4) (base := ws2.heap.size) (w' := w6) (by rw [HX.out]; exact hown6)
          rw [HX.out] at h8
          exact h8)
        go_wp2_with fail
        go_roundw
        case rel => exact ⟨i + 1, g3, cap4, xs ++ [p], by have := HI.out; omega, by have := HI.out; omega, by go_num, rfl, Lib.hid (by have := HX.out; simp; omega), Lib.hid (fun x hx => by
          rcases List.mem_append.1 hx with q | q
          · exact HXI.out x q
          · rw [List.mem_singleton.1 q]; exact HPI.out), HO6, Lib.hid (HBW.out.trans (C6.below (fun k e => by injection e with e; subst e; exact (World.ownsRow.lt HO.out k rfl).1) HBW.out.size))⟩
        case measure => have := HI.out; simp [intOf]; omega
      · have e12 : decide (i < len1) = false ∨ (decide (i < len1) = true ∧ decide ((i : Int) < 10) = false) := by
          simp only [decide_eq_false_iff_not, decide_eq_true_eq]
          omega
        have hi3 : (i : Int) ≤ 10 := by omega
        have hi4 : i ≤ 10 := hi
        clear hlt hi hi2
        rcases e12 with e1 | ⟨e1, e2⟩
        all_goals
          go_wp2_with fail
          obtain ⟨C, hC⟩ := least_is HK.out.fit HXI.out dh kem
          have HC := Lib.hid hC
          have HLE : Hid (∀ n, C n = true → InL L n) := Lib.hid (fun n hn => hC.inL HK.out.fit HXI.out hn)
          clear hC HP HFN
          have f : ∀ j, (wr.alloc (.cells #[.bool dh, .bool kem] 30)).cell? ⟨wr.heap.size, j, none⟩ = #[Value.bool dh, .bool kem][j]? := fun j => cell_of_row _ _ j _ _ _ (heap_alloc_new wr _)
          have f0 : (wr.alloc (.cells #[.bool dh, .bool kem] 30)).cell? ⟨wr.heap.size, 0, none⟩ = some (.bool dh) := f 0
          have f1 : (wr.alloc (.cells #[.bool dh, .bool kem] 30)).cell? ⟨wr.heap.size, 1, none⟩ = some (.bool kem) := f 1
          have hbA := below_alloc wr (.cells #[.bool dh, .bool kem] 30)
          have HBw : Hid (Below w.heap.size w (wr.alloc (.cells #[.bool dh, .bool kem] 30))) := Lib.hid ((HB.out.trans (HBW.out.mono HB.out.size)).trans (hbA.mono (by have := HB.out.size; have := HBW.out.size; omega)))
          have HK3 : Hid (Known (wr.alloc (.cells #[.bool dh, .bool kem] 30)) g1 L) := Lib.hid ((HK.out.below HBW.out).below hbA)
          have HR : Hid (IntsAt (wr.alloc (.cells #[.bool dh, .bool kem] 30)) (some ⟨ga, 0, none⟩) ca xs) := Lib.hid (HO.out.ints.2.below hbA)
          obtain ⟨q, hq⟩ : ∃ q, q = wr.heap.size := ⟨_, rfl⟩
          rw [← hq] at f0 f1
          try rw [← hq]
          clear f hbA hq HO
          generalize wr.alloc (.cells #[.bool dh, .bool kem] 30) = w3 at HBw HK3 HR f0 f1 ⊢
          refine (all_least HK3.out HC.out HXI.out (some ⟨ga, 0, none⟩) ca i HX.out.symm HR.out).mono ?_
          rintro e w4 ⟨aa, na, ca2, rfl, hna, ho, hb⟩
          replace HBw : Hid (Below w.heap.size w w4) := Lib.hid (HBw.out.trans (hb.mono HBw.out.size))
          replace HK3 : Hid (Known w4 g1 L) := Lib.hid (HK3.out.below hb)
          replace HR := Lib.hid (HR.out.below hb)
          replace f0 := (hb.cell (block_lt_of_cell f0)).trans f0
          replace f1 := (hb.cell (block_lt_of_cell f1)).trans f1
          have HA := Lib.hid ho.ints.2
          have HNA := Lib.hid hna
          have HF0 := Lib.hid f0
          have HF1 := Lib.hid f1
          rw [HNA.out]
          clear hna ho hb f0 f1
          go_wp2_with fail
          go_loopw [14, 15, 16] (fun s14 _ _ wq => ∃ j : Int, -1 ≤ j ∧ j ≤ (L.length : Int) + 2 ∧ s14 = .int .i64 j ∧ Hid (Known wq g1 L) ∧ Hid (IntsAt wq (some ⟨ga, 0, none⟩) ca xs) ∧ Hid (IntsAt wq aa ca2 (namesIn L C)) ∧ Hid (wq.cell? ⟨q, 0, none⟩ = some (.bool dh) ∧ wq.cell? ⟨q, 1, none⟩ = some (.bool kem)) ∧ Hid (Below w.heap.size w wq)) (fun s14 _ _ _ => (100 - intOf s14).toNat)
          case atStart => exact ⟨-1, by omega, by omega, rfl, HK3, HR, HA, Lib.hid ⟨HF0.out, HF1.out⟩, HBw⟩
          case round =>
            clear HK3 HR HA HF0 HF1 HBw
            obtain ⟨j, hj1, hj2, rfl, HK3, HR, HA, HF, HBw⟩ := hrel
            by_cases hlt : j ≤ (L.length : Int) + 1
            · have t1 : decide (j ≤ (L.length : Int) + 1) = true := decide_eq_true hlt
              have t2 : decide (j < 40) = true := decide_eq_true (by omega)
              have hjb : j ≤ 32 := by omega
              have HJ := Lib.hid (And.intro hj1 hlt)
              obtain ⟨f0, f1⟩ := HF.out
              clear hj2
              go_wp2_with fail
              refine (HK3.out.st.len (Below.refl _ _)).mono ?_
              rintro e w5 ⟨rfl, rfl⟩
              go_wp2_with fail
              by_cases hin : InL L j
              · have HIN := Lib.hid hin
                have d1 : (1 : Int) ≤ j := hin.1
                have d2 : j ≤ (L.length : Int) := hin.2
                obtain ⟨b, hb0⟩ : ∃ b, b = C j := ⟨_, rfl⟩
                have HBJ : Hid (([j] : List Int).all (has (namesIn L C)) = b) := Lib.hid (by rw [has_one, allB_iff.2 hin, hb0]; rfl)
                have hCAN := can_least HK3.out HC.out HXI.out hin (some ⟨ga, 0, none⟩) ca i HX.out.symm HR.out
                rw [← hb0] at hCAN
                refine hCAN.mono ?_
                clear hCAN hin hb0
                rintro e w6 ⟨rfl, hb⟩
                replace HBw : Hid (Below w.heap.size w w6) := Lib.hid (HBw.out.trans (hb.mono HBw.out.size))
                replace HK3 : Hid (Known w6 g1 L) := Lib.hid (HK3.out.below hb)
                replace HR := Lib.hid (HR.out.below hb)
                replace HA := Lib.hid (HA.out.below hb)
                replace HF := Lib.hid (And.intro ((hb.cell (block_lt_of_cell f0)).trans f0) ((hb.cell (block_lt_of_cell f1)).trans f1))
                clear hb f0 f1
                go_wp2_with fail
                refine (within_k (some ⟨w6.heap.size, 0, none⟩) aa 1 ca2 [j] (namesIn L C) _ (lit1 _ j) (HA.out.below (below_alloc _ _))).mono ?_
                rintro e w7 ⟨rfl, q7, hq7⟩
                have hb : Below w6.heap.size w6 w7 := by rw [hq7]; exact (below_alloc _ _).trans ((drewN_below _ q7).mono (by simp))
                rw [HBJ.out]
                obtain ⟨f0, f1⟩ := HF.out
                replace HBw : Hid (Below w.heap.size w w7) := Lib.hid (HBw.out.trans (hb.mono HBw.out.size))
                replace HK3 : Hid (Known w7 g1 L) := Lib.hid (HK3.out.below hb)
                replace HR := Lib.hid (HR.out.below hb)
                replace HA := Lib.hid (HA.out.below hb)
                replace HF := Lib.hid (And.intro ((hb.cell (block_lt_of_cell f0)).trans f0) ((hb.cell (block_lt_of_cell f1)).trans f1))
                have t3 : (b != b) = false := by simp
                have t4 : decide ((1 : Int) ≤ j) = true := decide_eq_true d1
                have t5 : decide (j ≤ (L.length : Int)) = true := decide_eq_true d2
                clear hb hq7 f0 f1
                go_wp2_with fail
                refine (HK3.out.st.len (Below.refl _ _)).mono ?_
                rintro e w8 ⟨rfl, rfl⟩
                go_wp2_with fail
                go_roundw
                case rel => exact ⟨j + 1, by have := HJ.out; omega, by have := HJ.out; omega, by go_num, HK3, HR, HA, HF, HBw⟩
                case measure => have := HJ.out; simp [intOf]; omega
              · have HBJ : Hid (([j] : List Int).all (has (namesIn L C)) = false) := Lib.hid (by
                  rw [has_one]
                  have : allB L j = false := by rw [Bool.eq_false_iff]; exact fun q => hin (allB_iff.1 q)
                  rw [this]; rfl)
                have hCAN := can_none HK3.out dh kem HXI.out hin (some ⟨ga, 0, none⟩) ca i HX.out.symm HR.out
                have d12 : j < 1 ∨ ((1 : Int) ≤ j ∧ (L.length : Int) < j) := by unfold InL at hin; omega
                refine hCAN.mono ?_
                clear hCAN hin
                rintro e w6 ⟨rfl, hb⟩
                replace HBw : Hid (Below w.heap.size w w6) := Lib.hid (HBw.out.trans (hb.mono HBw.out.size))
                replace HK3 : Hid (Known w6 g1 L) := Lib.hid (HK3.out.below hb)
                replace HR := Lib.hid (HR.out.below hb)
                replace HA := Lib.hid (HA.out.below hb)
                replace HF := Lib.hid (And.intro ((hb.cell (block_lt_of_cell f0)).trans f0) ((hb.cell (block_lt_of_cell f1)).trans f1))
                clear hb f0 f1
                have HD := Lib.hid d12
                clear d12
                go_wp2_with fail
                refine (within_k (some ⟨w6.heap.size, 0, none⟩) aa 1 ca2 [j] (namesIn L C) _ (lit1 _ j) (HA.out.below (below_alloc _ _))).mono ?_
                rintro e w7 ⟨rfl, q7, hq7⟩
                have hb : Below w6.heap.size w6 w7 := by rw [hq7]; exact (below_alloc _ _).trans ((drewN_below _ q7).mono (by simp))
                rw [HBJ.out]
                obtain ⟨f0, f1⟩ := HF.out
                replace HBw : Hid (Below w.heap.size w w7) := Lib.hid (HBw.out.trans (hb.mono HBw.out.size))
                replace HK3 : Hid (Known w7 g1 L) := Lib.hid (HK3.out.below hb)
                replace HR := Lib.hid (HR.out.below hb)
                replace HA := Lib.hid (HA.out.below hb)
                replace HF := Lib.hid (And.intro ((hb.cell (block_lt_of_cell f0)).trans f0) ((hb.cell (block_lt_of_cell f1)).trans f1))
                clear hb hq7 f0 f1
                rcases HD.out with d | ⟨d1, d2⟩
                · have t4 : decide ((1 : Int) ≤ j) = false := decide_eq_false (by omega)
                  go_wp2_with fail
                  go_roundw
                  case rel => exact ⟨j + 1, by have := HJ.out; omega, by have := HJ.out; omega, by go_num, HK3, HR, HA, HF, HBw⟩
                  case measure => have := HJ.out; simp [intOf]; omega
                · have t4 : decide ((1 : Int) ≤ j) = true := decide_eq_true d1
                  have t5 : decide (j ≤ (L.length : Int)) = false := decide_eq_false (by omega)
                  go_wp2_with fail
                  refine (HK3.out.st.len (Below.refl _ _)).mono ?_
                  rintro e w8 ⟨rfl, rfl⟩
                  go_wp2_with fail
                  go_roundw
                  case rel => exact ⟨j + 1, by have := HJ.out; omega, by have := HJ.out; omega, by go_num, HK3, HR, HA, HF, HBw⟩
                  case measure => have := HJ.out; simp [intOf]; omega
            · have t1 : decide (j ≤ (L.length : Int) + 1) = false := decide_eq_false hlt
              clear hlt
              go_wp2_with fail
              refine (HK3.out.st.len (Below.refl _ _)).mono ?_
              rintro e w5 ⟨rfl, rfl⟩
              go_wp2_with fail
              refine (fixed_any _).mono ?_
              rintro e wz ⟨rfl, hb⟩
              go_wp2_with fail
              go_ret
              exact ⟨rfl, HBw.out.trans (hb.mono HBw.out.size)⟩
set_option maxRecDepth 100000 in
theorem lifted (os : Os) (started : os.Started) (H : Type) (enc : TypeId × Value → H) :
    ReturnsInHanded {} Try.checked os 8 .any (Rows.knowAsksSpec.pre6 enc Try.prog Try.f8 Rows.knowAsksRow.domain false) (Rows.knowAsksSpec.post enc Try.prog Try.f8 false true false false) := by
  refine returnsInHanded_of_change (C := Try.checked) own started (by kernel_rfl) Try.func8
    (ChangeSpec.witness6 (enc := enc) (C := Try.checked) false ⟨#[], #[.slice none 0 0, .slice none 0 0, .int .u8 0], []⟩ 8 (by kernel_rfl) (by kernel_rfl) (by kernel_rfl) (by kernel_rfl)) ?_
  intro W base args ds gs before hval0 hW hcnd _
  have hval : ∀ (j : Nat) t v, Try.f8.params[j]? = some t → args[j]? = some v → Value.okWide Try.prog W .any base t v := hval0
  have hW' := hW
  obtain ⟨p, q, hA0, hV, rfl, hfz, hnd⟩ := hW
  have hA : DataW.TrodAll enc Try.prog W 0 (fun _ => true) true Try.f8.params.toList args.toList ds p := hA0
  rw [Try.params8] at hA hval
  obtain ⟨v0, vs0, d0, ds0, p0, q0, hargs, rfl, rfl, h0, r0⟩ := trodAll_cons hA
  obtain ⟨v1, vs1, d1, ds1, p1, q1, rfl, rfl, rfl, h1, r1⟩ := trodAll_cons r0
  obtain ⟨v2, vs2, d2, ds2, p2, q2, rfl, rfl, rfl, h2, r2⟩ := trodAll_cons r1
  obtain ⟨rfl, rfl, rfl⟩ := trodAll_nil r2
  obtain rfl : args = #[v0, v1, v2] := by cases args; simp_all
  obtain ⟨rfl, rfl⟩ := trodVars_none hV
  obtain ⟨a0, len0, cap0, rfl⟩ := okWide_slice Try.underlying22 (hval 0 22 v0 rfl rfl)
  have k0 := h0
  have lt0 : ∀ x ∈ p0, x.block < W.heap.size := by obtain ⟨m, hm⟩ := k0; exact DataW.trod_lt m _ _ _ hm
  obtain ⟨T0, w0⟩ : ∃ T, Terms W a0 len0 cap0 T := by
    obtain ⟨fuel, hf⟩ := h0
    exact open_terms (by simpa [Value.cells] using hf)
  obtain ⟨a1, len1, cap1, rfl⟩ := okWide_slice Try.underlying41 (hval 1 41 v1 rfl rfl)
  have k1 := h1
  have lt1 : ∀ x ∈ p1, x.block < W.heap.size := by obtain ⟨m, hm⟩ := k1; exact DataW.trod_lt m _ _ _ hm
  obtain ⟨z1, w1⟩ : ∃ zs, IsRow .u8 W a1 len1 cap1 zs := by
    obtain ⟨fuel, hf⟩ := h1
    rcases open_ints Try.underlying41 Try.underlying5 (by kernel_rfl) hf with ⟨hcs, _⟩ | ⟨x, l, c, zs, hcs, _, hl, hm, hz, _, hcell, hwz⟩
    · simp [Value.cells] at hcs
      obtain ⟨rfl, rfl, rfl⟩ := hcs
      exact ⟨[], .inl ⟨rfl, rfl, rfl, rfl⟩⟩
    · simp [Value.cells] at hcs
      obtain ⟨rfl, rfl, rfl⟩ := hcs
      exact ⟨zs, .inr ⟨_, rfl, hl, hm, by simpa using hz, hcell, hwz⟩⟩
  obtain ⟨a2, rfl, rfl, rfl, w2⟩ := open_int Try.underlying5 (hval 2 5 v2 rfl rfl) h2
  clear hA0 hval0
  refine (walk a0 len0 cap0 T0 a1 len1 cap1 z1 a2 W w0 w1 w2).mono fun e W' ⟨he, bel⟩ => ?_
  subst he
  exact ⟨_, rfl, _, _, _, [], _, [], hW', trodAll_mk1 (shut_bool Try.underlying4 _), (trodAll_cons_mk (Below.trod laidOut (by kernel_rfl) (of_decide_eq_true (by kernel_rfl)) k0 bel lt0) (trodAll_cons_mk (Below.trod laidOut (by kernel_rfl) (of_decide_eq_true (by kernel_rfl)) k1 bel lt1) (trodAll_cons_mk (shut_int Try.underlying5 w2) trodAll_mk0))), rfl, bel.frame _, fun h => by cases h⟩

theorem over : Rows.knowAsksRow.holds Try.pinned (OpenSpec.ofChange Rows.knowAsksSpec) :=
  OpenClaim.holds_of_wide 8 Try.f8 rfl rfl rfl rfl rfl rfl rfl ⟨rfl, rfl, rfl, rfl, rfl⟩ rfl rfl rfl rfl rfl (by kernel_rfl) Try.func8 (by kernel_rfl)
    (of_decide_eq_true (by kernel_rfl)) (by unfold Func.isWrapper; first | (rw [if_pos (by decide +kernel)]; kernel_rfl) | (rw [if_neg (by decide +kernel)]; exact ⟨rfl, rfl⟩))
    (fun os started H enc _ => lifted os started H enc)

theorem proved : Rows.KnowAsksSaid := over
#print axioms proved
end Go.Proofs.Ytdhfnbajmjmlbaa.knowAsks
