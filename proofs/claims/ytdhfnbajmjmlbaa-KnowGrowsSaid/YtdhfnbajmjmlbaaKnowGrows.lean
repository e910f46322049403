/- KnowGrows: for every row of terms, of what is known: who knows more can make no less. -/
import Derived.Test.YtdhfnbajmjmlbaaRows
import Derived.Test.YtdhfnbajmjmlbaaKnowG
import Derived.WalkKit
import Derived.ProofKit
import Derived.OpenShut
import Derived.ShutString
import Derived.ChangeOld
import Derived.Below
import Derived.Test.YtdhfnbajmjmlbaaOpens
namespace Go.Proofs.Ytdhfnbajmjmlbaa.knowGrows
open Go.ChangeShapes Go.WideShapes Go.ChangeAt Go.RowKit
open Go.ChangeMaps (open_string shut_string)
open Go.Proofs.Ytdhfnbajmjmlbaa
set_option linter.unusedVariables false
set_option linter.unusedSimpArgs false
set_option maxRecDepth 20000

theorem own : ownKnob Try.prog.godebug = none := by kernel_rfl
theorem laidOut : laidOutB Try.prog = true := by kernel_rfl

/-- A row of integers that came in, or nil. -/
def IsRow (k : IntKind) (w : World) (a : Option Addr) (len cap : Nat) (zs : List Int) : Prop :=
  (a = none ∧ len = 0 ∧ cap = 0 ∧ zs = []) ∨
  ∃ x, a = some x ∧ len ≤ cap ∧ cap ≤ maxLen ∧ zs.length = cap ∧ (∀ i, i < zs.length → w.cell? (x.add i) = some (.int k (zs.getD i 0))) ∧ ∀ n ∈ zs, (Lit.int k n).wf = true

theorem IsRow.plain {k : IntKind} {w : World} {a : Option Addr} {len cap : Nat} {zs : List Int} (h : IsRow k w a len cap zs) : len ≤ cap ∧ cap ≤ maxLen ∧ zs.length = cap ∧ ∃ b off, ∀ i, i < len → a = some ⟨b, off, none⟩ ∧ w.cell? ⟨b, off + i, none⟩ = some (.int k (zs.getD i 0)) ∧ (Lit.int k (zs.getD i 0)).wf = true := by
  rcases h with ⟨rfl, rfl, rfl, rfl⟩ | ⟨x, rfl, hl, hm, hz, hc, hw⟩
  · exact ⟨Nat.le_refl _, Nat.zero_le _, rfl, 0, 0, fun i hi => absurd hi (Nat.not_lt_zero _)⟩
  · by_cases hp : 0 < zs.length
    · obtain ⟨b, off, rfl, hcell⟩ := ints_at hc hp
      exact ⟨hl, hm, hz, b, off, fun i hi => ⟨rfl, hcell i (by omega), hw _ (getD_mem (by omega))⟩⟩
    · exact ⟨hl, hm, hz, 0, 0, fun i hi => by omega⟩

set_option maxHeartbeats 8000000 in
set_option maxRecDepth 100000 in
theorem walk (a0 : Option Addr) (len0 cap0 : Nat) (T0 : Nat → Tm) (a1 : Option Addr) (len1 cap1 : Nat) (z1 : List Int) (x2 : Int) (w : World) (w0 : Terms w a0 len0 cap0 T0) (w1 : IsRow .u8 w a1 len1 cap1 z1) (h2 : (Lit.int .u8 x2).wf = true) :
    Calls Try.prog 4 #[.slice a0 len0 cap0, .slice a1 len1 cap1, .int .u8 x2] w fun e w' => e = .returned (.bool true) ∧ Below w.heap.size w w' := by
  have HT := Lib.hid w0
  obtain ⟨hl1, hm1, hz1, bk, ok, hc1⟩ := w1.plain
  have HC1 := Lib.hid hc1
  unfold maxLen at hm1
  have H2 := Lib.hid h2
  clear h2
  clear w0 w1 hc1 hz1
  go_enter Try.func4, Try.ntmps4
  go_wp2_with fail
  refine (stores_fine 40 a0 len0 cap0 T0 _ (by omega) HT.out).mono ?_
  rintro e ws ⟨g1, g2, L, rfl, hL, hfine, hp⟩
  have HK : Hid (Known ws g1 L) := Lib.hid (hp.known hfine)
  have HB : Hid (Below w.heap.size w ws) := Lib.hid hp.belowW
  have HP := Lib.hid hp
  have HFN := Lib.hid hfine
  have hLn : L.length ≤ 40 := hL
  clear hp hL HT hfine
  by_cases hn : L.length = 0
  · have hl0 : ((L.length : Int) == 0) = true := by simp [hn]
    clear hn
    go_wp2_with fail
    refine (HK.out.st.len (Below.refl _ _)).mono ?_
    rintro e w2 ⟨rfl, rfl⟩
    go_wp2_with fail
    refine (fixed_any _).mono ?_
    rintro e w3 ⟨rfl, hb3⟩
    go_wp2
    go_ret
    exact ⟨rfl, HB.out.trans (hb3.mono HB.out.size)⟩
  · have hl0 : ((L.length : Int) == 0) = false := by simpa using hn
    have hn1 : (0 : Int) < L.length := by omega
    have hn2 : (L.length : Int) ≤ 40 := by omega
    have hn3 : 0 < L.length := by omega
    have hL0 : ¬ L = [] := fun e => by rw [e] at hn3; simp at hn3
    clear hn
    go_wp2_with fail
    refine (HK.out.st.len (Below.refl _ _)).mono ?_
    rintro e w2 ⟨rfl, rfl⟩
    go_wp2_with fail
    obtain ⟨ws2, hws2⟩ : ∃ ws2, ws2 = ws := ⟨_, rfl⟩
    rw [← hws2] at HK HB HP ⊢
    clear hws2
    have HK2 := HK
    have HB2 := HB
    have HOW0 : True := trivial
    have HBW0 : True := trivial
    obtain ⟨i0, hi0, hz0, hz1, hz2⟩ := info_parts info3
    go_loopw [9, 10] (fun s9 s10 wr => ∃ (i ga ca : Nat) (xs : List Int), i ≤ 10 ∧ i ≤ len1 ∧ s10 = .int .i64 i ∧ s9 = .slice (some ⟨ga, 0, none⟩) i ca ∧ Hid (xs.length = i) ∧ Hid (∀ x, x ∈ xs → InL L x) ∧ Hid (OwnI ws2.heap.size (.slice (some ⟨ga, 0, none⟩) i ca) xs wr) ∧ Hid (Below ws2.heap.size ws2 wr)) (fun _ s10 _ => 10 - (intOf s10).toNat)
    case atStart => exact ⟨0, ws2.heap.size, 0, [], by omega, by omega, rfl, rfl, Lib.hid rfl, Lib.hid (by simp), Lib.hid (OwnI.new ws2 (Nat.le_refl _)), Lib.hid (below_alloc _ _)⟩
    case round =>
      clear HBW0 HOW0
      obtain ⟨i, ga, ca, xs, hi, hi2, rfl, rfl, HX, HXI, HO, HBW⟩ := hrel
      by_cases hlt : i < len1 ∧ i < 10
      · obtain ⟨hlt1, hlt2⟩ := hlt
        obtain ⟨rfl, q0, hwfy⟩ := HC1.out i hlt1
        obtain ⟨y, hy⟩ : ∃ y, y = z1.getD i 0 := ⟨_, rfl⟩
        rw [← hy] at q0 hwfy
        have HBall : Hid (Below w.heap.size w wr) := Lib.hid (HB2.out.trans (HBW.out.mono HB2.out.size))
        have hbl0 := block_lt_of_cell q0
        have qy : wr.cell? ⟨bk, ok + i, none⟩ = some (.int .u8 y) := (HBall.out.cell hbl0).trans q0
        have HBL : Hid (bk < wr.heap.size) := Lib.hid (block_lt_of_cell qy)
        have HBKN : Hid (bk ≠ ga) := Lib.hid (fun e => by have h1 := (World.ownsRow.lt HO.out ga rfl).1; have h2 := HB2.out.size; have h3 : bk < w.heap.size := hbl0; omega)
        obtain ⟨p, hp⟩ : ∃ p, wrap64 (1 + (wrap64 y).tmod (L.length : Int)) = p := ⟨_, rfl⟩
        have HPI : Hid (InL L p) := Lib.hid (by rw [← hp]; exact pick_InL hwfy hn3 (by omega))
        have hp2 : IntKind.i64.wrap (1 + (IntKind.i64.wrap y).tmod (L.length : Int)) = p := by rw [IntWalk.i64_left, IntWalk.i64_left]; exact hp
        have hxl := HX.out
        have HRow : Hid (wr.drew.ownsRow ws2.heap.size 3 1 (.slice (some ⟨ga, 0, none⟩) i ca) i (intsR xs)) := Lib.hid (by
          have h5 : OwnI ws2.heap.size (.slice (some ⟨ga, 0, none⟩) i ca) xs wr.drew := HO.out.below (drewN_below wr 1)
          have h7 : wr.drew.ownsRow ws2.heap.size 3 1 (.slice (some ⟨ga, 0, none⟩) i ca) xs.length (intsR xs) := h5
          rw [hxl] at h7
          exact h7)
        have HNW : Hid ((wr.drew.alloc (.cells #[.int .i64 p] 3)).heap[wr.heap.size]? = some (.cells #[.int .i64 p] 3 (0, 0))) := Lib.hid (heap_alloc_new wr.drew _)
        have B1 : Hid (i + 1 ≤ maxLen) := Lib.hid (by unfold maxLen; omega)
        have B2 : Hid ((i + 1) * 8 ≤ 140737488355328) := Lib.hid (by omega)
        have B4 : Hid ((wr.drew.alloc (.cells #[.int .i64 p] 3)).heap.size = wr.heap.size + 1) := Lib.hid (size_drew_alloc _ _)
        have B3 : Hid (ws2.heap.size ≤ (wr.drew.alloc (.cells #[.int .i64 p] 3)).heap.size) := Lib.hid (by have := B4.out; have := HBW.out.size; omega)
        have e1 : decide (i < len1) = true := by simpa using hlt1
        have e2 : decide (i < 10) = true := by simpa using hlt2
        have e3 : decide ((i : Int) < 10) = true := decide_eq_true (by omega)
        have hi3 : (i : Int) < (len1 : Int) := by omega
        have HI := Lib.hid (And.intro hlt1 hlt2)
        have hS0 : wr.drew.cell? ⟨bk, ok + i, none⟩ = some (.int .u8 y) := qy
        have HLEN : Hid (∀ w2, Hid (Below wr.heap.size wr w2) → Calls Try.prog 18 #[.pointer (some ⟨g1, 0, none⟩)] w2 fun e W2 => e = .returned (.int .i64 L.length) ∧ w2 = W2) := Lib.hid (fun w2 hb => (HK2.out.st.below HBW.out).len hb.out)
        have HBD : Hid (Below wr.heap.size wr wr.drew) := Lib.hid (drewN_below wr 1)
        clear hy q0 hlt1 hlt2 hi hi2 hbl0 hwfy hxl
        go_wp2_with fail
        refine wp_region_held_drew (S := (fun w' => w'.cell? ⟨bk, ok + i, none⟩ = some (.int .u8 y))) (by kernel_rfl) hS0 (fun hHeld => ?_)
        refine wpAnyH_take (i := 0) (oi := ?o1) (v := ?v1) ?i1 (by kernel_rfl) (by kernel_rfl) (by kernel_rfl) ?q1 (Or.inl ⟨?w1, ?y1⟩) (by assumption) ?r1
        case' i1 => simp only [List.getElem?_toArray, List.getElem?_cons_succ, List.getElem?_cons_zero]
        case i1 => rfl
        case q1 => exact fun _ _ _ h => h
        case w1 => rfl
        case y1 => (intro w hSw; (try dsimp only at hSw); go_simp) <;> with_reducible rfl
        try simp only [Act.put, List.setIfInBounds_toArray, List.set_cons_zero, List.set_cons_succ]
        refine wpAnyH_take (i := 1) (oi := ?o2) (v := ?v2) ?i2 (by kernel_rfl) (by kernel_rfl) (by kernel_rfl) ?q2 (Or.inl ⟨?w2, ?y2⟩) (by assumption) ?r2
        case' i2 => simp only [List.getElem?_toArray, List.getElem?_cons_succ, List.getElem?_cons_zero]
        case i2 => rfl
        case q2 => exact fun _ _ _ h => h
        case w2 => rfl
        case y2 => (intro w hSw; (try dsimp only at hSw); go_simp) <;> with_reducible rfl
        try simp only [Act.put, List.setIfInBounds_toArray, List.set_cons_zero, List.set_cons_succ]
        refine wpAnyH_take (i := 2) (oi := ?o3) (v := ?v3) ?i3 (by kernel_rfl) (by kernel_rfl) (by kernel_rfl) ?q3 (Or.inl ⟨?w3, ?y3⟩) (by assumption) ?r3
        case' i3 => simp only [List.getElem?_toArray, List.getElem?_cons_succ, List.getElem?_cons_zero]
        case i3 => rfl
        case q3 => exact fun _ _ _ h => h
        case w3 => rfl
        case y3 => (intro w hSw; (try dsimp only at hSw); go_simp) <;> with_reducible rfl
        try simp only [Act.put, List.setIfInBounds_toArray, List.set_cons_zero, List.set_cons_succ]
        refine wpAnyH_take (i := 3) (oi := ?o4) (v := ?v4) ?i4 (by kernel_rfl) (by kernel_rfl) (by kernel_rfl) ?q4 (Or.inl ⟨?w4, ?y4⟩) (by assumption) ?r4
        case' i4 => simp only [List.getElem?_toArray, List.getElem?_cons_succ, List.getElem?_cons_zero]
        case i4 => rfl
        case q4 => exact fun _ _ _ h => h
        case w4 => rfl
        case y4 => (intro w hSw; (try dsimp only at hSw); go_simp) <;> with_reducible rfl
        try simp only [Act.put, List.setIfInBounds_toArray, List.set_cons_zero, List.set_cons_succ]
        refine wpAnyH_take (i := 4) (oi := ?o5) (v := ?v5) ?i5 (by kernel_rfl) (by kernel_rfl) (by kernel_rfl) ?q5 (Or.inl ⟨?w5, ?y5⟩) (by assumption) ?r5
        case' i5 => simp only [List.getElem?_toArray, List.getElem?_cons_succ, List.getElem?_cons_zero]
        case i5 => rfl
        case q5 => exact fun _ _ _ h => h
        case w5 => rfl
        case y5 => (intro w hSw; (try dsimp only at hSw); go_simp) <;> with_reducible rfl
        try simp only [Act.put, List.setIfInBounds_toArray, List.set_cons_zero, List.set_cons_succ]
        refine wpAnyH_take (i := 5) (oi := ?o6) (v := ?v6) ?i6 (by kernel_rfl) (by kernel_rfl) (by kernel_rfl) ?q6 (Or.inl ⟨?w6, ?y6⟩) (by assumption) ?r6
        case' i6 => simp only [List.getElem?_toArray, List.getElem?_cons_succ, List.getElem?_cons_zero]
        case i6 => rfl
        case q6 => exact fun _ _ _ h => h
        case w6 => rfl
        case y6 => (intro w hSw; (try dsimp only at hSw); go_simp) <;> with_reducible rfl
        try simp only [Act.put, List.setIfInBounds_toArray, List.set_cons_zero, List.set_cons_succ]
        refine wpAnyH_take (i := 6) (oi := ?o7) (v := ?v7) ?i7 (by kernel_rfl) (by kernel_rfl) (by kernel_rfl) ?q7 (Or.inl ⟨?w7, ?y7⟩) (by assumption) ?r7
        case' i7 => simp only [List.getElem?_toArray, List.getElem?_cons_succ, List.getElem?_cons_zero]
        case i7 => rfl
        case q7 => exact fun _ _ _ h => h
        case w7 => rfl
        case y7 => (intro w hSw; (try dsimp only at hSw); go_simp) <;> with_reducible rfl
        try simp only [Act.put, List.setIfInBounds_toArray, List.set_cons_zero, List.set_cons_succ]
        refine wpAnyH_ready (rs := [7]) (by kernel_rfl) (by simp) ?_
        refine AllReadyH.cons (o := ?o8) ?i8 (fun K' hK => ?_) AllReadyH.nil
        case' i8 => simp only [List.getElem?_toArray, List.getElem?_cons_succ, List.getElem?_cons_zero]
        case i8 => rfl
        go_simp
        go_at_call 18
        refine (HLEN.out _ HBD).mono ?_
        rintro e wX ⟨rfl, rfl⟩
        go_wp2_with fail
        refine hK.out _ _ hS0 (fun hHeld => ?_)
        clear hK K'
        try simp only [Act.put, List.setIfInBounds_toArray, List.set_cons_zero, List.set_cons_succ]
        refine wpAnyH_take (i := 8) (oi := ?o9) (v := ?v9) ?i9 (by kernel_rfl) (by kernel_rfl) (by kernel_rfl) ?q9 (Or.inl ⟨?w9, ?y9⟩) (by assumption) ?r9
        case' i9 => simp only [List.getElem?_toArray, List.getElem?_cons_succ, List.getElem?_cons_zero]
        case i9 => rfl
        case q9 => exact fun _ _ _ h => h
        case w9 => rfl
        case y9 => (intro w hSw; (try dsimp only at hSw); go_simp) <;> with_reducible rfl
        try simp only [Act.put, List.setIfInBounds_toArray, List.set_cons_zero, List.set_cons_succ]
        refine wpAnyH_take (i := 9) (oi := ?o10) (v := ?v10) ?i10 (by kernel_rfl) (by kernel_rfl) (by kernel_rfl) ?q10 (Or.inl ⟨?w10, ?y10⟩) (by assumption) ?r10
        case' i10 => simp only [List.getElem?_toArray, List.getElem?_cons_succ, List.getElem?_cons_zero]
        case i10 => rfl
        case q10 => exact fun _ _ _ h => h
        case w10 => rfl
        case y10 => (intro w hSw; (try dsimp only at hSw); go_simp) <;> with_reducible rfl
        try simp only [Act.put, List.setIfInBounds_toArray, List.set_cons_zero, List.set_cons_succ]
        refine wpAnyH_ready (rs := [10]) (by kernel_rfl) (by simp) ?_
        refine AllReadyH.cons (o := ?o11) ?i11 (fun K' hK => ?_) AllReadyH.nil
        case' i11 => simp only [List.getElem?_toArray, List.getElem?_cons_succ, List.getElem?_cons_zero]
        case i11 => rfl
        go_simp
        refine hK.out _ _ (by show (wr.alloc _).cell? _ = _; rw [World.cell?_alloc_past (hn := HBL.out)]; exact qy) (fun hHeld => ?_)
        clear hK K'
        try simp only [Act.put, List.setIfInBounds_toArray, List.set_cons_zero, List.set_cons_succ]
        refine wpAnyH_ready (rs := [11]) (by kernel_rfl) (by simp) ?_
        refine AllReadyH.cons (o := ?o12) ?i12 (fun K' hK => ?_) AllReadyH.nil
        case' i12 => simp only [List.getElem?_toArray, List.getElem?_cons_succ, List.getElem?_cons_zero]
        case i12 => rfl
        refine step_append_lies _ rfl (.tmp 49) (.tmp 59) 23 rfl ws2.heap.size 3 i0 (.int .i64 0) 1 8 Try.underlying23 hi0 hz0 hz1 hz2 rfl (by decide) _ _ _ rfl (HRow.out.alloc _) ⟨wr.heap.size, 0, none⟩ 1 1 [.int .i64 p] rfl rfl (World.news_of_block (cs := #[.int .i64 p]) (t := 3) (fr := (0, 0)) HNW.out) (by simp [Value.oneCell']) (by omega) B1.out B2.out B3.out (wr.heap.size + 1) B4.out ?_
        intro g3 cap4 w6 hown6 hgrow6 hat6 hlt6
        refine hK.out _ _ (by rw [World.cell?_of_block (a := ⟨bk, ok + i, none⟩) (hgrow6.block bk (by rw [size_alloc_drew]; have := HBL.out; omega) (fun e => HBKN.out (by injection e with e)))]; show (wr.alloc _).cell? _ = _; rw [World.cell?_alloc_past (hn := HBL.out)]; exact qy) (fun hHeld => ?_)
        clear hK K'
        try simp only [Act.put, List.setIfInBounds_toArray, List.set_cons_zero, List.set_cons_succ]
        refine wpAnyH_take (i := 12) (oi := ?o13) (v := ?v13) ?i13 (by kernel_rfl) (by kernel_rfl) (by kernel_rfl) ?q13 (Or.inl ⟨?w13, ?y13⟩) (by assumption) ?r13
        case' i13 => simp only [List.getElem?_toArray, List.getElem?_cons_succ, List.getElem?_cons_zero]
        case i13 => rfl
        case q13 => exact fun _ _ _ h => h
        case w13 => rfl
        case y13 => (intro w hSw; (try dsimp only at hSw); go_simp) <;> with_reducible rfl
        try simp only [Act.put, List.setIfInBounds_toArray, List.set_cons_zero, List.set_cons_succ]
        refine wpAnyH_done (by kernel_rfl) ?_ _
        have C6 : Chg (fun k => some k = some ga) wr w6 := (Chg.drew wr _).trans ((Chg.alloc wr.drew _ _).trans (Chg.grown hgrow6))
        have HO6 : Hid (OwnI ws2.heap.size (.slice (some ⟨g3, 0, none⟩) (i + 1) cap4) (xs ++ [p]) w6) := Lib.hid (by
          have h8 := OwnI.app (M := xs) (x := p) (g := g3) (cap := cap4) (base := ws2.heap.size) (w' := w6) (by rw [HX.out]; exact hown6)
          rw [HX.out] at h8
          exact h8)
        go_wp2_with fail
        go_roundw
        case rel => exact ⟨i + 1, g3, cap4, xs ++ [p], by have := HI.out; omega, by have := HI.out; omega, by go_num, rfl, Lib.hid (by have := HX.out; simp; omega), Lib.hid (fun x hx => by
          rcases List.mem_append.1 hx with q | q
          · exact HXI.out x q
          · rw [List.mem_singleton.1 q]; exact HPI.out), HO6, Lib.hid (HBW.out.trans (C6.below (fun k e => by injection e with e; subst e; exact (World.ownsRow.lt HO.out k rfl).1) HBW.out.size))⟩
        case measure => have := HI.out; simp [intOf]; omega
      · have e12 : decide (i < len1) = false ∨ (decide (i < len1) = true ∧ decide ((i : Int) < 10) = false) := by
          simp only [decide_eq_false_iff_not, decide_eq_true_eq]
          omega
        have hi3 : (i : Int) ≤ 10 := by omega
        have hi4 : i ≤ 10 := hi
        clear hlt hi hi2
        rcases e12 with e1 | ⟨e1, e2⟩
        all_goals
          go_wp2_with fail
          have HPI : Hid (InL L (wrap64 (1 + (wrap64 x2).tmod (L.length : Int)))) := Lib.hid (pick_InL H2.out hn3 (by omega))
          obtain ⟨p, hp⟩ : ∃ p, wrap64 (1 + (wrap64 x2).tmod (L.length : Int)) = p := ⟨_, rfl⟩
          rw [hp] at HPI
          have HXI1 : Hid (∀ x, x ∈ xs ++ [p] → InL L x) := Lib.hid (fun x hx => by
            rcases List.mem_append.1 hx with q | q
            · exact HXI.out x q
            · rw [List.mem_singleton.1 q]; exact HPI.out)
          obtain ⟨C0, hC0⟩ := least_is HK.out.fit HXI.out false false
          obtain ⟨C1, hC1⟩ := least_is HK.out.fit HXI1.out false false
          obtain ⟨C2, hC2⟩ := least_is HK.out.fit (names_in (L := L) (C := C1)) false false
          obtain ⟨C3, hC3⟩ := least_is HK.out.fit HXI1.out true false
          obtain ⟨C4, hC4⟩ := least_is HK.out.fit HXI1.out true true
          have HC0 := Lib.hid hC0
          have HC1' := Lib.hid hC1
          have HC2 := Lib.hid hC2
          have HC3 := Lib.hid hC3
          have HC4 := Lib.hid hC4
          have q1 : Hid ((namesIn L C0).all (has (namesIn L C1)) = true) := Lib.hid (within_names (hC0.more hC1 (fun a ha => List.mem_append_left _ ha) id id))
          have q2 : Hid (namesIn L C1 = namesIn L C2) := Lib.hid (again_names HK.out.fit HXI1.out hC1 hC2)
          have q3 : Hid ((namesIn L C1).all (has (namesIn L C3)) = true) := Lib.hid (within_names (hC1.more hC3 (fun a ha => ha) (fun h => by cases h) id))
          have q4 : Hid ((namesIn L C3).all (has (namesIn L C4)) = true) := Lib.hid (within_names (hC3.more hC4 (fun a ha => ha) id (fun h => by cases h)))
          have q5 : Hid ((xs ++ [p]).all (has (namesIn L C1)) = true) := Lib.hid (within_known hC1 HXI1.out)
          clear hC0 hC1 hC2 hC3 hC4 HP HFN HC1
          have HKr : Hid (Known wr g1 L) := Lib.hid (HK.out.below HBW.out)
          refine (all_least HKr.out HC0.out HXI.out (some ⟨ga, 0, none⟩) ca i HX.out.symm HO.out.ints.2).mono ?_
          rintro e w1 ⟨aa, na, ca2, rfl, hna, hoa, hb⟩
          have HK1 : Hid (Known w1 g1 L) := Lib.hid (HKr.out.below hb)
          have HB1 : Hid (Below ws2.heap.size ws2 w1) := Lib.hid (HBW.out.trans (hb.mono HBW.out.size))
          have HO1 : Hid (OwnI ws2.heap.size (.slice (some ⟨ga, 0, none⟩) i ca) xs w1) := Lib.hid (HO.out.below hb)
          have HOA : Hid (OwnI wr.heap.size (.slice aa na ca2) (namesIn L C0) w1) := Lib.hid hoa
          have HNA := Lib.hid hna
          have HGA : Hid (ga < wr.heap.size) := Lib.hid (World.ownsRow.lt HO.out ga rfl).2
          have hxl := HX.out
          have HRow : Hid (w1.ownsRow ws2.heap.size 3 1 (.slice (some ⟨ga, 0, none⟩) i ca) i (intsR xs)) := Lib.hid (by
            have h7 : w1.ownsRow ws2.heap.size 3 1 (.slice (some ⟨ga, 0, none⟩) i ca) xs.length (intsR xs) := HO1.out
            rw [hxl] at h7
            exact h7)
          have HNW : Hid ((w1.alloc (.cells #[.int .i64 p] 3)).heap[w1.heap.size]? = some (.cells #[.int .i64 p] 3 (0, 0))) := Lib.hid (heap_alloc_new w1 _)
          have A1 : Hid (i + 1 ≤ maxLen) := Lib.hid (by unfold maxLen; omega)
          have A2 : Hid ((i + 1) * 8 ≤ 140737488355328) := Lib.hid (by omega)
          have A4 : Hid ((w1.alloc (.cells #[.int .i64 p] 3)).heap.size = w1.heap.size + 1) := Lib.hid (by simp)
          have A3 : Hid (ws2.heap.size ≤ (w1.alloc (.cells #[.int .i64 p] 3)).heap.size) := Lib.hid (by have := A4.out; have := HB1.out.size; omega)
          clear hna hoa hb HO HKr hxl
          go_wp2_with fail
          refine (HK1.out.st.len (Below.refl _ _)).mono ?_
          rintro e w2 ⟨rfl, rfl⟩
          go_wp2_with (at_builtin; refine wpList_append_lies _ rfl _ _ 23 rfl ws2.heap.size 3 i0 (.int .i64 0) 1 8 Try.underlying23 hi0 hz0 hz1 hz2 rfl (by decide) _ _ _ rfl (HRow.out.alloc _) ⟨w1.heap.size, 0, none⟩ 1 1 [.int .i64 p] rfl rfl (World.news_of_block (cs := #[.int .i64 p]) (t := 3) (fr := (0, 0)) HNW.out) (by simp [Value.oneCell']) (by omega) A1.out A2.out A3.out (w1.heap.size + 1) A4.out ?_; intro g3 c3 w3 hown3 hgrow3 hat3 hlt3; have P1 := Lib.hid hown3; have P2 := Lib.hid hgrow3; clear hown3 hgrow3 hat3)
          have CH : Hid (Chg (fun k => some k = some ga) w1 w3) := Lib.hid ((Chg.alloc w1 _ _).trans (Chg.grown P2.out))
          have HB3 : Hid (Below ws2.heap.size ws2 w3) := Lib.hid (HB1.out.trans (CH.out.below (fun k e => by injection e with e; subst e; exact (World.ownsRow.lt HO1.out k rfl).1) HB1.out.size))
          have HO3 : Hid (IntsAt w3 (some ⟨g3, 0, none⟩) c3 (xs ++ [p])) := Lib.hid (by
            have h8 := OwnI.app (M := xs) (x := p) (g := g3) (cap := c3) (base := ws2.heap.size) (w' := w3) (by rw [HX.out]; exact P1.out)
            exact h8.ints.2)
          have HNK : Hid (i + 1 = (xs ++ [p]).length) := Lib.hid (by have := HX.out; simp; omega)
          have HA : Hid (IntsAt w3 aa ca2 (namesIn L C0)) := Lib.hid (HOA.out.chg CH.out (fun k hk e => by
            have h1 := (World.ownsRow.lt HOA.out k hk).1
            have h2 := HGA.out
            injection e with e
            omega)).ints.2
          have HK3 : Hid (Known w3 g1 L) := Lib.hid (HK.out.below HB3.out)
          have HBw : Hid (Below w.heap.size w w3) := Lib.hid (HB.out.trans (HB3.out.mono HB.out.size))
          clear P1 P2 HRow HNW A1 A2 A3 A4 HO1 HOA CH HB1 HK1 HB3
          refine (all_least HK3.out HC1'.out HXI1.out (some ⟨g3, 0, none⟩) c3 (i + 1) HNK.out HO3.out).mono ?_
          rintro e w4 ⟨ab, nb, cb, rfl, hn, ho, hb⟩
          replace HBw : Hid (Below w.heap.size w w4) := Lib.hid (HBw.out.trans (hb.mono HBw.out.size))
          replace HK3 : Hid (Known w4 g1 L) := Lib.hid (HK3.out.below hb)
          replace HA := Lib.hid (HA.out.below hb)
          replace HO3 := Lib.hid (HO3.out.below hb)
          have Hb := Lib.hid ho.ints.2
          have Nb := Lib.hid hn
          clear hn ho hb
          go_wp2_with fail
          refine (all_least HK3.out HC2.out names_in ab cb nb Nb.out Hb.out).mono ?_
          rintro e w5 ⟨ac, nc, cc, rfl, hn, ho, hb⟩
          replace HBw : Hid (Below w.heap.size w w5) := Lib.hid (HBw.out.trans (hb.mono HBw.out.size))
          replace HK3 : Hid (Known w5 g1 L) := Lib.hid (HK3.out.below hb)
          replace HA := Lib.hid (HA.out.below hb)
          replace HO3 := Lib.hid (HO3.out.below hb)
          replace Hb := Lib.hid (Hb.out.below hb)
          have Hc := Lib.hid ho.ints.2
          have Nc := Lib.hid hn
          clear hn ho hb
          go_wp2_with fail
          refine (all_least HK3.out HC3.out HXI1.out (some ⟨g3, 0, none⟩) c3 (i + 1) HNK.out HO3.out).mono ?_
          rintro e w6 ⟨ad, nd, cd, rfl, hn, ho, hb⟩
          replace HBw : Hid (Below w.heap.size w w6) := Lib.hid (HBw.out.trans (hb.mono HBw.out.size))
          replace HK3 : Hid (Known w6 g1 L) := Lib.hid (HK3.out.below hb)
          replace HA := Lib.hid (HA.out.below hb)
          replace HO3 := Lib.hid (HO3.out.below hb)
          replace Hb := Lib.hid (Hb.out.below hb)
          replace Hc := Lib.hid (Hc.out.below hb)
          have Hd := Lib.hid ho.ints.2
          have Nd := Lib.hid hn
          clear hn ho hb
          go_wp2_with fail
          refine (all_least HK3.out HC4.out HXI1.out (some ⟨g3, 0, none⟩) c3 (i + 1) HNK.out HO3.out).mono ?_
          rintro e w7 ⟨av, nv, cv, rfl, hn, ho, hb⟩
          replace HBw : Hid (Below w.heap.size w w7) := Lib.hid (HBw.out.trans (hb.mono HBw.out.size))
          replace HK3 : Hid (Known w7 g1 L) := Lib.hid (HK3.out.below hb)
          replace HA := Lib.hid (HA.out.below hb)
          replace HO3 := Lib.hid (HO3.out.below hb)
          replace Hb := Lib.hid (Hb.out.below hb)
          replace Hc := Lib.hid (Hc.out.below hb)
          replace Hd := Lib.hid (Hd.out.below hb)
          have Hv := Lib.hid ho.ints.2
          have Nv := Lib.hid hn
          clear hn ho hb
          go_wp2_with fail
          rw [HNA.out, Nb.out]
          refine (within_k aa ab ca2 cb _ _ w7 HA.out Hb.out).mono ?_
          rintro e w8 ⟨rfl, q, hq⟩
          have hb : Below w7.heap.size w7 w8 := by rw [hq]; exact drewN_below w7 q
          rw [q1.out]
          replace HBw : Hid (Below w.heap.size w w8) := Lib.hid (HBw.out.trans (hb.mono HBw.out.size))
          replace HA := Lib.hid (HA.out.below hb)
          replace HO3 := Lib.hid (HO3.out.below hb)
          replace Hb := Lib.hid (Hb.out.below hb)
          replace Hc := Lib.hid (Hc.out.below hb)
          replace Hd := Lib.hid (Hd.out.below hb)
          replace Hv := Lib.hid (Hv.out.below hb)
          clear hb hq
          go_wp2_with fail
          rw [Nc.out]
          refine (same_k ab ac cb cc _ _ w8 Hb.out Hc.out).mono ?_
          rintro e w9 ⟨rfl, q, hq⟩
          have hb : Below w8.heap.size w8 w9 := by rw [hq]; exact drewN_below w8 q
          rw [decide_eq_true q2.out]
          replace HBw : Hid (Below w.heap.size w w9) := Lib.hid (HBw.out.trans (hb.mono HBw.out.size))
          replace HA := Lib.hid (HA.out.below hb)
          replace HO3 := Lib.hid (HO3.out.below hb)
          replace Hb := Lib.hid (Hb.out.below hb)
          replace Hc := Lib.hid (Hc.out.below hb)
          replace Hd := Lib.hid (Hd.out.below hb)
          replace Hv := Lib.hid (Hv.out.below hb)
          clear hb hq
          go_wp2_with fail
          rw [Nd.out]
          refine (within_k ab ad cb cd _ _ w9 Hb.out Hd.out).mono ?_
          rintro e w10 ⟨rfl, q, hq⟩
          have hb : Below w9.heap.size w9 w10 := by rw [hq]; exact drewN_below w9 q
          rw [q3.out]
          replace HBw : Hid (Below w.heap.size w w10) := Lib.hid (HBw.out.trans (hb.mono HBw.out.size))
          replace HA := Lib.hid (HA.out.below hb)
          replace HO3 := Lib.hid (HO3.out.below hb)
          replace Hb := Lib.hid (Hb.out.below hb)
          replace Hc := Lib.hid (Hc.out.below hb)
          replace Hd := Lib.hid (Hd.out.below hb)
          replace Hv := Lib.hid (Hv.out.below hb)
          clear hb hq
          go_wp2_with fail
          rw [Nv.out]
          refine (within_k ad av cd cv _ _ w10 Hd.out Hv.out).mono ?_
          rintro e w11 ⟨rfl, q, hq⟩
          have hb : Below w10.heap.size w10 w11 := by rw [hq]; exact drewN_below w10 q
          rw [q4.out]
          replace HBw : Hid (Below w.heap.size w w11) := Lib.hid (HBw.out.trans (hb.mono HBw.out.size))
          replace HA := Lib.hid (HA.out.below hb)
          replace HO3 := Lib.hid (HO3.out.below hb)
          replace Hb := Lib.hid (Hb.out.below hb)
          replace Hc := Lib.hid (Hc.out.below hb)
          replace Hd := Lib.hid (Hd.out.below hb)
          replace Hv := Lib.hid (Hv.out.below hb)
          clear hb hq
          go_wp2_with fail
          rw [HNK.out]
          refine (within_k (some ⟨g3, 0, none⟩) ab c3 cb _ _ w11 HO3.out Hb.out).mono ?_
          rintro e w12 ⟨rfl, q, hq⟩
          have hb : Below w11.heap.size w11 w12 := by rw [hq]; exact drewN_below w11 q
          rw [q5.out]
          replace HBw : Hid (Below w.heap.size w w12) := Lib.hid (HBw.out.trans (hb.mono HBw.out.size))
          replace HA := Lib.hid (HA.out.below hb)
          replace HO3 := Lib.hid (HO3.out.below hb)
          replace Hb := Lib.hid (Hb.out.below hb)
          replace Hc := Lib.hid (Hc.out.below hb)
          replace Hd := Lib.hid (Hd.out.below hb)
          replace Hv := Lib.hid (Hv.out.below hb)
          clear hb hq
          go_wp2_with fail
          refine (fixed_any _).mono ?_
          rintro e wz ⟨rfl, hb⟩
          go_wp2_with fail
          go_ret
          exact ⟨rfl, HBw.out.trans (hb.mono HBw.out.size)⟩
set_option maxRecDepth 100000 in
theorem lifted (os : Os) (started : os.Started) (H : Type) (enc : TypeId × Value → H) :
    ReturnsInHanded {} Try.checked os 4 .any (Rows.knowGrowsSpec.pre6 enc Try.prog Try.f4 Rows.knowGrowsRow.domain false) (Rows.knowGrowsSpec.post enc Try.prog Try.f4 false true false false) := by
  refine returnsInHanded_of_change (C := Try.checked) own started (by kernel_rfl) Try.func4
    (ChangeSpec.witness6 (enc := enc) (C := Try.checked) false ⟨#[], #[.slice none 0 0, .slice none 0 0, .int .u8 0], []⟩ 8 (by kernel_rfl) (by kernel_rfl) (by kernel_rfl) (by kernel_rfl)) ?_
  intro W base args ds gs before hval0 hW hcnd _
  have hval : ∀ (j : Nat) t v, Try.f4.params[j]? = some t → args[j]? = some v → Value.okWide Try.prog W .any base t v := hval0
  have hW' := hW
  obtain ⟨p, q, hA0, hV, rfl, hfz, hnd⟩ := hW
  have hA : DataW.TrodAll enc Try.prog W 0 (fun _ => true) true Try.f4.params.toList args.toList ds p := hA0
  rw [Try.params4] at hA hval
  obtain ⟨v0, vs0, d0, ds0, p0, q0, hargs, rfl, rfl, h0, r0⟩ := trodAll_cons hA
  obtain ⟨v1, vs1, d1, ds1, p1, q1, rfl, rfl, rfl, h1, r1⟩ := trodAll_cons r0
  obtain ⟨v2, vs2, d2, ds2, p2, q2, rfl, rfl, rfl, h2, r2⟩ := trodAll_cons r1
  obtain ⟨rfl, rfl, rfl⟩ := trodAll_nil r2
  obtain rfl : args = #[v0, v1, v2] := by cases args; simp_all
  obtain ⟨rfl, rfl⟩ := trodVars_none hV
  obtain ⟨a0, len0, cap0, rfl⟩ := okWide_slice Try.underlying22 (hval 0 22 v0 rfl rfl)
  have k0 := h0
  have lt0 : ∀ x ∈ p0, x.block < W.heap.size := by obtain ⟨m, hm⟩ := k0; exact DataW.trod_lt m _ _ _ hm
  obtain ⟨T0, w0⟩ : ∃ T, Terms W a0 len0 cap0 T := by
    obtain ⟨fuel, hf⟩ := h0
    exact open_terms (by simpa [Value.cells] using hf)
  obtain ⟨a1, len1, cap1, rfl⟩ := okWide_slice Try.underlying41 (hval 1 41 v1 rfl rfl)
  have k1 := h1
  have lt1 : ∀ x ∈ p1, x.block < W.heap.size := by obtain ⟨m, hm⟩ := k1; exact DataW.trod_lt m _ _ _ hm
  obtain ⟨z1, w1⟩ : ∃ zs, IsRow .u8 W a1 len1 cap1 zs := by
    obtain ⟨fuel, hf⟩ := h1
    rcases open_ints Try.underlying41 Try.underlying5 (by kernel_rfl) hf with ⟨hcs, _⟩ | ⟨x, l, c, zs, hcs, _, hl, hm, hz, _, hcell, hwz⟩
    · simp [Value.cells] at hcs
      obtain ⟨rfl, rfl, rfl⟩ := hcs
      exact ⟨[], .inl ⟨rfl, rfl, rfl, rfl⟩⟩
    · simp [Value.cells] at hcs
      obtain ⟨rfl, rfl, rfl⟩ := hcs
      exact ⟨zs, .inr ⟨_, rfl, hl, hm, by simpa using hz, hcell, hwz⟩⟩
  obtain ⟨a2, rfl, rfl, rfl, w2⟩ := open_int Try.underlying5 (hval 2 5 v2 rfl rfl) h2
  clear hA0 hval0
  refine (walk a0 len0 cap0 T0 a1 len1 cap1 z1 a2 W w0 w1 w2).mono fun e W' ⟨he, bel⟩ => ?_
  subst he
  exact ⟨_, rfl, _, _, _, [], _, [], hW', trodAll_mk1 (shut_bool Try.underlying4 _), (trodAll_cons_mk (Below.trod laidOut (by kernel_rfl) (of_decide_eq_true (by kernel_rfl)) k0 bel lt0) (trodAll_cons_mk (Below.trod laidOut (by kernel_rfl) (of_decide_eq_true (by kernel_rfl)) k1 bel lt1) (trodAll_cons_mk (shut_int Try.underlying5 w2) trodAll_mk0))), rfl, bel.frame _, fun h => by cases h⟩

theorem over : Rows.knowGrowsRow.holds Try.pinned (OpenSpec.ofChange Rows.knowGrowsSpec) :=
  OpenClaim.holds_of_wide 4 Try.f4 rfl rfl rfl rfl rfl rfl rfl ⟨rfl, rfl, rfl, rfl, rfl⟩ rfl rfl rfl rfl rfl (by kernel_rfl) Try.func4 (by kernel_rfl)
    (of_decide_eq_true (by kernel_rfl)) (by unfold Func.isWrapper; first | (rw [if_pos (by decide +kernel)]; kernel_rfl) | (rw [if_neg (by decide +kernel)]; exact ⟨rfl, rfl⟩))
    (fun os started H enc _ => lifted os started H enc)

theorem proved : Rows.KnowGrowsSaid := over
#print axioms proved
end Go.Proofs.Ytdhfnbajmjmlbaa.knowGrows
