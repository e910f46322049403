/- KnowHides: for every row of terms, of what is known: a Nonce that is not known, and is sealed in nothing, nor in a Pair, can not be made. -/
import Derived.Test.YtdhfnbajmjmlbaaRows
import Derived.Test.YtdhfnbajmjmlbaaKnowHi
import Derived.WalkKit
import Derived.ProofKit
import Derived.OpenShut
import Derived.ShutString
import Derived.ChangeOld
import Derived.Below
import Derived.Test.YtdhfnbajmjmlbaaOpens
namespace Go.Proofs.Ytdhfnbajmjmlbaa.knowHides
open Go.ChangeShapes Go.WideShapes Go.ChangeAt Go.RowKit
open Go.ChangeMaps (open_string shut_string)
open Go.Proofs.Ytdhfnbajmjmlbaa
set_option linter.unusedVariables false
set_option linter.unusedSimpArgs false
set_option maxRecDepth 20000

theorem own : ownKnob Try.prog.godebug = none := by kernel_rfl
theorem laidOut : laidOutB Try.prog = true := by kernel_rfl

/-- A row of integers that came in, or nil. -/
def IsRow (k : IntKind) (w : World) (a : Option Addr) (len cap : Nat) (zs : List Int) : Prop :=
  (a = none ∧ len = 0 ∧ cap = 0 ∧ zs = []) ∨
  ∃ x, a = some x ∧ len ≤ cap ∧ cap ≤ maxLen ∧ zs.length = cap ∧ (∀ i, i < zs.length → w.cell? (x.add i) = some (.int k (zs.getD i 0))) ∧ ∀ n ∈ zs, (Lit.int k n).wf = true

theorem IsRow.plain {k : IntKind} {w : World} {a : Option Addr} {len cap : Nat} {zs : List Int} (h : IsRow k w a len cap zs) : len ≤ cap ∧ cap ≤ maxLen ∧ zs.length = cap ∧ ∃ b off, ∀ i, i < len → a = some ⟨b, off, none⟩ ∧ w.cell? ⟨b, off + i, none⟩ = some (.int k (zs.getD i 0)) ∧ (Lit.int k (zs.getD i 0)).wf = true := by
  rcases h with ⟨rfl, rfl, rfl, rfl⟩ | ⟨x, rfl, hl, hm, hz, hc, hw⟩
  · exact ⟨Nat.le_refl _, Nat.zero_le _, rfl, 0, 0, fun i hi => absurd hi (Nat.not_lt_zero _)⟩
  · by_cases hp : 0 < zs.length
    · obtain ⟨b, off, rfl, hcell⟩ := ints_at hc hp
      exact ⟨hl, hm, hz, b, off, fun i hi => ⟨rfl, hcell i (by omega), hw _ (getD_mem (by omega))⟩⟩
    · exact ⟨hl, hm, hz, 0, 0, fun i hi => by omega⟩

set_option maxHeartbeats 8000000 in
set_option maxRecDepth 100000 in
theorem walk (a0 : Option Addr) (len0 cap0 : Nat) (T0 : Nat → Tm) (a1 : Option Addr) (len1 cap1 : Nat) (z1 : List Int) (w : World) (w0 : Terms w a0 len0 cap0 T0) (w1 : IsRow .u8 w a1 len1 cap1 z1) :
    Calls Try.prog 5 #[.slice a0 len0 cap0, .slice a1 len1 cap1] w fun e w' => e = .returned (.bool true) ∧ Below w.heap.size w w' := by
  have HT := Lib.hid w0
  obtain ⟨hl1, hm1, hz1, bk, ok, hc1⟩ := w1.plain
  have HC1 := Lib.hid hc1
  unfold maxLen at hm1
  clear w0 w1 hc1 hz1
  go_enter Try.func5, Try.ntmps5
  go_wp2_with fail
  refine (stores_fine 30 a0 len0 cap0 T0 _ (by omega) HT.out).mono ?_
  rintro e ws ⟨g1, g2, L, rfl, hL, hfine, hp⟩
  have HK : Hid (Known ws g1 L) := Lib.hid (hp.known hfine)
  have HB : Hid (Below w.heap.size w ws) := Lib.hid hp.belowW
  have HP := Lib.hid hp
  have HFN := Lib.hid hfine
  have hLn : L.length ≤ 30 := hL
  clear hp hL HT hfine
  by_cases hn : L.length = 0
  · have hl0 : ((L.length : Int) == 0) = true := by simp [hn]
    clear hn
    go_wp2_with fail
    refine (HK.out.st.len (Below.refl _ _)).mono ?_
    rintro e w2 ⟨rfl, rfl⟩
    go_wp2_with fail
    refine (fixed_any _).mono ?_
    rintro e w3 ⟨rfl, hb3⟩
    go_wp2
    go_ret
    exact ⟨rfl, HB.out.trans (hb3.mono HB.out.size)⟩
  · have hl0 : ((L.length : Int) == 0) = false := by simpa using hn
    have hn1 : (0 : Int) < L.length := by omega
    have hn2 : (L.length : Int) ≤ 30 := by omega
    have hn3 : 0 < L.length := by omega
    have hL0 : ¬ L = [] := fun e => by rw [e] at hn3; simp at hn3
    clear hn
    go_wp2_with fail
    refine (HK.out.st.len (Below.refl _ _)).mono ?_
    rintro e w2 ⟨rfl, rfl⟩
    go_wp2_with fail
    obtain ⟨ws2, hws2⟩ : ∃ ws2, ws2 = ws := ⟨_, rfl⟩
    rw [← hws2] at HK HB HP ⊢
    clear hws2
    have HK2 := HK
    have HB2 := HB
    have HOW0 : True := trivial
    have HBW0 : True := trivial
    have gP := PSq.good w.heap.size g1 1000
    have gR := RSq.good w.heap.size g2 1000
    obtain ⟨i0, hi0, hz0, hz1, hz2⟩ := info_parts info3
    go_loopw [7, 8] (fun s9 s10 wr => ∃ (i ga ca : Nat) (xs : List Int), i ≤ 10 ∧ i ≤ len1 ∧ s10 = .int .i64 i ∧ s9 = .slice (some ⟨ga, 0, none⟩) i ca ∧ Hid (xs.length = i) ∧ Hid (∀ x, x ∈ xs → InL L x) ∧ Hid (OwnI ws2.heap.size (.slice (some ⟨ga, 0, none⟩) i ca) xs wr) ∧ Hid (Below ws2.heap.size ws2 wr)) (fun _ s10 _ => 10 - (intOf s10).toNat)
    case atStart => exact ⟨0, ws2.heap.size, 0, [], by omega, by omega, rfl, rfl, Lib.hid rfl, Lib.hid (by simp), Lib.hid (OwnI.new ws2 (Nat.le_refl _)), Lib.hid (below_alloc _ _)⟩
    case round =>
      clear HBW0 HOW0
      obtain ⟨i, ga, ca, xs, hi, hi2, rfl, rfl, HX, HXI, HO, HBW⟩ := hrel
      by_cases hlt : i < len1 ∧ i < 10
      · obtain ⟨hlt1, hlt2⟩ := hlt
        obtain ⟨rfl, q0, hwfy⟩ := HC1.out i hlt1
        obtain ⟨y, hy⟩ : ∃ y, y = z1.getD i 0 := ⟨_, rfl⟩
        rw [← hy] at q0 hwfy
        have HBall : Hid (Below w.heap.size w wr) := Lib.hid (HB2.out.trans (HBW.out.mono HB2.out.size))
        have hbl0 := block_lt_of_cell q0
        have qy : wr.cell? ⟨bk, ok + i, none⟩ = some (.int .u8 y) := (HBall.out.cell hbl0).trans q0
        have HBL : Hid (bk < wr.heap.size) := Lib.hid (block_lt_of_cell qy)
        have HBKN : Hid (bk ≠ ga) := Lib.hid (fun e => by have h1 := (World.ownsRow.lt HO.out ga rfl).1; have h2 := HB2.out.size; have h3 : bk < w.heap.size := hbl0; omega)
        obtain ⟨p, hp⟩ : ∃ p, wrap64 (1 + (wrap64 y).tmod (L.length : Int)) = p := ⟨_, rfl⟩
        have HPI : Hid (InL L p) := Lib.hid (by rw [← hp]; exact pick_InL hwfy hn3 (by omega))
        have hp2 : IntKind.i64.wrap (1 + (IntKind.i64.wrap y).tmod (L.length : Int)) = p := by rw [IntWalk.i64_left, IntWalk.i64_left]; exact hp
        have hxl := HX.out
        have HRow : Hid (wr.drew.ownsRow ws2.heap.size 3 1 (.slice (some ⟨ga, 0, none⟩) i ca) i (intsR xs)) := Lib.hid (by
          have h5 : OwnI ws2.heap.size (.slice (some ⟨ga, 0, none⟩) i ca) xs wr.drew := HO.out.below (drewN_below wr 1)
          have h7 : wr.drew.ownsRow ws2.heap.size 3 1 (.slice (some ⟨ga, 0, none⟩) i ca) xs.length (intsR xs) := h5
          rw [hxl] at h7
          exact h7)
        have HNW : Hid ((wr.drew.alloc (.cells #[.int .i64 p] 3)).heap[wr.heap.size]? = some (.cells #[.int .i64 p] 3 (0, 0))) := Lib.hid (heap_alloc_new wr.drew _)
        have B1 : Hid (i + 1 ≤ maxLen) := Lib.hid (by unfold maxLen; omega)
        have B2 : Hid ((i + 1) * 8 ≤ 140737488355328) := Lib.hid (by omega)
        have B4 : Hid ((wr.drew.alloc (.cells #[.int .i64 p] 3)).heap.size = wr.heap.size + 1) := Lib.hid (size_drew_alloc _ _)
        have B3 : Hid (ws2.heap.size ≤ (wr.drew.alloc (.cells #[.int .i64 p] 3)).heap.size) := Lib.hid (by have := B4.out; have := HBW.out.size; omega)
        have e1 : decide (i < len1) = true := by simpa using hlt1
        have e2 : decide (i < 10) = true := by simpa using hlt2
        have e3 : decide ((i : Int) < 10) = true := decide_eq_true (by omega)
        have hi3 : (i : Int) < (len1 : Int) := by omega
        have HI := Lib.hid (And.intro hlt1 hlt2)
        have hS0 : wr.drew.cell? ⟨bk, ok + i, none⟩ = some (.int .u8 y) := qy
        have HLEN : Hid (∀ w2, Hid (Below wr.heap.size wr w2) → Calls Try.prog 18 #[.pointer (some ⟨g1, 0, none⟩)] w2 fun e W2 => e = .returned (.int .i64 L.length) ∧ w2 = W2) := Lib.hid (fun w2 hb => (HK2.out.st.below HBW.out).len hb.out)
        have HBD : Hid (Below wr.heap.size wr wr.drew) := Lib.hid (drewN_below wr 1)
        clear hy q0 hlt1 hlt2 hi hi2 hbl0 hwfy hxl
        go_wp2_with fail
        refine wp_region_held_drew (S := (fun w' => w'.cell? ⟨bk, ok + i, none⟩ = some (.int .u8 y))) (by kernel_rfl) hS0 (fun hHeld => ?_)
        refine wpAnyH_take (i := 0) (oi := ?o1) (v := ?v1) ?i1 (by kernel_rfl) (by kernel_rfl) (by kernel_rfl) ?q1 (Or.inl ⟨?w1, ?y1⟩) (by assumption) ?r1
        case' i1 => simp only [List.getElem?_toArray, List.getElem?_cons_succ, List.getElem?_cons_zero]
        case i1 => rfl
        case q1 => exact fun _ _ _ h => h
        case w1 => rfl
        case y1 => (intro w hSw; (try dsimp only at hSw); go_simp) <;> with_reducible rfl
        try simp only [Act.put, List.setIfInBounds_toArray, List.set_cons_zero, List.set_cons_succ]
        refine wpAnyH_take (i := 1) (oi := ?o2) (v := ?v2) ?i2 (by kernel_rfl) (by kernel_rfl) (by kernel_rfl) ?q2 (Or.inl ⟨?w2, ?y2⟩) (by assumption) ?r2
        case' i2 => simp only [List.getElem?_toArray, List.getElem?_cons_succ, List.getElem?_cons_zero]
        case i2 => rfl
        case q2 => exact fun _ _ _ h => h
        case w2 => rfl
        case y2 => (intro w hSw; (try dsimp only at hSw); go_simp) <;> with_reducible rfl
        try simp only [Act.put, List.setIfInBounds_toArray, List.set_cons_zero, List.set_cons_succ]
        refine wpAnyH_take (i := 2) (oi := ?o3) (v := ?v3) ?i3 (by kernel_rfl) (by kernel_rfl) (by kernel_rfl) ?q3 (Or.inl ⟨?w3, ?y3⟩) (by assumption) ?r3
        case' i3 => simp only [List.getElem?_toArray, List.getElem?_cons_succ, List.getElem?_cons_zero]
        case i3 => rfl
        case q3 => exact fun _ _ _ h => h
        case w3 => rfl
        case y3 => (intro w hSw; (try dsimp only at hSw); go_simp) <;> with_reducible rfl
        try simp only [Act.put, List.setIfInBounds_toArray, List.set_cons_zero, List.set_cons_succ]
        refine wpAnyH_take (i := 3) (oi := ?o4) (v := ?v4) ?i4 (by kernel_rfl) (by kernel_rfl) (by kernel_rfl) ?q4 (Or.inl ⟨?w4, ?y4⟩) (by assumption) ?r4
        case' i4 => simp only [List.getElem?_toArray, List.getElem?_cons_succ, List.getElem?_cons_zero]
        case i4 => rfl
        case q4 => exact fun _ _ _ h => h
        case w4 => rfl
        case y4 => (intro w hSw; (try dsimp only at hSw); go_simp) <;> with_reducible rfl
        try simp only [Act.put, List.setIfInBounds_toArray, List.set_cons_zero, List.set_cons_succ]
        refine wpAnyH_take (i := 4) (oi := ?o5) (v := ?v5) ?i5 (by kernel_rfl) (by kernel_rfl) (by kernel_rfl) ?q5 (Or.inl ⟨?w5, ?y5⟩) (by assumption) ?r5
        case' i5 => simp only [List.getElem?_toArray, List.getElem?_cons_succ, List.getElem?_cons_zero]
        case i5 => rfl
        case q5 => exact fun _ _ _ h => h
        case w5 => rfl
        case y5 => (intro w hSw; (try dsimp only at hSw); go_simp) <;> with_reducible rfl
        try simp only [Act.put, List.setIfInBounds_toArray, List.set_cons_zero, List.set_cons_succ]
        refine wpAnyH_take (i := 5) (oi := ?o6) (v := ?v6) ?i6 (by kernel_rfl) (by kernel_rfl) (by kernel_rfl) ?q6 (Or.inl ⟨?w6, ?y6⟩) (by assumption) ?r6
        case' i6 => simp only [List.getElem?_toArray, List.getElem?_cons_succ, List.getElem?_cons_zero]
        case i6 => rfl
        case q6 => exact fun _ _ _ h => h
        case w6 => rfl
        case y6 => (intro w hSw; (try dsimp only at hSw); go_simp) <;> with_reducible rfl
        try simp only [Act.put, List.setIfInBounds_toArray, List.set_cons_zero, List.set_cons_succ]
        refine wpAnyH_take (i := 6) (oi := ?o7) (v := ?v7) ?i7 (by kernel_rfl) (by kernel_rfl) (by kernel_rfl) ?q7 (Or.inl ⟨?w7, ?y7⟩) (by assumption) ?r7
        case' i7 => simp only [List.getElem?_toArray, List.getElem?_cons_succ, List.getElem?_cons_zero]
        case i7 => rfl
        case q7 => exact fun _ _ _ h => h
        case w7 => rfl
        case y7 => (intro w hSw; (try dsimp only at hSw); go_simp) <;> with_reducible rfl
        try simp only [Act.put, List.setIfInBounds_toArray, List.set_cons_zero, List.set_cons_succ]
        refine wpAnyH_ready (rs := [7]) (by kernel_rfl) (by simp) ?_
        refine AllReadyH.cons (o := ?o8) ?i8 (fun K' hK => ?_) AllReadyH.nil
        case' i8 => simp only [List.getElem?_toArray, List.getElem?_cons_succ, List.getElem?_cons_zero]
        case i8 => rfl
        go_simp
        go_at_call 18
        refine (HLEN.out _ HBD).mono ?_
        rintro e wX ⟨rfl, rfl⟩
        go_wp2_with fail
        refine hK.out _ _ hS0 (fun hHeld => ?_)
        clear hK K'
        try simp only [Act.put, List.setIfInBounds_toArray, List.set_cons_zero, List.set_cons_succ]
        refine wpAnyH_take (i := 8) (oi := ?o9) (v := ?v9) ?i9 (by kernel_rfl) (by kernel_rfl) (by kernel_rfl) ?q9 (Or.inl ⟨?w9, ?y9⟩) (by assumption) ?r9
        case' i9 => simp only [List.getElem?_toArray, List.getElem?_cons_succ, List.getElem?_cons_zero]
        case i9 => rfl
        case q9 => exact fun _ _ _ h => h
        case w9 => rfl
        case y9 => (intro w hSw; (try dsimp only at hSw); go_simp) <;> with_reducible rfl
        try simp only [Act.put, List.setIfInBounds_toArray, List.set_cons_zero, List.set_cons_succ]
        refine wpAnyH_take (i := 9) (oi := ?o10) (v := ?v10) ?i10 (by kernel_rfl) (by kernel_rfl) (by kernel_rfl) ?q10 (Or.inl ⟨?w10, ?y10⟩) (by assumption) ?r10
        case' i10 => simp only [List.getElem?_toArray, List.getElem?_cons_succ, List.getElem?_cons_zero]
        case i10 => rfl
        case q10 => exact fun _ _ _ h => h
        case w10 => rfl
        case y10 => (intro w hSw; (try dsimp only at hSw); go_simp) <;> with_reducible rfl
        try simp only [Act.put, List.setIfInBounds_toArray, List.set_cons_zero, List.set_cons_succ]
        refine wpAnyH_ready (rs := [10]) (by kernel_rfl) (by simp) ?_
        refine AllReadyH.cons (o := ?o11) ?i11 (fun K' hK => ?_) AllReadyH.nil
        case' i11 => simp only [List.getElem?_toArray, List.getElem?_cons_succ, List.getElem?_cons_zero]
        case i11 => rfl
        go_simp
        refine hK.out _ _ (by show (wr.alloc _).cell? _ = _; rw [World.cell?_alloc_past (hn := HBL.out)]; exact qy) (fun hHeld => ?_)
        clear hK K'
        try simp only [Act.put, List.setIfInBounds_toArray, List.set_cons_zero, List.set_cons_succ]
        refine wpAnyH_ready (rs := [11]) (by kernel_rfl) (by simp) ?_
        refine AllReadyH.cons (o := ?o12) ?i12 (fun K' hK => ?_) AllReadyH.nil
        case' i12 => simp only [List.getElem?_toArray, List.getElem?_cons_succ, List.getElem?_cons_zero]
        case i12 => rfl
        refine step_append_lies _ rfl (.tmp 49) (.tmp 59) 23 rfl ws2.heap.size 3 i0 (.int .i64 0) 1 8 Try.underlying23 hi0 hz0 hz1 hz2 rfl (by decide) _ _ _ rfl (HRow.out.alloc _) ⟨wr.heap.size, 0, none⟩ 1 1 [.int .i64 p] rfl rfl (World.news_of_block (cs := #[.int .i64 p]) (t := 3) (fr := (0, 0)) HNW.out) (by simp [Value.oneCell']) (by omega) B1.out B2.out B3.out (wr.heap.size + 1) B4.out ?_
        intro g3 cap4 w6 hown6 hgrow6 hat6 hlt6
        refine hK.out _ _ (by rw [World.cell?_of_block (a := ⟨bk, ok + i, none⟩) (hgrow6.block bk (by rw [size_alloc_drew]; have := HBL.out; omega) (fun e => HBKN.out (by injection e with e)))]; show (wr.alloc _).cell? _ = _; rw [World.cell?_alloc_past (hn := HBL.out)]; exact qy) (fun hHeld => ?_)
        clear hK K'
        try simp only [Act.put, List.setIfInBounds_toArray, List.set_cons_zero, List.set_cons_succ]
        refine wpAnyH_take (i := 12) (oi := ?o13) (v := ?v13) ?i13 (by kernel_rfl) (by kernel_rfl) (by kernel_rfl) ?q13 (Or.inl ⟨?w13, ?y13⟩) (by assumption) ?r13
        case' i13 => simp only [List.getElem?_toArray, List.getElem?_cons_succ, List.getElem?_cons_zero]
        case i13 => rfl
        case q13 => exact fun _ _ _ h => h
        case w13 => rfl
        case y13 => (intro w hSw; (try dsimp only at hSw); go_simp) <;> with_reducible rfl
        try simp only [Act.put, List.setIfInBounds_toArray, List.set_cons_zero, List.set_cons_succ]
        refine wpAnyH_done (by kernel_rfl) ?_ _
        have C6 : Chg (fun k => some k = some ga) wr w6 := (Chg.drew wr _).trans ((Chg.alloc wr.drew _ _).trans (Chg.grown hgrow6))
        have HO6 : Hid (OwnI ws2.heap.size (.slice (some ⟨g3, 0, none⟩) (i + 1) cap4) (xs ++ [p]) w6) := Lib.hid (by
          have h8 := OwnI.app (M := xs) (x := p) (g := g3) (cap := cap4) (base := ws2.heap.size) (w' := w6) (by rw [HX.out]; exact hown6)
          rw [HX.out] at h8
          exact h8)
        go_wp2_with fail
        go_roundw
        case rel => exact ⟨i + 1, g3, cap4, xs ++ [p], by have := HI.out; omega, by have := HI.out; omega, by go_num, rfl, Lib.hid (by have := HX.out; simp; omega), Lib.hid (fun x hx => by
          rcases List.mem_append.1 hx with q | q
          · exact HXI.out x q
          · rw [List.mem_singleton.1 q]; exact HPI.out), HO6, Lib.hid (HBW.out.trans (C6.below (fun k e => by injection e with e; subst e; exact (World.ownsRow.lt HO.out k rfl).1) HBW.out.size))⟩
        case measure => have := HI.out; simp [intOf]; omega
      · have e12 : decide (i < len1) = false ∨ (decide (i < len1) = true ∧ decide ((i : Int) < 10) = false) := by
          simp only [decide_eq_false_iff_not, decide_eq_true_eq]
          omega
        have hi3 : (i : Int) ≤ 10 := by omega
        have hi4 : i ≤ 10 := hi
        clear hlt hi hi2
        rcases e12 with e1 | ⟨e1, e2⟩
        all_goals
          go_wp2_with fail
          obtain ⟨x, y, p, h, L1, L2, L3, L4, e1, e2, e3, e4, F4, l4, ix, iy, hlast⟩ := hides_math HFN.out HK.out.fit hn3 hLn
          have E1 := Lib.hid e1
          have E2 := Lib.hid e2
          have E3 := Lib.hid e3
          have E4 := Lib.hid e4
          have HF4 := Lib.hid F4
          have HI1 := Lib.hid ix
          have HI2 := Lib.hid iy
          have HLAST := Lib.hid hlast
          have hgb := World.ownsRow.lt HO.out ga rfl
          have HP2 : Hid (Pair w.heap.size (PSq w.heap.size g1 1000) (RSq w.heap.size g2 1000) L L (fun k => False ∨ k = ga) w wr) := Lib.hid (HP.out.keepNew gP gR HBW.out hgb.1 hgb.2)
          have HKr : Hid (Known wr g1 L) := Lib.hid (HK.out.below HBW.out)
          clear e1 e2 e3 e4 F4 ix iy hlast hgb HP HFN
          refine (HKr.out.st.len (Below.refl _ _)).mono ?_
          rintro e w2 ⟨rfl, rfl⟩
          go_wp2_with fail
          refine (HP2.out.putP gR ⟨2, ⟨#[]⟩, 1099511627776, 0, 0, 0⟩ (wf_nonce (by decide)) E1.out).mono ?_
          rintro e w3 ⟨rfl, hp, hk⟩
          have HP3 := Lib.hid hp
          replace HO : Hid (OwnI ws2.heap.size (.slice (some ⟨ga, 0, none⟩) i ca) xs w3) := Lib.hid (HO.out.same_block (hk ga (.inr rfl)))
          clear hp hk HP2
          go_wp2_with fail
          refine (HP3.out.putP gR ⟨9, ⟨#[]⟩, 1, x, 0, 0⟩ (show Wf ⟨9, ⟨#[]⟩, 1, x, 0, 0⟩ from ⟨wf_emp, k9, u1, HI1.out, k0, k0⟩) E2.out).mono ?_
          rintro e w4 ⟨rfl, hp, hk⟩
          have HP4 := Lib.hid hp
          replace HO : Hid (OwnI ws2.heap.size (.slice (some ⟨ga, 0, none⟩) i ca) xs w4) := Lib.hid (HO.out.same_block (hk ga (.inr rfl)))
          clear hp hk HP3
          go_wp2_with fail
          refine (HP4.out.putP gR ⟨3, ⟨#[]⟩, 0, x, 0, 0⟩ (show Wf ⟨3, ⟨#[]⟩, 0, x, 0, 0⟩ from ⟨wf_emp, k3, u0, HI1.out, k0, k0⟩) E3.out).mono ?_
          rintro e w5 ⟨rfl, hp, hk⟩
          have HP5 := Lib.hid hp
          replace HO : Hid (OwnI ws2.heap.size (.slice (some ⟨ga, 0, none⟩) i ca) xs w5) := Lib.hid (HO.out.same_block (hk ga (.inr rfl)))
          clear hp hk HP4
          go_wp2_with fail
          refine (HP5.out.putP gR ⟨8, ⟨#[]⟩, 0, x, y, 0⟩ (show Wf ⟨8, ⟨#[]⟩, 0, x, y, 0⟩ from ⟨wf_emp, k8, u0, HI1.out, HI2.out, k0⟩) E4.out).mono ?_
          rintro e w6 ⟨rfl, hp, hk⟩
          have HP6 := Lib.hid hp
          replace HO : Hid (OwnI ws2.heap.size (.slice (some ⟨ga, 0, none⟩) i ca) xs w6) := Lib.hid (HO.out.same_block (hk ga (.inr rfl)))
          clear hp hk HP5
          have HK6 : Hid (Known w6 g1 L4) := Lib.hid (HP6.out.known HF4.out)
          have HB6 : Hid (Below w.heap.size w w6) := Lib.hid HP6.out.belowW
          clear HP6
          go_wp2_with fail
          refine (HK6.out.st.len (Below.refl _ _)).mono ?_
          rintro e w7 ⟨rfl, rfl⟩
          by_cases h3 : L4.length = L.length + 4
          · have t1 : ((L4.length : Int) != (L.length : Int) + 4) = false := by simp; omega
            obtain ⟨inx, iny, inp, inh, hup, hconc⟩ := HLAST.out h3
            have HNX := Lib.hid inx
            have HNY := Lib.hid iny
            have HNP := Lib.hid inp
            have HNH := Lib.hid inh
            have HIN : Hid (∀ z, z ∈ xs ++ [p, h] → InL L4 z) := Lib.hid (fun z hz => by
              rcases List.mem_append.1 hz with r | r
              · exact hup z (HXI.out z r)
              · rcases (by simpa using r : z = p ∨ z = h) with rfl | rfl
                · exact inp
                · exact inh)
            obtain ⟨C, hC⟩ := least_is HK6.out.fit HIN.out true true
            have HC := Lib.hid hC
            have R := Lib.hid (hconc xs HXI.out C hC)
            clear inx iny inp inh hup hconc h3 HLAST hC
            have HOA : Hid (OwnI ws2.heap.size (.slice (some ⟨ga, 0, none⟩) i ca) xs (w6.alloc (.cells #[] 3))) := Lib.hid (HO.out.below (below_alloc _ _))
            have HRow : Hid ((w6.alloc (.cells #[] 3)).ownsRow w6.heap.size 3 1 (.slice (some ⟨w6.heap.size, 0, none⟩) 0 0) 0 []) := Lib.hid (OwnI.new w6 (Nat.le_refl _))
            have HNL : Hid ((intsR xs).length = i * 1) := Lib.hid (by have := HX.out; simp [intsR]; omega)
            have A1 : Hid (0 + i ≤ maxLen) := Lib.hid (by unfold maxLen; omega)
            have A2 : Hid ((0 + i) * 8 ≤ 140737488355328) := Lib.hid (by omega)
            have A3 : Hid (w6.heap.size ≤ (w6.alloc (.cells #[] 3)).heap.size) := Lib.hid (by simp)
            have HX0 : Hid (0 + i = xs.length) := Lib.hid (by have := HX.out; omega)
            have HX1 : Hid (xs.length = i) := Lib.hid (by have := HX0.out; omega)
            have A4 : Hid (i + 2 ≤ maxLen) := Lib.hid (by unfold maxLen; omega)
            have A5 : Hid ((i + 2) * 8 ≤ 140737488355328) := Lib.hid (by omega)
            go_wp2_with (at_builtin; first | (refine wpList_append_own _ rfl _ _ 23 rfl w6.heap.size 3 i0 (.int .i64 0) 1 8 Try.underlying23 hi0 hz0 hz1 hz2 rfl (by decide) _ _ _ rfl HRow.out ⟨ga, 0, none⟩ i ca (intsR xs) rfl HNL.out HOA.out.cellsOf ints_one A1.out A2.out A3.out ?_; intro v7 w7 hown7 hgrow7 _; have ho7 : OwnI w6.heap.size v7 xs w7 := (by rw [HX0.out] at hown7; exact hown7); obtain ⟨a7, c7, hv7, _⟩ := ho7.at; subst hv7; have HO7 := Lib.hid (own_len HX1.out ho7); rw [HX1.out]; have P2 := Lib.hid hgrow7; have HRow8 := Lib.hid (own_lit p h HX1.out HO7.out); have HNW8 := Lib.hid (heap_alloc_new w7 (.cells #[.int .i64 p, .int .i64 h] 3)); have HB7 : Hid (Below w6.heap.size w6 w7) := Lib.hid (new_grown hgrow7); have HB8 := Lib.hid (lit_size HB7.out (o := .cells #[.int .i64 p, .int .i64 h] 3)); clear ho7 hown7 hgrow7) | (refine wpList_append_lies _ rfl _ _ 23 rfl w6.heap.size 3 i0 (.int .i64 0) 1 8 Try.underlying23 hi0 hz0 hz1 hz2 rfl (by decide) _ _ _ rfl HRow8.out ⟨w7.heap.size, 0, none⟩ 2 2 [.int .i64 p, .int .i64 h] rfl rfl (World.news_of_block (cs := #[.int .i64 p, .int .i64 h]) (t := 3) (fr := (0, 0)) HNW8.out) (by simp [Value.oneCell']) (by omega) A4.out A5.out HB8.out.1 (w7.heap.size + 1) HB8.out.2 ?_; intro g8 c8 w8 hown8 hgrow8 _ _; have P3 := Lib.hid hown8; have P4 := Lib.hid hgrow8; clear hown8 hgrow8))
            have CH : Hid (Chg (fun k => some k = Value.ownBlock (.slice a7 i c7)) w7 w8) := Lib.hid ((Chg.alloc w7 _ _).trans (Chg.grown P4.out))
            have HB9 : Hid (Below w6.heap.size w6 w8) := Lib.hid (HB7.out.trans (CH.out.below (fun k hk => (HO7.out.lt k hk.symm).1) HB7.out.size))
            have HO8 := Lib.hid (OwnI.app2 HX1.out P3.out)
            have HLN : Hid (i + 2 = (xs ++ [p, h]).length) := Lib.hid (by have := HX1.out; simp; omega)
            have HK8 : Hid (Known w8 g1 L4) := Lib.hid (HK6.out.below HB9.out)
            have HBw : Hid (Below w.heap.size w w8) := Lib.hid (HB6.out.trans (HB9.out.mono HB6.out.size))
            clear P2 P3 P4 CH HB7 HB8 HB9 HO7 HRow8 HNW8 HRow HOA HO
            refine (all_least HK8.out HC.out HIN.out (some ⟨g8, 0, none⟩) c8 (i + 2) HLN.out HO8.out).mono ?_
            rintro e w9 ⟨aa, na, ca2, rfl, hna, ho, hb⟩
            replace HBw : Hid (Below w.heap.size w w9) := Lib.hid (HBw.out.trans (hb.mono HBw.out.size))
            have HA := Lib.hid ho.ints.2
            have HNA := Lib.hid hna
            have z1 : ([x] : List Int).all (has (namesIn L4 C)) = false := has_none R.out.1
            have z2 : ([y] : List Int).all (has (namesIn L4 C)) = false := has_none R.out.2.1
            have z3 : ([p, h] : List Int).all (has (namesIn L4 C)) = true := has_two HNP.out HNH.out R.out.2.2.1 R.out.2.2.2
            clear ho hna hb HK8 HO8 HLN
            go_wp2_with fail
            rw [HNA.out]
            refine (within_k (some ⟨w9.heap.size, 0, none⟩) aa [x].length ca2 [x] (namesIn L4 C) _ (lit_ints w9 [x] (by simp [maxLen])) (HA.out.below (below_alloc _ _))).mono ?_
            rintro e w10 ⟨rfl, q, hq⟩
            have hb : Below w9.heap.size w9 w10 := by rw [hq]; exact (below_alloc _ _).trans ((drewN_below _ q).mono (below_alloc w9 _).size)
            rw [z1]
            replace HBw : Hid (Below w.heap.size w w10) := Lib.hid (HBw.out.trans (hb.mono HBw.out.size))
            replace HA := Lib.hid (HA.out.below hb)
            clear hb hq
            go_wp2_with fail
            refine (within_k (some ⟨w10.heap.size, 0, none⟩) aa [y].length ca2 [y] (namesIn L4 C) _ (lit_ints w10 [y] (by simp [maxLen])) (HA.out.below (below_alloc _ _))).mono ?_
            rintro e w11 ⟨rfl, q, hq⟩
            have hb : Below w10.heap.size w10 w11 := by rw [hq]; exact (below_alloc _ _).trans ((drewN_below _ q).mono (below_alloc w10 _).size)
            rw [z2]
            replace HBw : Hid (Below w.heap.size w w11) := Lib.hid (HBw.out.trans (hb.mono HBw.out.size))
            replace HA := Lib.hid (HA.out.below hb)
            clear hb hq
            go_wp2_with fail
            refine (within_k (some ⟨w11.heap.size, 0, none⟩) aa [p, h].length ca2 [p, h] (namesIn L4 C) _ (lit_ints w11 [p, h] (by simp [maxLen])) (HA.out.below (below_alloc _ _))).mono ?_
            rintro e w12 ⟨rfl, q, hq⟩
            have hb : Below w11.heap.size w11 w12 := by rw [hq]; exact (below_alloc _ _).trans ((drewN_below _ q).mono (below_alloc w11 _).size)
            rw [z3]
            replace HBw : Hid (Below w.heap.size w w12) := Lib.hid (HBw.out.trans (hb.mono HBw.out.size))
            replace HA := Lib.hid (HA.out.below hb)
            clear hb hq
            go_wp2_with fail
            refine (fixed_any _).mono ?_
            rintro e wz ⟨rfl, hb⟩
            go_wp2_with fail
            go_ret
            exact ⟨rfl, HBw.out.trans (hb.mono HBw.out.size)⟩
          · have t1 : ((L4.length : Int) != (L.length : Int) + 4) = true := by simp; omega
            clear h3
            go_wp2_with fail
            refine (fixed_any _).mono ?_
            rintro e wz ⟨rfl, hb⟩
            go_wp2_with fail
            go_ret
            exact ⟨rfl, HB6.out.trans (hb.mono HB6.out.size)⟩
set_option maxRecDepth 100000 in
theorem lifted (os : Os) (started : os.Started) (H : Type) (enc : TypeId × Value → H) :
    ReturnsInHanded {} Try.checked os 5 .any (Rows.knowHidesSpec.pre6 enc Try.prog Try.f5 Rows.knowHidesRow.domain false) (Rows.knowHidesSpec.post enc Try.prog Try.f5 false true false false) := by
  refine returnsInHanded_of_change (C := Try.checked) own started (by kernel_rfl) Try.func5
    (ChangeSpec.witness6 (enc := enc) (C := Try.checked) false ⟨#[], #[.slice none 0 0, .slice none 0 0], []⟩ 8 (by kernel_rfl) (by kernel_rfl) (by kernel_rfl) (by kernel_rfl)) ?_
  intro W base args ds gs before hval0 hW hcnd _
  have hval : ∀ (j : Nat) t v, Try.f5.params[j]? = some t → args[j]? = some v → Value.okWide Try.prog W .any base t v := hval0
  have hW' := hW
  obtain ⟨p, q, hA0, hV, rfl, hfz, hnd⟩ := hW
  have hA : DataW.TrodAll enc Try.prog W 0 (fun _ => true) true Try.f5.params.toList args.toList ds p := hA0
  rw [Try.params5] at hA hval
  obtain ⟨v0, vs0, d0, ds0, p0, q0, hargs, rfl, rfl, h0, r0⟩ := trodAll_cons hA
  obtain ⟨v1, vs1, d1, ds1, p1, q1, rfl, rfl, rfl, h1, r1⟩ := trodAll_cons r0
  obtain ⟨rfl, rfl, rfl⟩ := trodAll_nil r1
  obtain rfl : args = #[v0, v1] := by cases args; simp_all
  obtain ⟨rfl, rfl⟩ := trodVars_none hV
  obtain ⟨a0, len0, cap0, rfl⟩ := okWide_slice Try.underlying22 (hval 0 22 v0 rfl rfl)
  have k0 := h0
  have lt0 : ∀ x ∈ p0, x.block < W.heap.size := by obtain ⟨m, hm⟩ := k0; exact DataW.trod_lt m _ _ _ hm
  obtain ⟨T0, w0⟩ : ∃ T, Terms W a0 len0 cap0 T := by
    obtain ⟨fuel, hf⟩ := h0
    exact open_terms (by simpa [Value.cells] using hf)
  obtain ⟨a1, len1, cap1, rfl⟩ := okWide_slice Try.underlying41 (hval 1 41 v1 rfl rfl)
  have k1 := h1
  have lt1 : ∀ x ∈ p1, x.block < W.heap.size := by obtain ⟨m, hm⟩ := k1; exact DataW.trod_lt m _ _ _ hm
  obtain ⟨z1, w1⟩ : ∃ zs, IsRow .u8 W a1 len1 cap1 zs := by
    obtain ⟨fuel, hf⟩ := h1
    rcases open_ints Try.underlying41 Try.underlying5 (by kernel_rfl) hf with ⟨hcs, _⟩ | ⟨x, l, c, zs, hcs, _, hl, hm, hz, _, hcell, hwz⟩
    · simp [Value.cells] at hcs
      obtain ⟨rfl, rfl, rfl⟩ := hcs
      exact ⟨[], .inl ⟨rfl, rfl, rfl, rfl⟩⟩
    · simp [Value.cells] at hcs
      obtain ⟨rfl, rfl, rfl⟩ := hcs
      exact ⟨zs, .inr ⟨_, rfl, hl, hm, by simpa using hz, hcell, hwz⟩⟩
  clear hA0 hval0
  refine (walk a0 len0 cap0 T0 a1 len1 cap1 z1 W w0 w1).mono fun e W' ⟨he, bel⟩ => ?_
  subst he
  exact ⟨_, rfl, _, _, _, [], _, [], hW', trodAll_mk1 (shut_bool Try.underlying4 _), (trodAll_cons_mk (Below.trod laidOut (by kernel_rfl) (of_decide_eq_true (by kernel_rfl)) k0 bel lt0) (trodAll_cons_mk (Below.trod laidOut (by kernel_rfl) (of_decide_eq_true (by kernel_rfl)) k1 bel lt1) trodAll_mk0)), rfl, bel.frame _, fun h => by cases h⟩

theorem over : Rows.knowHidesRow.holds Try.pinned (OpenSpec.ofChange Rows.knowHidesSpec) :=
  OpenClaim.holds_of_wide 5 Try.f5 rfl rfl rfl rfl rfl rfl rfl ⟨rfl, rfl, rfl, rfl, rfl⟩ rfl rfl rfl rfl rfl (by kernel_rfl) Try.func5 (by kernel_rfl)
    (of_decide_eq_true (by kernel_rfl)) (by unfold Func.isWrapper; first | (rw [if_pos (by decide +kernel)]; kernel_rfl) | (rw [if_neg (by decide +kernel)]; exact ⟨rfl, rfl⟩))
    (fun os started H enc _ => lifted os started H enc)

theorem proved : Rows.KnowHidesSaid := over
#print axioms proved
end Go.Proofs.Ytdhfnbajmjmlbaa.knowHides
