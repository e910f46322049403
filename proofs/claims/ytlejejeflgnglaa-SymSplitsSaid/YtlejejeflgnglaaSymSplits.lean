/- SymSplits: for every row of terms and three numbers, both keys of the end are unlike, and no key of the state; told again they are the same; of states in which unlike things were mixed they are unlike. No condition. -/
import Derived.Test.YtlejejeflgnglaaRows
import Derived.Test.YtlejejeflgnglaaSymN
import Derived.Test.YtlejejeflgnglaaOpens
import Derived.WalkKit
import Derived.ProofKit
import Derived.OpenShut
import Derived.ShutString
import Derived.ChangeOld
import Derived.Below
namespace Go.Proofs.Ytlejejeflgnglaa.symSplits
open Go.ChangeShapes Go.WideShapes Go.ChangeAt Go.RowKit
open Go.ChangeMaps (open_string shut_string)
open Go.Proofs.Ytlejejeflgnglaa
set_option linter.unusedVariables false
set_option linter.unusedSimpArgs false

theorem own : ownKnob Try.prog.godebug = none := by kernel_rfl
theorem laidOut : laidOutB Try.prog = true := by kernel_rfl

theorem math (L : List Tm) (k x y : Int) (hf : Fit L) (hL : L.length ≤ 20) (bk : 1 ≤ k ∧ k ≤ (L.length : Int)) (bx : 1 ≤ x ∧ x ≤ (L.length : Int)) (ey : 1 ≤ y ∧ y ≤ (L.length : Int)) :
    ∃ a c1 k1 cc ck dc dk u v w o L1 L2 L3 L4 L5 L6, beginF L 1000 nmS = (⟨a, 0, a, 0⟩, 0, L1) ∧ turnF L1 1000 ⟨a, 0, a, 0⟩ k = (⟨c1, k1, a, 0⟩, 0, L2) ∧ turnF L2 1000 ⟨c1, k1, a, 0⟩ x = (⟨cc, ck, a, 0⟩, 0, L3) ∧ turnF L3 1000 ⟨c1, k1, a, 0⟩ y = (⟨dc, dk, a, 0⟩, 0, L4) ∧
      splitF L4 1000 ⟨cc, ck, a, 0⟩ = (u, v, 0, L5) ∧ splitF L5 1000 ⟨dc, dk, a, 0⟩ = (w, o, 0, L6) ∧ splitF L6 1000 ⟨cc, ck, a, 0⟩ = (u, v, 0, L6) ∧
      Sy.Wf ⟨a, 0, a, 0⟩ ∧ Sy.Wf ⟨c1, k1, a, 0⟩ ∧ Sy.Wf ⟨cc, ck, a, 0⟩ ∧ Sy.Wf ⟨dc, dk, a, 0⟩ ∧ u ≠ v ∧ u ≠ cc ∧ u ≠ ck ∧ v ≠ cc ∧ v ≠ ck ∧ (u = w ↔ x = y) ∧ (v = o ↔ x = y) ∧ u ≠ o := by
  obtain ⟨a, L1, e1, n1, x1, l1, f1⟩ := begin_step (most := 1000) nmS hf nm_le (by omega)
  obtain ⟨c1, k1, L2, e2, m2, x2, l2, f2⟩ := turn_step (most := 1000) (y := ⟨a, 0, a, 0⟩) f1 n1.in (x1.in bk) (by omega)
  have x12 := x1.trans x2
  obtain ⟨cc, ck, L3, e3, m3, x3, l3, f3⟩ := turn_step (most := 1000) (y := ⟨c1, k1, a, 0⟩) f2 m2.in.1 (x12.in bx) (by omega)
  have x13 := x12.trans x3
  obtain ⟨dc, dk, L4, e4, m4, x4, l4, f4⟩ := turn_step (most := 1000) (y := ⟨c1, k1, a, 0⟩) f3 (m2.ext x3).in.1 (x13.in ey) (by omega)
  obtain ⟨t, u, v, L5, e5, n5, m5, x5, l5, f5⟩ := split_step (most := 1000) (y := ⟨cc, ck, a, 0⟩) f4 (m3.ext x4).in.1 (by omega)
  obtain ⟨s, w, o, L6, e6, n6, m6, x6, l6, f6⟩ := split_step (most := 1000) (y := ⟨dc, dk, a, 0⟩) f5 (m4.ext x5).in.1 (by omega)
  have M2 := m2.ext (x3.trans (x4.trans (x5.trans x6)))
  have M3 := m3.ext (x4.trans (x5.trans x6))
  have M4 := m4.ext (x5.trans x6)
  have M5 := m5.ext x6
  have N5 := n5.ext x6
  obtain rfl : t = s := (N5.inj n6).2 rfl
  have A := n1.ext (x2.trans (x3.trans (x4.trans (x5.trans x6))))
  have e7 := split_old (most := 1000) (y := ⟨cc, ck, a, 0⟩) M3.in.1 N5 M5
  have i1 := A.in
  have i2 := M2.in
  have i3 := M3.in
  have i4 := M4.in
  have q3 := M3.lt f6
  have q5 := M5.lt f6
  simp only at q3 q5
  refine ⟨a, c1, k1, cc, ck, dc, dk, u, v, w, o, L1, L2, L3, L4, L5, L6, e1, e2, e3, e4, e5, e6, e7, wf_in (by omega) (by omega) (by omega) (by omega), wf_in (by omega) (by omega) (by omega) (by omega), wf_in (by omega) (by omega) (by omega) (by omega), wf_in (by omega) (by omega) (by omega) (by omega), q5.2.2.2.2, ?_, M5.ne M3, fun e => M3.ne M5 e.symm, ?_, ?_, ?_, M5.ne m6⟩
  · rw [Ne, M5.inj1 M3]; simp only; omega
  · rw [Ne, M5.inj2 M3]; simp only; omega
  · rw [M5.inj1 m6, M3.inj1 M4]; simp
  · rw [M5.inj2 m6, M3.inj1 M4]; simp

set_option maxHeartbeats 4000000 in
set_option maxRecDepth 100000 in
theorem walk (a0 : Option Addr) (len0 cap0 : Nat) (T0 : Nat → Tm) (x0 x1 x2 : Int) (w : World) (w0 : Terms w a0 len0 cap0 T0) (h0 : (Lit.int .u8 x0).wf = true) (h1 : (Lit.int .u8 x1).wf = true) (h2 : (Lit.int .u8 x2).wf = true) :
    Calls Try.prog 8 #[.slice a0 len0 cap0, .agg #[.int .u8 x0, .int .u8 x1, .int .u8 x2]] w fun e w' => e = .returned (.bool true) ∧ Below w.heap.size w w' := by
  have hB0 : Below w.heap.size w (w.alloc (.cells #[.int .u8 x0, .int .u8 x1, .int .u8 x2] 58)) := (Below.refl _ _).alloc (Nat.le_refl _) _
  have HT := Lib.hid (w0.below hB0)
  have HB0 := Lib.hid hB0
  have H0 := Lib.hid h0
  have H1 := Lib.hid h1
  have H2 := Lib.hid h2
  clear w0 hB0 h0 h1 h2
  go_enter Try.func8, Try.ntmps8
  go_wp2_with fail
  refine (stores_any 20 a0 len0 cap0 T0 _ (by omega) HT.out).mono ?_
  rintro e w1 ⟨g1, g2, L, rfl, hL, hp⟩
  have HP0 := Lib.hid hp
  have HLn := Lib.hid hL
  have HFit := Lib.hid hp.facts.1
  have gR := RSq.good (w.alloc (.cells #[.int .u8 x0, .int .u8 x1, .int .u8 x2] 58)).heap.size g2 1000
  have gP := PSq.good (w.alloc (.cells #[.int .u8 x0, .int .u8 x1, .int .u8 x2] 58)).heap.size g1 1000
  have hbl := hp.belowW
  have hlt : w.heap.size < (w.alloc (.cells #[.int .u8 x0, .int .u8 x1, .int .u8 x2] 58)).heap.size := by simp
  have c : ∀ j, w1.cell? ⟨w.heap.size, j, none⟩ = #[Value.int .u8 x0, .int .u8 x1, .int .u8 x2][j]? := fun j => by rw [hbl.cell (by exact hlt)]; exact cell_of_row _ _ j _ _ _ (heap_alloc_new w _)
  have c0 := c 0
  have c1 := c 1
  have c2 := c 2
  simp at c0 c1 c2
  clear c hbl hlt hp hL HT
  by_cases hn : L.length = 0
  · have hl0 : ((L.length : Int) == 0) = true := by simp [hn]
    clear hn
    go_wp2_with fail
    refine (HP0.out.lenP).mono ?_
    rintro e w2 ⟨rfl, rfl⟩
    go_wp2_with fail
    refine (fixed_any _).mono ?_
    rintro e w3 ⟨rfl, hb3⟩
    have hb4 := HB0.out.trans ((HP0.out.belowW.trans (hb3.mono HP0.out.base_le)).mono HB0.out.size)
    clear hb3 c0 c1 c2
    go_wp2
    go_ret
    exact ⟨rfl, hb4⟩
  · have hl0 : ((L.length : Int) == 0) = false := by simpa using hn
    have hn1 : (0 : Int) < L.length := by omega
    have hn2 : (L.length : Int) ≤ 20 := by have := HLn.out; omega
    have HL : Hid (∀ n, Calls Try.prog 26 #[.pointer (some ⟨g1, 0, none⟩)] (w1.drewN n) fun e w' => e = .returned (.int .i64 L.length) ∧ ∃ m, w' = w1.drewN m) := Lib.hid (fun n => quiet_of ((HP0.out.below gP gR (drewN_below _ _)).lenP))
    clear hn
    go_wp2_with fail
    refine (HP0.out.lenP).mono ?_
    rintro e w2 ⟨rfl, rfl⟩
    go_wp2_with fail
    go_quiet (first | (go_at_call 26; exact HL.out _))
    obtain ⟨k, hk⟩ : ∃ k, k = wrap64 (1 + (wrap64 x0).tmod ↑L.length) := ⟨_, rfl⟩
    have bdk : 1 ≤ k ∧ k ≤ (L.length : Int) := by rw [hk]; exact pick_in x0 _ H0.out hn1 (by omega)
    obtain ⟨x, hx⟩ : ∃ x, x = wrap64 (1 + (wrap64 x1).tmod ↑L.length) := ⟨_, rfl⟩
    have bdx : 1 ≤ x ∧ x ≤ (L.length : Int) := by rw [hx]; exact pick_in x1 _ H1.out hn1 (by omega)
    obtain ⟨y, hy⟩ : ∃ y, y = wrap64 (1 + (wrap64 x2).tmod ↑L.length) := ⟨_, rfl⟩
    have bdy : 1 ≤ y ∧ y ≤ (L.length : Int) := by rw [hy]; exact pick_in x2 _ H2.out hn1 (by omega)
    rw [← hk, ← hx, ← hy]
    have HIk : Hid (I64 k) := Lib.hid (i64_small (by omega) (by omega))
    have Bk := Lib.hid bdk
    have HIx : Hid (I64 x) := Lib.hid (i64_small (by omega) (by omega))
    have Bx := Lib.hid bdx
    have HIy : Hid (I64 y) := Lib.hid (i64_small (by omega) (by omega))
    have By := Lib.hid bdy
    have HPA := Lib.hid (HP0.out.below gP gR (drewN_below w1 nq))
    clear hk bdk hx bdx hy bdy HP0 HL c0 c1 c2 hl0 hn1 hn2
    generalize w1.drewN nq = w2 at HPA ⊢
    obtain ⟨a, c1, k1, cc, ck, dc, dk, u, v, w', o, L1, L2, L3, L4, L5, L6, e1, e2, e3, e4, e5, e6, e7, v1, v2, v3, v4, b1, b2, b3, b4, b5, b6, b7, b8⟩ := math L k x y HFit.out HLn.out Bk.out Bx.out By.out
    have E1 := Lib.hid e1
    have E2 := Lib.hid e2
    have E3 := Lib.hid e3
    have E4 := Lib.hid e4
    have E5 := Lib.hid e5
    have E6 := Lib.hid e6
    have E7 := Lib.hid e7
    have V1 := Lib.hid v1
    have V2 := Lib.hid v2
    have V3 := Lib.hid v3
    have V4 := Lib.hid v4
    have s1 : (u != v) = true := by simpa using b1
    have s2 : (u != cc) = true := by simpa using b2
    have s3 : (u != ck) = true := by simpa using b3
    have s4 : (v != cc) = true := by simpa using b4
    have s5 : (v != ck) = true := by simpa using b5
    obtain ⟨t, ht⟩ : ∃ t : Bool, (x == y) = t := ⟨_, rfl⟩
    have s6 : (u == w') = t := by rw [← ht, Bool.eq_iff_iff]; simpa using b6
    have s7 : (v == o) = t := by rw [← ht, Bool.eq_iff_iff]; simpa using b7
    have s8 : (u != o) = true := by simpa using b8
    have stt : (t == t) = true := by simp
    have suu := beq_self_eq_true u
    have svv := beq_self_eq_true v
    clear e1 e2 e3 e4 e5 e6 e7 v1 v2 v3 v4 b1 b2 b3 b4 b5 b6 b7 b8 Bk Bx By
    go_wp2_with fail
    refine (HPA.out.beginP gR nm_wf E1.out).mono ?_
    rintro e w3 ⟨rfl, hp, hk⟩
    simp only [Sy.v, zeroY]
    have HP3 := Lib.hid (Pair.box gP gR hp (.cells #[.int .i64 a, .int .i64 0, .int .i64 a, .int .u64 0] 25))
    clear hp hk HPA 
    go_wp2_with fail
    refine (HP3.out.turnP gR V1.out HIk.out E2.out).mono ?_
    rintro e w4 ⟨rfl, hp, hk⟩
    simp only [Sy.v, zeroY]
    have hx0 : w4.heap[w3.heap.size]? = some (.cells #[.int .i64 a, .int .i64 0, .int .i64 a, .int .u64 0] 25 (0, 0)) := (hk _ (.inr rfl)).trans (heap_alloc_new w3 _)
    have HX0 := Lib.hid hx0
    have HP4 := Lib.hid (Pair.box gP gR hp (.cells #[.int .i64 c1, .int .i64 k1, .int .i64 a, .int .u64 0] 25))
    clear hp hk HP3 hx0
    go_wp2_with fail
    refine (HP4.out.turnP gR V2.out HIx.out E3.out).mono ?_
    rintro e w5 ⟨rfl, hp, hk⟩
    simp only [Sy.v, zeroY]
    have hx1 : w5.heap[w4.heap.size]? = some (.cells #[.int .i64 c1, .int .i64 k1, .int .i64 a, .int .u64 0] 25 (0, 0)) := (hk _ (.inr rfl)).trans (heap_alloc_new w4 _)
    clear HX0
    have HX1 := Lib.hid hx1
    have HP5 := Lib.hid (Pair.box gP gR hp (.cells #[.int .i64 cc, .int .i64 ck, .int .i64 a, .int .u64 0] 25))
    clear hp hk HP4 hx1
    have c1_0 := cell_of_row w5 _ 0 _ _ _ HX1.out
    have c1_1 := cell_of_row w5 _ 1 _ _ _ HX1.out
    have c1_2 := cell_of_row w5 _ 2 _ _ _ HX1.out
    have c1_3 := cell_of_row w5 _ 3 _ _ _ HX1.out
    have lt1 := lt_of_block HX1.out
    simp at c1_0 c1_1 c1_2 c1_3
    go_wp2_with fail
    refine (HP5.out.turnP gR V2.out HIy.out E4.out).mono ?_
    rintro e w6 ⟨rfl, hp, hk⟩
    simp only [Sy.v, zeroY]
    have hx1 : w6.heap[w4.heap.size]? = some (.cells #[.int .i64 c1, .int .i64 k1, .int .i64 a, .int .u64 0] 25 (0, 0)) := (hk _ ((.inl (.inr rfl)))).trans ((heap_alloc_old _ _ (lt_of_block HX1.out)).trans HX1.out)
    have hx2 : w6.heap[w5.heap.size]? = some (.cells #[.int .i64 cc, .int .i64 ck, .int .i64 a, .int .u64 0] 25 (0, 0)) := (hk _ (.inr rfl)).trans (heap_alloc_new w5 _)
    clear HX1
    have HX1 := Lib.hid hx1
    have HX2 := Lib.hid hx2
    have HP6 := Lib.hid (Pair.box gP gR hp (.cells #[.int .i64 dc, .int .i64 dk, .int .i64 a, .int .u64 0] 25))
    clear hp hk HP5 hx1 hx2 c1_0 c1_1 c1_2 c1_3 lt1
    have c2_0 := cell_of_row w6 _ 0 _ _ _ HX2.out
    have c2_1 := cell_of_row w6 _ 1 _ _ _ HX2.out
    have c2_2 := cell_of_row w6 _ 2 _ _ _ HX2.out
    have c2_3 := cell_of_row w6 _ 3 _ _ _ HX2.out
    have lt2 := lt_of_block HX2.out
    simp at c2_0 c2_1 c2_2 c2_3
    go_wp2_with fail
    refine (HP6.out.splitP gR V3.out E5.out).mono ?_
    rintro e w7 ⟨rfl, hp, hk⟩
    have hx2 : w7.heap[w5.heap.size]? = some (.cells #[.int .i64 cc, .int .i64 ck, .int .i64 a, .int .u64 0] 25 (0, 0)) := (hk _ ((.inl (.inr rfl)))).trans ((heap_alloc_old _ _ (lt_of_block HX2.out)).trans HX2.out)
    have hx3 : w7.heap[w6.heap.size]? = some (.cells #[.int .i64 dc, .int .i64 dk, .int .i64 a, .int .u64 0] 25 (0, 0)) := (hk _ (.inr rfl)).trans (heap_alloc_new w6 _)
    clear HX2 HX1
    have HX2 := Lib.hid hx2
    have HX3 := Lib.hid hx3
    have HP7 := Lib.hid hp
    clear hp hk HP6 hx2 hx3 c2_0 c2_1 c2_2 c2_3 lt2
    have c3_0 := cell_of_row w7 _ 0 _ _ _ HX3.out
    have c3_1 := cell_of_row w7 _ 1 _ _ _ HX3.out
    have c3_2 := cell_of_row w7 _ 2 _ _ _ HX3.out
    have c3_3 := cell_of_row w7 _ 3 _ _ _ HX3.out
    have lt3 := lt_of_block HX3.out
    simp at c3_0 c3_1 c3_2 c3_3
    go_wp2_with fail
    refine (HP7.out.splitP gR V4.out E6.out).mono ?_
    rintro e w8 ⟨rfl, hp, hk⟩
    have hx2 : w8.heap[w5.heap.size]? = some (.cells #[.int .i64 cc, .int .i64 ck, .int .i64 a, .int .u64 0] 25 (0, 0)) := (hk _ ((.inl (.inr rfl)))).trans HX2.out
    have hx3 : w8.heap[w6.heap.size]? = some (.cells #[.int .i64 dc, .int .i64 dk, .int .i64 a, .int .u64 0] 25 (0, 0)) := (hk _ (.inr rfl)).trans HX3.out
    clear HX2 HX3
    have HX2 := Lib.hid hx2
    have HX3 := Lib.hid hx3
    have HP8 := Lib.hid hp
    clear hp hk HP7 hx2 hx3 c3_0 c3_1 c3_2 c3_3 lt3
    have c2_0 := cell_of_row w8 _ 0 _ _ _ HX2.out
    have c2_1 := cell_of_row w8 _ 1 _ _ _ HX2.out
    have c2_2 := cell_of_row w8 _ 2 _ _ _ HX2.out
    have c2_3 := cell_of_row w8 _ 3 _ _ _ HX2.out
    have lt2 := lt_of_block HX2.out
    simp at c2_0 c2_1 c2_2 c2_3
    go_wp2_with fail
    refine (HP8.out.splitP gR V3.out E7.out).mono ?_
    rintro e w9 ⟨rfl, hp, hk⟩
    have hx2 : w9.heap[w5.heap.size]? = some (.cells #[.int .i64 cc, .int .i64 ck, .int .i64 a, .int .u64 0] 25 (0, 0)) := (hk _ ((.inl (.inr rfl)))).trans HX2.out
    clear HX2 HX3
    have HX2 := Lib.hid hx2
    have HP9 := Lib.hid hp
    clear hp hk HP8 hx2 c2_0 c2_1 c2_2 c2_3 lt2
    have c2_0 := cell_of_row w9 _ 0 _ _ _ HX2.out
    have c2_1 := cell_of_row w9 _ 1 _ _ _ HX2.out
    have c2_2 := cell_of_row w9 _ 2 _ _ _ HX2.out
    have c2_3 := cell_of_row w9 _ 3 _ _ _ HX2.out
    have lt2 := lt_of_block HX2.out
    simp at c2_0 c2_1 c2_2 c2_3
    go_wp2_with fail
    refine (fixed_any _).mono ?_
    rintro e w99 ⟨rfl, hb9⟩
    have hb := HB0.out.trans ((HP9.out.belowW.trans (hb9.mono HP9.out.base_le)).mono HB0.out.size)
    clear hb9
    go_wp2
    go_ret
    exact ⟨rfl, hb⟩

set_option maxRecDepth 100000 in
theorem lifted (os : Os) (started : os.Started) (H : Type) (enc : TypeId × Value → H) :
    ReturnsInHanded {} Try.checked os 8 .any (Rows.symSplitsSpec.pre6 enc Try.prog Try.f8 Rows.symSplitsRow.domain false) (Rows.symSplitsSpec.post enc Try.prog Try.f8 false true false false) := by
  refine returnsInHanded_of_change (C := Try.checked) own started (by kernel_rfl) Try.func8
    (ChangeSpec.witness6 (enc := enc) (C := Try.checked) false ⟨#[], #[.slice none 0 0, .agg #[.int .u8 0, .int .u8 0, .int .u8 0]], []⟩ 8 (by kernel_rfl) (by kernel_rfl) (by kernel_rfl) (by kernel_rfl)) ?_
  intro W base args ds gs before hval0 hW hcnd _
  have hval : ∀ (j : Nat) t v, Try.f8.params[j]? = some t → args[j]? = some v → Value.okWide Try.prog W .any base t v := hval0
  have hW' := hW
  obtain ⟨p, q, hA0, hV, rfl, hfz, hnd⟩ := hW
  have hA : DataW.TrodAll enc Try.prog W 0 (fun _ => true) true Try.f8.params.toList args.toList ds p := hA0
  rw [Try.params8] at hA hval
  obtain ⟨v0, vs0, d0, ds0, p0, q0, hargs, rfl, rfl, h0, r0⟩ := trodAll_cons hA
  obtain ⟨v1, vs1, d1, ds1, p1, q1, rfl, rfl, rfl, h1, r1⟩ := trodAll_cons r0
  obtain ⟨rfl, rfl, rfl⟩ := trodAll_nil r1
  obtain rfl : args = #[v0, v1] := by cases args; simp_all
  obtain ⟨rfl, rfl⟩ := trodVars_none hV
  obtain ⟨a0, len0, cap0, rfl⟩ := okWide_slice Try.underlying22 (hval 0 22 v0 rfl rfl)
  have k0 := h0
  have lt0 : ∀ x ∈ p0, x.block < W.heap.size := by obtain ⟨m, hm⟩ := k0; exact DataW.trod_lt m _ _ _ hm
  obtain ⟨T0, w0⟩ : ∃ T, Terms W a0 len0 cap0 T := by
    obtain ⟨fuel, hf⟩ := h0
    exact open_terms (by simpa [Value.cells] using hf)
  obtain ⟨cs1, rfl, hsz1⟩ : ∃ cs, v1 = .agg cs ∧ cs.size = Try.prog.cellsOf 58 := by
    have h := hval 1 58 v1 rfl rfl
    simp only [Value.okWide, Try.underlying58] at h
    obtain ⟨cs, e1, e2, _⟩ := h
    exact ⟨cs, e1, e2⟩
  have k1 := h1
  have lt1 : ∀ x ∈ p1, x.block < W.heap.size := by obtain ⟨m, hm⟩ := k1; exact DataW.trod_lt m _ _ _ hm
  obtain ⟨Z1, rfl, w1⟩ : ∃ Z : Nat → Int, cs1 = ((List.range 3).map fun j => Value.int .u8 (Z j)).toArray ∧ ∀ j, j < 3 → (Lit.int .u8 (Z j)).wf = true := by
    obtain ⟨fuel, hf⟩ := h1
    exact open_arrV Try.underlying58 Try.underlying5 (by kernel_rfl) (by kernel_rfl) hf
  clear hA0 hval0
  refine (walk a0 len0 cap0 T0 (Z1 0) (Z1 1) (Z1 2) W w0 (w1 0 (by omega)) (w1 1 (by omega)) (w1 2 (by omega))).mono fun e W' ⟨he, bel⟩ => ?_
  subst he
  exact ⟨_, rfl, _, _, _, [], _, [], hW', trodAll_mk1 (shut_bool Try.underlying4 _), (trodAll_cons_mk (Below.trod laidOut (by kernel_rfl) (of_decide_eq_true (by kernel_rfl)) k0 bel lt0) (trodAll_cons_mk (Below.trod laidOut (by kernel_rfl) (of_decide_eq_true (by kernel_rfl)) k1 bel lt1) trodAll_mk0)), rfl, bel.frame _, fun h => by cases h⟩

theorem over : Rows.symSplitsRow.holds Try.pinned (OpenSpec.ofChange Rows.symSplitsSpec) :=
  OpenClaim.holds_of_wide 8 Try.f8 rfl rfl rfl rfl rfl rfl rfl ⟨rfl, rfl, rfl, rfl, rfl⟩ rfl rfl rfl rfl rfl (by kernel_rfl) Try.func8 (by kernel_rfl)
    (of_decide_eq_true (by kernel_rfl)) (by unfold Func.isWrapper; first | (rw [if_pos (by decide +kernel)]; kernel_rfl) | (rw [if_neg (by decide +kernel)]; exact ⟨rfl, rfl⟩))
    (fun os started H enc _ => lifted os started H enc)

theorem proved : Rows.SymSplitsSaid := over
#print axioms proved
end Go.Proofs.Ytlejejeflgnglaa.symSplits
