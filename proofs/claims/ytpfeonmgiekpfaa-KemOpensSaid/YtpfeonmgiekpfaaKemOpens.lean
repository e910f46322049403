/- KemOpens: for every row of terms and four numbers, of all terms just the boxes of a secret are opened by it, and where none is, nothing is put. No condition. -/
import Derived.Test.YtpfeonmgiekpfaaRows
import Derived.Test.YtpfeonmgiekpfaaKemF
import Derived.Test.YtpfeonmgiekpfaaKemM
import Derived.Test.YtpfeonmgiekpfaaOpens
import Derived.WalkKit
import Derived.ProofKit
import Derived.OpenShut
import Derived.ShutString
import Derived.ChangeOld
import Derived.Below
namespace Go.Proofs.Ytpfeonmgiekpfaa.kemOpens
open Go.ChangeShapes Go.WideShapes Go.ChangeAt Go.RowKit
open Go.ChangeMaps (open_string shut_string)
open Go.Proofs.Ytpfeonmgiekpfaa
set_option linter.unusedVariables false
set_option linter.unusedSimpArgs false

theorem own : ownKnob Try.prog.godebug = none := by kernel_rfl
theorem laidOut : laidOutB Try.prog = true := by kernel_rfl

theorem math (L : List Tm) (k x : Int) (hL : L.length ≤ 20) (bk : 1 ≤ k ∧ k ≤ (L.length : Int)) (bx : 1 ≤ x ∧ x ≤ (L.length : Int)) :
    ∃ p a b L1 L2, putF L 1000 (kpubT k) = (p, 0, L1) ∧ wrapF L1 1000 p x = (a, b, 0, L2) ∧ 1 ≤ L2.length ∧ L2.length ≤ 23 := by
  obtain ⟨p, L1, e1, n1, x1, l1⟩ := kpub_step L 1000 k bk.1 bk.2 (by omega)
  obtain ⟨a, b, L2, e2, na, nb, x2, l2⟩ := wrap_step 1000 n1 bk.1 (x1.len bk.2) bx.1 (x1.len bx.2) (by omega)
  have h1 := x1.1
  have h2 := x2.1
  exact ⟨p, a, b, L1, L2, e1, e2, by omega, by omega⟩
theorem opened {L : List Tm} {z v : Int} {TS : ByteArray} {TN TB TC : Int} (hf : Fit L) (hl : L.length ≤ 23) (hz1 : 1 ≤ z) (hz2 : z ≤ (L.length : Int)) (hg : getT L v = (⟨6, TS, TN, z, TB, TC⟩, true)) :
    ∃ a L', openF L 1000 z v = (a, 0, L') ∧ getT L' a = (kemT z TB, true) := by
  obtain ⟨tz, hz⟩ := getT_of hz1 hz2
  have hp := part_in hf hg 1 (by show 1 < many 6; decide)
  have hi := getT_in hg
  simp [prt] at hp
  obtain ⟨a, L', e, n, _, _⟩ := put_named L 1000 (kemT z TB) (may_kem hz1 hz2 (by omega) (by omega)) (by omega)
  exact ⟨a, L', by rw [open_yes hz hg ⟨rfl, rfl⟩ rfl]; exact e, n.get⟩

set_option maxHeartbeats 2000000 in
set_option maxRecDepth 100000 in
theorem walk (a0 : Option Addr) (len0 cap0 : Nat) (T0 : Nat → Tm) (x0 x1 x2 x3 : Int) (w : World) (w0 : Terms w a0 len0 cap0 T0) (h0 : (Lit.int .u8 x0).wf = true) (h1 : (Lit.int .u8 x1).wf = true) (h2 : (Lit.int .u8 x2).wf = true) (h3 : (Lit.int .u8 x3).wf = true) :
    Calls Try.prog 7 #[.slice a0 len0 cap0, .agg #[.int .u8 x0, .int .u8 x1, .int .u8 x2, .int .u8 x3]] w fun e w' => e = .returned (.bool true) ∧ Below w.heap.size w w' := by
  have hB0 : Below w.heap.size w (w.alloc (.cells #[.int .u8 x0, .int .u8 x1, .int .u8 x2, .int .u8 x3] 41)) := (Below.refl _ _).alloc (Nat.le_refl _) _
  have HT := Lib.hid (w0.below hB0)
  have HB0 := Lib.hid hB0
  have H0 := Lib.hid h0
  have H1 := Lib.hid h1
  have H2 := Lib.hid h2
  have H3 := Lib.hid h3
  clear w0 hB0 h0 h1 h2 h3
  go_enter Try.func7, Try.ntmps7
  go_wp2_with fail
  refine (stores_any 20 a0 len0 cap0 T0 _ (by omega) HT.out).mono ?_
  rintro e w1 ⟨g1, g2, L, rfl, hL, hp⟩
  have HP0 := Lib.hid hp
  have HLn := Lib.hid hL
  have HFit := Lib.hid hp.facts.1
  have gR := RSq.good (w.alloc (.cells #[.int .u8 x0, .int .u8 x1, .int .u8 x2, .int .u8 x3] 41)).heap.size g2 1000
  have gP := PSq.good (w.alloc (.cells #[.int .u8 x0, .int .u8 x1, .int .u8 x2, .int .u8 x3] 41)).heap.size g1 1000
  have hbl := hp.belowW
  have hlt : w.heap.size < (w.alloc (.cells #[.int .u8 x0, .int .u8 x1, .int .u8 x2, .int .u8 x3] 41)).heap.size := by simp
  have c : ∀ j, w1.cell? ⟨w.heap.size, j, none⟩ = #[Value.int .u8 x0, .int .u8 x1, .int .u8 x2, .int .u8 x3][j]? := fun j => by rw [hbl.cell (by exact hlt)]; exact cell_of_row _ _ j _ _ _ (heap_alloc_new w _)
  have c0 := c 0
  have c1 := c 1
  have c2 := c 2
  have c3 := c 3
  simp at c0 c1 c2 c3
  clear c hbl hlt hp hL HT
  by_cases hn : L.length = 0
  · have hl0 : ((L.length : Int) == 0) = true := by simp [hn]
    clear hn
    go_wp2_with fail
    refine (HP0.out.lenP).mono ?_
    rintro e w2 ⟨rfl, rfl⟩
    go_wp2_with fail
    refine (fixed_any _).mono ?_
    rintro e w3 ⟨rfl, hb3⟩
    have hb4 := HB0.out.trans ((HP0.out.belowW.trans (hb3.mono HP0.out.base_le)).mono HB0.out.size)
    clear hb3 c0 c1 c2 c3
    go_wp2
    go_ret
    exact ⟨rfl, hb4⟩
  · have hl0 : ((L.length : Int) == 0) = false := by simpa using hn
    have hn1 : (0 : Int) < L.length := by omega
    have hn2 : (L.length : Int) ≤ 20 := by have := HLn.out; omega
    have HL : Hid (∀ n, Calls Try.prog 17 #[.pointer (some ⟨g1, 0, none⟩)] (w1.drewN n) fun e w' => e = .returned (.int .i64 L.length) ∧ ∃ m, w' = w1.drewN m) := Lib.hid (fun n => quiet_of ((HP0.out.below gP gR (drewN_below _ _)).lenP))
    clear hn
    go_wp2_with fail
    refine (HP0.out.lenP).mono ?_
    rintro e w2 ⟨rfl, rfl⟩
    go_wp2_with fail
    go_quiet (first | (go_at_call 17; exact HL.out _))
    obtain ⟨k, hk⟩ : ∃ k, k = wrap64 (1 + (wrap64 x0).tmod ↑L.length) := ⟨_, rfl⟩
    have bdk : 1 ≤ k ∧ k ≤ (L.length : Int) := by rw [hk]; exact pick_in x0 _ H0.out hn1 (by omega)
    obtain ⟨x, hx⟩ : ∃ x, x = wrap64 (1 + (wrap64 x1).tmod ↑L.length) := ⟨_, rfl⟩
    have bdx : 1 ≤ x ∧ x ≤ (L.length : Int) := by rw [hx]; exact pick_in x1 _ H1.out hn1 (by omega)
    rw [← hk, ← hx]
    have HIk : Hid (I64 k) := Lib.hid (i64_small (by omega) (by omega))
    have Bk := Lib.hid bdk
    have HIx : Hid (I64 x) := Lib.hid (i64_small (by omega) (by omega))
    have Bx := Lib.hid bdx
    have HPA := Lib.hid (HP0.out.below gP gR (drewN_below w1 nq))
    clear hk bdk hx bdx HP0 HL c0 c1 hl0 hn1 hn2
    generalize w1.drewN nq = w2 at HPA ⊢
    obtain ⟨p, a, b, L1, L2, e1, e2, m1, m2⟩ := math L k x HLn.out Bk.out Bx.out
    have E1 := Lib.hid e1
    have E2 := Lib.hid e2
    clear e1 e2 Bk Bx c2 c3
    go_wp2_with fail
    refine (HPA.out.kpublicP gR HIk.out E1.out).mono ?_
    rintro e w3 ⟨rfl, hp, _⟩
    have HP3 := Lib.hid hp
    clear hp HPA
    go_wp2_with fail
    refine (HP3.out.wrapP gR HIx.out E2.out).mono ?_
    rintro e w4 ⟨rfl, hp, _⟩
    have HP4 := Lib.hid hp
    clear hp HP3
    go_wp2_with fail
    refine (HP4.out.lenP).mono ?_
    rintro e w5 ⟨rfl, rfl⟩
    have hcA : ∀ j, w4.cell? ⟨w.heap.size, j, none⟩ = #[Value.int .u8 x0, .int .u8 x1, .int .u8 x2, .int .u8 x3][j]? := fun j => by rw [HP4.out.belowW.cell (by show w.heap.size < (w.alloc (.cells #[.int .u8 x0, .int .u8 x1, .int .u8 x2, .int .u8 x3] 41)).heap.size; simp)]; exact cell_of_row _ _ j _ _ _ (heap_alloc_new w _)
    have c2 := hcA 2
    have c3 := hcA 3
    simp at c2 c3
    have hm0 : decide ((L2.length : Int) < 1) = false := by simp; omega
    have hm1 : (0 : Int) < L2.length := by omega
    have hm2 : (L2.length : Int) ≤ 23 := by omega
    have M2 := Lib.hid m2
    clear hcA m1 m2
    go_wp2_with fail
    go_quiet (fail)
    obtain ⟨z, hz⟩ : ∃ z, z = wrap64 (1 + (wrap64 x2).tmod ↑L2.length) := ⟨_, rfl⟩
    obtain ⟨v, hv⟩ : ∃ v, v = wrap64 (1 + (wrap64 x3).tmod ↑L2.length) := ⟨_, rfl⟩
    have bz : 1 ≤ z ∧ z ≤ (L2.length : Int) := by rw [hz]; exact pick_in x2 _ H2.out hm1 (by omega)
    have bv : 1 ≤ v ∧ v ≤ (L2.length : Int) := by rw [hv]; exact pick_in x3 _ H3.out hm1 (by omega)
    rw [← hz, ← hv]
    have HIz : Hid (I64 z) := Lib.hid (i64_small (by omega) (by omega))
    have HPB := Lib.hid (HP4.out.below gP gR (drewN_below w4 nq))
    have HFt := Lib.hid HP4.out.facts.1
    obtain ⟨t, ht⟩ := getT_of bv.1 bv.2
    obtain ⟨tz, htz⟩ := getT_of bz.1 bz.2
    obtain ⟨TK, TS, TN, TA, TB, TC⟩ := t
    have HG := Lib.hid ht
    have HGz := Lib.hid htz
    have Bz := Lib.hid bz
    clear hz hv bz bv ht htz c2 c3 hm0 hm1 hm2 HP4
    generalize w4.drewN nq = w5 at HPB ⊢
    by_cases hK : TK = 6
    · subst hK
      by_cases hA : TA = z
      · subst hA
        obtain ⟨q, L3, e3, e4⟩ := opened HFt.out M2.out Bz.out.1 Bz.out.2 HG.out
        have EO := Lib.hid e3
        have HGa := Lib.hid e4
        clear e3 e4
        have hzz : (TA != TA) = false := by simp
        go_wp2_with fail
        refine (HPB.out.getP gR v HG.out).mono ?_
        rintro e w6 ⟨rfl, hp, hb⟩
        rw [show ((⟨6, TS, TN, TA, TB, TC⟩, true) : Tm × Bool).1.v = .agg #[.int .i64 6, .string TS, .int .u64 TN, .int .i64 TA, .int .i64 TB, .int .i64 TC] from rfl]
        have HP6 := Lib.hid (hp.box gP gR (.cells #[.int .i64 6, .string TS, .int .u64 TN, .int .i64 TA, .int .i64 TB, .int .i64 TC] 49))
        have hbx := heap_alloc_new w6 (.cells #[.int .i64 6, .string TS, .int .u64 TN, .int .i64 TA, .int .i64 TB, .int .i64 TC] 49)
        have HX6 := Lib.hid hbx
        clear hp hb HPB hbx
        go_wp2_with fail
        refine (HP6.out.openP gR HIz.out EO.out).mono ?_
        rintro e w7 ⟨rfl, hp, hk⟩
        have HX7 := Lib.hid ((hk _ (.inr rfl)).trans HX6.out)
        have HP7 := Lib.hid hp
        have y0 := cell_of_row w7 _ 0 _ _ _ HX7.out
        have y3 := cell_of_row w7 _ 3 _ _ _ HX7.out
        have y4 := cell_of_row w7 _ 4 _ _ _ HX7.out
        simp at y0 y3 y4
        clear hp hk HP6 HX6
        go_wp2_with fail
        refine (HP7.out.getP gR q HGa.out).mono ?_
        rintro e w8 ⟨rfl, hp, hb⟩
        rw [show ((kemT TA TB, true) : Tm × Bool).1.v = .agg #[.int .i64 7, .string ⟨#[]⟩, .int .u64 0, .int .i64 TA, .int .i64 TB, .int .i64 0] from rfl]
        have HP8 := Lib.hid (hp.below gP gR ((Below.refl _ _).alloc (Nat.le_refl _) (.cells #[.int .i64 7, .string ⟨#[]⟩, .int .u64 0, .int .i64 TA, .int .i64 TB, .int .i64 0] 49)))
        have HX8 : Hid (w8.heap[w6.heap.size]? = w7.heap[w6.heap.size]?) := Lib.hid (hb.block _ (blk_lt HX7.out))
        have u4 := cell_of_row w8 _ 4 _ _ _ (HX8.out.trans HX7.out)
        have hlt8 := blk_lt (HX8.out.trans HX7.out)
        simp at u4
        have hE := eql_termP (kemT TA TB) (kemT TA TB)
        have hgd := guard32
        rw [(eqB_iff _ _).2 rfl] at hE
        unfold Tm.v kemT at hE
        simp only [] at hE
        clear hp hb HP7 HX8
        go_wp2_with fail
        refine (fixed_any _).mono ?_
        rintro e w99 ⟨rfl, hb9⟩
        have hb := HB0.out.trans ((HP8.out.belowW.trans (hb9.mono HP8.out.base_le)).mono HB0.out.size)
        clear hb9
        go_wp2
        go_ret
        exact ⟨rfl, hb⟩
      · have EO : Hid (openF L2 1000 z v = (0, 10, L2)) := Lib.hid (open_box HGz.out HG.out (fun h => hA h.2))
        have hA1 : (TA != z) = true := by simpa using hA
        clear hA
        go_wp2_with fail
        refine (HPB.out.getP gR v HG.out).mono ?_
        rintro e w6 ⟨rfl, hp, hb⟩
        rw [show ((⟨6, TS, TN, TA, TB, TC⟩, true) : Tm × Bool).1.v = .agg #[.int .i64 6, .string TS, .int .u64 TN, .int .i64 TA, .int .i64 TB, .int .i64 TC] from rfl]
        have HP6 := Lib.hid (hp.box gP gR (.cells #[.int .i64 6, .string TS, .int .u64 TN, .int .i64 TA, .int .i64 TB, .int .i64 TC] 49))
        have hbx := heap_alloc_new w6 (.cells #[.int .i64 6, .string TS, .int .u64 TN, .int .i64 TA, .int .i64 TB, .int .i64 TC] 49)
        have HX6 := Lib.hid hbx
        clear hp hb HPB hbx
        go_wp2_with fail
        refine (HP6.out.openP gR HIz.out EO.out).mono ?_
        rintro e w7 ⟨rfl, hp, hk⟩
        have HX7 := Lib.hid ((hk _ (.inr rfl)).trans HX6.out)
        have HP7 := Lib.hid hp
        have y0 := cell_of_row w7 _ 0 _ _ _ HX7.out
        have y3 := cell_of_row w7 _ 3 _ _ _ HX7.out
        have y4 := cell_of_row w7 _ 4 _ _ _ HX7.out
        simp at y0 y3 y4
        clear hp hk HP6 HX6
        have hl := beq_self_eq_true (L2.length : Int)
        go_wp2_with fail
        refine (HP7.out.lenP).mono ?_
        rintro e w8 ⟨rfl, rfl⟩
        go_wp2_with fail
        refine (fixed_any _).mono ?_
        rintro e w99 ⟨rfl, hb9⟩
        have hb := HB0.out.trans ((HP7.out.belowW.trans (hb9.mono HP7.out.base_le)).mono HB0.out.size)
        clear hb9
        go_wp2
        go_ret
        exact ⟨rfl, hb⟩
    · have EO : Hid (openF L2 1000 z v = (0, 10, L2)) := Lib.hid (open_box HGz.out HG.out (fun h => hK h.1))
      have hK1 : (TK != 6) = true := by simpa using hK
      clear hK
      go_wp2_with fail
      refine (HPB.out.getP gR v HG.out).mono ?_
      rintro e w6 ⟨rfl, hp, hb⟩
      rw [show ((⟨TK, TS, TN, TA, TB, TC⟩, true) : Tm × Bool).1.v = .agg #[.int .i64 TK, .string TS, .int .u64 TN, .int .i64 TA, .int .i64 TB, .int .i64 TC] from rfl]
      have HP6 := Lib.hid (hp.box gP gR (.cells #[.int .i64 TK, .string TS, .int .u64 TN, .int .i64 TA, .int .i64 TB, .int .i64 TC] 49))
      have hbx := heap_alloc_new w6 (.cells #[.int .i64 TK, .string TS, .int .u64 TN, .int .i64 TA, .int .i64 TB, .int .i64 TC] 49)
      have HX6 := Lib.hid hbx
      clear hp hb HPB hbx
      go_wp2_with fail
      refine (HP6.out.openP gR HIz.out EO.out).mono ?_
      rintro e w7 ⟨rfl, hp, hk⟩
      have HX7 := Lib.hid ((hk _ (.inr rfl)).trans HX6.out)
      have HP7 := Lib.hid hp
      have y0 := cell_of_row w7 _ 0 _ _ _ HX7.out
      have y3 := cell_of_row w7 _ 3 _ _ _ HX7.out
      have y4 := cell_of_row w7 _ 4 _ _ _ HX7.out
      simp at y0 y3 y4
      clear hp hk HP6 HX6
      have hl := beq_self_eq_true (L2.length : Int)
      go_wp2_with fail
      refine (HP7.out.lenP).mono ?_
      rintro e w8 ⟨rfl, rfl⟩
      go_wp2_with fail
      refine (fixed_any _).mono ?_
      rintro e w99 ⟨rfl, hb9⟩
      have hb := HB0.out.trans ((HP7.out.belowW.trans (hb9.mono HP7.out.base_le)).mono HB0.out.size)
      clear hb9
      go_wp2
      go_ret
      exact ⟨rfl, hb⟩

set_option maxRecDepth 100000 in
theorem lifted (os : Os) (started : os.Started) (H : Type) (enc : TypeId × Value → H) :
    ReturnsInHanded {} Try.checked os 7 .any (Rows.kemOpensSpec.pre6 enc Try.prog Try.f7 Rows.kemOpensRow.domain false) (Rows.kemOpensSpec.post enc Try.prog Try.f7 false true false false) := by
  refine returnsInHanded_of_change (C := Try.checked) own started (by kernel_rfl) Try.func7
    (ChangeSpec.witness6 (enc := enc) (C := Try.checked) false ⟨#[], #[.slice none 0 0, .agg #[.int .u8 0, .int .u8 0, .int .u8 0, .int .u8 0]], []⟩ 8 (by kernel_rfl) (by kernel_rfl) (by kernel_rfl) (by kernel_rfl)) ?_
  intro W base args ds gs before hval0 hW hcnd _
  have hval : ∀ (j : Nat) t v, Try.f7.params[j]? = some t → args[j]? = some v → Value.okWide Try.prog W .any base t v := hval0
  have hW' := hW
  obtain ⟨p, q, hA0, hV, rfl, hfz, hnd⟩ := hW
  have hA : DataW.TrodAll enc Try.prog W 0 (fun _ => true) true Try.f7.params.toList args.toList ds p := hA0
  rw [Try.params7] at hA hval
  obtain ⟨v0, vs0, d0, ds0, p0, q0, hargs, rfl, rfl, h0, r0⟩ := trodAll_cons hA
  obtain ⟨v1, vs1, d1, ds1, p1, q1, rfl, rfl, rfl, h1, r1⟩ := trodAll_cons r0
  obtain ⟨rfl, rfl, rfl⟩ := trodAll_nil r1
  obtain rfl : args = #[v0, v1] := by cases args; simp_all
  obtain ⟨rfl, rfl⟩ := trodVars_none hV
  obtain ⟨a0, len0, cap0, rfl⟩ := okWide_slice Try.underlying22 (hval 0 22 v0 rfl rfl)
  have k0 := h0
  have lt0 : ∀ x ∈ p0, x.block < W.heap.size := by obtain ⟨m, hm⟩ := k0; exact DataW.trod_lt m _ _ _ hm
  obtain ⟨T0, w0⟩ : ∃ T, Terms W a0 len0 cap0 T := by
    obtain ⟨fuel, hf⟩ := h0
    exact open_terms (by simpa [Value.cells] using hf)
  obtain ⟨cs1, rfl, hsz1⟩ : ∃ cs, v1 = .agg cs ∧ cs.size = Try.prog.cellsOf 41 := by
    have h := hval 1 41 v1 rfl rfl
    simp only [Value.okWide, Try.underlying41] at h
    obtain ⟨cs, e1, e2, _⟩ := h
    exact ⟨cs, e1, e2⟩
  have k1 := h1
  have lt1 : ∀ x ∈ p1, x.block < W.heap.size := by obtain ⟨m, hm⟩ := k1; exact DataW.trod_lt m _ _ _ hm
  obtain ⟨Z1, rfl, w1⟩ : ∃ Z : Nat → Int, cs1 = ((List.range 4).map fun j => Value.int .u8 (Z j)).toArray ∧ ∀ j, j < 4 → (Lit.int .u8 (Z j)).wf = true := by
    obtain ⟨fuel, hf⟩ := h1
    exact open_arrV Try.underlying41 Try.underlying5 (by kernel_rfl) (by kernel_rfl) hf
  clear hA0 hval0
  refine (walk a0 len0 cap0 T0 (Z1 0) (Z1 1) (Z1 2) (Z1 3) W w0 (w1 0 (by omega)) (w1 1 (by omega)) (w1 2 (by omega)) (w1 3 (by omega))).mono fun e W' ⟨he, bel⟩ => ?_
  subst he
  exact ⟨_, rfl, _, _, _, [], _, [], hW', trodAll_mk1 (shut_bool Try.underlying4 _), (trodAll_cons_mk (Below.trod laidOut (by kernel_rfl) (of_decide_eq_true (by kernel_rfl)) k0 bel lt0) (trodAll_cons_mk (Below.trod laidOut (by kernel_rfl) (of_decide_eq_true (by kernel_rfl)) k1 bel lt1) trodAll_mk0)), rfl, bel.frame _, fun h => by cases h⟩

theorem over : Rows.kemOpensRow.holds Try.pinned (OpenSpec.ofChange Rows.kemOpensSpec) :=
  OpenClaim.holds_of_wide 7 Try.f7 rfl rfl rfl rfl rfl rfl rfl ⟨rfl, rfl, rfl, rfl, rfl⟩ rfl rfl rfl rfl rfl (by kernel_rfl) Try.func7 (by kernel_rfl)
    (of_decide_eq_true (by kernel_rfl)) (by unfold Func.isWrapper; first | (rw [if_pos (by decide +kernel)]; kernel_rfl) | (rw [if_neg (by decide +kernel)]; exact ⟨rfl, rfl⟩))
    (fun os started H enc _ => lifted os started H enc)

theorem proved : Rows.KemOpensSaid := over
#print axioms proved
end Go.Proofs.Ytpfeonmgiekpfaa.kemOpens
