/- KemBack: for every row of terms and four numbers, what is wrapped is opened by its secret, and by no other one, and unlike draws are wrapped unlike. No condition. -/
import Derived.Test.YtpfeonmgiekpfaaRows
import Derived.Test.YtpfeonmgiekpfaaKemF
import Derived.Test.YtpfeonmgiekpfaaKemM
import Derived.Test.YtpfeonmgiekpfaaOpens
import Derived.WalkKit
import Derived.ProofKit
import Derived.OpenShut
import Derived.ShutString
import Derived.ChangeOld
import Derived.Below
namespace Go.Proofs.Ytpfeonmgiekpfaa.kemBack
open Go.ChangeShapes Go.WideShapes Go.ChangeAt Go.RowKit
open Go.ChangeMaps (open_string shut_string)
open Go.Proofs.Ytpfeonmgiekpfaa
set_option linter.unusedVariables false
set_option linter.unusedSimpArgs false

theorem own : ownKnob Try.prog.godebug = none := by kernel_rfl
theorem laidOut : laidOutB Try.prog = true := by kernel_rfl

theorem math (L : List Tm) (k x y : Int) (hL : L.length ≤ 20) (bk : 1 ≤ k ∧ k ≤ (L.length : Int)) (bx : 1 ≤ x ∧ x ≤ (L.length : Int)) (ey : 1 ≤ y ∧ y ≤ (L.length : Int)) :
    ∃ p a b c d L1 L2 L3, putF L 1000 (kpubT k) = (p, 0, L1) ∧ wrapF L1 1000 p x = (a, b, 0, L2) ∧ wrapF L2 1000 p y = (c, d, 0, L3) ∧ openF L3 1000 k a = (b, 0, L3) ∧ openF L3 1000 k c = (d, 0, L3) ∧
      (∀ o, 1 ≤ o → o ≤ (L.length : Int) → o ≠ k → openF L3 1000 o c = (0, 10, L3)) ∧ (a = c ↔ x = y) ∧ (b = d ↔ x = y) ∧ a ≠ b := by
  obtain ⟨p, L1, e1, n1, x1, l1⟩ := kpub_step L 1000 k bk.1 bk.2 (by omega)
  obtain ⟨a, b, L2, e2, na, nb, x2, l2⟩ := wrap_step 1000 n1 bk.1 (x1.len bk.2) bx.1 (x1.len bx.2) (by omega)
  have x12 := x1.trans x2
  obtain ⟨c, d, L3, e3, nc, nd, x3, l3⟩ := wrap_step 1000 (n1.ext x2) bk.1 (x12.len bk.2) ey.1 (x12.len ey.2) (by omega)
  have x13 := x12.trans x3
  refine ⟨p, a, b, c, d, L1, L2, L3, e1, e2, e3, open_old 1000 (na.ext x3) (nb.ext x3) bk.1 (x13.len bk.2) bx.1 (x13.len bx.2), open_old 1000 nc nd bk.1 (x13.len bk.2) ey.1 (x13.len ey.2), fun o h1 h2 h3 => open_other 1000 nc h3 h1 (x13.len h2), ?_, ?_, ?_⟩
  · rw [(na.ext x3).inj nc, box_inj]
  · rw [(nb.ext x3).inj nd, kem_inj]
  · intro h; exact box_ne_kem k x k x ((na.inj nb).1 h)

set_option maxHeartbeats 2000000 in
set_option maxRecDepth 100000 in
theorem walk (a0 : Option Addr) (len0 cap0 : Nat) (T0 : Nat → Tm) (x0 x1 x2 x3 : Int) (w : World) (w0 : Terms w a0 len0 cap0 T0) (h0 : (Lit.int .u8 x0).wf = true) (h1 : (Lit.int .u8 x1).wf = true) (h2 : (Lit.int .u8 x2).wf = true) (h3 : (Lit.int .u8 x3).wf = true) :
    Calls Try.prog 4 #[.slice a0 len0 cap0, .agg #[.int .u8 x0, .int .u8 x1, .int .u8 x2, .int .u8 x3]] w fun e w' => e = .returned (.bool true) ∧ Below w.heap.size w w' := by
  have hB0 : Below w.heap.size w (w.alloc (.cells #[.int .u8 x0, .int .u8 x1, .int .u8 x2, .int .u8 x3] 41)) := (Below.refl _ _).alloc (Nat.le_refl _) _
  have HT := Lib.hid (w0.below hB0)
  have HB0 := Lib.hid hB0
  have H0 := Lib.hid h0
  have H1 := Lib.hid h1
  have H2 := Lib.hid h2
  have H3 := Lib.hid h3
  clear w0 hB0 h0 h1 h2 h3
  go_enter Try.func4, Try.ntmps4
  go_wp2_with fail
  refine (stores_any 20 a0 len0 cap0 T0 _ (by omega) HT.out).mono ?_
  rintro e w1 ⟨g1, g2, L, rfl, hL, hp⟩
  have HP0 := Lib.hid hp
  have HLn := Lib.hid hL
  have HFit := Lib.hid hp.facts.1
  have gR := RSq.good (w.alloc (.cells #[.int .u8 x0, .int .u8 x1, .int .u8 x2, .int .u8 x3] 41)).heap.size g2 1000
  have gP := PSq.good (w.alloc (.cells #[.int .u8 x0, .int .u8 x1, .int .u8 x2, .int .u8 x3] 41)).heap.size g1 1000
  have hbl := hp.belowW
  have hlt : w.heap.size < (w.alloc (.cells #[.int .u8 x0, .int .u8 x1, .int .u8 x2, .int .u8 x3] 41)).heap.size := by simp
  have c : ∀ j, w1.cell? ⟨w.heap.size, j, none⟩ = #[Value.int .u8 x0, .int .u8 x1, .int .u8 x2, .int .u8 x3][j]? := fun j => by rw [hbl.cell (by exact hlt)]; exact cell_of_row _ _ j _ _ _ (heap_alloc_new w _)
  have c0 := c 0
  have c1 := c 1
  have c2 := c 2
  have c3 := c 3
  simp at c0 c1 c2 c3
  clear c hbl hlt hp hL HT
  by_cases hn : L.length = 0
  · have hl0 : ((L.length : Int) == 0) = true := by simp [hn]
    clear hn
    go_wp2_with fail
    refine (HP0.out.lenP).mono ?_
    rintro e w2 ⟨rfl, rfl⟩
    go_wp2_with fail
    refine (fixed_any _).mono ?_
    rintro e w3 ⟨rfl, hb3⟩
    have hb4 := HB0.out.trans ((HP0.out.belowW.trans (hb3.mono HP0.out.base_le)).mono HB0.out.size)
    clear hb3 c0 c1 c2 c3
    go_wp2
    go_ret
    exact ⟨rfl, hb4⟩
  · have hl0 : ((L.length : Int) == 0) = false := by simpa using hn
    have hn1 : (0 : Int) < L.length := by omega
    have hn2 : (L.length : Int) ≤ 20 := by have := HLn.out; omega
    have HL : Hid (∀ n, Calls Try.prog 17 #[.pointer (some ⟨g1, 0, none⟩)] (w1.drewN n) fun e w' => e = .returned (.int .i64 L.length) ∧ ∃ m, w' = w1.drewN m) := Lib.hid (fun n => quiet_of ((HP0.out.below gP gR (drewN_below _ _)).lenP))
    clear hn
    go_wp2_with fail
    refine (HP0.out.lenP).mono ?_
    rintro e w2 ⟨rfl, rfl⟩
    go_wp2_with fail
    go_quiet (first | (go_at_call 17; exact HL.out _))
    obtain ⟨k, hk⟩ : ∃ k, k = wrap64 (1 + (wrap64 x0).tmod ↑L.length) := ⟨_, rfl⟩
    have bdk : 1 ≤ k ∧ k ≤ (L.length : Int) := by rw [hk]; exact pick_in x0 _ H0.out hn1 (by omega)
    obtain ⟨o, ho⟩ : ∃ o, o = wrap64 (1 + (wrap64 x1).tmod ↑L.length) := ⟨_, rfl⟩
    have bdo : 1 ≤ o ∧ o ≤ (L.length : Int) := by rw [ho]; exact pick_in x1 _ H1.out hn1 (by omega)
    obtain ⟨x, hx⟩ : ∃ x, x = wrap64 (1 + (wrap64 x2).tmod ↑L.length) := ⟨_, rfl⟩
    have bdx : 1 ≤ x ∧ x ≤ (L.length : Int) := by rw [hx]; exact pick_in x2 _ H2.out hn1 (by omega)
    obtain ⟨y, hy⟩ : ∃ y, y = wrap64 (1 + (wrap64 x3).tmod ↑L.length) := ⟨_, rfl⟩
    have bdy : 1 ≤ y ∧ y ≤ (L.length : Int) := by rw [hy]; exact pick_in x3 _ H3.out hn1 (by omega)
    rw [← hk, ← ho, ← hx, ← hy]
    have HIk : Hid (I64 k) := Lib.hid (i64_small (by omega) (by omega))
    have Bk := Lib.hid bdk
    have HIo : Hid (I64 o) := Lib.hid (i64_small (by omega) (by omega))
    have Bo := Lib.hid bdo
    have HIx : Hid (I64 x) := Lib.hid (i64_small (by omega) (by omega))
    have Bx := Lib.hid bdx
    have HIy : Hid (I64 y) := Lib.hid (i64_small (by omega) (by omega))
    have By := Lib.hid bdy
    have HPA := Lib.hid (HP0.out.below gP gR (drewN_below w1 nq))
    clear hk bdk ho bdo hx bdx hy bdy HP0 HL c0 c1 c2 c3 hl0 hn1 hn2
    generalize w1.drewN nq = w2 at HPA ⊢
    obtain ⟨p, a, b, c, d, L1, L2, L3, e1, e2, e3, e4, e5, e6, b1, b2, b3⟩ := math L k x y HLn.out Bk.out Bx.out By.out
    have E1 := Lib.hid e1
    have E2 := Lib.hid e2
    have E3 := Lib.hid e3
    have E4 := Lib.hid e4
    obtain ⟨t1, f1, f2⟩ := beqs b1
    obtain ⟨t2, f3, f4⟩ := beqs b2
    obtain rfl : t1 = t2 := f2.symm.trans f4
    have F1 := Lib.hid f1
    have F2 := Lib.hid f2
    have F3 := Lib.hid f3
    have f5 : (b != b) = false := by simp
    have f6 : (a == b) = false := by simpa using b3
    have f7 : (d == d) = true := by simp
    have Bo' := Bo.out
    clear e1 e2 e3 e4 b1 b2 b3 f1 f2 f3 f4 Bk Bx By Bo
    by_cases ho : o = k
    · subst ho
      have f10 : (o == o) = true := by simp
      have E5 := Lib.hid e5
      clear e5 e6 Bo'
      go_wp2_with fail
      refine (HPA.out.kpublicP gR HIk.out E1.out).mono ?_
      rintro e w3 ⟨rfl, hp, _⟩
      have HP3 := Lib.hid hp
      clear hp HPA
      go_wp2_with fail
      refine (HP3.out.wrapP gR HIx.out E2.out).mono ?_
      rintro e w4 ⟨rfl, hp, _⟩
      have HP4 := Lib.hid hp
      clear hp HP3
      go_wp2_with fail
      refine (HP4.out.wrapP gR HIy.out E3.out).mono ?_
      rintro e w5 ⟨rfl, hp, _⟩
      have HP5 := Lib.hid hp
      clear hp HP4
      go_wp2_with fail
      refine (HP5.out.openP gR HIk.out E4.out).mono ?_
      rintro e w6 ⟨rfl, hp, _⟩
      have HP6 := Lib.hid hp
      clear hp HP5
      go_wp2_with fail
      refine (HP6.out.openP gR HIo.out E5.out).mono ?_
      rintro e w7 ⟨rfl, hp, _⟩
      have HP7 := Lib.hid hp
      clear hp HP6
      have f1 := F1.out
      have f2 := F2.out
      have f3 := F3.out
      have f8 : (t1 != t1) = false := by simp
      go_wp2_with fail
      refine (fixed_any _).mono ?_
      rintro e w99 ⟨rfl, hb9⟩
      have hb := HB0.out.trans ((HP7.out.belowW.trans (hb9.mono HP7.out.base_le)).mono HB0.out.size)
      clear hb9
      go_wp2
      go_ret
      exact ⟨rfl, hb⟩
    · have f10 : (o == k) = false := by simpa using ho
      have E5 := Lib.hid (e6 o Bo'.1 Bo'.2 ho)
      clear e5 e6 Bo' ho
      go_wp2_with fail
      refine (HPA.out.kpublicP gR HIk.out E1.out).mono ?_
      rintro e w3 ⟨rfl, hp, _⟩
      have HP3 := Lib.hid hp
      clear hp HPA
      go_wp2_with fail
      refine (HP3.out.wrapP gR HIx.out E2.out).mono ?_
      rintro e w4 ⟨rfl, hp, _⟩
      have HP4 := Lib.hid hp
      clear hp HP3
      go_wp2_with fail
      refine (HP4.out.wrapP gR HIy.out E3.out).mono ?_
      rintro e w5 ⟨rfl, hp, _⟩
      have HP5 := Lib.hid hp
      clear hp HP4
      go_wp2_with fail
      refine (HP5.out.openP gR HIk.out E4.out).mono ?_
      rintro e w6 ⟨rfl, hp, _⟩
      have HP6 := Lib.hid hp
      clear hp HP5
      go_wp2_with fail
      refine (HP6.out.openP gR HIo.out E5.out).mono ?_
      rintro e w7 ⟨rfl, hp, _⟩
      have HP7 := Lib.hid hp
      clear hp HP6
      have f1 := F1.out
      have f2 := F2.out
      have f3 := F3.out
      have f8 : (t1 != t1) = false := by simp
      go_wp2_with fail
      refine (fixed_any _).mono ?_
      rintro e w99 ⟨rfl, hb9⟩
      have hb := HB0.out.trans ((HP7.out.belowW.trans (hb9.mono HP7.out.base_le)).mono HB0.out.size)
      clear hb9
      go_wp2
      go_ret
      exact ⟨rfl, hb⟩

set_option maxRecDepth 100000 in
theorem lifted (os : Os) (started : os.Started) (H : Type) (enc : TypeId × Value → H) :
    ReturnsInHanded {} Try.checked os 4 .any (Rows.kemBackSpec.pre6 enc Try.prog Try.f4 Rows.kemBackRow.domain false) (Rows.kemBackSpec.post enc Try.prog Try.f4 false true false false) := by
  refine returnsInHanded_of_change (C := Try.checked) own started (by kernel_rfl) Try.func4
    (ChangeSpec.witness6 (enc := enc) (C := Try.checked) false ⟨#[], #[.slice none 0 0, .agg #[.int .u8 0, .int .u8 0, .int .u8 0, .int .u8 0]], []⟩ 8 (by kernel_rfl) (by kernel_rfl) (by kernel_rfl) (by kernel_rfl)) ?_
  intro W base args ds gs before hval0 hW hcnd _
  have hval : ∀ (j : Nat) t v, Try.f4.params[j]? = some t → args[j]? = some v → Value.okWide Try.prog W .any base t v := hval0
  have hW' := hW
  obtain ⟨p, q, hA0, hV, rfl, hfz, hnd⟩ := hW
  have hA : DataW.TrodAll enc Try.prog W 0 (fun _ => true) true Try.f4.params.toList args.toList ds p := hA0
  rw [Try.params4] at hA hval
  obtain ⟨v0, vs0, d0, ds0, p0, q0, hargs, rfl, rfl, h0, r0⟩ := trodAll_cons hA
  obtain ⟨v1, vs1, d1, ds1, p1, q1, rfl, rfl, rfl, h1, r1⟩ := trodAll_cons r0
  obtain ⟨rfl, rfl, rfl⟩ := trodAll_nil r1
  obtain rfl : args = #[v0, v1] := by cases args; simp_all
  obtain ⟨rfl, rfl⟩ := trodVars_none hV
  obtain ⟨a0, len0, cap0, rfl⟩ := okWide_slice Try.underlying22 (hval 0 22 v0 rfl rfl)
  have k0 := h0
  have lt0 : ∀ x ∈ p0, x.block < W.heap.size := by obtain ⟨m, hm⟩ := k0; exact DataW.trod_lt m _ _ _ hm
  obtain ⟨T0, w0⟩ : ∃ T, Terms W a0 len0 cap0 T := by
    obtain ⟨fuel, hf⟩ := h0
    exact open_terms (by simpa [Value.cells] using hf)
  obtain ⟨cs1, rfl, hsz1⟩ : ∃ cs, v1 = .agg cs ∧ cs.size = Try.prog.cellsOf 41 := by
    have h := hval 1 41 v1 rfl rfl
    simp only [Value.okWide, Try.underlying41] at h
    obtain ⟨cs, e1, e2, _⟩ := h
    exact ⟨cs, e1, e2⟩
  have k1 := h1
  have lt1 : ∀ x ∈ p1, x.block < W.heap.size := by obtain ⟨m, hm⟩ := k1; exact DataW.trod_lt m _ _ _ hm
  obtain ⟨Z1, rfl, w1⟩ : ∃ Z : Nat → Int, cs1 = ((List.range 4).map fun j => Value.int .u8 (Z j)).toArray ∧ ∀ j, j < 4 → (Lit.int .u8 (Z j)).wf = true := by
    obtain ⟨fuel, hf⟩ := h1
    exact open_arrV Try.underlying41 Try.underlying5 (by kernel_rfl) (by kernel_rfl) hf
  clear hA0 hval0
  refine (walk a0 len0 cap0 T0 (Z1 0) (Z1 1) (Z1 2) (Z1 3) W w0 (w1 0 (by omega)) (w1 1 (by omega)) (w1 2 (by omega)) (w1 3 (by omega))).mono fun e W' ⟨he, bel⟩ => ?_
  subst he
  exact ⟨_, rfl, _, _, _, [], _, [], hW', trodAll_mk1 (shut_bool Try.underlying4 _), (trodAll_cons_mk (Below.trod laidOut (by kernel_rfl) (of_decide_eq_true (by kernel_rfl)) k0 bel lt0) (trodAll_cons_mk (Below.trod laidOut (by kernel_rfl) (of_decide_eq_true (by kernel_rfl)) k1 bel lt1) trodAll_mk0)), rfl, bel.frame _, fun h => by cases h⟩

theorem over : Rows.kemBackRow.holds Try.pinned (OpenSpec.ofChange Rows.kemBackSpec) :=
  OpenClaim.holds_of_wide 4 Try.f4 rfl rfl rfl rfl rfl rfl rfl ⟨rfl, rfl, rfl, rfl, rfl⟩ rfl rfl rfl rfl rfl (by kernel_rfl) Try.func4 (by kernel_rfl)
    (of_decide_eq_true (by kernel_rfl)) (by unfold Func.isWrapper; first | (rw [if_pos (by decide +kernel)]; kernel_rfl) | (rw [if_neg (by decide +kernel)]; exact ⟨rfl, rfl⟩))
    (fun os started H enc _ => lifted os started H enc)

theorem proved : Rows.KemBackSaid := over
#print axioms proved
end Go.Proofs.Ytpfeonmgiekpfaa.kemBack
