/- KdfMixes: for every row of terms and four numbers, unlike keys, or what is mixed in, make unlike keys, both keys are unlike, and neither is what they were made of. No condition. -/
import Derived.Test.YtglgobimdghehaaRows
import Derived.Test.YtglgobimdghehaaKdfF
import Derived.Test.YtglgobimdghehaaKdfM
import Derived.Test.YtglgobimdghehaaOpens
import Derived.WalkKit
import Derived.ProofKit
import Derived.OpenShut
import Derived.ShutString
import Derived.ChangeOld
import Derived.Below
namespace Go.Proofs.Ytglgobimdghehaa.kdfMixes
open Go.ChangeShapes Go.WideShapes Go.ChangeAt Go.RowKit
open Go.ChangeMaps (open_string shut_string)
open Go.Proofs.Ytglgobimdghehaa
set_option linter.unusedVariables false
set_option linter.unusedSimpArgs false

theorem own : ownKnob Try.prog.godebug = none := by kernel_rfl
theorem laidOut : laidOutB Try.prog = true := by kernel_rfl

theorem math (L : List Tm) (k i o j : Int) (hf : Fit L) (hL : L.length ≤ 20) (bk : 1 ≤ k ∧ k ≤ (L.length : Int)) (bi : 1 ≤ i ∧ i ≤ (L.length : Int)) (bo : 1 ≤ o ∧ o ≤ (L.length : Int)) (bj : 1 ≤ j ∧ j ≤ (L.length : Int)) :
    ∃ a b c d L1 L2, mixF L 1000 k i = (a, b, 0, L1) ∧ mixF L1 1000 o j = (c, d, 0, L2) ∧ a ≠ b ∧ c ≠ d ∧ (a = c ↔ k = o ∧ i = j) ∧ (b = d ↔ k = o ∧ i = j) ∧ a ≠ d ∧ a ≠ k ∧ a ≠ i ∧ b ≠ k ∧ b ≠ i := by
  obtain ⟨a, b, L1, e1, m1, x1, l1, f1⟩ := mix_step (most := 1000) hf bk bi (by omega)
  obtain ⟨c, d, L2, e2, ⟨g, g1, g2, g3⟩, x2, l2, f2⟩ := mix_step (most := 1000) f1 (x1.in bo) (x1.in bj) (by omega)
  obtain ⟨h, h1, h2, h3⟩ := m1.ext x2
  have q1 := h1.hash_lt f2
  have q2 := h2.key_lt f2
  have q3 := h3.key_lt f2
  have hg : h = g ↔ k = o ∧ i = j := by rw [h1.inj g1, hash_eq]
  refine ⟨a, b, c, d, L1, L2, e1, e2, ?_, ?_, ?_, ?_, ?_, by omega, by omega, by omega, by omega⟩
  · rw [Ne, h2.inj h3, key_eq]; omega
  · rw [Ne, g2.inj g3, key_eq]; omega
  · rw [h2.inj g2, key_eq, ← hg]; simp
  · rw [h3.inj g3, key_eq, ← hg]; simp
  · rw [Ne, h2.inj g3, key_eq]; omega

set_option maxHeartbeats 2000000 in
set_option maxRecDepth 100000 in
theorem walk (a0 : Option Addr) (len0 cap0 : Nat) (T0 : Nat → Tm) (x0 x1 x2 x3 : Int) (w : World) (w0 : Terms w a0 len0 cap0 T0) (h0 : (Lit.int .u8 x0).wf = true) (h1 : (Lit.int .u8 x1).wf = true) (h2 : (Lit.int .u8 x2).wf = true) (h3 : (Lit.int .u8 x3).wf = true) :
    Calls Try.prog 5 #[.slice a0 len0 cap0, .agg #[.int .u8 x0, .int .u8 x1, .int .u8 x2, .int .u8 x3]] w fun e w' => e = .returned (.bool true) ∧ Below w.heap.size w w' := by
  have hB0 : Below w.heap.size w (w.alloc (.cells #[.int .u8 x0, .int .u8 x1, .int .u8 x2, .int .u8 x3] 47)) := (Below.refl _ _).alloc (Nat.le_refl _) _
  have HT := Lib.hid (w0.below hB0)
  have HB0 := Lib.hid hB0
  have H0 := Lib.hid h0
  have H1 := Lib.hid h1
  have H2 := Lib.hid h2
  have H3 := Lib.hid h3
  clear w0 hB0 h0 h1 h2 h3
  go_enter Try.func5, Try.ntmps5
  go_wp2_with fail
  refine (stores_any 20 a0 len0 cap0 T0 _ (by omega) HT.out).mono ?_
  rintro e w1 ⟨g1, g2, L, rfl, hL, hp⟩
  have HP0 := Lib.hid hp
  have HLn := Lib.hid hL
  have HFit := Lib.hid hp.facts.1
  have gR := RSq.good (w.alloc (.cells #[.int .u8 x0, .int .u8 x1, .int .u8 x2, .int .u8 x3] 47)).heap.size g2 1000
  have gP := PSq.good (w.alloc (.cells #[.int .u8 x0, .int .u8 x1, .int .u8 x2, .int .u8 x3] 47)).heap.size g1 1000
  have hbl := hp.belowW
  have hlt : w.heap.size < (w.alloc (.cells #[.int .u8 x0, .int .u8 x1, .int .u8 x2, .int .u8 x3] 47)).heap.size := by simp
  have c : ∀ j, w1.cell? ⟨w.heap.size, j, none⟩ = #[Value.int .u8 x0, .int .u8 x1, .int .u8 x2, .int .u8 x3][j]? := fun j => by rw [hbl.cell (by exact hlt)]; exact cell_of_row _ _ j _ _ _ (heap_alloc_new w _)
  have c0 := c 0
  have c1 := c 1
  have c2 := c 2
  have c3 := c 3
  simp at c0 c1 c2 c3
  clear c hbl hlt hp hL HT
  by_cases hn : L.length = 0
  · have hl0 : ((L.length : Int) == 0) = true := by simp [hn]
    clear hn
    go_wp2_with fail
    refine (HP0.out.lenP).mono ?_
    rintro e w2 ⟨rfl, rfl⟩
    go_wp2_with fail
    refine (fixed_any _).mono ?_
    rintro e w3 ⟨rfl, hb3⟩
    have hb4 := HB0.out.trans ((HP0.out.belowW.trans (hb3.mono HP0.out.base_le)).mono HB0.out.size)
    clear hb3 c0 c1 c2 c3
    go_wp2
    go_ret
    exact ⟨rfl, hb4⟩
  · have hl0 : ((L.length : Int) == 0) = false := by simpa using hn
    have hn1 : (0 : Int) < L.length := by omega
    have hn2 : (L.length : Int) ≤ 20 := by have := HLn.out; omega
    have HL : Hid (∀ n, Calls Try.prog 20 #[.pointer (some ⟨g1, 0, none⟩)] (w1.drewN n) fun e w' => e = .returned (.int .i64 L.length) ∧ ∃ m, w' = w1.drewN m) := Lib.hid (fun n => quiet_of ((HP0.out.below gP gR (drewN_below _ _)).lenP))
    clear hn
    go_wp2_with fail
    refine (HP0.out.lenP).mono ?_
    rintro e w2 ⟨rfl, rfl⟩
    go_wp2_with fail
    go_quiet (first | (go_at_call 20; exact HL.out _))
    obtain ⟨k, hk⟩ : ∃ k, k = wrap64 (1 + (wrap64 x0).tmod ↑L.length) := ⟨_, rfl⟩
    have bdk : 1 ≤ k ∧ k ≤ (L.length : Int) := by rw [hk]; exact pick_in x0 _ H0.out hn1 (by omega)
    obtain ⟨i, hi⟩ : ∃ i, i = wrap64 (1 + (wrap64 x1).tmod ↑L.length) := ⟨_, rfl⟩
    have bdi : 1 ≤ i ∧ i ≤ (L.length : Int) := by rw [hi]; exact pick_in x1 _ H1.out hn1 (by omega)
    obtain ⟨o, ho⟩ : ∃ o, o = wrap64 (1 + (wrap64 x2).tmod ↑L.length) := ⟨_, rfl⟩
    have bdo : 1 ≤ o ∧ o ≤ (L.length : Int) := by rw [ho]; exact pick_in x2 _ H2.out hn1 (by omega)
    obtain ⟨j, hj⟩ : ∃ j, j = wrap64 (1 + (wrap64 x3).tmod ↑L.length) := ⟨_, rfl⟩
    have bdj : 1 ≤ j ∧ j ≤ (L.length : Int) := by rw [hj]; exact pick_in x3 _ H3.out hn1 (by omega)
    rw [← hk, ← hi, ← ho, ← hj]
    have HIk : Hid (I64 k) := Lib.hid (i64_small (by omega) (by omega))
    have Bk := Lib.hid bdk
    have HIi : Hid (I64 i) := Lib.hid (i64_small (by omega) (by omega))
    have Bi := Lib.hid bdi
    have HIo : Hid (I64 o) := Lib.hid (i64_small (by omega) (by omega))
    have Bo := Lib.hid bdo
    have HIj : Hid (I64 j) := Lib.hid (i64_small (by omega) (by omega))
    have Bj := Lib.hid bdj
    have HPA := Lib.hid (HP0.out.below gP gR (drewN_below w1 nq))
    clear hk bdk hi bdi ho bdo hj bdj HP0 HL c0 c1 c2 c3 hl0 hn1 hn2
    generalize w1.drewN nq = w2 at HPA ⊢
    obtain ⟨a, b, c, d, L1, L2, e1, e2, b1, b2, b3, b4, b5, b6, b7, b8, b9⟩ := math L k i o j HFit.out HLn.out Bk.out Bi.out Bo.out Bj.out
    have E1 := Lib.hid e1
    have E2 := Lib.hid e2
    have s1 : (a != b) = true := by simpa using b1
    have s2 : (c != d) = true := by simpa using b2
    have s5 : (a != d) = true := by simpa using b5
    have s6 : (a != k) = true := by simpa using b6
    have s7 : (a != i) = true := by simpa using b7
    have s8 : (b != k) = true := by simpa using b8
    have s9 : (b != i) = true := by simpa using b9
    obtain ⟨t, ht⟩ : ∃ t : Bool, decide (k = o ∧ i = j) = t := ⟨_, rfl⟩
    have s3 : (a == c) = t := by rw [← ht, Bool.eq_iff_iff]; simpa using b3
    have s4 : (b == d) = t := by rw [← ht, Bool.eq_iff_iff]; simpa using b4
    have stt : (t == t) = true := by simp
    have HT' := Lib.hid ht
    clear e1 e2 b1 b2 b3 b4 b5 b6 b7 b8 b9 ht Bk Bi Bo Bj
    by_cases hko : k = o
    · have r1 : (k == o) = true := by simpa using hko
      have r2 : (i == j) = t := by have := HT'.out; rw [← this, Bool.eq_iff_iff]; simp [hko]
      clear hko HT'
      go_wp2_with fail
      refine (HPA.out.mixP gR HIk.out HIi.out E1.out).mono ?_
      rintro e w3 ⟨rfl, hp, _⟩
      have HP3 := Lib.hid hp
      clear hp HPA
      go_wp2_with fail
      refine (HP3.out.mixP gR HIo.out HIj.out E2.out).mono ?_
      rintro e w4 ⟨rfl, hp, _⟩
      have HP4 := Lib.hid hp
      clear hp HP3
      go_wp2_with fail
      refine (fixed_any _).mono ?_
      rintro e w99 ⟨rfl, hb9⟩
      have hb := HB0.out.trans ((HP4.out.belowW.trans (hb9.mono HP4.out.base_le)).mono HB0.out.size)
      clear hb9
      go_wp2
      go_ret
      exact ⟨rfl, hb⟩
    · have r1 : (k == o) = false := by simpa using hko
      obtain rfl : t = false := by have := HT'.out; rw [← this]; simp [hko]
      clear hko HT' stt
      go_wp2_with fail
      refine (HPA.out.mixP gR HIk.out HIi.out E1.out).mono ?_
      rintro e w3 ⟨rfl, hp, _⟩
      have HP3 := Lib.hid hp
      clear hp HPA
      go_wp2_with fail
      refine (HP3.out.mixP gR HIo.out HIj.out E2.out).mono ?_
      rintro e w4 ⟨rfl, hp, _⟩
      have HP4 := Lib.hid hp
      clear hp HP3
      go_wp2_with fail
      refine (fixed_any _).mono ?_
      rintro e w99 ⟨rfl, hb9⟩
      have hb := HB0.out.trans ((HP4.out.belowW.trans (hb9.mono HP4.out.base_le)).mono HB0.out.size)
      clear hb9
      go_wp2
      go_ret
      exact ⟨rfl, hb⟩

set_option maxRecDepth 100000 in
theorem lifted (os : Os) (started : os.Started) (H : Type) (enc : TypeId × Value → H) :
    ReturnsInHanded {} Try.checked os 5 .any (Rows.kdfMixesSpec.pre6 enc Try.prog Try.f5 Rows.kdfMixesRow.domain false) (Rows.kdfMixesSpec.post enc Try.prog Try.f5 false true false false) := by
  refine returnsInHanded_of_change (C := Try.checked) own started (by kernel_rfl) Try.func5
    (ChangeSpec.witness6 (enc := enc) (C := Try.checked) false ⟨#[], #[.slice none 0 0, .agg #[.int .u8 0, .int .u8 0, .int .u8 0, .int .u8 0]], []⟩ 8 (by kernel_rfl) (by kernel_rfl) (by kernel_rfl) (by kernel_rfl)) ?_
  intro W base args ds gs before hval0 hW hcnd _
  have hval : ∀ (j : Nat) t v, Try.f5.params[j]? = some t → args[j]? = some v → Value.okWide Try.prog W .any base t v := hval0
  have hW' := hW
  obtain ⟨p, q, hA0, hV, rfl, hfz, hnd⟩ := hW
  have hA : DataW.TrodAll enc Try.prog W 0 (fun _ => true) true Try.f5.params.toList args.toList ds p := hA0
  rw [Try.params5] at hA hval
  obtain ⟨v0, vs0, d0, ds0, p0, q0, hargs, rfl, rfl, h0, r0⟩ := trodAll_cons hA
  obtain ⟨v1, vs1, d1, ds1, p1, q1, rfl, rfl, rfl, h1, r1⟩ := trodAll_cons r0
  obtain ⟨rfl, rfl, rfl⟩ := trodAll_nil r1
  obtain rfl : args = #[v0, v1] := by cases args; simp_all
  obtain ⟨rfl, rfl⟩ := trodVars_none hV
  obtain ⟨a0, len0, cap0, rfl⟩ := okWide_slice Try.underlying22 (hval 0 22 v0 rfl rfl)
  have k0 := h0
  have lt0 : ∀ x ∈ p0, x.block < W.heap.size := by obtain ⟨m, hm⟩ := k0; exact DataW.trod_lt m _ _ _ hm
  obtain ⟨T0, w0⟩ : ∃ T, Terms W a0 len0 cap0 T := by
    obtain ⟨fuel, hf⟩ := h0
    exact open_terms (by simpa [Value.cells] using hf)
  obtain ⟨cs1, rfl, hsz1⟩ : ∃ cs, v1 = .agg cs ∧ cs.size = Try.prog.cellsOf 47 := by
    have h := hval 1 47 v1 rfl rfl
    simp only [Value.okWide, Try.underlying47] at h
    obtain ⟨cs, e1, e2, _⟩ := h
    exact ⟨cs, e1, e2⟩
  have k1 := h1
  have lt1 : ∀ x ∈ p1, x.block < W.heap.size := by obtain ⟨m, hm⟩ := k1; exact DataW.trod_lt m _ _ _ hm
  obtain ⟨Z1, rfl, w1⟩ : ∃ Z : Nat → Int, cs1 = ((List.range 4).map fun j => Value.int .u8 (Z j)).toArray ∧ ∀ j, j < 4 → (Lit.int .u8 (Z j)).wf = true := by
    obtain ⟨fuel, hf⟩ := h1
    exact open_arrV Try.underlying47 Try.underlying5 (by kernel_rfl) (by kernel_rfl) hf
  clear hA0 hval0
  refine (walk a0 len0 cap0 T0 (Z1 0) (Z1 1) (Z1 2) (Z1 3) W w0 (w1 0 (by omega)) (w1 1 (by omega)) (w1 2 (by omega)) (w1 3 (by omega))).mono fun e W' ⟨he, bel⟩ => ?_
  subst he
  exact ⟨_, rfl, _, _, _, [], _, [], hW', trodAll_mk1 (shut_bool Try.underlying4 _), (trodAll_cons_mk (Below.trod laidOut (by kernel_rfl) (of_decide_eq_true (by kernel_rfl)) k0 bel lt0) (trodAll_cons_mk (Below.trod laidOut (by kernel_rfl) (of_decide_eq_true (by kernel_rfl)) k1 bel lt1) trodAll_mk0)), rfl, bel.frame _, fun h => by cases h⟩

theorem over : Rows.kdfMixesRow.holds Try.pinned (OpenSpec.ofChange Rows.kdfMixesSpec) :=
  OpenClaim.holds_of_wide 5 Try.f5 rfl rfl rfl rfl rfl rfl rfl ⟨rfl, rfl, rfl, rfl, rfl⟩ rfl rfl rfl rfl rfl (by kernel_rfl) Try.func5 (by kernel_rfl)
    (of_decide_eq_true (by kernel_rfl)) (by unfold Func.isWrapper; first | (rw [if_pos (by decide +kernel)]; kernel_rfl) | (rw [if_neg (by decide +kernel)]; exact ⟨rfl, rfl⟩))
    (fun os started H enc _ => lifted os started H enc)

theorem proved : Rows.KdfMixesSaid := over
#print axioms proved
end Go.Proofs.Ytglgobimdghehaa.kdfMixes
