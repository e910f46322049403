/- KemPuts: for every row of terms and two numbers, what is wrapped is a Box of the secret and of what was drawn, the secret in it the Kem of both, and what is there already is not put again. No condition. -/
import Derived.Test.YtpfeonmgiekpfaaRows
import Derived.Test.YtpfeonmgiekpfaaKemF
import Derived.Test.YtpfeonmgiekpfaaKemM
import Derived.Test.YtpfeonmgiekpfaaOpens
import Derived.WalkKit
import Derived.ProofKit
import Derived.OpenShut
import Derived.ShutString
import Derived.ChangeOld
import Derived.Below
namespace Go.Proofs.Ytpfeonmgiekpfaa.kemPuts
open Go.ChangeShapes Go.WideShapes Go.ChangeAt Go.RowKit
open Go.ChangeMaps (open_string shut_string)
open Go.Proofs.Ytpfeonmgiekpfaa
set_option linter.unusedVariables false
set_option linter.unusedSimpArgs false

theorem own : ownKnob Try.prog.godebug = none := by kernel_rfl
theorem laidOut : laidOutB Try.prog = true := by kernel_rfl

theorem math (L : List Tm) (k x : Int) (hL : L.length ≤ 20) (bk : 1 ≤ k ∧ k ≤ (L.length : Int)) (bx : 1 ≤ x ∧ x ≤ (L.length : Int)) :
    ∃ p a b L1 L2, putF L 1000 (kpubT k) = (p, 0, L1) ∧ wrapF L1 1000 p x = (a, b, 0, L2) ∧ wrapF L2 1000 p x = (a, b, 0, L2) ∧ openF L2 1000 k a = (b, 0, L2) ∧
      getT L2 p = (kpubT k, true) ∧ getT L2 a = (boxT k x, true) ∧ getT L2 b = (kemT k x, true) := by
  obtain ⟨p, L1, e1, n1, x1, l1⟩ := kpub_step L 1000 k bk.1 bk.2 (by omega)
  obtain ⟨a, b, L2, e2, na, nb, x2, l2⟩ := wrap_step 1000 n1 bk.1 (x1.len bk.2) bx.1 (x1.len bx.2) (by omega)
  have x12 := x1.trans x2
  exact ⟨p, a, b, L1, L2, e1, e2, wrap_old 1000 (n1.ext x2) na nb bk.1 (x12.len bk.2) bx.1 (x12.len bx.2), open_old 1000 na nb bk.1 (x12.len bk.2) bx.1 (x12.len bx.2), (n1.ext x2).get, na.get, nb.get⟩

set_option maxHeartbeats 2000000 in
set_option maxRecDepth 100000 in
theorem walk (a0 : Option Addr) (len0 cap0 : Nat) (T0 : Nat → Tm) (x0 x1 : Int) (w : World) (w0 : Terms w a0 len0 cap0 T0) (h0 : (Lit.int .u8 x0).wf = true) (h1 : (Lit.int .u8 x1).wf = true) :
    Calls Try.prog 6 #[.slice a0 len0 cap0, .agg #[.int .u8 x0, .int .u8 x1]] w fun e w' => e = .returned (.bool true) ∧ Below w.heap.size w w' := by
  have hB0 : Below w.heap.size w (w.alloc (.cells #[.int .u8 x0, .int .u8 x1] 51)) := (Below.refl _ _).alloc (Nat.le_refl _) _
  have HT := Lib.hid (w0.below hB0)
  have HB0 := Lib.hid hB0
  have H0 := Lib.hid h0
  have H1 := Lib.hid h1
  clear w0 hB0 h0 h1
  go_enter Try.func6, Try.ntmps6
  go_wp2_with fail
  refine (stores_any 20 a0 len0 cap0 T0 _ (by omega) HT.out).mono ?_
  rintro e w1 ⟨g1, g2, L, rfl, hL, hp⟩
  have HP0 := Lib.hid hp
  have HLn := Lib.hid hL
  have HFit := Lib.hid hp.facts.1
  have gR := RSq.good (w.alloc (.cells #[.int .u8 x0, .int .u8 x1] 51)).heap.size g2 1000
  have gP := PSq.good (w.alloc (.cells #[.int .u8 x0, .int .u8 x1] 51)).heap.size g1 1000
  have hbl := hp.belowW
  have hlt : w.heap.size < (w.alloc (.cells #[.int .u8 x0, .int .u8 x1] 51)).heap.size := by simp
  have c : ∀ j, w1.cell? ⟨w.heap.size, j, none⟩ = #[Value.int .u8 x0, .int .u8 x1][j]? := fun j => by rw [hbl.cell (by exact hlt)]; exact cell_of_row _ _ j _ _ _ (heap_alloc_new w _)
  have c0 := c 0
  have c1 := c 1
  simp at c0 c1
  clear c hbl hlt hp hL HT
  by_cases hn : L.length = 0
  · have hl0 : ((L.length : Int) == 0) = true := by simp [hn]
    clear hn
    go_wp2_with fail
    refine (HP0.out.lenP).mono ?_
    rintro e w2 ⟨rfl, rfl⟩
    go_wp2_with fail
    refine (fixed_any _).mono ?_
    rintro e w3 ⟨rfl, hb3⟩
    have hb4 := HB0.out.trans ((HP0.out.belowW.trans (hb3.mono HP0.out.base_le)).mono HB0.out.size)
    clear hb3 c0 c1
    go_wp2
    go_ret
    exact ⟨rfl, hb4⟩
  · have hl0 : ((L.length : Int) == 0) = false := by simpa using hn
    have hn1 : (0 : Int) < L.length := by omega
    have hn2 : (L.length : Int) ≤ 20 := by have := HLn.out; omega
    have HL : Hid (∀ n, Calls Try.prog 17 #[.pointer (some ⟨g1, 0, none⟩)] (w1.drewN n) fun e w' => e = .returned (.int .i64 L.length) ∧ ∃ m, w' = w1.drewN m) := Lib.hid (fun n => quiet_of ((HP0.out.below gP gR (drewN_below _ _)).lenP))
    clear hn
    go_wp2_with fail
    refine (HP0.out.lenP).mono ?_
    rintro e w2 ⟨rfl, rfl⟩
    go_wp2_with fail
    go_quiet (first | (go_at_call 17; exact HL.out _))
    obtain ⟨k, hk⟩ : ∃ k, k = wrap64 (1 + (wrap64 x0).tmod ↑L.length) := ⟨_, rfl⟩
    have bdk : 1 ≤ k ∧ k ≤ (L.length : Int) := by rw [hk]; exact pick_in x0 _ H0.out hn1 (by omega)
    obtain ⟨x, hx⟩ : ∃ x, x = wrap64 (1 + (wrap64 x1).tmod ↑L.length) := ⟨_, rfl⟩
    have bdx : 1 ≤ x ∧ x ≤ (L.length : Int) := by rw [hx]; exact pick_in x1 _ H1.out hn1 (by omega)
    rw [← hk, ← hx]
    have HIk : Hid (I64 k) := Lib.hid (i64_small (by omega) (by omega))
    have Bk := Lib.hid bdk
    have HIx : Hid (I64 x) := Lib.hid (i64_small (by omega) (by omega))
    have Bx := Lib.hid bdx
    have HPA := Lib.hid (HP0.out.below gP gR (drewN_below w1 nq))
    clear hk bdk hx bdx HP0 HL c0 c1 hl0 hn1 hn2
    generalize w1.drewN nq = w2 at HPA ⊢
    obtain ⟨p, a, b, L1, L2, e1, e2, e3, e4, e5, e6, e7⟩ := math L k x HLn.out Bk.out Bx.out
    have E1 := Lib.hid e1
    have E2 := Lib.hid e2
    have E3 := Lib.hid e3
    have E4 := Lib.hid e4
    have E5 := Lib.hid e5
    have E6 := Lib.hid e6
    have E7 := Lib.hid e7
    clear e1 e2 e3 e4 e5 e6 e7 Bk Bx
    go_wp2_with fail
    refine (HPA.out.kpublicP gR HIk.out E1.out).mono ?_
    rintro e w3 ⟨rfl, hp, _⟩
    have HP3 := Lib.hid hp
    clear hp HPA
    go_wp2_with fail
    refine (HP3.out.wrapP gR HIx.out E2.out).mono ?_
    rintro e w4 ⟨rfl, hp, _⟩
    have HP4 := Lib.hid hp
    clear hp HP3
    go_wp2_with fail
    refine (HP4.out.lenP).mono ?_
    rintro e w5 ⟨rfl, rfl⟩
    go_wp2_with fail
    refine (HP4.out.wrapP gR HIx.out E3.out).mono ?_
    rintro e w6 ⟨rfl, hp, _⟩
    have HP6 := Lib.hid hp
    clear hp HP4
    go_wp2_with fail
    refine (HP6.out.openP gR HIk.out E4.out).mono ?_
    rintro e w7 ⟨rfl, hp, _⟩
    have HP7 := Lib.hid hp
    clear hp HP6
    go_wp2_with fail
    refine (HP7.out.getP gR p E5.out).mono ?_
    rintro e w8 ⟨rfl, hp, hb⟩
    rw [show ((kpubT k, true) : Tm × Bool).1.v = .agg #[.int .i64 5, .string ⟨#[]⟩, .int .u64 0, .int .i64 k, .int .i64 0, .int .i64 0] from rfl]
    have HP8 := Lib.hid (hp.below gP gR ((Below.refl _ _).alloc (Nat.le_refl _) (.cells #[.int .i64 5, .string ⟨#[]⟩, .int .u64 0, .int .i64 k, .int .i64 0, .int .i64 0] 49)))
    clear hp hb HP7
    go_wp2_with fail
    refine (HP8.out.getP gR a E6.out).mono ?_
    rintro e w9 ⟨rfl, hp, hb⟩
    rw [show ((boxT k x, true) : Tm × Bool).1.v = .agg #[.int .i64 6, .string ⟨#[]⟩, .int .u64 0, .int .i64 k, .int .i64 x, .int .i64 0] from rfl]
    have hzz0 := new_block hb
    have HZ0 := Lib.hid hzz0
    clear hzz0
    have HP9 := Lib.hid (hp.below gP gR ((Below.refl _ _).alloc (Nat.le_refl _) (.cells #[.int .i64 6, .string ⟨#[]⟩, .int .u64 0, .int .i64 k, .int .i64 x, .int .i64 0] 49)))
    clear hp hb HP8
    go_wp2_with fail
    refine (HP9.out.getP gR b E7.out).mono ?_
    rintro e w10 ⟨rfl, hp, hb⟩
    rw [show ((kemT k x, true) : Tm × Bool).1.v = .agg #[.int .i64 7, .string ⟨#[]⟩, .int .u64 0, .int .i64 k, .int .i64 x, .int .i64 0] from rfl]
    have hzz0 := keep_block hb HZ0.out
    have hzz1 := new_block hb
    clear HZ0
    have HZ0 := Lib.hid hzz0
    have HZ1 := Lib.hid hzz1
    clear hzz0 hzz1
    have HP10 := Lib.hid (hp.below gP gR ((Below.refl _ _).alloc (Nat.le_refl _) (.cells #[.int .i64 7, .string ⟨#[]⟩, .int .u64 0, .int .i64 k, .int .i64 x, .int .i64 0] 49)))
    clear hp hb HP9
    have z0_0 := cell_of_row w10 _ 0 _ _ _ HZ0.out
    have z0_1 := cell_of_row w10 _ 1 _ _ _ HZ0.out
    have z0_2 := cell_of_row w10 _ 2 _ _ _ HZ0.out
    have z0_3 := cell_of_row w10 _ 3 _ _ _ HZ0.out
    have z0_4 := cell_of_row w10 _ 4 _ _ _ HZ0.out
    have z0_5 := cell_of_row w10 _ 5 _ _ _ HZ0.out
    have hz0 := blk_lt HZ0.out
    have z1_0 := cell_of_row w10 _ 0 _ _ _ HZ1.out
    have z1_1 := cell_of_row w10 _ 1 _ _ _ HZ1.out
    have z1_2 := cell_of_row w10 _ 2 _ _ _ HZ1.out
    have z1_3 := cell_of_row w10 _ 3 _ _ _ HZ1.out
    have z1_4 := cell_of_row w10 _ 4 _ _ _ HZ1.out
    have z1_5 := cell_of_row w10 _ 5 _ _ _ HZ1.out
    have hz1 := blk_lt HZ1.out
    simp at z0_0 z0_1 z0_2 z0_3 z0_4 z0_5 z1_0 z1_1 z1_2 z1_3 z1_4 z1_5
    have hE1 := eql_termP (kpubT k) (kpubT k)
    have hE2 := eql_termP (boxT k x) (boxT k x)
    have hE3 := eql_termP (kemT k x) (kemT k x)
    have hgd := guard32
    rw [(eqB_iff _ _).2 rfl] at hE1 hE2 hE3
    unfold Tm.v kpubT at hE1
    unfold Tm.v boxT at hE2
    unfold Tm.v kemT at hE3
    simp only [] at hE1 hE2 hE3
    have hl := beq_self_eq_true (L2.length : Int)
    have haa := beq_self_eq_true a
    have hbb := beq_self_eq_true b
    go_wp2_with fail
    refine (HP10.out.lenP).mono ?_
    rintro e w11 ⟨rfl, rfl⟩
    go_wp2_with fail
    refine (fixed_any _).mono ?_
    rintro e w99 ⟨rfl, hb9⟩
    have hb := HB0.out.trans ((HP10.out.belowW.trans (hb9.mono HP10.out.base_le)).mono HB0.out.size)
    clear hb9
    go_wp2
    go_ret
    exact ⟨rfl, hb⟩

set_option maxRecDepth 100000 in
theorem lifted (os : Os) (started : os.Started) (H : Type) (enc : TypeId × Value → H) :
    ReturnsInHanded {} Try.checked os 6 .any (Rows.kemPutsSpec.pre6 enc Try.prog Try.f6 Rows.kemPutsRow.domain false) (Rows.kemPutsSpec.post enc Try.prog Try.f6 false true false false) := by
  refine returnsInHanded_of_change (C := Try.checked) own started (by kernel_rfl) Try.func6
    (ChangeSpec.witness6 (enc := enc) (C := Try.checked) false ⟨#[], #[.slice none 0 0, .agg #[.int .u8 0, .int .u8 0]], []⟩ 8 (by kernel_rfl) (by kernel_rfl) (by kernel_rfl) (by kernel_rfl)) ?_
  intro W base args ds gs before hval0 hW hcnd _
  have hval : ∀ (j : Nat) t v, Try.f6.params[j]? = some t → args[j]? = some v → Value.okWide Try.prog W .any base t v := hval0
  have hW' := hW
  obtain ⟨p, q, hA0, hV, rfl, hfz, hnd⟩ := hW
  have hA : DataW.TrodAll enc Try.prog W 0 (fun _ => true) true Try.f6.params.toList args.toList ds p := hA0
  rw [Try.params6] at hA hval
  obtain ⟨v0, vs0, d0, ds0, p0, q0, hargs, rfl, rfl, h0, r0⟩ := trodAll_cons hA
  obtain ⟨v1, vs1, d1, ds1, p1, q1, rfl, rfl, rfl, h1, r1⟩ := trodAll_cons r0
  obtain ⟨rfl, rfl, rfl⟩ := trodAll_nil r1
  obtain rfl : args = #[v0, v1] := by cases args; simp_all
  obtain ⟨rfl, rfl⟩ := trodVars_none hV
  obtain ⟨a0, len0, cap0, rfl⟩ := okWide_slice Try.underlying22 (hval 0 22 v0 rfl rfl)
  have k0 := h0
  have lt0 : ∀ x ∈ p0, x.block < W.heap.size := by obtain ⟨m, hm⟩ := k0; exact DataW.trod_lt m _ _ _ hm
  obtain ⟨T0, w0⟩ : ∃ T, Terms W a0 len0 cap0 T := by
    obtain ⟨fuel, hf⟩ := h0
    exact open_terms (by simpa [Value.cells] using hf)
  obtain ⟨cs1, rfl, hsz1⟩ : ∃ cs, v1 = .agg cs ∧ cs.size = Try.prog.cellsOf 51 := by
    have h := hval 1 51 v1 rfl rfl
    simp only [Value.okWide, Try.underlying51] at h
    obtain ⟨cs, e1, e2, _⟩ := h
    exact ⟨cs, e1, e2⟩
  have k1 := h1
  have lt1 : ∀ x ∈ p1, x.block < W.heap.size := by obtain ⟨m, hm⟩ := k1; exact DataW.trod_lt m _ _ _ hm
  obtain ⟨Z1, rfl, w1⟩ : ∃ Z : Nat → Int, cs1 = ((List.range 2).map fun j => Value.int .u8 (Z j)).toArray ∧ ∀ j, j < 2 → (Lit.int .u8 (Z j)).wf = true := by
    obtain ⟨fuel, hf⟩ := h1
    exact open_arrV Try.underlying51 Try.underlying5 (by kernel_rfl) (by kernel_rfl) hf
  clear hA0 hval0
  refine (walk a0 len0 cap0 T0 (Z1 0) (Z1 1) W w0 (w1 0 (by omega)) (w1 1 (by omega))).mono fun e W' ⟨he, bel⟩ => ?_
  subst he
  exact ⟨_, rfl, _, _, _, [], _, [], hW', trodAll_mk1 (shut_bool Try.underlying4 _), (trodAll_cons_mk (Below.trod laidOut (by kernel_rfl) (of_decide_eq_true (by kernel_rfl)) k0 bel lt0) (trodAll_cons_mk (Below.trod laidOut (by kernel_rfl) (of_decide_eq_true (by kernel_rfl)) k1 bel lt1) trodAll_mk0)), rfl, bel.frame _, fun h => by cases h⟩

theorem over : Rows.kemPutsRow.holds Try.pinned (OpenSpec.ofChange Rows.kemPutsSpec) :=
  OpenClaim.holds_of_wide 6 Try.f6 rfl rfl rfl rfl rfl rfl rfl ⟨rfl, rfl, rfl, rfl, rfl⟩ rfl rfl rfl rfl rfl (by kernel_rfl) Try.func6 (by kernel_rfl)
    (of_decide_eq_true (by kernel_rfl)) (by unfold Func.isWrapper; first | (rw [if_pos (by decide +kernel)]; kernel_rfl) | (rw [if_neg (by decide +kernel)]; exact ⟨rfl, rfl⟩))
    (fun os started H enc _ => lifted os started H enc)

theorem proved : Rows.KemPutsSaid := over
#print axioms proved
end Go.Proofs.Ytpfeonmgiekpfaa.kemPuts
