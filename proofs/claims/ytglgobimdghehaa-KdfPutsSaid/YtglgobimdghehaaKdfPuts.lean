/- KdfPuts: for every row of terms, two numbers and a label, a hash is named by both of which it is, a key by the one from which it is derived and its label, and what is there already is not put again. No condition. -/
import Derived.Test.YtglgobimdghehaaRows
import Derived.Test.YtglgobimdghehaaKdfF
import Derived.Test.YtglgobimdghehaaKdfM
import Derived.Test.YtglgobimdghehaaOpens
import Derived.WalkKit
import Derived.ProofKit
import Derived.OpenShut
import Derived.ShutString
import Derived.ChangeOld
import Derived.Below
namespace Go.Proofs.Ytglgobimdghehaa.kdfPuts
open Go.ChangeShapes Go.WideShapes Go.ChangeAt Go.RowKit
open Go.ChangeMaps (open_string shut_string)
open Go.Proofs.Ytglgobimdghehaa
set_option linter.unusedVariables false
set_option linter.unusedSimpArgs false

theorem own : ownKnob Try.prog.godebug = none := by kernel_rfl
theorem laidOut : laidOutB Try.prog = true := by kernel_rfl

theorem math (L : List Tm) (x y n : Int) (hf : Fit L) (hL : L.length ≤ 20) (bx : 1 ≤ x ∧ x ≤ (L.length : Int)) (ey : 1 ≤ y ∧ y ≤ (L.length : Int)) :
    ∃ a b L1 L2, putF L 1000 (hashT x y) = (a, 0, L1) ∧ putF L1 1000 (keyT x n) = (b, 0, L2) ∧ putF L2 1000 (hashT x y) = (a, 0, L2) ∧ putF L2 1000 (keyT x n) = (b, 0, L2) ∧ getT L2 a = (hashT x y, true) ∧ getT L2 b = (keyT x n, true) := by
  obtain ⟨a, L1, e1, n1, x1, l1, f1⟩ := hash_step (most := 1000) hf bx ey (by omega)
  obtain ⟨b, L2, e2, n2, x2, l2, f2⟩ := key_step (most := 1000) n f1 (x1.in bx) (by omega)
  have x12 := x1.trans x2
  exact ⟨a, b, L1, L2, e1, e2, put_old (n1.ext x2) (may_hash (x12.in bx) (x12.in ey)), put_old n2 (may_key (x12.in bx)), (n1.ext x2).get, n2.get⟩

set_option maxHeartbeats 2000000 in
set_option maxRecDepth 100000 in
theorem walk (a0 : Option Addr) (len0 cap0 : Nat) (T0 : Nat → Tm) (x0 x1 : Int) (label : Int) (w : World) (w0 : Terms w a0 len0 cap0 T0) (h0 : (Lit.int .u8 x0).wf = true) (h1 : (Lit.int .u8 x1).wf = true) (hlabel : (Lit.int .u64 label).wf = true) :
    Calls Try.prog 6 #[.slice a0 len0 cap0, .agg #[.int .u8 x0, .int .u8 x1], .int .u64 label] w fun e w' => e = .returned (.bool true) ∧ Below w.heap.size w w' := by
  have hB0 : Below w.heap.size w (w.alloc (.cells #[.int .u8 x0, .int .u8 x1] 44)) := (Below.refl _ _).alloc (Nat.le_refl _) _
  have HT := Lib.hid (w0.below hB0)
  have HB0 := Lib.hid hB0
  have H0 := Lib.hid h0
  have H1 := Lib.hid h1
  have Hlabel := Lib.hid hlabel
  clear hlabel
  clear w0 hB0 h0 h1
  go_enter Try.func6, Try.ntmps6
  go_wp2_with fail
  refine (stores_any 20 a0 len0 cap0 T0 _ (by omega) HT.out).mono ?_
  rintro e w1 ⟨g1, g2, L, rfl, hL, hp⟩
  have HP0 := Lib.hid hp
  have HLn := Lib.hid hL
  have HFit := Lib.hid hp.facts.1
  have gR := RSq.good (w.alloc (.cells #[.int .u8 x0, .int .u8 x1] 44)).heap.size g2 1000
  have gP := PSq.good (w.alloc (.cells #[.int .u8 x0, .int .u8 x1] 44)).heap.size g1 1000
  have hbl := hp.belowW
  have hlt : w.heap.size < (w.alloc (.cells #[.int .u8 x0, .int .u8 x1] 44)).heap.size := by simp
  have c : ∀ j, w1.cell? ⟨w.heap.size, j, none⟩ = #[Value.int .u8 x0, .int .u8 x1][j]? := fun j => by rw [hbl.cell (by exact hlt)]; exact cell_of_row _ _ j _ _ _ (heap_alloc_new w _)
  have c0 := c 0
  have c1 := c 1
  simp at c0 c1
  clear c hbl hlt hp hL HT
  by_cases hn : L.length = 0
  · have hl0 : ((L.length : Int) == 0) = true := by simp [hn]
    clear hn
    go_wp2_with fail
    refine (HP0.out.lenP).mono ?_
    rintro e w2 ⟨rfl, rfl⟩
    go_wp2_with fail
    refine (fixed_any _).mono ?_
    rintro e w3 ⟨rfl, hb3⟩
    have hb4 := HB0.out.trans ((HP0.out.belowW.trans (hb3.mono HP0.out.base_le)).mono HB0.out.size)
    clear hb3 c0 c1
    go_wp2
    go_ret
    exact ⟨rfl, hb4⟩
  · have hl0 : ((L.length : Int) == 0) = false := by simpa using hn
    have hn1 : (0 : Int) < L.length := by omega
    have hn2 : (L.length : Int) ≤ 20 := by have := HLn.out; omega
    have HL : Hid (∀ n, Calls Try.prog 20 #[.pointer (some ⟨g1, 0, none⟩)] (w1.drewN n) fun e w' => e = .returned (.int .i64 L.length) ∧ ∃ m, w' = w1.drewN m) := Lib.hid (fun n => quiet_of ((HP0.out.below gP gR (drewN_below _ _)).lenP))
    clear hn
    go_wp2_with fail
    refine (HP0.out.lenP).mono ?_
    rintro e w2 ⟨rfl, rfl⟩
    go_wp2_with fail
    go_quiet (first | (go_at_call 20; exact HL.out _))
    obtain ⟨x, hx⟩ : ∃ x, x = wrap64 (1 + (wrap64 x0).tmod ↑L.length) := ⟨_, rfl⟩
    have bdx : 1 ≤ x ∧ x ≤ (L.length : Int) := by rw [hx]; exact pick_in x0 _ H0.out hn1 (by omega)
    obtain ⟨y, hy⟩ : ∃ y, y = wrap64 (1 + (wrap64 x1).tmod ↑L.length) := ⟨_, rfl⟩
    have bdy : 1 ≤ y ∧ y ≤ (L.length : Int) := by rw [hy]; exact pick_in x1 _ H1.out hn1 (by omega)
    rw [← hx, ← hy]
    have HIx : Hid (I64 x) := Lib.hid (i64_small (by omega) (by omega))
    have Bx := Lib.hid bdx
    have HIy : Hid (I64 y) := Lib.hid (i64_small (by omega) (by omega))
    have By := Lib.hid bdy
    have HPA := Lib.hid (HP0.out.below gP gR (drewN_below w1 nq))
    clear hx bdx hy bdy HP0 HL c0 c1 hl0 hn1 hn2
    generalize w1.drewN nq = w2 at HPA ⊢
    obtain ⟨a, b, L1, L2, e1, e2, e3, e4, e5, e6⟩ := math L x y label HFit.out HLn.out Bx.out By.out
    have E1 := Lib.hid e1
    have E2 := Lib.hid e2
    have E3 := Lib.hid e3
    have E4 := Lib.hid e4
    have E5 := Lib.hid e5
    have E6 := Lib.hid e6
    clear e1 e2 e3 e4 e5 e6 Bx By
    go_wp2_with fail
    refine (HPA.out.hashP gR HIx.out HIy.out E1.out).mono ?_
    rintro e w3 ⟨rfl, hp, _⟩
    have HP3 := Lib.hid hp
    clear hp HPA
    go_wp2_with fail
    refine (HP3.out.deriveP gR HIx.out Hlabel.out E2.out).mono ?_
    rintro e w4 ⟨rfl, hp, _⟩
    have HP4 := Lib.hid hp
    clear hp HP3
    go_wp2_with fail
    refine (HP4.out.lenP).mono ?_
    rintro e w5 ⟨rfl, rfl⟩
    go_wp2_with fail
    refine (HP4.out.hashP gR HIx.out HIy.out E3.out).mono ?_
    rintro e w6 ⟨rfl, hp, _⟩
    have HP6 := Lib.hid hp
    clear hp HP4
    go_wp2_with fail
    refine (HP6.out.deriveP gR HIx.out Hlabel.out E4.out).mono ?_
    rintro e w7 ⟨rfl, hp, _⟩
    have HP7 := Lib.hid hp
    clear hp HP6
    go_wp2_with fail
    refine (HP7.out.getP gR a E5.out).mono ?_
    rintro e w8 ⟨rfl, hp, hb⟩
    rw [show ((hashT x y, true) : Tm × Bool).1.v = .agg #[.int .i64 8, .string ⟨#[]⟩, .int .u64 0, .int .i64 x, .int .i64 y, .int .i64 0] from rfl]
    have HP8 := Lib.hid (hp.below gP gR ((Below.refl _ _).alloc (Nat.le_refl _) (.cells #[.int .i64 8, .string ⟨#[]⟩, .int .u64 0, .int .i64 x, .int .i64 y, .int .i64 0] 50)))
    clear hp hb HP7
    go_wp2_with fail
    refine (HP8.out.getP gR b E6.out).mono ?_
    rintro e w9 ⟨rfl, hp, hb⟩
    rw [show ((keyT x label, true) : Tm × Bool).1.v = .agg #[.int .i64 9, .string ⟨#[]⟩, .int .u64 label, .int .i64 x, .int .i64 0, .int .i64 0] from rfl]
    have hzz0 := new_block hb
    have HZ0 := Lib.hid hzz0
    clear hzz0
    have HP9 := Lib.hid (hp.below gP gR ((Below.refl _ _).alloc (Nat.le_refl _) (.cells #[.int .i64 9, .string ⟨#[]⟩, .int .u64 label, .int .i64 x, .int .i64 0, .int .i64 0] 50)))
    clear hp hb HP8
    have z0_0 := cell_of_row w9 _ 0 _ _ _ HZ0.out
    have z0_1 := cell_of_row w9 _ 1 _ _ _ HZ0.out
    have z0_2 := cell_of_row w9 _ 2 _ _ _ HZ0.out
    have z0_3 := cell_of_row w9 _ 3 _ _ _ HZ0.out
    have z0_4 := cell_of_row w9 _ 4 _ _ _ HZ0.out
    have z0_5 := cell_of_row w9 _ 5 _ _ _ HZ0.out
    have hz0 := blk_lt HZ0.out
    simp at z0_0 z0_1 z0_2 z0_3 z0_4 z0_5
    have hE1 := eql_termP (hashT x y) (hashT x y)
    have hE2 := eql_termP (keyT x label) (keyT x label)
    have hgd := guard32
    rw [(eqB_iff _ _).2 rfl] at hE1 hE2
    unfold Tm.v hashT at hE1
    unfold Tm.v keyT at hE2
    simp only [] at hE1 hE2
    have hl := beq_self_eq_true (L2.length : Int)
    have haa := beq_self_eq_true a
    have hbb := beq_self_eq_true b
    go_wp2_with fail
    refine (HP9.out.lenP).mono ?_
    rintro e w10 ⟨rfl, rfl⟩
    go_wp2_with fail
    refine (fixed_any _).mono ?_
    rintro e w99 ⟨rfl, hb9⟩
    have hb := HB0.out.trans ((HP9.out.belowW.trans (hb9.mono HP9.out.base_le)).mono HB0.out.size)
    clear hb9
    go_wp2
    go_ret
    exact ⟨rfl, hb⟩

set_option maxRecDepth 100000 in
theorem lifted (os : Os) (started : os.Started) (H : Type) (enc : TypeId × Value → H) :
    ReturnsInHanded {} Try.checked os 6 .any (Rows.kdfPutsSpec.pre6 enc Try.prog Try.f6 Rows.kdfPutsRow.domain false) (Rows.kdfPutsSpec.post enc Try.prog Try.f6 false true false false) := by
  refine returnsInHanded_of_change (C := Try.checked) own started (by kernel_rfl) Try.func6
    (ChangeSpec.witness6 (enc := enc) (C := Try.checked) false ⟨#[], #[.slice none 0 0, .agg #[.int .u8 0, .int .u8 0], .int .u64 0], []⟩ 8 (by kernel_rfl) (by kernel_rfl) (by kernel_rfl) (by kernel_rfl)) ?_
  intro W base args ds gs before hval0 hW hcnd _
  have hval : ∀ (j : Nat) t v, Try.f6.params[j]? = some t → args[j]? = some v → Value.okWide Try.prog W .any base t v := hval0
  have hW' := hW
  obtain ⟨p, q, hA0, hV, rfl, hfz, hnd⟩ := hW
  have hA : DataW.TrodAll enc Try.prog W 0 (fun _ => true) true Try.f6.params.toList args.toList ds p := hA0
  rw [Try.params6] at hA hval
  obtain ⟨v0, vs0, d0, ds0, p0, q0, hargs, rfl, rfl, h0, r0⟩ := trodAll_cons hA
  obtain ⟨v1, vs1, d1, ds1, p1, q1, rfl, rfl, rfl, h1, r1⟩ := trodAll_cons r0
  obtain ⟨v2, vs2, d2, ds2, p2, q2, rfl, rfl, rfl, h2, r2⟩ := trodAll_cons r1
  obtain ⟨rfl, rfl, rfl⟩ := trodAll_nil r2
  obtain rfl : args = #[v0, v1, v2] := by cases args; simp_all
  obtain ⟨rfl, rfl⟩ := trodVars_none hV
  obtain ⟨a0, len0, cap0, rfl⟩ := okWide_slice Try.underlying22 (hval 0 22 v0 rfl rfl)
  have k0 := h0
  have lt0 : ∀ x ∈ p0, x.block < W.heap.size := by obtain ⟨m, hm⟩ := k0; exact DataW.trod_lt m _ _ _ hm
  obtain ⟨T0, w0⟩ : ∃ T, Terms W a0 len0 cap0 T := by
    obtain ⟨fuel, hf⟩ := h0
    exact open_terms (by simpa [Value.cells] using hf)
  obtain ⟨cs1, rfl, hsz1⟩ : ∃ cs, v1 = .agg cs ∧ cs.size = Try.prog.cellsOf 44 := by
    have h := hval 1 44 v1 rfl rfl
    simp only [Value.okWide, Try.underlying44] at h
    obtain ⟨cs, e1, e2, _⟩ := h
    exact ⟨cs, e1, e2⟩
  have k1 := h1
  have lt1 : ∀ x ∈ p1, x.block < W.heap.size := by obtain ⟨m, hm⟩ := k1; exact DataW.trod_lt m _ _ _ hm
  obtain ⟨Z1, rfl, w1⟩ : ∃ Z : Nat → Int, cs1 = ((List.range 2).map fun j => Value.int .u8 (Z j)).toArray ∧ ∀ j, j < 2 → (Lit.int .u8 (Z j)).wf = true := by
    obtain ⟨fuel, hf⟩ := h1
    exact open_arrV Try.underlying44 Try.underlying5 (by kernel_rfl) (by kernel_rfl) hf
  obtain ⟨a2, rfl, rfl, rfl, w2⟩ := open_int Try.underlying34 (hval 2 34 v2 rfl rfl) h2
  clear hA0 hval0
  refine (walk a0 len0 cap0 T0 (Z1 0) (Z1 1) a2 W w0 (w1 0 (by omega)) (w1 1 (by omega)) w2).mono fun e W' ⟨he, bel⟩ => ?_
  subst he
  exact ⟨_, rfl, _, _, _, [], _, [], hW', trodAll_mk1 (shut_bool Try.underlying4 _), (trodAll_cons_mk (Below.trod laidOut (by kernel_rfl) (of_decide_eq_true (by kernel_rfl)) k0 bel lt0) (trodAll_cons_mk (Below.trod laidOut (by kernel_rfl) (of_decide_eq_true (by kernel_rfl)) k1 bel lt1) (trodAll_cons_mk (shut_int Try.underlying34 w2) trodAll_mk0))), rfl, bel.frame _, fun h => by cases h⟩

theorem over : Rows.kdfPutsRow.holds Try.pinned (OpenSpec.ofChange Rows.kdfPutsSpec) :=
  OpenClaim.holds_of_wide 6 Try.f6 rfl rfl rfl rfl rfl rfl rfl ⟨rfl, rfl, rfl, rfl, rfl⟩ rfl rfl rfl rfl rfl (by kernel_rfl) Try.func6 (by kernel_rfl)
    (of_decide_eq_true (by kernel_rfl)) (by unfold Func.isWrapper; first | (rw [if_pos (by decide +kernel)]; kernel_rfl) | (rw [if_neg (by decide +kernel)]; exact ⟨rfl, rfl⟩))
    (fun os started H enc _ => lifted os started H enc)

theorem proved : Rows.KdfPutsSaid := over
#print axioms proved
end Go.Proofs.Ytglgobimdghehaa.kdfPuts
