/- KdfOrder: for every row of terms and two numbers, which of both comes first makes a difference for a hash and for what is mixed, unless they are one, and no hash is a key. No condition. -/
import Derived.Test.YtglgobimdghehaaRows
import Derived.Test.YtglgobimdghehaaKdfF
import Derived.Test.YtglgobimdghehaaKdfM
import Derived.Test.YtglgobimdghehaaOpens
import Derived.WalkKit
import Derived.ProofKit
import Derived.OpenShut
import Derived.ShutString
import Derived.ChangeOld
import Derived.Below
namespace Go.Proofs.Ytglgobimdghehaa.kdfOrder
open Go.ChangeShapes Go.WideShapes Go.ChangeAt Go.RowKit
open Go.ChangeMaps (open_string shut_string)
open Go.Proofs.Ytglgobimdghehaa
set_option linter.unusedVariables false
set_option linter.unusedSimpArgs false

theorem own : ownKnob Try.prog.godebug = none := by kernel_rfl
theorem laidOut : laidOutB Try.prog = true := by kernel_rfl

theorem math (L : List Tm) (x y : Int) (hf : Fit L) (hL : L.length ≤ 20) (bx : 1 ≤ x ∧ x ≤ (L.length : Int)) (ey : 1 ≤ y ∧ y ≤ (L.length : Int)) :
    ∃ a b c d u v L1 L2 L3 L4 L5 L6, putF L 1000 (hashT x y) = (a, 0, L1) ∧ putF L1 1000 (hashT y x) = (b, 0, L2) ∧ mixF L2 1000 x y = (c, d, 0, L3) ∧ mixF L3 1000 y x = (u, v, 0, L4) ∧ putF L4 1000 (keyT a 1) = (c, 0, L5) ∧ putF L5 1000 (keyT a 2) = (d, 0, L6) ∧ I64 a ∧
      (a = b ↔ x = y) ∧ (c = u ↔ x = y) ∧ (d = v ↔ x = y) ∧ a ≠ c ∧ a ≠ d := by
  obtain ⟨a, L1, e1, n1, x1, l1, f1⟩ := hash_step (most := 1000) hf bx ey (by omega)
  obtain ⟨b, L2, e2, n2, x2, l2, f2⟩ := hash_step (most := 1000) f1 (x1.in ey) (x1.in bx) (by omega)
  have x12 := x1.trans x2
  obtain ⟨c, d, L3, e3, m3, x3, l3, f3⟩ := mix_step (most := 1000) f2 (x12.in bx) (x12.in ey) (by omega)
  have x13 := x12.trans x3
  obtain ⟨u, v, L4, e4, m4, x4, l4, f4⟩ := mix_step (most := 1000) f3 (x13.in ey) (x13.in bx) (by omega)
  have a4 := n1.ext (x2.trans (x3.trans x4))
  have b4 := n2.ext (x3.trans x4)
  obtain ⟨h, h1, h2, h3⟩ := m3.ext x4
  obtain ⟨g, g1, g2, g3⟩ := m4
  obtain rfl : h = a := (h1.inj a4).2 rfl
  obtain rfl : g = b := (g1.inj b4).2 rfl
  have hh : h = g ↔ x = y := by rw [h1.inj g1, hash_eq]; constructor <;> intro q <;> omega
  refine ⟨h, g, c, d, u, v, L1, L2, L3, L4, L4, L4, e1, e2, e3, e4, put_old h2 (may_key a4.in), put_old h3 (may_key a4.in), name_i64 (by omega) (by omega) e1, hh, ?_, ?_, ?_, ?_⟩
  · rw [h2.inj g2, key_eq, ← hh]; simp
  · rw [h3.inj g3, key_eq, ← hh]; simp
  · have := h2.key_lt f4; omega
  · have := h3.key_lt f4; omega

set_option maxHeartbeats 2000000 in
set_option maxRecDepth 100000 in
theorem walk (a0 : Option Addr) (len0 cap0 : Nat) (T0 : Nat → Tm) (x0 x1 : Int) (w : World) (w0 : Terms w a0 len0 cap0 T0) (h0 : (Lit.int .u8 x0).wf = true) (h1 : (Lit.int .u8 x1).wf = true) :
    Calls Try.prog 7 #[.slice a0 len0 cap0, .agg #[.int .u8 x0, .int .u8 x1]] w fun e w' => e = .returned (.bool true) ∧ Below w.heap.size w w' := by
  have hB0 : Below w.heap.size w (w.alloc (.cells #[.int .u8 x0, .int .u8 x1] 44)) := (Below.refl _ _).alloc (Nat.le_refl _) _
  have HT := Lib.hid (w0.below hB0)
  have HB0 := Lib.hid hB0
  have H0 := Lib.hid h0
  have H1 := Lib.hid h1
  clear w0 hB0 h0 h1
  go_enter Try.func7, Try.ntmps7
  go_wp2_with fail
  refine (stores_any 20 a0 len0 cap0 T0 _ (by omega) HT.out).mono ?_
  rintro e w1 ⟨g1, g2, L, rfl, hL, hp⟩
  have HP0 := Lib.hid hp
  have HLn := Lib.hid hL
  have HFit := Lib.hid hp.facts.1
  have gR := RSq.good (w.alloc (.cells #[.int .u8 x0, .int .u8 x1] 44)).heap.size g2 1000
  have gP := PSq.good (w.alloc (.cells #[.int .u8 x0, .int .u8 x1] 44)).heap.size g1 1000
  have hbl := hp.belowW
  have hlt : w.heap.size < (w.alloc (.cells #[.int .u8 x0, .int .u8 x1] 44)).heap.size := by simp
  have c : ∀ j, w1.cell? ⟨w.heap.size, j, none⟩ = #[Value.int .u8 x0, .int .u8 x1][j]? := fun j => by rw [hbl.cell (by exact hlt)]; exact cell_of_row _ _ j _ _ _ (heap_alloc_new w _)
  have c0 := c 0
  have c1 := c 1
  simp at c0 c1
  clear c hbl hlt hp hL HT
  by_cases hn : L.length = 0
  · have hl0 : ((L.length : Int) == 0) = true := by simp [hn]
    clear hn
    go_wp2_with fail
    refine (HP0.out.lenP).mono ?_
    rintro e w2 ⟨rfl, rfl⟩
    go_wp2_with fail
    refine (fixed_any _).mono ?_
    rintro e w3 ⟨rfl, hb3⟩
    have hb4 := HB0.out.trans ((HP0.out.belowW.trans (hb3.mono HP0.out.base_le)).mono HB0.out.size)
    clear hb3 c0 c1
    go_wp2
    go_ret
    exact ⟨rfl, hb4⟩
  · have hl0 : ((L.length : Int) == 0) = false := by simpa using hn
    have hn1 : (0 : Int) < L.length := by omega
    have hn2 : (L.length : Int) ≤ 20 := by have := HLn.out; omega
    have HL : Hid (∀ n, Calls Try.prog 20 #[.pointer (some ⟨g1, 0, none⟩)] (w1.drewN n) fun e w' => e = .returned (.int .i64 L.length) ∧ ∃ m, w' = w1.drewN m) := Lib.hid (fun n => quiet_of ((HP0.out.below gP gR (drewN_below _ _)).lenP))
    clear hn
    go_wp2_with fail
    refine (HP0.out.lenP).mono ?_
    rintro e w2 ⟨rfl, rfl⟩
    go_wp2_with fail
    go_quiet (first | (go_at_call 20; exact HL.out _))
    obtain ⟨x, hx⟩ : ∃ x, x = wrap64 (1 + (wrap64 x0).tmod ↑L.length) := ⟨_, rfl⟩
    have bdx : 1 ≤ x ∧ x ≤ (L.length : Int) := by rw [hx]; exact pick_in x0 _ H0.out hn1 (by omega)
    obtain ⟨y, hy⟩ : ∃ y, y = wrap64 (1 + (wrap64 x1).tmod ↑L.length) := ⟨_, rfl⟩
    have bdy : 1 ≤ y ∧ y ≤ (L.length : Int) := by rw [hy]; exact pick_in x1 _ H1.out hn1 (by omega)
    rw [← hx, ← hy]
    have HIx : Hid (I64 x) := Lib.hid (i64_small (by omega) (by omega))
    have Bx := Lib.hid bdx
    have HIy : Hid (I64 y) := Lib.hid (i64_small (by omega) (by omega))
    have By := Lib.hid bdy
    have HPA := Lib.hid (HP0.out.below gP gR (drewN_below w1 nq))
    clear hx bdx hy bdy HP0 HL c0 c1 hl0 hn1 hn2
    generalize w1.drewN nq = w2 at HPA ⊢
    obtain ⟨a, b, c, d, u, v, L1, L2, L3, L4, L5, L6, e1, e2, e3, e4, e5, e6, ia, b1, b2, b3, b4, b5⟩ := math L x y HFit.out HLn.out Bx.out By.out
    have E1 := Lib.hid e1
    have E2 := Lib.hid e2
    have E3 := Lib.hid e3
    have E4 := Lib.hid e4
    have E5 := Lib.hid e5
    have E6 := Lib.hid e6
    have IA := Lib.hid ia
    obtain ⟨t, ht⟩ : ∃ t : Bool, (x == y) = t := ⟨_, rfl⟩
    have s1 : (a == b) = t := by rw [← ht, Bool.eq_iff_iff]; simpa using b1
    have s2 : (c == u) = t := by rw [← ht, Bool.eq_iff_iff]; simpa using b2
    have s3 : (d == v) = t := by rw [← ht, Bool.eq_iff_iff]; simpa using b3
    have s4 : (a != c) = true := by simpa using b4
    have s5 : (a != d) = true := by simpa using b5
    have s6 : (c == c) = true := by simp
    have s7 : (d == d) = true := by simp
    have stt : (t == t) = true := by simp
    clear e1 e2 e3 e4 e5 e6 ia b1 b2 b3 b4 b5 Bx By
    go_wp2_with fail
    refine (HPA.out.hashP gR HIx.out HIy.out E1.out).mono ?_
    rintro e w3 ⟨rfl, hp, _⟩
    have HP3 := Lib.hid hp
    clear hp HPA
    go_wp2_with fail
    refine (HP3.out.hashP gR HIy.out HIx.out E2.out).mono ?_
    rintro e w4 ⟨rfl, hp, _⟩
    have HP4 := Lib.hid hp
    clear hp HP3
    go_wp2_with fail
    refine (HP4.out.mixP gR HIx.out HIy.out E3.out).mono ?_
    rintro e w5 ⟨rfl, hp, _⟩
    have HP5 := Lib.hid hp
    clear hp HP4
    go_wp2_with fail
    refine (HP5.out.mixP gR HIy.out HIx.out E4.out).mono ?_
    rintro e w6 ⟨rfl, hp, _⟩
    have HP6 := Lib.hid hp
    clear hp HP5
    go_wp2_with fail
    refine (HP6.out.deriveP gR IA.out u1 E5.out).mono ?_
    rintro e w7 ⟨rfl, hp, _⟩
    have HP7 := Lib.hid hp
    clear hp HP6
    go_wp2_with fail
    refine (HP7.out.deriveP gR IA.out u2 E6.out).mono ?_
    rintro e w8 ⟨rfl, hp, _⟩
    have HP8 := Lib.hid hp
    clear hp HP7
    go_wp2_with fail
    refine (fixed_any _).mono ?_
    rintro e w99 ⟨rfl, hb9⟩
    have hb := HB0.out.trans ((HP8.out.belowW.trans (hb9.mono HP8.out.base_le)).mono HB0.out.size)
    clear hb9
    go_wp2
    go_ret
    exact ⟨rfl, hb⟩

set_option maxRecDepth 100000 in
theorem lifted (os : Os) (started : os.Started) (H : Type) (enc : TypeId × Value → H) :
    ReturnsInHanded {} Try.checked os 7 .any (Rows.kdfOrderSpec.pre6 enc Try.prog Try.f7 Rows.kdfOrderRow.domain false) (Rows.kdfOrderSpec.post enc Try.prog Try.f7 false true false false) := by
  refine returnsInHanded_of_change (C := Try.checked) own started (by kernel_rfl) Try.func7
    (ChangeSpec.witness6 (enc := enc) (C := Try.checked) false ⟨#[], #[.slice none 0 0, .agg #[.int .u8 0, .int .u8 0]], []⟩ 8 (by kernel_rfl) (by kernel_rfl) (by kernel_rfl) (by kernel_rfl)) ?_
  intro W base args ds gs before hval0 hW hcnd _
  have hval : ∀ (j : Nat) t v, Try.f7.params[j]? = some t → args[j]? = some v → Value.okWide Try.prog W .any base t v := hval0
  have hW' := hW
  obtain ⟨p, q, hA0, hV, rfl, hfz, hnd⟩ := hW
  have hA : DataW.TrodAll enc Try.prog W 0 (fun _ => true) true Try.f7.params.toList args.toList ds p := hA0
  rw [Try.params7] at hA hval
  obtain ⟨v0, vs0, d0, ds0, p0, q0, hargs, rfl, rfl, h0, r0⟩ := trodAll_cons hA
  obtain ⟨v1, vs1, d1, ds1, p1, q1, rfl, rfl, rfl, h1, r1⟩ := trodAll_cons r0
  obtain ⟨rfl, rfl, rfl⟩ := trodAll_nil r1
  obtain rfl : args = #[v0, v1] := by cases args; simp_all
  obtain ⟨rfl, rfl⟩ := trodVars_none hV
  obtain ⟨a0, len0, cap0, rfl⟩ := okWide_slice Try.underlying22 (hval 0 22 v0 rfl rfl)
  have k0 := h0
  have lt0 : ∀ x ∈ p0, x.block < W.heap.size := by obtain ⟨m, hm⟩ := k0; exact DataW.trod_lt m _ _ _ hm
  obtain ⟨T0, w0⟩ : ∃ T, Terms W a0 len0 cap0 T := by
    obtain ⟨fuel, hf⟩ := h0
    exact open_terms (by simpa [Value.cells] using hf)
  obtain ⟨cs1, rfl, hsz1⟩ : ∃ cs, v1 = .agg cs ∧ cs.size = Try.prog.cellsOf 44 := by
    have h := hval 1 44 v1 rfl rfl
    simp only [Value.okWide, Try.underlying44] at h
    obtain ⟨cs, e1, e2, _⟩ := h
    exact ⟨cs, e1, e2⟩
  have k1 := h1
  have lt1 : ∀ x ∈ p1, x.block < W.heap.size := by obtain ⟨m, hm⟩ := k1; exact DataW.trod_lt m _ _ _ hm
  obtain ⟨Z1, rfl, w1⟩ : ∃ Z : Nat → Int, cs1 = ((List.range 2).map fun j => Value.int .u8 (Z j)).toArray ∧ ∀ j, j < 2 → (Lit.int .u8 (Z j)).wf = true := by
    obtain ⟨fuel, hf⟩ := h1
    exact open_arrV Try.underlying44 Try.underlying5 (by kernel_rfl) (by kernel_rfl) hf
  clear hA0 hval0
  refine (walk a0 len0 cap0 T0 (Z1 0) (Z1 1) W w0 (w1 0 (by omega)) (w1 1 (by omega))).mono fun e W' ⟨he, bel⟩ => ?_
  subst he
  exact ⟨_, rfl, _, _, _, [], _, [], hW', trodAll_mk1 (shut_bool Try.underlying4 _), (trodAll_cons_mk (Below.trod laidOut (by kernel_rfl) (of_decide_eq_true (by kernel_rfl)) k0 bel lt0) (trodAll_cons_mk (Below.trod laidOut (by kernel_rfl) (of_decide_eq_true (by kernel_rfl)) k1 bel lt1) trodAll_mk0)), rfl, bel.frame _, fun h => by cases h⟩

theorem over : Rows.kdfOrderRow.holds Try.pinned (OpenSpec.ofChange Rows.kdfOrderSpec) :=
  OpenClaim.holds_of_wide 7 Try.f7 rfl rfl rfl rfl rfl rfl rfl ⟨rfl, rfl, rfl, rfl, rfl⟩ rfl rfl rfl rfl rfl (by kernel_rfl) Try.func7 (by kernel_rfl)
    (of_decide_eq_true (by kernel_rfl)) (by unfold Func.isWrapper; first | (rw [if_pos (by decide +kernel)]; kernel_rfl) | (rw [if_neg (by decide +kernel)]; exact ⟨rfl, rfl⟩))
    (fun os started H enc _ => lifted os started H enc)

theorem proved : Rows.KdfOrderSaid := over
#print axioms proved
end Go.Proofs.Ytglgobimdghehaa.kdfOrder
