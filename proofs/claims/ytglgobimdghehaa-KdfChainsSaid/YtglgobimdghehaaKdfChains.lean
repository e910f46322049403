/- KdfChains: for every row of terms, a key and two numbers, a chain of m and n times is one of n times behind one of m, and of unlike times it is another key. No condition. -/
import Derived.Test.YtglgobimdghehaaRows
import Derived.Test.YtglgobimdghehaaKdfF
import Derived.Test.YtglgobimdghehaaKdfM
import Derived.Test.YtglgobimdghehaaOpens
import Derived.WalkKit
import Derived.ProofKit
import Derived.OpenShut
import Derived.ShutString
import Derived.ChangeOld
import Derived.Below
namespace Go.Proofs.Ytglgobimdghehaa.kdfChains
open Go.ChangeShapes Go.WideShapes Go.ChangeAt Go.RowKit
open Go.ChangeMaps (open_string shut_string)
open Go.Proofs.Ytglgobimdghehaa
set_option linter.unusedVariables false
set_option linter.unusedSimpArgs false

theorem own : ownKnob Try.prog.godebug = none := by kernel_rfl
theorem laidOut : laidOutB Try.prog = true := by kernel_rfl

theorem math (L : List Tm) (k : Int) (a b : Nat) (hf : Fit L) (hL : L.length ≤ 20) (bk : 1 ≤ k ∧ k ≤ (L.length : Int)) (ha : a ≤ 30) (hb : b ≤ 30) :
    ∃ x y v L1 L2 L3 L4, chainF L 1000 k 7 ((a : Int) + b) = (x, 0, L1) ∧ chainF L1 1000 k 7 a = (y, 0, L2) ∧ chainF L2 1000 y 7 b = (x, 0, L3) ∧ chainF L3 1000 k 7 b = (v, 0, L4) ∧ I64 y ∧ (y = v ↔ a = b) := by
  obtain ⟨x, L1, e1, k1, i1, x1, l1, f1⟩ := chain_step (n := 7) (most := 1000) (a + b) hf bk (by omega)
  obtain ⟨y, L2, e2, k2, i2, x2, l2, f2⟩ := chain_step (n := 7) (most := 1000) a f1 (x1.in bk) (by omega)
  have x12 := x1.trans x2
  obtain ⟨z, L3, e3, k3, i3, x3, l3, f3⟩ := chain_step (n := 7) (most := 1000) b f2 i2 (by omega)
  have x13 := x12.trans x3
  obtain ⟨v, L4, e4, k4, i4, x4, l4, f4⟩ := chain_step (n := 7) (most := 1000) b f3 (x13.in bk) (by omega)
  have ky := (k2.ext (x3.trans x4))
  have kz := k3.ext x4
  have kx := k1.ext (x2.trans (x3.trans x4))
  obtain rfl : x = z := Link.fun kx (Link.add ky kz)
  refine ⟨x, y, v, L1, L2, L3, L4, ?_, ?_, ?_, ?_, i64_small (by omega) (by omega), Link.inj f4 ky k4⟩
  · have := chainF_of (n := 7) (most := 1000) (m := a + b) bk (by omega)
    rw [Int.natCast_add] at this
    rw [this]; exact e1
  · rw [chainF_of (x1.in bk) (by omega)]; exact e2
  · rw [chainF_of i2 (by omega)]; exact e3
  · rw [chainF_of (x13.in bk) (by omega)]; exact e4
theorem rem_nat (x : Int) (h : (Lit.int .u8 x).wf = true) : ∃ a : Nat, (wrap64 x).tmod 31 = a ∧ a ≤ 30 := by
  have hx := byte_in h
  have w1 : wrap64 x = x := by unfold wrap64; omega
  rw [w1, Int.tmod_eq_emod_of_nonneg hx.1]
  exact ⟨(x % 31).toNat, by omega, by omega⟩

set_option maxHeartbeats 2000000 in
set_option maxRecDepth 100000 in
theorem walk (a0 : Option Addr) (len0 cap0 : Nat) (T0 : Nat → Tm) (key : Int) (x0 x1 : Int) (w : World) (w0 : Terms w a0 len0 cap0 T0) (hkey : (Lit.int .u8 key).wf = true) (h0 : (Lit.int .u8 x0).wf = true) (h1 : (Lit.int .u8 x1).wf = true) :
    Calls Try.prog 4 #[.slice a0 len0 cap0, .int .u8 key, .agg #[.int .u8 x0, .int .u8 x1]] w fun e w' => e = .returned (.bool true) ∧ Below w.heap.size w w' := by
  have hB0 : Below w.heap.size w (w.alloc (.cells #[.int .u8 x0, .int .u8 x1] 44)) := (Below.refl _ _).alloc (Nat.le_refl _) _
  have HT := Lib.hid (w0.below hB0)
  have HB0 := Lib.hid hB0
  have H0 := Lib.hid h0
  have H1 := Lib.hid h1
  have Hkey := Lib.hid hkey
  clear hkey
  clear w0 hB0 h0 h1
  go_enter Try.func4, Try.ntmps4
  go_wp2_with fail
  refine (stores_any 20 a0 len0 cap0 T0 _ (by omega) HT.out).mono ?_
  rintro e w1 ⟨g1, g2, L, rfl, hL, hp⟩
  have HP0 := Lib.hid hp
  have HLn := Lib.hid hL
  have HFit := Lib.hid hp.facts.1
  have gR := RSq.good (w.alloc (.cells #[.int .u8 x0, .int .u8 x1] 44)).heap.size g2 1000
  have gP := PSq.good (w.alloc (.cells #[.int .u8 x0, .int .u8 x1] 44)).heap.size g1 1000
  have hbl := hp.belowW
  have hlt : w.heap.size < (w.alloc (.cells #[.int .u8 x0, .int .u8 x1] 44)).heap.size := by simp
  have c : ∀ j, w1.cell? ⟨w.heap.size, j, none⟩ = #[Value.int .u8 x0, .int .u8 x1][j]? := fun j => by rw [hbl.cell (by exact hlt)]; exact cell_of_row _ _ j _ _ _ (heap_alloc_new w _)
  have c0 := c 0
  have c1 := c 1
  simp at c0 c1
  clear c hbl hlt hp hL HT
  by_cases hn : L.length = 0
  · have hl0 : ((L.length : Int) == 0) = true := by simp [hn]
    clear hn
    go_wp2_with fail
    refine (HP0.out.lenP).mono ?_
    rintro e w2 ⟨rfl, rfl⟩
    go_wp2_with fail
    refine (fixed_any _).mono ?_
    rintro e w3 ⟨rfl, hb3⟩
    have hb4 := HB0.out.trans ((HP0.out.belowW.trans (hb3.mono HP0.out.base_le)).mono HB0.out.size)
    clear hb3 c0 c1
    go_wp2
    go_ret
    exact ⟨rfl, hb4⟩
  · have hl0 : ((L.length : Int) == 0) = false := by simpa using hn
    have hn1 : (0 : Int) < L.length := by omega
    have hn2 : (L.length : Int) ≤ 20 := by have := HLn.out; omega
    have HL : Hid (∀ n, Calls Try.prog 20 #[.pointer (some ⟨g1, 0, none⟩)] (w1.drewN n) fun e w' => e = .returned (.int .i64 L.length) ∧ ∃ m, w' = w1.drewN m) := Lib.hid (fun n => quiet_of ((HP0.out.below gP gR (drewN_below _ _)).lenP))
    clear hn
    go_wp2_with fail
    refine (HP0.out.lenP).mono ?_
    rintro e w2 ⟨rfl, rfl⟩
    go_wp2_with fail
    go_quiet (first | (go_at_call 20; exact HL.out _))
    obtain ⟨k, hk⟩ : ∃ k, k = wrap64 (1 + (wrap64 key).tmod ↑L.length) := ⟨_, rfl⟩
    have bdk : 1 ≤ k ∧ k ≤ (L.length : Int) := by rw [hk]; exact pick_in key _ Hkey.out hn1 (by omega)
    obtain ⟨a, ha, la⟩ := rem_nat x0 H0.out
    obtain ⟨b, hb, lb⟩ := rem_nat x1 H1.out
    rw [← hk, ha, hb]
    have HIk : Hid (I64 k) := Lib.hid (i64_small (by omega) (by omega))
    have HPA := Lib.hid (HP0.out.below gP gR (drewN_below w1 nq))
    obtain ⟨x, y, v, L1, L2, L3, L4, e1, e2, e3, e4, iy, b1⟩ := math L k a b HFit.out HLn.out bdk la lb
    have E1 := Lib.hid e1
    have E2 := Lib.hid e2
    have E3 := Lib.hid e3
    have E4 := Lib.hid e4
    have HIy := Lib.hid iy
    have HU7 := Lib.hid (u64_small (x := 7) (by omega) (by omega))
    have b2 : y = v ↔ (a : Int) = (b : Int) := by rw [b1]; omega
    obtain ⟨t, s1, s2⟩ := beqs b2
    have s3 : (x == x) = true := by simp
    have stt : (t == t) = true := by simp
    clear hk bdk HP0 HL c0 c1 hl0 hn1 hn2 ha hb e1 e2 e3 e4 iy b1 b2
    generalize w1.drewN nq = w2 at HPA ⊢
    go_wp2_with fail
    refine (HPA.out.chainP gR HIk.out HU7.out E1.out).mono ?_
    rintro e w3 ⟨rfl, hp, _⟩
    have HP3 := Lib.hid hp
    clear hp HPA
    go_wp2_with fail
    refine (HP3.out.chainP gR HIk.out HU7.out E2.out).mono ?_
    rintro e w4 ⟨rfl, hp, _⟩
    have HP4 := Lib.hid hp
    clear hp HP3
    go_wp2_with fail
    refine (HP4.out.chainP gR HIy.out HU7.out E3.out).mono ?_
    rintro e w5 ⟨rfl, hp, _⟩
    have HP5 := Lib.hid hp
    clear hp HP4
    go_wp2_with fail
    refine (HP5.out.chainP gR HIk.out HU7.out E4.out).mono ?_
    rintro e w6 ⟨rfl, hp, _⟩
    have HP6 := Lib.hid hp
    clear hp HP5
    go_wp2_with fail
    refine (fixed_any _).mono ?_
    rintro e w99 ⟨rfl, hb9⟩
    have hb := HB0.out.trans ((HP6.out.belowW.trans (hb9.mono HP6.out.base_le)).mono HB0.out.size)
    clear hb9
    go_wp2
    go_ret
    exact ⟨rfl, hb⟩

set_option maxRecDepth 100000 in
theorem lifted (os : Os) (started : os.Started) (H : Type) (enc : TypeId × Value → H) :
    ReturnsInHanded {} Try.checked os 4 .any (Rows.kdfChainsSpec.pre6 enc Try.prog Try.f4 Rows.kdfChainsRow.domain false) (Rows.kdfChainsSpec.post enc Try.prog Try.f4 false true false false) := by
  refine returnsInHanded_of_change (C := Try.checked) own started (by kernel_rfl) Try.func4
    (ChangeSpec.witness6 (enc := enc) (C := Try.checked) false ⟨#[], #[.slice none 0 0, .int .u8 0, .agg #[.int .u8 0, .int .u8 0]], []⟩ 8 (by kernel_rfl) (by kernel_rfl) (by kernel_rfl) (by kernel_rfl)) ?_
  intro W base args ds gs before hval0 hW hcnd _
  have hval : ∀ (j : Nat) t v, Try.f4.params[j]? = some t → args[j]? = some v → Value.okWide Try.prog W .any base t v := hval0
  have hW' := hW
  obtain ⟨p, q, hA0, hV, rfl, hfz, hnd⟩ := hW
  have hA : DataW.TrodAll enc Try.prog W 0 (fun _ => true) true Try.f4.params.toList args.toList ds p := hA0
  rw [Try.params4] at hA hval
  obtain ⟨v0, vs0, d0, ds0, p0, q0, hargs, rfl, rfl, h0, r0⟩ := trodAll_cons hA
  obtain ⟨v1, vs1, d1, ds1, p1, q1, rfl, rfl, rfl, h1, r1⟩ := trodAll_cons r0
  obtain ⟨v2, vs2, d2, ds2, p2, q2, rfl, rfl, rfl, h2, r2⟩ := trodAll_cons r1
  obtain ⟨rfl, rfl, rfl⟩ := trodAll_nil r2
  obtain rfl : args = #[v0, v1, v2] := by cases args; simp_all
  obtain ⟨rfl, rfl⟩ := trodVars_none hV
  obtain ⟨a0, len0, cap0, rfl⟩ := okWide_slice Try.underlying22 (hval 0 22 v0 rfl rfl)
  have k0 := h0
  have lt0 : ∀ x ∈ p0, x.block < W.heap.size := by obtain ⟨m, hm⟩ := k0; exact DataW.trod_lt m _ _ _ hm
  obtain ⟨T0, w0⟩ : ∃ T, Terms W a0 len0 cap0 T := by
    obtain ⟨fuel, hf⟩ := h0
    exact open_terms (by simpa [Value.cells] using hf)
  obtain ⟨a1, rfl, rfl, rfl, w1⟩ := open_int Try.underlying5 (hval 1 5 v1 rfl rfl) h1
  obtain ⟨cs2, rfl, hsz2⟩ : ∃ cs, v2 = .agg cs ∧ cs.size = Try.prog.cellsOf 44 := by
    have h := hval 2 44 v2 rfl rfl
    simp only [Value.okWide, Try.underlying44] at h
    obtain ⟨cs, e1, e2, _⟩ := h
    exact ⟨cs, e1, e2⟩
  have k2 := h2
  have lt2 : ∀ x ∈ p2, x.block < W.heap.size := by obtain ⟨m, hm⟩ := k2; exact DataW.trod_lt m _ _ _ hm
  obtain ⟨Z2, rfl, w2⟩ : ∃ Z : Nat → Int, cs2 = ((List.range 2).map fun j => Value.int .u8 (Z j)).toArray ∧ ∀ j, j < 2 → (Lit.int .u8 (Z j)).wf = true := by
    obtain ⟨fuel, hf⟩ := h2
    exact open_arrV Try.underlying44 Try.underlying5 (by kernel_rfl) (by kernel_rfl) hf
  clear hA0 hval0
  refine (walk a0 len0 cap0 T0 a1 (Z2 0) (Z2 1) W w0 w1 (w2 0 (by omega)) (w2 1 (by omega))).mono fun e W' ⟨he, bel⟩ => ?_
  subst he
  exact ⟨_, rfl, _, _, _, [], _, [], hW', trodAll_mk1 (shut_bool Try.underlying4 _), (trodAll_cons_mk (Below.trod laidOut (by kernel_rfl) (of_decide_eq_true (by kernel_rfl)) k0 bel lt0) (trodAll_cons_mk (shut_int Try.underlying5 w1) (trodAll_cons_mk (Below.trod laidOut (by kernel_rfl) (of_decide_eq_true (by kernel_rfl)) k2 bel lt2) trodAll_mk0))), rfl, bel.frame _, fun h => by cases h⟩

theorem over : Rows.kdfChainsRow.holds Try.pinned (OpenSpec.ofChange Rows.kdfChainsSpec) :=
  OpenClaim.holds_of_wide 4 Try.f4 rfl rfl rfl rfl rfl rfl rfl ⟨rfl, rfl, rfl, rfl, rfl⟩ rfl rfl rfl rfl rfl (by kernel_rfl) Try.func4 (by kernel_rfl)
    (of_decide_eq_true (by kernel_rfl)) (by unfold Func.isWrapper; first | (rw [if_pos (by decide +kernel)]; kernel_rfl) | (rw [if_neg (by decide +kernel)]; exact ⟨rfl, rfl⟩))
    (fun os started H enc _ => lifted os started H enc)

theorem proved : Rows.KdfChainsSaid := over
#print axioms proved
end Go.Proofs.Ytglgobimdghehaa.kdfChains
