/- KemTells: for every row of terms and of pairs of numbers, the wrapping key of each, what is wrapped and what is opened, or what is wrong, is as the document says. No condition. -/
import Derived.Test.YtpfeonmgiekpfaaRows
import Derived.Test.YtpfeonmgiekpfaaKemF
import Derived.Test.YtpfeonmgiekpfaaSameL
import Derived.Test.YtpfeonmgiekpfaaOpens
import Derived.WalkKit
import Derived.Deep.RegionHeld3
import Derived.ProofKit
import Derived.OpenShut
import Derived.ShutString
import Derived.ChangeOld
import Derived.Below
namespace Go.Proofs.Ytpfeonmgiekpfaa.kemTells
open Go.ChangeShapes Go.WideShapes Go.ChangeAt Go.RowKit
open Go.ChangeMaps (open_string shut_string)
open Go.Proofs.Ytpfeonmgiekpfaa
set_option linter.unusedVariables false
set_option linter.unusedSimpArgs false

theorem own : ownKnob Try.prog.godebug = none := by kernel_rfl
theorem laidOut : laidOutB Try.prog = true := by kernel_rfl

def J (w : World) (g1 g2 : Nat) (L L' : List Tm) (W : World) : Prop := Pair w.heap.size (PSq w.heap.size g1 1000) (RSq w.heap.size g2 1000) L L' (fun _ => False) w W
theorem J.below {w : World} {g1 g2 : Nat} {L L' : List Tm} {W W' : World} (hb : Below W.heap.size W W') (h : Hid (J w g1 g2 L L' W)) : Hid (J w g1 g2 L L' W') :=
  Lib.hid (Pair.below (PSq.good w.heap.size g1 1000) (RSq.good w.heap.size g2 1000) h.out hb)
/-- The row's cells. -/
def RowS (b o : Nat) (u0 u1 : Int) (W : World) : Prop := W.cell? ⟨b, o, none⟩ = some (.int .i64 u0) ∧ W.cell? ⟨b, o + 1, none⟩ = some (.int .i64 u1)
theorem RowS.of {w W : World} {b o : Nat} {u0 u1 : Int} (hb : Below w.heap.size w W) (hl : b < w.heap.size) (h : RowS b o u0 u1 w) : RowS b o u0 u1 W :=
  ⟨(hb.cell (by exact hl)).trans h.1, (hb.cell (by exact hl)).trans h.2⟩

set_option maxHeartbeats 4000000 in
set_option maxRecDepth 100000 in
theorem walk (a0 : Option Addr) (len0 cap0 : Nat) (T0 : Nat → Tm) (a1 : Option Addr) (len1 cap1 : Nat) (Z1 : Nat → Nat → Int) (w : World) (w0 : Terms w a0 len0 cap0 T0) (w1 : Arrs .i64 2 w a1 len1 cap1 Z1) :
    Calls Try.prog 3 #[.slice a0 len0 cap0, .slice a1 len1 cap1] w fun e w' => e = .returned (.bool true) ∧ Below w.heap.size w w' := by
  have HT0 := Lib.hid w0
  obtain ⟨hcm, hlc, b, off, hz⟩ := w1
  have HZ := Lib.hid hz
  unfold maxLen at hcm
  clear w0 hz
  have gR := fun g => RSq.good w.heap.size g 1000
  have gP := fun g => PSq.good w.heap.size g 1000
  go_enter Try.func3, Try.ntmps3
  go_wp2_with fail
  refine (stores_any 30 a0 len0 cap0 T0 _ (by omega) HT0.out).mono ?_
  rintro e w1 ⟨g1, g2, L, rfl, hL, hp⟩
  have HP0 : Hid (J w g1 g2 L L w1) := Lib.hid hp
  clear hp hL HT0
  go_wp2_with fail
  go_loopw [7] (fun i wr => ∃ k, ∃ L : List Tm, k ≤ 20 ∧ i = .int .i64 (k : Nat) ∧ Hid (J w g1 g2 L L wr)) (fun i _ => 20 - (intOf i).toNat)
  case atStart => exact ⟨0, L, Nat.zero_le _, rfl, HP0⟩
  case round =>
    clear HP0 L
    obtain ⟨k, L, hk, rfl, HP⟩ := hrel
    by_cases hlt : k < len1
    · have hlt1 : (k : Int) < (len1 : Int) := by omega
      by_cases h20 : k < 20
      · have h21 : (k : Int) < 20 := by omega
        obtain ⟨rfl, hcl⟩ := HZ.out k hlt
        obtain ⟨q0, wf0⟩ := hcl 0 (by omega)
        obtain ⟨q1, wf1⟩ := hcl 1 (by omega)
        have hbw : b < w.heap.size := block_lt_of_cell q0
        obtain ⟨u0, hu0⟩ : ∃ u, u = Z1 k 0 := ⟨_, rfl⟩
        rw [← hu0] at q0 wf0
        have WU0 : Hid ((Lit.int .i64 u0).wf = true) := Lib.hid wf0
        obtain ⟨u1, hu1⟩ : ∃ u, u = Z1 k 1 := ⟨_, rfl⟩
        rw [← hu1] at q1 wf1
        have WU1 : Hid ((Lit.int .i64 u1).wf = true) := Lib.hid wf1
        have HR := Lib.hid (show RowS b (off + k * 2) u0 u1 w from ⟨q0, q1⟩)
        have Hk := Lib.hid h20
        obtain ⟨a, e1, L1, hf0⟩ : ∃ a e M, putF L 1000 (kpubT u0) = (a, e, M) := ⟨_, _, _, rfl⟩
        have HF0 := Lib.hid hf0
        obtain ⟨c, d, e2, L2, hf1⟩ : ∃ c d e M, wrapF L1 1000 u0 u1 = (c, d, e, M) := ⟨_, _, _, _, rfl⟩
        have HF1 := Lib.hid hf1
        obtain ⟨x, e3, L3, hf2⟩ : ∃ x e M, openF L2 1000 u0 u1 = (x, e, M) := ⟨_, _, _, rfl⟩
        have HF2 := Lib.hid hf2
        clear hu0 wf0 q0 hu1 wf1 q1 hcl hf0 hf1 hf2 hk h20
        have q : wr.cell? ⟨b, off + k * 2, none⟩ = some (.int .i64 u0) := (HR.out.of HP.out.belowW hbw).1
        have HC : Hid (∀ W, Hid (J w g1 g2 L L W) → Calls Try.prog 9 #[.pointer (some ⟨g1, 0, none⟩), .int .i64 u0] W fun e w' => e = .returned (.tuple #[.int .i64 a, .int .i64 e1]) ∧ Hid (J w g1 g2 L1 L w')) := Lib.hid (fun W h => (Pair.kpublicP (gR g2) h.out WU0.out HF0.out).mono (fun e w' h => ⟨h.1, Lib.hid (h.2.1)⟩))
        go_wp2_with fail
        refine (HC.out _ HP).mono ?_
        rintro e w2 ⟨rfl, HP2⟩
        clear q HC HP
        have q : w2.cell? ⟨b, off + k * 2, none⟩ = some (.int .i64 u0) := (HR.out.of HP2.out.belowW hbw).1
        have HC : Hid (∀ W, Hid (J w g1 g2 L1 L W) → Calls Try.prog 10 #[.pointer (some ⟨g2, 0, none⟩), .int .i64 u0] W fun e w' => e = .returned (.tuple #[.int .i64 a, .int .i64 e1]) ∧ Hid (J w g1 g2 L1 L1 w')) := Lib.hid (fun W h => (Pair.kpublicR (gP g1) (Pair.swap h.out) WU0.out HF0.out).mono (fun e w' h => ⟨h.1, Lib.hid (Pair.swap h.2.1)⟩))
        go_wp2_with fail
        refine (HC.out _ HP2).mono ?_
        rintro e w3 ⟨rfl, HP3⟩
        clear q HC HP2
        have HPd : Hid (J w g1 g2 L1 L1 w3.drew) := J.below ((Below.refl _ _).drew) HP3
        have hS : RowS b (off + k * 2) u0 u1 w3.drew := HR.out.of HPd.out.belowW hbw
        have hS' := hS
        have HC : Hid (∀ W, Hid (J w g1 g2 L1 L1 W) → Calls Try.prog 11 #[.pointer (some ⟨g1, 0, none⟩), .int .i64 u0, .int .i64 u1] W fun e w' => e = .returned (.tuple #[.int .i64 c, .int .i64 d, .int .i64 e2]) ∧ Hid (J w g1 g2 L2 L1 w')) := Lib.hid (fun W h => (Pair.wrapP (gR g2) h.out WU1.out HF1.out).mono (fun e w' h => ⟨h.1, Lib.hid (h.2.1)⟩))
        clear HP3
        go_wp2
        go_region_held3 (fun w' => w'.cell? ⟨b, off + k * 2, none⟩ = some (.int .i64 u0) ∧ w'.cell? ⟨b, off + k * 2 + 1, none⟩ = some (.int .i64 u1)) (first | assumption | go_keep) ((go_at_call 11; refine (HC.out _ HPd).mono ?_; rintro e w4 ⟨rfl, HP4⟩; have hS4 : w4.cell? ⟨b, off + k * 2, none⟩ = some (.int .i64 u0) ∧ w4.cell? ⟨b, off + k * 2 + 1, none⟩ = some (.int .i64 u1) := HR.out.of HP4.out.belowW hbw))
        clear HPd hS hS' HC
        try clear hS4
        have HPd : Hid (J w g1 g2 L2 L1 w4.drew) := J.below ((Below.refl _ _).drew) HP4
        have hS : RowS b (off + k * 2) u0 u1 w4.drew := HR.out.of HPd.out.belowW hbw
        have hS' := hS
        have HC : Hid (∀ W, Hid (J w g1 g2 L2 L1 W) → Calls Try.prog 12 #[.pointer (some ⟨g2, 0, none⟩), .int .i64 u0, .int .i64 u1] W fun e w' => e = .returned (.tuple #[.int .i64 c, .int .i64 d, .int .i64 e2]) ∧ Hid (J w g1 g2 L2 L2 w')) := Lib.hid (fun W h => (Pair.wrapR (gP g1) (Pair.swap h.out) WU1.out HF1.out).mono (fun e w' h => ⟨h.1, Lib.hid (Pair.swap h.2.1)⟩))
        clear HP4
        go_wp2
        go_region_held3 (fun w' => w'.cell? ⟨b, off + k * 2, none⟩ = some (.int .i64 u0) ∧ w'.cell? ⟨b, off + k * 2 + 1, none⟩ = some (.int .i64 u1)) (first | assumption | go_keep) ((go_at_call 12; refine (HC.out _ HPd).mono ?_; rintro e w5 ⟨rfl, HP5⟩; have hS5 : w5.cell? ⟨b, off + k * 2, none⟩ = some (.int .i64 u0) ∧ w5.cell? ⟨b, off + k * 2 + 1, none⟩ = some (.int .i64 u1) := HR.out.of HP5.out.belowW hbw))
        clear HPd hS hS' HC
        try clear hS5
        have HPd : Hid (J w g1 g2 L2 L2 w5.drew) := J.below ((Below.refl _ _).drew) HP5
        have hS : RowS b (off + k * 2) u0 u1 w5.drew := HR.out.of HPd.out.belowW hbw
        have hS' := hS
        have HC : Hid (∀ W, Hid (J w g1 g2 L2 L2 W) → Calls Try.prog 13 #[.pointer (some ⟨g1, 0, none⟩), .int .i64 u0, .int .i64 u1] W fun e w' => e = .returned (.tuple #[.int .i64 x, .int .i64 e3]) ∧ Hid (J w g1 g2 L3 L2 w')) := Lib.hid (fun W h => (Pair.openP (gR g2) h.out WU0.out HF2.out).mono (fun e w' h => ⟨h.1, Lib.hid (h.2.1)⟩))
        clear HP5
        go_wp2
        go_region_held3 (fun w' => w'.cell? ⟨b, off + k * 2, none⟩ = some (.int .i64 u0) ∧ w'.cell? ⟨b, off + k * 2 + 1, none⟩ = some (.int .i64 u1)) (first | assumption | go_keep) ((go_at_call 13; refine (HC.out _ HPd).mono ?_; rintro e w6 ⟨rfl, HP6⟩; have hS6 : w6.cell? ⟨b, off + k * 2, none⟩ = some (.int .i64 u0) ∧ w6.cell? ⟨b, off + k * 2 + 1, none⟩ = some (.int .i64 u1) := HR.out.of HP6.out.belowW hbw))
        clear HPd hS hS' HC
        try clear hS6
        have HPd : Hid (J w g1 g2 L3 L2 w6.drew) := J.below ((Below.refl _ _).drew) HP6
        have hS : RowS b (off + k * 2) u0 u1 w6.drew := HR.out.of HPd.out.belowW hbw
        have hS' := hS
        have HC : Hid (∀ W, Hid (J w g1 g2 L3 L2 W) → Calls Try.prog 14 #[.pointer (some ⟨g2, 0, none⟩), .int .i64 u0, .int .i64 u1] W fun e w' => e = .returned (.tuple #[.int .i64 x, .int .i64 e3]) ∧ Hid (J w g1 g2 L3 L3 w')) := Lib.hid (fun W h => (Pair.openR (gP g1) (Pair.swap h.out) WU0.out HF2.out).mono (fun e w' h => ⟨h.1, Lib.hid (Pair.swap h.2.1)⟩))
        clear HP6
        go_wp2
        go_region_held3 (fun w' => w'.cell? ⟨b, off + k * 2, none⟩ = some (.int .i64 u0) ∧ w'.cell? ⟨b, off + k * 2 + 1, none⟩ = some (.int .i64 u1)) (first | assumption | go_keep) ((go_at_call 14; refine (HC.out _ HPd).mono ?_; rintro e w7 ⟨rfl, HP7⟩; have hS7 : w7.cell? ⟨b, off + k * 2, none⟩ = some (.int .i64 u0) ∧ w7.cell? ⟨b, off + k * 2 + 1, none⟩ = some (.int .i64 u1) := HR.out.of HP7.out.belowW hbw))
        clear HPd hS hS' HC
        try clear hS7
        have sm0 : (a != a) = false := by simp
        have sm1 : (e1 != e1) = false := by simp
        have sm2 : (c != c) = false := by simp
        have sm3 : (d != d) = false := by simp
        have sm4 : (e2 != e2) = false := by simp
        have sm5 : (x != x) = false := by simp
        have sm6 : (e3 != e3) = false := by simp
        go_wp2_with fail
        go_roundw
        case rel => exact ⟨k + 1, L3, by have := Hk.out; omega, by go_num, HP7⟩
        case measure => have := Hk.out; simp [intOf]; omega
      · have h21 : decide ((k : Int) < 20) = false := by simp; omega
        clear hk hlt h20
        go_wp2_with fail
        refine (sameL_any _ HP.out).mono ?_
        rintro e w2 ⟨rfl, hb2⟩
        have HP2 := J.below hb2 HP
        clear hb2 HP
        go_wp2_with fail
        refine (fixed_any _).mono ?_
        rintro e w3 ⟨rfl, hb3⟩
        have HP3 := J.below hb3 HP2
        clear hb3 HP2
        go_wp2
        go_ret
        exact ⟨rfl, HP3.out.belowW⟩
    · have hlt1 : decide (k < len1) = false := by simpa using hlt
      clear hk hlt
      go_wp2_with fail
      refine (sameL_any _ HP.out).mono ?_
      rintro e w2 ⟨rfl, hb2⟩
      have HP2 := J.below hb2 HP
      clear hb2 HP
      go_wp2_with fail
      refine (fixed_any _).mono ?_
      rintro e w3 ⟨rfl, hb3⟩
      have HP3 := J.below hb3 HP2
      clear hb3 HP2
      go_wp2
      go_ret
      exact ⟨rfl, HP3.out.belowW⟩

set_option maxRecDepth 100000 in
theorem lifted (os : Os) (started : os.Started) (H : Type) (enc : TypeId × Value → H) :
    ReturnsInHanded {} Try.checked os 3 .any (Rows.kemTellsSpec.pre6 enc Try.prog Try.f3 Rows.kemTellsRow.domain false) (Rows.kemTellsSpec.post enc Try.prog Try.f3 false true false false) := by
  refine returnsInHanded_of_change (C := Try.checked) own started (by kernel_rfl) Try.func3
    (ChangeSpec.witness6 (enc := enc) (C := Try.checked) false ⟨#[], #[.slice none 0 0, .slice none 0 0], []⟩ 8 (by kernel_rfl) (by kernel_rfl) (by kernel_rfl) (by kernel_rfl)) ?_
  intro W base args ds gs before hval0 hW hcnd _
  have hval : ∀ (j : Nat) t v, Try.f3.params[j]? = some t → args[j]? = some v → Value.okWide Try.prog W .any base t v := hval0
  have hW' := hW
  obtain ⟨p, q, hA0, hV, rfl, hfz, hnd⟩ := hW
  have hA : DataW.TrodAll enc Try.prog W 0 (fun _ => true) true Try.f3.params.toList args.toList ds p := hA0
  rw [Try.params3] at hA hval
  obtain ⟨v0, vs0, d0, ds0, p0, q0, hargs, rfl, rfl, h0, r0⟩ := trodAll_cons hA
  obtain ⟨v1, vs1, d1, ds1, p1, q1, rfl, rfl, rfl, h1, r1⟩ := trodAll_cons r0
  obtain ⟨rfl, rfl, rfl⟩ := trodAll_nil r1
  obtain rfl : args = #[v0, v1] := by cases args; simp_all
  obtain ⟨rfl, rfl⟩ := trodVars_none hV
  obtain ⟨a0, len0, cap0, rfl⟩ := okWide_slice Try.underlying22 (hval 0 22 v0 rfl rfl)
  have k0 := h0
  have lt0 : ∀ x ∈ p0, x.block < W.heap.size := by obtain ⟨m, hm⟩ := k0; exact DataW.trod_lt m _ _ _ hm
  obtain ⟨T0, w0⟩ : ∃ T, Terms W a0 len0 cap0 T := by
    obtain ⟨fuel, hf⟩ := h0
    exact open_terms (by simpa [Value.cells] using hf)
  obtain ⟨a1, len1, cap1, rfl⟩ := okWide_slice Try.underlying23 (hval 1 23 v1 rfl rfl)
  have k1 := h1
  have lt1 : ∀ x ∈ p1, x.block < W.heap.size := by obtain ⟨m, hm⟩ := k1; exact DataW.trod_lt m _ _ _ hm
  obtain ⟨Z1, w1⟩ : ∃ Z, Arrs .i64 2 W a1 len1 cap1 Z := by
    obtain ⟨fuel, hf⟩ := h1
    exact open_arrs Try.underlying23 Try.underlying31 Try.underlying3 (by kernel_rfl) (by kernel_rfl) (by omega) (by simpa [Value.cells] using hf)
  clear hA0 hval0
  refine (walk a0 len0 cap0 T0 a1 len1 cap1 Z1 W w0 w1).mono fun e W' ⟨he, bel⟩ => ?_
  subst he
  exact ⟨_, rfl, _, _, _, [], _, [], hW', trodAll_mk1 (shut_bool Try.underlying4 _), (trodAll_cons_mk (Below.trod laidOut (by kernel_rfl) (of_decide_eq_true (by kernel_rfl)) k0 bel lt0) (trodAll_cons_mk (Below.trod laidOut (by kernel_rfl) (of_decide_eq_true (by kernel_rfl)) k1 bel lt1) trodAll_mk0)), rfl, bel.frame _, fun h => by cases h⟩

theorem over : Rows.kemTellsRow.holds Try.pinned (OpenSpec.ofChange Rows.kemTellsSpec) :=
  OpenClaim.holds_of_wide 3 Try.f3 rfl rfl rfl rfl rfl rfl rfl ⟨rfl, rfl, rfl, rfl, rfl⟩ rfl rfl rfl rfl rfl (by kernel_rfl) Try.func3 (by kernel_rfl)
    (of_decide_eq_true (by kernel_rfl)) (by unfold Func.isWrapper; first | (rw [if_pos (by decide +kernel)]; kernel_rfl) | (rw [if_neg (by decide +kernel)]; exact ⟨rfl, rfl⟩))
    (fun os started H enc _ => lifted os started H enc)

theorem proved : Rows.KemTellsSaid := over
#print axioms proved
end Go.Proofs.Ytpfeonmgiekpfaa.kemTells
