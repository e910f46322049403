/- DhTells: for every row of terms and of pairs of numbers, the public key of each, what both share, and whether one is a public key, or what is wrong, is as the document says. No condition. -/
import Derived.Test.YtdbbbgaaebggcaaRows
import Derived.Test.YtdbbbgaaebggcaaDhF
import Derived.Test.YtdbbbgaaebggcaaSameL
import Derived.Test.YtdbbbgaaebggcaaOpens
import Derived.WalkKit
import Derived.Deep.RegionWith
import Derived.ProofKit
import Derived.OpenShut
import Derived.ShutString
import Derived.ChangeOld
import Derived.Below
namespace Go.Proofs.Ytdbbbgaaebggcaa.dhTells
open Go.ChangeShapes Go.WideShapes Go.ChangeAt Go.RowKit
open Go.ChangeMaps (open_string shut_string)
open Go.Proofs.Ytdbbbgaaebggcaa
set_option linter.unusedVariables false

theorem own : ownKnob Try.prog.godebug = none := by kernel_rfl
theorem laidOut : laidOutB Try.prog = true := by kernel_rfl

def J (w : World) (g1 g2 : Nat) (L : List Tm) (W : World) : Prop := Pair w.heap.size (PSq w.heap.size g1 1000) (RSq w.heap.size g2 1000) L L (fun _ => False) w W
theorem cell_keep {w w' : World} {p : Addr} {v : Value} (hb : Below w.heap.size w w') (h : w.cell? p = some v) : w'.cell? p = some v := (hb.cell (block_lt_of_cell h)).trans h
theorem J.below {w : World} {g1 g2 : Nat} {L : List Tm} {W W' : World} (hb : Below W.heap.size W W') (h : Hid (J w g1 g2 L W)) : Hid (J w g1 g2 L W') :=
  Lib.hid (Pair.below (PSq.good w.heap.size g1 1000) (RSq.good w.heap.size g2 1000) h.out hb)
/-- What the region of a round holds on to. -/
def HeldD (w : World) (g1 g2 : Nat) (L : List Tm) (b o : Nat) (v : Int) (W : World) : Prop := W.cell? ⟨b, o, none⟩ = some (.int .i64 v) ∧ Hid (J w g1 g2 L W)
theorem HeldD.below {w : World} {g1 g2 : Nat} {L : List Tm} {b o : Nat} {v : Int} {W W' : World} (hb : Below W.heap.size W W') (h : HeldD w g1 g2 L b o v W) : HeldD w g1 g2 L b o v W' := ⟨cell_keep hb h.1, J.below hb h.2⟩
theorem HeldD.j {w : World} {g1 g2 : Nat} {L : List Tm} {b o : Nat} {v : Int} {W : World} (h : HeldD w g1 g2 L b o v W) : Hid (J w g1 g2 L W) := h.2

set_option maxHeartbeats 4000000 in
set_option maxRecDepth 100000 in
theorem walk (a0 : Option Addr) (len0 cap0 : Nat) (T0 : Nat → Tm) (a1 : Option Addr) (len1 cap1 : Nat) (Z1 : Nat → Nat → Int) (w : World) (w0 : Terms w a0 len0 cap0 T0) (w1 : Arrs .i64 2 w a1 len1 cap1 Z1) :
    Calls Try.prog 3 #[.slice a0 len0 cap0, .slice a1 len1 cap1] w fun e w' => e = .returned (.bool true) ∧ Below w.heap.size w w' := by
  have HT0 := Lib.hid w0
  obtain ⟨hcm, hlc, b, off, hz⟩ := w1
  have HZ := Lib.hid hz
  unfold maxLen at hcm
  clear w0 hz
  have gR := fun g => RSq.good w.heap.size g 1000
  have gP := fun g => PSq.good w.heap.size g 1000
  go_enter Try.func3, Try.ntmps3
  go_wp2_with fail
  refine (stores_any 30 a0 len0 cap0 T0 _ (by omega) HT0.out).mono ?_
  rintro e w1 ⟨g1, g2, L, rfl, hL, hp⟩
  have HP0 : Hid (J w g1 g2 L w1) := Lib.hid hp
  clear hp hL HT0
  go_wp2_with fail
  go_loopw [7] (fun i wr => ∃ k, ∃ L : List Tm, k ≤ 20 ∧ i = .int .i64 (k : Nat) ∧ Hid (J w g1 g2 L wr)) (fun i _ => 20 - (intOf i).toNat)
  case atStart => exact ⟨0, L, Nat.zero_le _, rfl, HP0⟩
  case round =>
    clear HP0 L
    obtain ⟨k, L, hk, rfl, HP⟩ := hrel
    have endOf : ∀ W, Hid (J w g1 g2 L W) → True := fun _ _ => trivial
    clear endOf
    by_cases hlt : k < len1
    · have hlt1 : (k : Int) < (len1 : Int) := by omega
      by_cases h20 : k < 20
      · have h21 : (k : Int) < 20 := by omega
        obtain ⟨rfl, hcl⟩ := HZ.out k hlt
        obtain ⟨q0, wu⟩ := hcl 0 (by omega)
        obtain ⟨q1, wv⟩ := hcl 1 (by omega)
        have hbw : b < w.heap.size := block_lt_of_cell q0
        obtain ⟨u, hu⟩ : ∃ u, u = Z1 k 0 := ⟨_, rfl⟩
        obtain ⟨v, hv⟩ : ∃ v, v = Z1 k 1 := ⟨_, rfl⟩
        rw [← hu] at q0 wu
        rw [← hv] at q1 wv
        have Q0 := Lib.hid q0
        have Q1 := Lib.hid q1
        have WU : Hid (I64 u) := Lib.hid wu
        have WV : Hid (I64 v) := Lib.hid wv
        have Hk := Lib.hid h20
        obtain ⟨a, e1, L1, hf1⟩ : ∃ a e L', putF L 1000 (pubT u) = (a, e, L') := ⟨_, _, _, rfl⟩
        obtain ⟨c, e2, L2, hf2⟩ : ∃ a e L', agreeF L1 1000 u v = (a, e, L') := ⟨_, _, _, rfl⟩
        obtain ⟨s, ok, hf3⟩ : ∃ s ok, secF L2 v = (s, ok) := ⟨_, _, rfl⟩
        have HF1 := Lib.hid hf1
        have HF2 := Lib.hid hf2
        have HF3 := Lib.hid hf3
        clear hu hv wu wv hcl hf1 hf2 hf3 hk h20 q0 q1
        have q0 : wr.cell? ⟨b, off + k * 2, none⟩ = some (.int .i64 u) := (HP.out.belowW.cell (by exact hbw)).trans Q0.out
        go_wp2_with fail
        refine (Pair.publicP (gR g2) HP.out WU.out HF1.out).mono ?_
        rintro e w2 ⟨rfl, hp, _⟩
        have HP2 := Lib.hid hp
        clear hp HP q0
        have q0 : w2.cell? ⟨b, off + k * 2, none⟩ = some (.int .i64 u) := (HP2.out.belowW.cell (by exact hbw)).trans Q0.out
        go_wp2_with fail
        refine (Pair.publicR (gP g1) HP2.out.swap WU.out HF1.out).mono ?_
        rintro e w3 ⟨rfl, hp, _⟩
        have HP3 : Hid (J w g1 g2 L1 w3) := Lib.hid hp.swap
        clear hp HP2 q0
        have q0 : w3.cell? ⟨b, off + k * 2, none⟩ = some (.int .i64 u) := (HP3.out.belowW.cell (by exact hbw)).trans Q0.out
        have q1 : w3.cell? ⟨b, off + k * 2 + 1, none⟩ = some (.int .i64 v) := (HP3.out.belowW.cell (by exact hbw)).trans Q1.out
        have HPd : Hid (J w g1 g2 L1 w3.drew) := J.below ((Below.refl _ _).drew) HP3
        have HC : Hid (∀ W, Hid (J w g1 g2 L1 W) → Calls Try.prog 11 #[.pointer (some ⟨g1, 0, none⟩), .int .i64 u, .int .i64 v] W fun e w' => e = .returned (.tuple #[.int .i64 c, .int .i64 e2]) ∧ Hid (Pair w.heap.size (PSq w.heap.size g1 1000) (RSq w.heap.size g2 1000) L2 L1 (fun _ => False) w w')) := Lib.hid (fun W h => (Pair.agreeP (gR g2) h.out WU.out HF2.out).mono (fun e w' h => ⟨h.1, Lib.hid h.2.1⟩))
        clear HP3
        go_wp2
        go_region_with (go_at_call 11; refine (HC.out _ HPd).mono ?_; rintro e w5 ⟨rfl, HP5⟩)
        all_goals
          clear q0 q1 HPd HC
          have q0 : w5.cell? ⟨b, off + k * 2, none⟩ = some (.int .i64 u) := (HP5.out.belowW.cell (by exact hbw)).trans Q0.out
          have q1 : w5.cell? ⟨b, off + k * 2 + 1, none⟩ = some (.int .i64 v) := (HP5.out.belowW.cell (by exact hbw)).trans Q1.out
          have HPe : Hid (Pair w.heap.size (PSq w.heap.size g1 1000) (RSq w.heap.size g2 1000) L2 L1 (fun _ => False) w w5.drew) := Lib.hid (HP5.out.below (gP g1) (gR g2) ((Below.refl _ _).drew))
          have HC : Hid (∀ W, Hid (Pair w.heap.size (PSq w.heap.size g1 1000) (RSq w.heap.size g2 1000) L2 L1 (fun _ => False) w W) → Calls Try.prog 12 #[.pointer (some ⟨g2, 0, none⟩), .int .i64 u, .int .i64 v] W fun e w' => e = .returned (.tuple #[.int .i64 c, .int .i64 e2]) ∧ Hid (J w g1 g2 L2 w')) := Lib.hid (fun W h => (Pair.agreeR (gP g1) h.out.swap WU.out HF2.out).mono (fun e w' h => ⟨h.1, Lib.hid h.2.1.swap⟩))
          clear HP5
          go_simp
          go_wp2
          go_region_with (go_at_call 12; refine (HC.out _ HPe).mono ?_; rintro e w7 ⟨rfl, HP7⟩)
          all_goals
            clear q0 q1 HPe HC
            go_simp
            have q1 : w7.cell? ⟨b, off + k * 2 + 1, none⟩ = some (.int .i64 v) := (HP7.out.belowW.cell (by exact hbw)).trans Q1.out
            have q2 : w7.drew.cell? ⟨b, off + k * 2 + 1, none⟩ = some (.int .i64 v) := q1
            have HP8 : Hid (J w g1 g2 L2 w7.drew) := J.below ((Below.refl _ _).drew) HP7
            have hS0 : HeldD w g1 g2 L2 b (off + k * 2 + 1) v w7.drew := ⟨q2, HP8⟩
            have sa : (a == a) = true := beq_self_eq_true _
            have se : (e1 == e1) = true := beq_self_eq_true _
            have sc : (c == c) = true := beq_self_eq_true _
            have sf : (e2 == e2) = true := beq_self_eq_true _
            have so : (ok == ok) = true := beq_self_eq_true _
            have H13 : Hid (∀ W : World, HeldD w g1 g2 L2 b (off + k * 2 + 1) v W → Calls Try.prog 13 #[.pointer (some ⟨g1, 0, none⟩), .int .i64 v] W fun e w' => e = .returned (.bool ok) ∧ Below W.heap.size W w') := Lib.hid (fun W h => (Pair.isP (gR g2) h.j.out v HF3.out).mono (fun e w' h => ⟨h.1, h.2.2⟩))
            have H14 : Hid (∀ W : World, HeldD w g1 g2 L2 b (off + k * 2 + 1) v W → Calls Try.prog 14 #[.pointer (some ⟨g2, 0, none⟩), .int .i64 v] W fun e w' => e = .returned (.bool ok) ∧ Below W.heap.size W w') := Lib.hid (fun W h => (Pair.isR (gP g1) h.j.out.swap v HF3.out).mono (fun e w' h => ⟨h.1, h.2.2⟩))
            go_wp2
            go_region_held3 (fun w' => w'.cell? ⟨b, off + k * 2 + 1, none⟩ = some (.int .i64 v) ∧ Hid (J w g1 g2 L2 w')) (first | assumption | go_keep) (first | (go_at_call 13; refine (H13.out _ (by assumption)).mono ?_; rintro e W13 ⟨rfl, hb13⟩; have hS13 : HeldD w g1 g2 L2 b (off + k * 2 + 1) v W13 := HeldD.below hb13 (by assumption)) | (go_at_call 14; refine (H14.out _ (by assumption)).mono ?_; rintro e W14 ⟨rfl, hb14⟩; have hS14 : HeldD w g1 g2 L2 b (off + k * 2 + 1) v W14 := HeldD.below hb14 (by assumption)))
            all_goals
              go_wp2_with fail
              go_roundw
              case rel => exact ⟨k + 1, L2, by have := Hk.out; omega, by go_num, HeldD.j (by assumption)⟩
              case measure => have := Hk.out; simp [intOf]; omega
      · have h21 : decide ((k : Int) < 20) = false := by simp; omega
        clear hk hlt h20
        go_wp2_with fail
        refine (sameL_any _ HP.out).mono ?_
        rintro e w2 ⟨rfl, hb2⟩
        have HP2 := J.below hb2 HP
        clear hb2 HP
        go_wp2_with fail
        refine (fixed_any _).mono ?_
        rintro e w3 ⟨rfl, hb3⟩
        have HP3 := J.below hb3 HP2
        clear hb3 HP2
        go_wp2
        go_ret
        exact ⟨rfl, HP3.out.belowW⟩
    · have hlt1 : decide (k < len1) = false := by simpa using hlt
      clear hk hlt
      go_wp2_with fail
      refine (sameL_any _ HP.out).mono ?_
      rintro e w2 ⟨rfl, hb2⟩
      have HP2 := J.below hb2 HP
      clear hb2 HP
      go_wp2_with fail
      refine (fixed_any _).mono ?_
      rintro e w3 ⟨rfl, hb3⟩
      have HP3 := J.below hb3 HP2
      clear hb3 HP2
      go_wp2
      go_ret
      exact ⟨rfl, HP3.out.belowW⟩

set_option maxRecDepth 100000 in
theorem lifted (os : Os) (started : os.Started) (H : Type) (enc : TypeId × Value → H) :
    ReturnsInHanded {} Try.checked os 3 .any (Rows.dhTellsSpec.pre6 enc Try.prog Try.f3 Rows.dhTellsRow.domain false) (Rows.dhTellsSpec.post enc Try.prog Try.f3 false true false false) := by
  refine returnsInHanded_of_change (C := Try.checked) own started (by kernel_rfl) Try.func3
    (ChangeSpec.witness6 (enc := enc) (C := Try.checked) false ⟨#[], #[.slice none 0 0, .slice none 0 0], []⟩ 8 (by kernel_rfl) (by kernel_rfl) (by kernel_rfl) (by kernel_rfl)) ?_
  intro W base args ds gs before hval0 hW hcnd _
  have hval : ∀ (j : Nat) t v, Try.f3.params[j]? = some t → args[j]? = some v → Value.okWide Try.prog W .any base t v := hval0
  have hW' := hW
  obtain ⟨p, q, hA0, hV, rfl, hfz, hnd⟩ := hW
  have hA : DataW.TrodAll enc Try.prog W 0 (fun _ => true) true Try.f3.params.toList args.toList ds p := hA0
  rw [Try.params3] at hA hval
  obtain ⟨v0, vs0, d0, ds0, p0, q0, hargs, rfl, rfl, h0, r0⟩ := trodAll_cons hA
  obtain ⟨v1, vs1, d1, ds1, p1, q1, rfl, rfl, rfl, h1, r1⟩ := trodAll_cons r0
  obtain ⟨rfl, rfl, rfl⟩ := trodAll_nil r1
  obtain rfl : args = #[v0, v1] := by cases args; simp_all
  obtain ⟨rfl, rfl⟩ := trodVars_none hV
  obtain ⟨a0, len0, cap0, rfl⟩ := okWide_slice Try.underlying22 (hval 0 22 v0 rfl rfl)
  have k0 := h0
  have lt0 : ∀ x ∈ p0, x.block < W.heap.size := by obtain ⟨m, hm⟩ := k0; exact DataW.trod_lt m _ _ _ hm
  obtain ⟨T0, w0⟩ : ∃ T, Terms W a0 len0 cap0 T := by
    obtain ⟨fuel, hf⟩ := h0
    exact open_terms (by simpa [Value.cells] using hf)
  obtain ⟨a1, len1, cap1, rfl⟩ := okWide_slice Try.underlying23 (hval 1 23 v1 rfl rfl)
  have k1 := h1
  have lt1 : ∀ x ∈ p1, x.block < W.heap.size := by obtain ⟨m, hm⟩ := k1; exact DataW.trod_lt m _ _ _ hm
  obtain ⟨Z1, w1⟩ : ∃ Z, Arrs .i64 2 W a1 len1 cap1 Z := by
    obtain ⟨fuel, hf⟩ := h1
    exact open_arrs Try.underlying23 Try.underlying31 Try.underlying3 (by kernel_rfl) (by kernel_rfl) (by omega) (by simpa [Value.cells] using hf)
  clear hA0 hval0
  refine (walk a0 len0 cap0 T0 a1 len1 cap1 Z1 W w0 w1).mono fun e W' ⟨he, bel⟩ => ?_
  subst he
  exact ⟨_, rfl, _, _, _, [], _, [], hW', trodAll_mk1 (shut_bool Try.underlying4 _), (trodAll_cons_mk (Below.trod laidOut (by kernel_rfl) (of_decide_eq_true (by kernel_rfl)) k0 bel lt0) (trodAll_cons_mk (Below.trod laidOut (by kernel_rfl) (of_decide_eq_true (by kernel_rfl)) k1 bel lt1) trodAll_mk0)), rfl, bel.frame _, fun h => by cases h⟩

theorem over : Rows.dhTellsRow.holds Try.pinned (OpenSpec.ofChange Rows.dhTellsSpec) :=
  OpenClaim.holds_of_wide 3 Try.f3 rfl rfl rfl rfl rfl rfl rfl ⟨rfl, rfl, rfl, rfl, rfl⟩ rfl rfl rfl rfl rfl (by kernel_rfl) Try.func3 (by kernel_rfl)
    (of_decide_eq_true (by kernel_rfl)) (by unfold Func.isWrapper; first | (rw [if_pos (by decide +kernel)]; kernel_rfl) | (rw [if_neg (by decide +kernel)]; exact ⟨rfl, rfl⟩))
    (fun os started H enc _ => lifted os started H enc)

theorem proved : Rows.DhTellsSaid := over
#print axioms proved
end Go.Proofs.Ytdbbbgaaebggcaa.dhTells
