/- TermDeep: of every row of terms, a term is one deeper than the deepest of its parts, one without parts is one deep, and what is no term is not deep at all. No condition. -/
import Derived.Test.YtbmbglbbojacpaaRows
import Derived.Test.YtbmbglbbojacpaaStores
import Derived.WalkKit
import Derived.ProofKit
import Derived.OpenShut
import Derived.ShutString
import Derived.ChangeOld
import Derived.Below
namespace Go.Proofs.Ytbmbglbbojacpaa.termDeep
open Go.ChangeShapes Go.WideShapes Go.ChangeAt Go.RowKit
open Go.ChangeMaps (open_string shut_string)
open Go.Proofs.Ytbmbglbbojacpaa
set_option linter.unusedVariables false

theorem own : ownKnob Try.prog.godebug = none := by kernel_rfl
theorem laidOut : laidOutB Try.prog = true := by kernel_rfl

theorem mx_congr {acc acc' : List Nat} {t : Tm} : ∀ j, (∀ i, i < j → acc.getD (prt t.A t.B t.C i).toNat 0 = acc'.getD (prt t.A t.B t.C i).toNat 0) → mx acc t j = mx acc' t j
  | 0, _ => rfl
  | j + 1, h => by simp only [mx]; rw [mx_congr j (fun i hi => h i (by omega)), h j (by omega)]
theorem deep_at (L : List Tm) (hf : Fit L) (k : Nat) (hk : k < L.length) : depthOf L ((k : Int) + 1) = ((mx (depths L) (L.getD k zeroT) (many (L.getD k zeroT).K) : Nat) : Int) + 1 := by
  have h1 := depthOf_in L (k + 1) (by omega) (by omega)
  rw [show ((k + 1 : Nat) : Int) = (k : Int) + 1 from by omega] at h1
  rw [h1]
  have h2 := depths_prefix L (k + 1) L.length (by omega) (Nat.le_refl _)
  rw [List.take_length] at h2
  rw [h2, take_snocT L k hk, depths_snoc, stepD]
  have hl : (depths (L.take k)).length = k + 1 := by rw [depths_length, List.length_take]; omega
  have e : (depths (L.take k) ++ [mx (depths (L.take k)) (L.getD k zeroT) (many (L.getD k zeroT).K) + 1]).getD (k + 1) 0 = mx (depths (L.take k)) (L.getD k zeroT) (many (L.getD k zeroT).K) + 1 := by
    simp [List.getD, hl]
  rw [e, mx_congr (acc := depths (L.take k)) (acc' := depths L)]
  · simp
  · intro i hi
    obtain ⟨p1, p2⟩ := hf k hk i hi
    have h3 := depths_prefix L (prt (L.getD k zeroT).A (L.getD k zeroT).B (L.getD k zeroT).C i).toNat k (by omega) (by omega)
    have h4 := depths_prefix L (prt (L.getD k zeroT).A (L.getD k zeroT).B (L.getD k zeroT).C i).toNat L.length (by omega) (Nat.le_refl _)
    rw [List.take_length] at h4
    rw [h3, h4]
theorem part_depth (L : List Tm) (hf : Fit L) (k : Nat) (hk : k < L.length) (j : Nat) (hj : j < many (L.getD k zeroT).K) :
    depthOf L (partAt (L.getD k zeroT).A (L.getD k zeroT).B (L.getD k zeroT).C j) = (((depths L).getD (prt (L.getD k zeroT).A (L.getD k zeroT).B (L.getD k zeroT).C j).toNat 0 : Nat) : Int) := by
  obtain ⟨p1, p2⟩ := hf k hk j hj
  have e : partAt (L.getD k zeroT).A (L.getD k zeroT).B (L.getD k zeroT).C j = prt (L.getD k zeroT).A (L.getD k zeroT).B (L.getD k zeroT).C j := rfl
  rw [e]
  obtain ⟨p, hp⟩ := Int.eq_ofNat_of_zero_le (show 0 ≤ prt (L.getD k zeroT).A (L.getD k zeroT).B (L.getD k zeroT).C j by omega)
  rw [hp]
  rw [hp] at p1 p2
  rw [depthOf_in L p (by omega) (by omega)]
  simp
theorem get_in (L : List Tm) (k : Nat) (h : k < L.length) : getT L ((k : Int) + 1) = (L.getD k zeroT, true) := by unfold getT; rw [if_pos (by omega), show ((k : Int) + 1 - 1).toNat = k from by omega]
theorem depth_out (L : List Tm) (n : Int) (h : n < 1 ∨ (L.length : Int) < n) : depthOf L n = 0 := by unfold depthOf; rw [if_neg (by omega)]

set_option maxHeartbeats 4000000 in
set_option maxRecDepth 100000 in
theorem walkN (a0 : Option Addr) (len0 cap0 : Nat) (T0 : Nat → Tm) (w : World) (w0 : Terms w a0 len0 cap0 T0) :
    Calls Try.prog 7 #[.slice a0 len0 cap0] w fun e w' => e = .returned (.bool true) ∧ Below w.heap.size w w' := by
  go_enter Try.func7, Try.ntmps7
  go_wp2_with fail
  refine (stores_any 40 a0 len0 cap0 T0 w (by omega) w0).mono ?_
  rintro e w1 ⟨g1, g2, L, rfl, hL, hp⟩
  have HP0 := Lib.hid hp
  have HF := Lib.hid hp.facts.1
  have gP := PSq.good w.heap.size g1 1000
  have gR := RSq.good w.heap.size g2 1000
  clear hp w0
  go_wp2_with fail
  go_loopw [5] (fun i wr => ∃ k : Nat, k ≤ L.length ∧ i = .int .i64 ((k : Nat) + 1 : Int) ∧ Hid (Pair w.heap.size (PSq w.heap.size g1 1000) (RSq w.heap.size g2 1000) L L (fun _ => False) w wr)) (fun i _ => L.length + 1 - (intOf i).toNat)
  case atStart => exact ⟨0, Nat.zero_le _, rfl, HP0⟩
  case round =>
    obtain ⟨k, hk, rfl, HP⟩ := hrel
    clear HP0
    by_cases hlt : k < L.length
    · have hlt1 : (k : Int) + 1 ≤ (L.length : Int) := by omega
      have h40 : (k : Int) + 1 ≤ 40 := by omega
      have hG := get_in L k hlt
      have hD := deep_at L HF.out k hlt
      have HPD := Lib.hid (fun j => part_depth L HF.out k hlt j)
      obtain ⟨t, ht⟩ : ∃ t, t = L.getD k zeroT := ⟨_, rfl⟩
      rw [← ht] at hG hD HPD
      clear ht
      obtain ⟨K, S, N, A, B, C⟩ := t
      have HD := Lib.hid hD
      have Hk := Lib.hid hlt
      have HX := Lib.hid (fun j => mx_le_length L ⟨K, S, N, A, B, C⟩ j)
      clear hD hlt hk
      go_wp2_with fail
      refine (HP.out.lenP).mono ?_
      rintro e w2 ⟨rfl, rfl⟩
      go_wp2_with fail
      refine (HP.out.getP gR _ hG).mono ?_
      rintro e w3 ⟨rfl, hP3, hb3⟩
      rw [show ((⟨K, S, N, A, B, C⟩, true) : Tm × Bool).1.v = .agg #[.int .i64 K, .string S, .int .u64 N, .int .i64 A, .int .i64 B, .int .i64 C] from rfl]
      have HP3 := Lib.hid hP3
      clear hP3 hb3 HP hG
      go_wp2_with fail
      refine (parts_prog _ _ _ _ _ _ _).mono ?_
      rintro e w4 ⟨bb, rfl, hb4, hbs, hcells⟩
      have HP4 := Lib.hid ((HP3.out.below gP gR ((Below.refl _ _).alloc (Nat.le_refl _) _)).below gP gR hb4)
      have HCC := Lib.hid hcells
      have HM3 := Lib.hid (many_le K)
      clear hb4 hbs hcells HP3
      have hm0 : many K = 0 ∨ 0 < many K := by omega
      rcases hm0 with hm0 | hm0
      · have HM := Lib.hid hm0
        have hp : partsV bb K = .slice none 0 0 := by unfold partsV; rw [if_pos HM.out]
        rw [hp]
        clear hm0 hp
        go_wp2_with fail
        go_loop [9, 10] (fun d i => i = .int .i64 0 ∧ d = .int .i64 0) (fun _ _ => 0)
        case atStart => exact ⟨rfl, rfl⟩
        case round =>
          obtain ⟨rfl, rfl⟩ := hrel
          have hd : depthOf L ((k : Int) + 1) = 1 := by have := HD.out; rw [HM.out] at this; exact this
          go_wp2_with fail
          refine (HP4.out.depthP _).mono ?_
          rintro e w5 ⟨rfl, rfl⟩
          rw [hd]
          clear hd
          go_wp2_with fail
          go_roundw
          case rel => exact ⟨k + 1, by have := Hk.out; omega, by go_num, HP4⟩
          case measure => have := Hk.out; simp [intOf]; omega
      · have HM := Lib.hid hm0
        have hp : partsV bb K = .slice (some ⟨bb, 0, none⟩) (many K) (many K) := by unfold partsV; rw [if_neg (by have := HM.out; omega)]
        rw [hp]
        clear hm0 hp
        have hmL : Hid ((L.length : Int) ≤ 40) := Lib.hid (by omega)
        go_wp2_with fail
        go_loop [9, 10] (fun d i => ∃ j : Nat, j ≤ many K ∧ i = .int .i64 j ∧ d = .int .i64 ((mx (depths L) ⟨K, S, N, A, B, C⟩ j : Nat) : Int)) (fun _ i => many K - (intOf i).toNat)
        case atStart => exact ⟨0, Nat.zero_le _, rfl, rfl⟩
        case round =>
          obtain ⟨j, hj, rfl, rfl⟩ := hrel
          by_cases hjt : j < many K
          · have ck := HCC.out j hjt
            have Hjt := Lib.hid hjt
            have hj1 : (j : Int) < many K := by omega
            have hj3 : (j : Int) ≤ 3 := by have := HM3.out; omega
            have hpd := HPD.out j hjt
            have Hm : Hid (mx (depths L) ⟨K, S, N, A, B, C⟩ (j + 1) = max (mx (depths L) ⟨K, S, N, A, B, C⟩ j) ((depths L).getD (prt A B C j).toNat 0)) := Lib.hid rfl
            have hx1 := HX.out j
            have hx2 := HX.out (j + 1)
            rw [Hm.out] at hx2
            obtain ⟨M, hM⟩ : ∃ M, M = mx (depths L) ⟨K, S, N, A, B, C⟩ j := ⟨_, rfl⟩
            obtain ⟨G, hG⟩ : ∃ G, G = (depths L).getD (prt A B C j).toNat 0 := ⟨_, rfl⟩
            obtain ⟨p, hp⟩ : ∃ p, p = partAt A B C j := ⟨_, rfl⟩
            rw [← hp] at ck hpd
            rw [← hG] at hpd hx2 Hm
            rw [← hM] at hx1 hx2 Hm ⊢
            have hGb : (G : Int) ≤ 1048576 := by have := hmL.out; omega
            have hMb : (M : Int) ≤ 1048576 := by have := hmL.out; omega
            clear hM hG hp hj hjt hx1 hx2
            go_wp2_with fail
            refine (HP4.out.depthP _).mono ?_
            rintro e w5 ⟨rfl, rfl⟩
            rw [hpd]
            clear hpd
            go_wp2_with fail
            go_round
            case rel => exact ⟨j + 1, by have := Hjt.out; omega, by go_num, by rw [Hm.out]; congr 1; omega⟩
            case measure => have := Hjt.out; simp [intOf]; omega
          · obtain rfl : j = many K := by omega
            clear hjt hj
            have hd := HD.out
            have hx := HX.out (many K)
            obtain ⟨M, hM⟩ : ∃ M, M = mx (depths L) ⟨K, S, N, A, B, C⟩ (many K) := ⟨_, rfl⟩
            rw [← hM] at hd hx ⊢
            have hMb : (M : Int) ≤ 1048576 := by have := hmL.out; omega
            clear hM hx
            go_wp2_with fail
            refine (HP4.out.depthP _).mono ?_
            rintro e w5 ⟨rfl, rfl⟩
            rw [hd]
            clear hd
            have hs : ((M : Int) + 1 == (M : Int) + 1) = true := beq_self_eq_true _
            go_wp2_with fail
            go_roundw
            case rel => exact ⟨k + 1, by have := Hk.out; omega, by go_num, HP4⟩
            case measure => have := Hk.out; simp [intOf]; omega
    · obtain rfl : k = L.length := by omega
      clear hlt hk
      have hlt1 : decide ((L.length : Int) + 1 ≤ (L.length : Int)) = false := decide_eq_false (by omega)
      have hL40 : (L.length : Int) ≤ 40 := by omega
      go_wp2_with fail
      refine (HP.out.lenP).mono ?_
      rintro e w2 ⟨rfl, rfl⟩
      go_wp2_with fail
      refine (HP.out.lenP).mono ?_
      rintro e w2 ⟨rfl, rfl⟩
      go_wp2_with fail
      refine (HP.out.depthP _).mono ?_
      rintro e w2 ⟨rfl, rfl⟩
      rw [depth_out L _ (by omega)]
      go_wp2_with fail
      refine (HP.out.depthP _).mono ?_
      rintro e w2 ⟨rfl, rfl⟩
      rw [depth_out L _ (by omega)]
      go_wp2_with fail
      refine (HP.out.depthP _).mono ?_
      rintro e w2 ⟨rfl, rfl⟩
      rw [depth_out L _ (by omega)]
      go_wp2_with fail
      refine (fixed_any _).mono ?_
      rintro e w3 ⟨rfl, hb3⟩
      have hb4 := HP.out.belowW.trans (hb3.mono HP.out.base_le)
      clear hb3
      go_wp2
      go_ret
      exact ⟨rfl, hb4⟩

theorem walk (a0 : Option Addr) (len0 cap0 : Nat) (T0 : Nat → Tm) (w : World) (w0 : Terms w a0 len0 cap0 T0) :
    Calls Try.prog 7 #[.slice a0 len0 cap0] w fun e w' => e = .returned (.bool true) ∧ Below w.heap.size w w' := walkN a0 len0 cap0 T0 w w0

set_option maxRecDepth 100000 in
theorem lifted (os : Os) (started : os.Started) (H : Type) (enc : TypeId × Value → H) :
    ReturnsInHanded {} Try.checked os 7 .any (Rows.termDeepSpec.pre6 enc Try.prog Try.f7 Rows.termDeepRow.domain false) (Rows.termDeepSpec.post enc Try.prog Try.f7 false true false false) := by
  refine returnsInHanded_of_change (C := Try.checked) own started (by kernel_rfl) Try.func7
    (ChangeSpec.witness6 (enc := enc) (C := Try.checked) false ⟨#[], #[.slice none 0 0], []⟩ 8 (by kernel_rfl) (by kernel_rfl) (by kernel_rfl) (by kernel_rfl)) ?_
  intro W base args ds gs before hval0 hW hcnd _
  have hval : ∀ (j : Nat) t v, Try.f7.params[j]? = some t → args[j]? = some v → Value.okWide Try.prog W .any base t v := hval0
  have hW' := hW
  obtain ⟨p, q, hA0, hV, rfl, hfz, hnd⟩ := hW
  have hA : DataW.TrodAll enc Try.prog W 0 (fun _ => true) true Try.f7.params.toList args.toList ds p := hA0
  rw [Try.params7] at hA hval
  obtain ⟨v0, vs0, d0, ds0, p0, q0, hargs, rfl, rfl, h0, r0⟩ := trodAll_cons hA
  obtain ⟨rfl, rfl, rfl⟩ := trodAll_nil r0
  obtain rfl : args = #[v0] := by cases args; simp_all
  obtain ⟨rfl, rfl⟩ := trodVars_none hV
  obtain ⟨a0, len0, cap0, rfl⟩ := okWide_slice Try.underlying22 (hval 0 22 v0 rfl rfl)
  have k0 := h0
  have lt0 : ∀ x ∈ p0, x.block < W.heap.size := by obtain ⟨m, hm⟩ := k0; exact DataW.trod_lt m _ _ _ hm
  obtain ⟨T0, w0⟩ : ∃ T, Terms W a0 len0 cap0 T := by
    obtain ⟨fuel, hf⟩ := h0
    exact open_terms (by simpa [Value.cells] using hf)
  clear hA0 hval0
  refine (walk a0 len0 cap0 T0 W w0).mono fun e W' ⟨he, bel⟩ => ?_
  subst he
  exact ⟨_, rfl, _, _, _, [], _, [], hW', trodAll_mk1 (shut_bool Try.underlying4 _), (trodAll_cons_mk (Below.trod laidOut (by kernel_rfl) (of_decide_eq_true (by kernel_rfl)) k0 bel lt0) trodAll_mk0), rfl, bel.frame _, fun h => by cases h⟩

theorem over : Rows.termDeepRow.holds Try.pinned (OpenSpec.ofChange Rows.termDeepSpec) :=
  OpenClaim.holds_of_wide 7 Try.f7 rfl rfl rfl rfl rfl rfl rfl ⟨rfl, rfl, rfl, rfl, rfl⟩ rfl rfl rfl rfl rfl (by kernel_rfl) Try.func7 (by kernel_rfl)
    (of_decide_eq_true (by kernel_rfl)) (by unfold Func.isWrapper; first | (rw [if_pos (by decide +kernel)]; kernel_rfl) | (rw [if_neg (by decide +kernel)]; exact ⟨rfl, rfl⟩))
    (fun os started H enc _ => lifted os started H enc)

theorem proved : Rows.TermDeepSaid := over
#print axioms proved
end Go.Proofs.Ytbmbglbbojacpaa.termDeep
