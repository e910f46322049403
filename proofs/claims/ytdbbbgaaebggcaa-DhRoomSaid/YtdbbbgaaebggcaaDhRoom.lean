/- DhRoom: where there is no room, nothing is put, and it is said, and what is there is told on: for every room and every row of pairs of bytes. No condition. -/
import Derived.Test.YtdbbbgaaebggcaaRows
import Derived.Test.YtdbbbgaaebggcaaDhF
import Derived.Test.YtdbbbgaaebggcaaDhM
import Derived.Test.YtdbbbgaaebggcaaOpens
import Derived.WalkKit
import Derived.ProofKit
import Derived.OpenShut
import Derived.ShutString
import Derived.ChangeOld
import Derived.Below
namespace Go.Proofs.Ytdbbbgaaebggcaa.dhRoom
open Go.ChangeShapes Go.WideShapes Go.ChangeAt Go.RowKit
open Go.ChangeMaps (open_string shut_string)
open Go.Proofs.Ytdbbbgaaebggcaa
set_option linter.unusedVariables false

theorem own : ownKnob Try.prog.godebug = none := by kernel_rfl
theorem laidOut : laidOutB Try.prog = true := by kernel_rfl

theorem byte_in {a : Int} (ha : (Lit.int .u8 a).wf = true) : 0 ≤ a ∧ a ≤ 255 := by
  have e1 : IntKind.u8.min = 0 := by decide
  have e2 : IntKind.u8.max = 255 := by decide
  simpa only [Lit.wf, e1, e2, Bool.and_eq_true, decide_eq_true_eq] using ha
theorem two_in (a : Int) (h1 : 0 ≤ a) (h2 : a ≤ 255) : 1 ≤ wrap64 (1 + (wrap64 a).tmod 2) ∧ wrap64 (1 + (wrap64 a).tmod 2) ≤ 2 := by
  have w1 : wrap64 a = a := by unfold wrap64; omega
  rw [w1, Int.tmod_eq_emod_of_nonneg h1]
  unfold wrap64
  omega

theorem put_len (L : List Tm) (M : Int) (t : Tm) (hl : (L.length : Int) ≤ M) : L.length ≤ (putF L M t).2.2.length ∧ ((putF L M t).2.2.length : Int) ≤ M := by
  rcases putF_cases L M t with ⟨h, _⟩ | ⟨k, _, h, _⟩ | ⟨_, h, _⟩ | ⟨h0, h, _⟩ <;> rw [h] <;> simp <;> omega
theorem put_fit (L : List Tm) (M : Int) (t : Tm) (hm : t.may L.length = true) (hl : (L.length : Int) ≤ M) :
    (∃ p L1, putF L M t = (p, 0, L1) ∧ Named L1 p t ∧ L.length ≤ L1.length ∧ (L1.length : Int) ≤ M) ∨ (putF L M t = (0, 4, L) ∧ (L.length : Int) = M) := by
  by_cases h : (L.length : Int) < M
  · obtain ⟨p, L1, e, n, x, _⟩ := put_named L M t hm h
    have h2 := put_len L M t hl
    rw [e] at h2
    exact .inl ⟨p, L1, e, n, h2⟩
  · by_cases h0 : nameOf L t = 0
    · exact .inr ⟨put_full hm h0 (by omega), by omega⟩
    · have hn : Named L (nameOf L t) t := ⟨rfl, by have := nameOf_le L t; omega⟩
      exact .inl ⟨_, L, put_old hn hm, hn, Nat.le_refl _, hl⟩
theorem round (L : List Tm) (M x y : Int) (h2 : 2 ≤ L.length) (hl : (L.length : Int) ≤ M) (bx : 1 ≤ x ∧ x ≤ 2) (ey : 1 ≤ y ∧ y ≤ 2) :
    (∃ p L1 c g L2, putF L M (pubT x) = (p, 0, L1) ∧ agreeF L1 M y p = (c, g, L2) ∧ (g = 0 ∨ (g = 4 ∧ c = 0)) ∧ 2 ≤ L2.length ∧ (L2.length : Int) ≤ M) ∨
    (putF L M (pubT x) = (0, 4, L) ∧ (L.length : Int) = M ∧ agreeF L M y 0 = (0, 1, L)) := by
  rcases put_fit L M (pubT x) (may_pub bx.1 (by omega)) hl with ⟨p, L1, e1, n1, l1, l2⟩ | ⟨e1, l1⟩
  · left
    rcases put_fit L1 M (sh y x) (may_shS ey.1 (by omega) bx.1 (by omega)) l2 with ⟨c, L2, e2, n2, l3, l4⟩ | ⟨e2, l3⟩
    · exact ⟨p, L1, c, 0, L2, e1, by rw [agree_is n1]; exact e2, .inl rfl, by omega, l4⟩
    · exact ⟨p, L1, 0, 4, L1, e1, by rw [agree_is n1]; exact e2, .inr ⟨rfl, rfl⟩, by omega, l2⟩
  · refine .inr ⟨e1, l1, ?_⟩
    unfold agreeF secF getT
    simp
theorem put1 (M : Int) (h : 2 ≤ M) : putF [] M fy1 = (1, 0, [fy1]) := by
  simp [putF, Tm.may, May, BadP, many, prt, nameOf, sz0, fy1]
  omega
theorem put2 (M : Int) (h : 2 ≤ M) : putF [fy1] M fy2 = (2, 0, [fy1, fy2]) := by
  simp [putF, Tm.may, May, BadP, many, prt, nameOf, eqB, sz0, List.findIdx?_cons, fy1, fy2]
  omega

set_option maxHeartbeats 1000000 in
set_option maxRecDepth 100000 in
theorem walk (m : Int) (a1 : Option Addr) (len1 cap1 : Nat) (Z1 : Nat → Nat → Int) (w : World) (w0 : (Lit.int .u8 m).wf = true) (w1 : Arrs .u8 2 w a1 len1 cap1 Z1) :
    Calls Try.prog 5 #[.int .u8 m, .slice a1 len1 cap1] w fun e w' => e = .returned (.bool true) ∧ Below w.heap.size w w' := by
  obtain ⟨hcm, hlc, b, off, hz⟩ := w1
  obtain ⟨m0, m1⟩ := byte_in w0
  have HZ := Lib.hid hz
  unfold maxLen at hcm
  clear w0 hz
  have gN := NoS.good w.heap.size
  go_enter Try.func5, Try.ntmps5
  go_wp2_with fail
  refine (Pair.new1 (base := w.heap.size) (w0 := w) rfl (Below.refl _ _) (by omega) (by omega)).mono ?_
  rintro e w1 ⟨g, rfl, hp⟩
  have HP1 := Lib.hid hp
  clear hp
  have M2 : Hid (2 ≤ 2 + m % 6) := Lib.hid (by omega)
  have M7 : Hid (2 + m % 6 ≤ 7) := Lib.hid (by omega)
  go_wp2_with fail
  refine (HP1.out.putP gN fy1 wy1 (put1 _ M2.out)).mono ?_
  rintro e w2 ⟨rfl, hp, _⟩
  have HP2 := Lib.hid hp
  clear hp HP1
  go_wp2_with fail
  refine (HP2.out.putP gN fy2 wy2 (put2 _ M2.out)).mono ?_
  rintro e w3 ⟨rfl, hp, _⟩
  have HP3 := Lib.hid hp
  clear hp HP2
  go_wp2_with fail
  go_loopw [7] (fun i wr => ∃ k, ∃ L : List Tm, k ≤ 12 ∧ i = .int .i64 (k : Nat) ∧ Hid (2 ≤ L.length ∧ (L.length : Int) ≤ 2 + m % 6) ∧ Hid (Pair w.heap.size (PSq w.heap.size g (2 + m % 6)) NoS L [] (fun _ => False) w wr)) (fun i _ => 12 - (intOf i).toNat)
  case atStart => exact ⟨0, [fy1, fy2], Nat.zero_le _, rfl, Lib.hid ⟨Nat.le_refl _, M2.out⟩, HP3⟩
  case round =>
    clear HP3
    obtain ⟨k, L, hk, rfl, HL, HP⟩ := hrel
    by_cases hlt : k < len1
    · have hlt1 : (k : Int) < (len1 : Int) := by omega
      by_cases h20 : k < 12
      · have h21 : (k : Int) < 12 := by omega
        obtain ⟨rfl, hcl⟩ := HZ.out k hlt
        obtain ⟨q0, wu⟩ := hcl 0 (by omega)
        obtain ⟨q1, wv⟩ := hcl 1 (by omega)
        have hbw : b < w.heap.size := block_lt_of_cell q0
        obtain ⟨u, hu⟩ : ∃ u, u = Z1 k 0 := ⟨_, rfl⟩
        obtain ⟨v, hv⟩ : ∃ v, v = Z1 k 1 := ⟨_, rfl⟩
        rw [← hu] at q0 wu
        rw [← hv] at q1 wv
        obtain ⟨u1, u2⟩ := byte_in wu
        obtain ⟨v1, v2⟩ := byte_in wv
        have BX := Lib.hid (two_in u u1 u2)
        have BY := Lib.hid (two_in v v1 v2)
        have q0 : wr.cell? ⟨b, off + k * 2, none⟩ = some (.int .u8 u) := (HP.out.belowW.cell (by exact hbw)).trans q0
        have q1 : wr.cell? ⟨b, off + k * 2 + 1, none⟩ = some (.int .u8 v) := (HP.out.belowW.cell (by exact hbw)).trans q1
        have Hk := Lib.hid h20
        clear hu hv wu wv hcl hk h20 u1 u2 v1 v2
        go_wp2
        have hk0 : (0 : Int) ≤ (k : Int) := by omega
        have hk12 : (k : Int) ≤ 12 := by omega
        go_quiet (fail)
        obtain ⟨x, hx⟩ : ∃ x, x = wrap64 (1 + (wrap64 u).tmod 2) := ⟨_, rfl⟩
        obtain ⟨y, hy⟩ : ∃ y, y = wrap64 (1 + (wrap64 v).tmod 2) := ⟨_, rfl⟩
        have bx := BX.out
        have ey := BY.out
        rw [← hx] at bx
        rw [← hy] at ey
        rw [← hx, ← hy]
        have HX : Hid (I64 x) := Lib.hid (i64_small (by omega) (by omega))
        have HY : Hid (I64 y) := Lib.hid (i64_small (by omega) (by omega))
        have hrd := round L (2 + m % 6) x y HL.out.1 HL.out.2 bx ey
        have HP4 := Lib.hid (HP.out.below (PSq.good w.heap.size g (2 + m % 6)) gN (drewN_below wr nq))
        have hl := beq_self_eq_true (L.length : Int)
        have hl7 : (L.length : Int) ≤ 7 := by have := HL.out.2; have := M7.out; omega
        clear hx hy bx ey BX BY q0 q1 HP HL
        generalize wr.drewN nq = w4 at HP4 ⊢
        rcases hrd with ⟨p, L1, c, gg, L2, e1, e2, hg, hL2⟩ | ⟨e1, hM, e2⟩
        · have E1 := Lib.hid e1
          have E2 := Lib.hid e2
          have HL2 := Lib.hid hL2
          clear e1 e2 hL2
          go_wp2_with fail
          refine (HP4.out.lenP).mono ?_
          rintro e w5 ⟨rfl, rfl⟩
          go_wp2_with fail
          refine (HP4.out.publicP gN HX.out E1.out).mono ?_
          rintro e w6 ⟨rfl, hp, _⟩
          have HP6 := Lib.hid hp
          clear hp HP4
          go_wp2_with fail
          refine (HP6.out.lenP).mono ?_
          rintro e w7 ⟨rfl, rfl⟩
          go_wp2_with fail
          refine (HP6.out.agreeP gN HY.out E2.out).mono ?_
          rintro e w8 ⟨rfl, hp, _⟩
          have HP8 := Lib.hid hp
          clear hp HP6
          rcases hg with rfl | ⟨rfl, rfl⟩
          · go_wp2_with fail
            go_roundw
            case rel => exact ⟨k + 1, L2, by have := Hk.out; omega, by go_num, HL2, HP8⟩
            case measure => have := Hk.out; simp [intOf]; omega
          · go_wp2_with fail
            go_roundw
            case rel => exact ⟨k + 1, L2, by have := Hk.out; omega, by go_num, HL2, HP8⟩
            case measure => have := Hk.out; simp [intOf]; omega
        · have E1 := Lib.hid e1
          have E2 := Lib.hid e2
          have HM := Lib.hid hM
          have hM1 : ((L.length : Int) == 2 + m % 6) = true := by simpa using hM
          have hM2 : ((L.length : Int) != 2 + m % 6) = false := by simpa using hM
          have h2 := M2.out
          clear e1 e2 hM
          go_wp2_with fail
          refine (HP4.out.lenP).mono ?_
          rintro e w5 ⟨rfl, rfl⟩
          go_wp2_with fail
          refine (HP4.out.publicP gN HX.out E1.out).mono ?_
          rintro e w6 ⟨rfl, hp, _⟩
          have HP6 := Lib.hid hp
          clear hp HP4
          go_wp2_with fail
          refine (HP6.out.lenP).mono ?_
          rintro e w7 ⟨rfl, rfl⟩
          go_wp2_with fail
          refine (HP6.out.agreeP gN HY.out E2.out).mono ?_
          rintro e w8 ⟨rfl, hp, _⟩
          have HP8 := Lib.hid hp
          clear hp HP6
          go_wp2_with fail
          go_roundw
          case rel => exact ⟨k + 1, L, by have := Hk.out; omega, by go_num, Lib.hid ⟨by have := HM.out; omega, by have := HM.out; omega⟩, HP8⟩
          case measure => have := Hk.out; simp [intOf]; omega
      · have h21 : decide ((k : Int) < 12) = false := by simp; omega
        clear hk hlt h20
        go_wp2_with fail
        refine (fixed_any _).mono ?_
        rintro e w4 ⟨rfl, hb4⟩
        have hb := HP.out.belowW.trans (hb4.mono HP.out.base_le)
        clear hb4
        go_wp2
        go_ret
        exact ⟨rfl, hb⟩
    · have hlt1 : decide (k < len1) = false := by simpa using hlt
      clear hk hlt
      go_wp2_with fail
      refine (fixed_any _).mono ?_
      rintro e w4 ⟨rfl, hb4⟩
      have hb := HP.out.belowW.trans (hb4.mono HP.out.base_le)
      clear hb4
      go_wp2
      go_ret
      exact ⟨rfl, hb⟩

set_option maxRecDepth 100000 in
theorem lifted (os : Os) (started : os.Started) (H : Type) (enc : TypeId × Value → H) :
    ReturnsInHanded {} Try.checked os 5 .any (Rows.dhRoomSpec.pre6 enc Try.prog Try.f5 Rows.dhRoomRow.domain false) (Rows.dhRoomSpec.post enc Try.prog Try.f5 false true false false) := by
  refine returnsInHanded_of_change (C := Try.checked) own started (by kernel_rfl) Try.func5
    (ChangeSpec.witness6 (enc := enc) (C := Try.checked) false ⟨#[], #[.int .u8 0, .slice none 0 0], []⟩ 8 (by kernel_rfl) (by kernel_rfl) (by kernel_rfl) (by kernel_rfl)) ?_
  intro W base args ds gs before hval0 hW hcnd _
  have hval : ∀ (j : Nat) t v, Try.f5.params[j]? = some t → args[j]? = some v → Value.okWide Try.prog W .any base t v := hval0
  have hW' := hW
  obtain ⟨p, q, hA0, hV, rfl, hfz, hnd⟩ := hW
  have hA : DataW.TrodAll enc Try.prog W 0 (fun _ => true) true Try.f5.params.toList args.toList ds p := hA0
  rw [Try.params5] at hA hval
  obtain ⟨v0, vs0, d0, ds0, p0, q0, hargs, rfl, rfl, h0, r0⟩ := trodAll_cons hA
  obtain ⟨v1, vs1, d1, ds1, p1, q1, rfl, rfl, rfl, h1, r1⟩ := trodAll_cons r0
  obtain ⟨rfl, rfl, rfl⟩ := trodAll_nil r1
  obtain rfl : args = #[v0, v1] := by cases args; simp_all
  obtain ⟨rfl, rfl⟩ := trodVars_none hV
  obtain ⟨a0, rfl, rfl, rfl, w0⟩ := open_int Try.underlying5 (hval 0 5 v0 rfl rfl) h0
  obtain ⟨a1, len1, cap1, rfl⟩ := okWide_slice Try.underlying43 (hval 1 43 v1 rfl rfl)
  have k1 := h1
  have lt1 : ∀ x ∈ p1, x.block < W.heap.size := by obtain ⟨m, hm⟩ := k1; exact DataW.trod_lt m _ _ _ hm
  obtain ⟨Z1, w1⟩ : ∃ Z, Arrs .u8 2 W a1 len1 cap1 Z := by
    obtain ⟨fuel, hf⟩ := h1
    exact open_arrs Try.underlying43 Try.underlying50 Try.underlying5 (by kernel_rfl) (by kernel_rfl) (by omega) (by simpa [Value.cells] using hf)
  clear hA0 hval0
  refine (walk a0 a1 len1 cap1 Z1 W w0 w1).mono fun e W' ⟨he, bel⟩ => ?_
  subst he
  exact ⟨_, rfl, _, _, _, [], _, [], hW', trodAll_mk1 (shut_bool Try.underlying4 _), (trodAll_cons_mk (shut_int Try.underlying5 w0) (trodAll_cons_mk (Below.trod laidOut (by kernel_rfl) (of_decide_eq_true (by kernel_rfl)) k1 bel lt1) trodAll_mk0)), rfl, bel.frame _, fun h => by cases h⟩

theorem over : Rows.dhRoomRow.holds Try.pinned (OpenSpec.ofChange Rows.dhRoomSpec) :=
  OpenClaim.holds_of_wide 5 Try.f5 rfl rfl rfl rfl rfl rfl rfl ⟨rfl, rfl, rfl, rfl, rfl⟩ rfl rfl rfl rfl rfl (by kernel_rfl) Try.func5 (by kernel_rfl)
    (of_decide_eq_true (by kernel_rfl)) (by unfold Func.isWrapper; first | (rw [if_pos (by decide +kernel)]; kernel_rfl) | (rw [if_neg (by decide +kernel)]; exact ⟨rfl, rfl⟩))
    (fun os started H enc _ => lifted os started H enc)

theorem proved : Rows.DhRoomSaid := over
#print axioms proved
end Go.Proofs.Ytdbbbgaaebggcaa.dhRoom
