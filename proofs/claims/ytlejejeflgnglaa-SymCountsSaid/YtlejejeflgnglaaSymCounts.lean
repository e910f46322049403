/- SymCounts: for every row of terms and of two numbers, what is said changes the hash alone, what is mixed in both keys, and the number begins anew, what is sealed the hash, and the number is one more, and without a key nothing is sealed. No condition. -/
import Derived.Test.YtlejejeflgnglaaRows
import Derived.Test.YtlejejeflgnglaaSymW
import Derived.Test.YtlejejeflgnglaaSymE
import Derived.Test.YtlejejeflgnglaaOpens
import Derived.WalkKit
import Derived.ProofKit
import Derived.OpenShut
import Derived.ShutString
import Derived.ChangeOld
import Derived.Below
namespace Go.Proofs.Ytlejejeflgnglaa.symCounts
open Go.ChangeShapes Go.WideShapes Go.ChangeAt Go.RowKit
open Go.ChangeMaps (open_string shut_string)
open Go.Proofs.Ytlejejeflgnglaa
set_option linter.unusedVariables false
set_option linter.unusedSimpArgs false

theorem own : ownKnob Try.prog.godebug = none := by kernel_rfl
theorem laidOut : laidOutB Try.prog = true := by kernel_rfl

set_option maxHeartbeats 8000000 in
set_option maxRecDepth 100000 in
theorem walk (a0 : Option Addr) (len0 cap0 : Nat) (T0 : Nat → Tm) (a1 : Option Addr) (len1 cap1 : Nat) (Z1 : Nat → Nat → Int) (w : World) (w0 : Terms w a0 len0 cap0 T0) (w1 : Arrs .u8 2 w a1 len1 cap1 Z1) :
    Calls Try.prog 6 #[.slice a0 len0 cap0, .slice a1 len1 cap1] w fun e w' => e = .returned (.bool true) ∧ Below w.heap.size w w' := by
  have HT0 := Lib.hid w0
  obtain ⟨hcm, hlc, b, off, hz⟩ := w1
  have HZ := Lib.hid hz
  unfold maxLen at hcm
  clear w0 hz
  have gR := fun g => RSq.good w.heap.size g 1000
  have gP := fun g => PSq.good w.heap.size g 1000
  go_enter Try.func6, Try.ntmps6
  go_wp2_with fail
  refine (stores_any 20 a0 len0 cap0 T0 _ (by omega) HT0.out).mono ?_
  rintro e w1 ⟨g1, g2, L0, rfl, hL, hp⟩
  have HP0 : Hid (Pair w.heap.size (PSq w.heap.size g1 1000) (RSq w.heap.size g2 1000) L0 L0 (fun _ => False) w w1) := Lib.hid hp
  have hft := hp.facts.1
  clear hp HT0
  by_cases hn : L0.length = 0
  · have hl0 : ((L0.length : Int) == 0) = true := by simp [hn]
    clear hn hL hft
    go_wp2_with fail
    refine (HP0.out.lenP).mono ?_
    rintro e w2 ⟨rfl, rfl⟩
    go_wp2_with fail
    refine (fixed_any _).mono ?_
    rintro e w3 ⟨rfl, hb3⟩
    have hb4 := HP0.out.belowW.trans (hb3.mono HP0.out.base_le)
    clear hb3
    go_wp2
    go_ret
    exact ⟨rfl, hb4⟩
  · have hl0 : ((L0.length : Int) == 0) = false := by simpa using hn
    obtain ⟨a, L, e1, ok, ex, ha, nn⟩ := Ok.begin hft hL
    have HEx := Lib.hid ex
    have HOk := Lib.hid ok
    have E1 := Lib.hid e1
    have HM := Lib.hid (show 1 ≤ (L0.length : Int) ∧ (L0.length : Int) ≤ 20 by omega)
    have hn1 : (0 : Int) < (L0.length : Int) := by omega
    have ha1 : decide (a < 1) = false := by simp; omega
    have saa : (a != a) = false := by simp
    clear hn hL hft ok ex e1 ha nn
    go_wp2_with fail
    refine (HP0.out.lenP).mono ?_
    rintro e w2 ⟨rfl, rfl⟩
    go_wp2_with fail
    refine (HP0.out.lenP).mono ?_
    rintro e w2 ⟨rfl, rfl⟩
    go_wp2_with fail
    refine (HP0.out.beginP (gR g2) nm_wf E1.out).mono ?_
    rintro e w4 ⟨rfl, hp, _⟩
    simp only [Sy.v]
    have HBw := Lib.hid hp.base_le
    have HP1 : Hid (J (At w4.heap.size) w g1 g2 L L0 (w4.alloc (.cells #[.int .i64 a, .int .i64 0, .int .i64 a, .int .u64 0] 25))) := Lib.hid (Pair.box (gP g1) (gR g2) hp _)
    have HR1 := Lib.hid (heap_alloc_new w4 (.cells #[.int .i64 a, .int .i64 0, .int .i64 a, .int .u64 0] 25))
    clear hp HP0 hl0
    go_wp2_with fail
    go_loopw [10] (fun i wr => ∃ k, ∃ L : List Tm, ∃ y : Sy, k ≤ 20 ∧ i = .int .i64 (k : Nat) ∧ Hid (Ok L k y) ∧ Hid (Ext L0 L) ∧ Hid (J (At w4.heap.size) w g1 g2 L L0 wr) ∧ Hid (wr.heap[w4.heap.size]? = some (.cells #[.int .i64 y.CK, .int .i64 y.K, .int .i64 y.H, .int .u64 y.N] 25 (0, 0)))) (fun i _ => 20 - (intOf i).toNat)
    case atStart => exact ⟨0, L, ⟨a, 0, a, 0⟩, Nat.zero_le _, rfl, HOk, HEx, HP1, HR1⟩
    case round =>
      clear HP1 HR1 HOk HEx E1 ha1 saa L
      obtain ⟨k, L, ⟨yc, yk, yh, yn⟩, hk, rfl, HOk, HEx, HP, HRow⟩ := hrel
      by_cases hlt : k < len1
      · have hlt1 : (k : Int) < (len1 : Int) := by omega
        by_cases h20 : k < 20
        · have h21 : (k : Int) < 20 := by omega
          have Hk := Lib.hid h20
          obtain ⟨rfl, hcl⟩ := HZ.out k hlt
          obtain ⟨q0, wf0⟩ := hcl 0 (by omega)
          obtain ⟨q1, wf1⟩ := hcl 1 (by omega)
          have hbw : b < w.heap.size := block_lt_of_cell q0
          obtain ⟨u0, hu0⟩ : ∃ u, u = Z1 k 0 := ⟨_, rfl⟩
          obtain ⟨u1, hu1⟩ : ∃ u, u = Z1 k 1 := ⟨_, rfl⟩
          rw [← hu0] at q0 wf0
          rw [← hu1] at q1 wf1
          rw [← HP.out.belowW.cell (by exact hbw)] at q0 q1
          have bu0 := byte_in wf0
          have bu1 := byte_in wf1
          have q0 : wr.cell? ⟨b, off + k * 2, none⟩ = some (.int .u8 u0) := q0
          obtain ⟨x, hx⟩ : ∃ x, x = wrap64 (1 + u1 % (L0.length : Int)) := ⟨_, rfl⟩
          have bx : 1 ≤ x ∧ x ≤ (L0.length : Int) := by rw [hx]; exact pickB wf1 HM.out.1 (by have := HM.out; omega)
          have HX := Lib.hid bx
          clear hu0 hu1 hcl wf0 wf1 hk hlt h20 bx
          have hrr := HRow.out
          have c0 := cell_of_row _ _ 0 _ _ _ hrr
          have c1 := cell_of_row _ _ 1 _ _ _ hrr
          have c2 := cell_of_row _ _ 2 _ _ _ hrr
          have c3 := cell_of_row _ _ 3 _ _ _ hrr
          simp at c0 c1 c2 c3
          have hltB := lt_of_block hrr
          clear hrr
          by_cases r0 : u0 % 3 = 0
          · have r1 : (u0 % 3 == 0) = true := by simpa using r0
            clear r0
            obtain ⟨h', L', e1, ok', ex', ne, _⟩ := HOk.out.say (x := x) Hk.out (HEx.out.in HX.out)
            have E1 := Lib.hid e1
            have HOk' := Lib.hid ok'
            have HEx' := Lib.hid (HEx.out.trans ex')
            have HWf := Lib.hid (HOk.out.wf (by have := Hk.out; omega))
            have HIx : Hid (I64 x) := Lib.hid (i64_small (by have := HX.out; omega) (by have := HX.out; have := HM.out; omega))
            have s1 : (h' == yh) = false := by simpa using ne
            have sf_yc : (yc != yc) = false := by simp
            have sf_yk : (yk != yk) = false := by simp
            have sf_yn : (yn != yn) = false := by simp
            clear ne
            clear e1 ok' ex'
            go_wp2_with fail
            rw [← hx]
            refine (HP.out.sayP (gR g2) HWf.out HIx.out E1.out).mono ?_
            rintro e w5 ⟨rfl, hp, hkk⟩
            simp only [Sy.v, zeroY]
            have hr := (hkk _ (.inr rfl)).trans HRow.out
            have z0 := cell_of_row w5 _ 0 _ _ _ hr
            have z1 := cell_of_row w5 _ 1 _ _ _ hr
            have z2 := cell_of_row w5 _ 2 _ _ _ hr
            have z3 := cell_of_row w5 _ 3 _ _ _ hr
            simp at z0 z1 z2 z3
            have fz0 := frz_of_row 0 hr
            have fz1 := frz_of_row 1 hr
            have fz2 := frz_of_row 2 hr
            have fz3 := frz_of_row 3 hr
            have hltZ := lt_of_block hr
            have HP5 : Hid (J (At w4.heap.size) w g1 g2 L' L0 w5) := Lib.hid hp
            have HR5 := Lib.hid hr
            clear hp hkk hr HP c0 c1 c2 c3 hltB q0 q1 hx
            go_wp2_with fail
            go_roundw
            case rel => exact ⟨k + 1, L', ⟨yc, yk, h', yn⟩, by have := Hk.out; omega, by go_num, HOk', HEx', J.alloc (J.put HP5 (.inr rfl) HBw.out _ _ _ _) _, Lib.hid (row_put _ _ _ _ _ HR5.out)⟩
            case measure => have := Hk.out; simp [intOf]; omega
          · have r1 : (u0 % 3 == 0) = false := by simpa using r0
            by_cases r2 : u0 % 3 = 1
            · have r3 : (u0 % 3 == 1) = true := by simpa using r2
              clear r0 r2
              obtain ⟨a', b', L', e1, ok', ex', n1, n2, n3, _⟩ := HOk.out.turn (x := x) Hk.out (HEx.out.in HX.out)
              have E1 := Lib.hid e1
              have HOk' := Lib.hid ok'
              have HEx' := Lib.hid (HEx.out.trans ex')
              have HWf := Lib.hid (HOk.out.wf (by have := Hk.out; omega))
              have HIx : Hid (I64 x) := Lib.hid (i64_small (by have := HX.out; omega) (by have := HX.out; have := HM.out; omega))
              have s1 : (a' == yc) = false := by simpa using n1
              have s2 : (b' == yk) = false := by simpa using n2
              have s3 : (b' == a') = false := by simpa using n3
              have sf_yh : (yh != yh) = false := by simp
              clear n1 n2 n3
              clear e1 ok' ex'
              go_wp2_with fail
              rw [← hx]
              refine (HP.out.turnP (gR g2) HWf.out HIx.out E1.out).mono ?_
              rintro e w5 ⟨rfl, hp, hkk⟩
              simp only [Sy.v, zeroY]
              have hr := (hkk _ (.inr rfl)).trans HRow.out
              have z0 := cell_of_row w5 _ 0 _ _ _ hr
              have z1 := cell_of_row w5 _ 1 _ _ _ hr
              have z2 := cell_of_row w5 _ 2 _ _ _ hr
              have z3 := cell_of_row w5 _ 3 _ _ _ hr
              simp at z0 z1 z2 z3
              have fz0 := frz_of_row 0 hr
              have fz1 := frz_of_row 1 hr
              have fz2 := frz_of_row 2 hr
              have fz3 := frz_of_row 3 hr
              have hltZ := lt_of_block hr
              have HP5 : Hid (J (At w4.heap.size) w g1 g2 L' L0 w5) := Lib.hid hp
              have HR5 := Lib.hid hr
              clear hp hkk hr HP c0 c1 c2 c3 hltB q0 q1 hx
              go_wp2_with fail
              go_roundw
              case rel => exact ⟨k + 1, L', ⟨a', b', yh, 0⟩, by have := Hk.out; omega, by go_num, HOk', HEx', J.alloc (J.put HP5 (.inr rfl) HBw.out _ _ _ _) _, Lib.hid (row_put _ _ _ _ _ HR5.out)⟩
              case measure => have := Hk.out; simp [intOf]; omega
            · have r3 : (u0 % 3 == 1) = false := by simpa using r2
              clear r0 r2
              by_cases hk0 : yk = 0
              · have k0 : (yk == 0) = true := by simpa using hk0
                have HWf := Lib.hid (HOk.out.wf (by have := Hk.out; omega))
                have HIx : Hid (I64 x) := Lib.hid (i64_small (by have := HX.out; omega) (by have := HX.out; have := HM.out; omega))
                have E1 := Lib.hid (seal_not (L := L) (most := 1000) (y := ⟨yc, yk, yh, yn⟩) (x := x) (.inl hk0))
                have hE := neq_Y zeroY zeroY
                rw [(eqY_iff _ _).2 rfl] at hE
                unfold Sy.v zeroY at hE
                simp only [] at hE
                have hgd := guardY
                clear hk0
                go_wp2_with fail
                rw [← hx]
                refine (HP.out.ysealP (gR g2) HWf.out HIx.out E1.out).mono ?_
                rintro e w5 ⟨rfl, hp, hkk⟩
                simp only [Sy.v, zeroY]
                have hr := (hkk _ (.inr rfl)).trans HRow.out
                have z0 := cell_of_row w5 _ 0 _ _ _ hr
                have z1 := cell_of_row w5 _ 1 _ _ _ hr
                have z2 := cell_of_row w5 _ 2 _ _ _ hr
                have z3 := cell_of_row w5 _ 3 _ _ _ hr
                simp at z0 z1 z2 z3
                have fz0 := frz_of_row 0 hr
                have fz1 := frz_of_row 1 hr
                have fz2 := frz_of_row 2 hr
                have fz3 := frz_of_row 3 hr
                have hltZ := lt_of_block hr
                have HP5 : Hid (J (At w4.heap.size) w g1 g2 L L0 w5) := Lib.hid hp
                have HR5 := Lib.hid hr
                clear hp hkk hr HP c0 c1 c2 c3 hltB q0 q1 hx
                go_wp2_with fail
                go_roundw
                case rel => exact ⟨k + 1, L, ⟨yc, yk, yh, yn⟩, by have := Hk.out; omega, by go_num, Lib.hid HOk.out.next, HEx, J.alloc HP5 _, Lib.hid ((heap_alloc_old _ _ (lt_of_block HR5.out)).trans HR5.out)⟩
                case measure => have := Hk.out; simp [intOf]; omega
              · have k0 : (yk == 0) = false := by simpa using hk0
                obtain ⟨c', h', L', e1, ok', ex', n1, n2, _, _⟩ := HOk.out.sealing (x := x) Hk.out hk0 (HEx.out.in HX.out)
                have E1 := Lib.hid e1
                have HOk' := Lib.hid ok'
                have HEx' := Lib.hid (HEx.out.trans ex')
                have HWf := Lib.hid (HOk.out.wf (by have := Hk.out; omega))
                have HIx : Hid (I64 x) := Lib.hid (i64_small (by have := HX.out; omega) (by have := HX.out; have := HM.out; omega))
                have s1 : (h' == yh) = false := by simpa using n1
                have s2 : decide (c' < 1) = false := by simp; omega
                have hwr := HOk.out.wrap (by have := Hk.out; omega)
                simp only at hwr
                have sn : (yn + 1 != yn + 1) = false := by simp
                have sf_yc : (yc != yc) = false := by simp
                have sf_yk : (yk != yk) = false := by simp
                clear n1 n2 hk0
                clear e1 ok' ex'
                go_wp2_with fail
                rw [← hx]
                refine (HP.out.ysealP (gR g2) HWf.out HIx.out E1.out).mono ?_
                rintro e w5 ⟨rfl, hp, hkk⟩
                simp only [Sy.v, zeroY]
                have hr := (hkk _ (.inr rfl)).trans HRow.out
                have z0 := cell_of_row w5 _ 0 _ _ _ hr
                have z1 := cell_of_row w5 _ 1 _ _ _ hr
                have z2 := cell_of_row w5 _ 2 _ _ _ hr
                have z3 := cell_of_row w5 _ 3 _ _ _ hr
                simp at z0 z1 z2 z3
                have fz0 := frz_of_row 0 hr
                have fz1 := frz_of_row 1 hr
                have fz2 := frz_of_row 2 hr
                have fz3 := frz_of_row 3 hr
                have hltZ := lt_of_block hr
                have HP5 : Hid (J (At w4.heap.size) w g1 g2 L' L0 w5) := Lib.hid hp
                have HR5 := Lib.hid hr
                clear hp hkk hr HP c0 c1 c2 c3 hltB q0 q1 hx
                go_wp2_with fail
                go_roundw
                case rel => exact ⟨k + 1, L', ⟨yc, yk, h', yn + 1⟩, by have := Hk.out; omega, by go_num, HOk', HEx', J.alloc (J.put HP5 (.inr rfl) HBw.out _ _ _ _) _, Lib.hid (row_put _ _ _ _ _ HR5.out)⟩
                case measure => have := Hk.out; simp [intOf]; omega
        · have h21 : decide ((k : Int) < 20) = false := by simp; omega
          clear hk hlt h20
          go_wp2_with fail
          refine (fixed_any _).mono ?_
          rintro e w2 ⟨rfl, hb2⟩
          have HP2 := J.below hb2 HP
          clear hb2 HP
          go_wp2
          go_ret
          exact ⟨rfl, HP2.out.belowW⟩
      · have hlt1 : decide (k < len1) = false := by simpa using hlt
        clear hk hlt
        go_wp2_with fail
        refine (fixed_any _).mono ?_
        rintro e w2 ⟨rfl, hb2⟩
        have HP2 := J.below hb2 HP
        clear hb2 HP
        go_wp2
        go_ret
        exact ⟨rfl, HP2.out.belowW⟩

set_option maxRecDepth 100000 in
theorem lifted (os : Os) (started : os.Started) (H : Type) (enc : TypeId × Value → H) :
    ReturnsInHanded {} Try.checked os 6 .any (Rows.symCountsSpec.pre6 enc Try.prog Try.f6 Rows.symCountsRow.domain false) (Rows.symCountsSpec.post enc Try.prog Try.f6 false true false false) := by
  refine returnsInHanded_of_change (C := Try.checked) own started (by kernel_rfl) Try.func6
    (ChangeSpec.witness6 (enc := enc) (C := Try.checked) false ⟨#[], #[.slice none 0 0, .slice none 0 0], []⟩ 8 (by kernel_rfl) (by kernel_rfl) (by kernel_rfl) (by kernel_rfl)) ?_
  intro W base args ds gs before hval0 hW hcnd _
  have hval : ∀ (j : Nat) t v, Try.f6.params[j]? = some t → args[j]? = some v → Value.okWide Try.prog W .any base t v := hval0
  have hW' := hW
  obtain ⟨p, q, hA0, hV, rfl, hfz, hnd⟩ := hW
  have hA : DataW.TrodAll enc Try.prog W 0 (fun _ => true) true Try.f6.params.toList args.toList ds p := hA0
  rw [Try.params6] at hA hval
  obtain ⟨v0, vs0, d0, ds0, p0, q0, hargs, rfl, rfl, h0, r0⟩ := trodAll_cons hA
  obtain ⟨v1, vs1, d1, ds1, p1, q1, rfl, rfl, rfl, h1, r1⟩ := trodAll_cons r0
  obtain ⟨rfl, rfl, rfl⟩ := trodAll_nil r1
  obtain rfl : args = #[v0, v1] := by cases args; simp_all
  obtain ⟨rfl, rfl⟩ := trodVars_none hV
  obtain ⟨a0, len0, cap0, rfl⟩ := okWide_slice Try.underlying22 (hval 0 22 v0 rfl rfl)
  have k0 := h0
  have lt0 : ∀ x ∈ p0, x.block < W.heap.size := by obtain ⟨m, hm⟩ := k0; exact DataW.trod_lt m _ _ _ hm
  obtain ⟨T0, w0⟩ : ∃ T, Terms W a0 len0 cap0 T := by
    obtain ⟨fuel, hf⟩ := h0
    exact open_terms (by simpa [Value.cells] using hf)
  obtain ⟨a1, len1, cap1, rfl⟩ := okWide_slice Try.underlying52 (hval 1 52 v1 rfl rfl)
  have k1 := h1
  have lt1 : ∀ x ∈ p1, x.block < W.heap.size := by obtain ⟨m, hm⟩ := k1; exact DataW.trod_lt m _ _ _ hm
  obtain ⟨Z1, w1⟩ : ∃ Z, Arrs .u8 2 W a1 len1 cap1 Z := by
    obtain ⟨fuel, hf⟩ := h1
    exact open_arrs Try.underlying52 Try.underlying54 Try.underlying5 (by kernel_rfl) (by kernel_rfl) (by omega) (by simpa [Value.cells] using hf)
  clear hA0 hval0
  refine (walk a0 len0 cap0 T0 a1 len1 cap1 Z1 W w0 w1).mono fun e W' ⟨he, bel⟩ => ?_
  subst he
  exact ⟨_, rfl, _, _, _, [], _, [], hW', trodAll_mk1 (shut_bool Try.underlying4 _), (trodAll_cons_mk (Below.trod laidOut (by kernel_rfl) (of_decide_eq_true (by kernel_rfl)) k0 bel lt0) (trodAll_cons_mk (Below.trod laidOut (by kernel_rfl) (of_decide_eq_true (by kernel_rfl)) k1 bel lt1) trodAll_mk0)), rfl, bel.frame _, fun h => by cases h⟩

theorem over : Rows.symCountsRow.holds Try.pinned (OpenSpec.ofChange Rows.symCountsSpec) :=
  OpenClaim.holds_of_wide 6 Try.f6 rfl rfl rfl rfl rfl rfl rfl ⟨rfl, rfl, rfl, rfl, rfl⟩ rfl rfl rfl rfl rfl (by kernel_rfl) Try.func6 (by kernel_rfl)
    (of_decide_eq_true (by kernel_rfl)) (by unfold Func.isWrapper; first | (rw [if_pos (by decide +kernel)]; kernel_rfl) | (rw [if_neg (by decide +kernel)]; exact ⟨rfl, rfl⟩))
    (fun os started H enc _ => lifted os started H enc)

theorem proved : Rows.SymCountsSaid := over
#print axioms proved
end Go.Proofs.Ytlejejeflgnglaa.symCounts
