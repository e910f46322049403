/- SymBoth: for every row of terms and of two numbers, two sides that say and mix in the same have the same, what one seals the other one opens, and what both have at the end are the same keys. No condition. -/
import Derived.Test.YtlejejeflgnglaaRows
import Derived.Test.YtlejejeflgnglaaSymW
import Derived.Test.YtlejejeflgnglaaSymE
import Derived.Test.YtlejejeflgnglaaOpens
import Derived.WalkKit
import Derived.BigQuiet
import Derived.ProofKit
import Derived.OpenShut
import Derived.ShutString
import Derived.ChangeOld
import Derived.Below
namespace Go.Proofs.Ytlejejeflgnglaa.symBoth
open Go.ChangeShapes Go.WideShapes Go.ChangeAt Go.RowKit
open Go.ChangeMaps (open_string shut_string)
open Go.Proofs.Ytlejejeflgnglaa
set_option linter.unusedVariables false
set_option linter.unusedSimpArgs false

theorem own : ownKnob Try.prog.godebug = none := by kernel_rfl
theorem laidOut : laidOutB Try.prog = true := by kernel_rfl

def At2 (b c : Nat) : Nat → Prop := fun k => At b k ∨ k = c
theorem row_two1 {W : World} {A B : Nat} {t t' : TypeId} {a0 a1 a2 a3 b0 b1 b2 b3 : Value} (v0 v1 v2 v3 u0 u1 u2 u3 : Value) (o : Obj) (hne : A ≠ B) (h : W.heap[A]? = some (.cells #[a0, a1, a2, a3] t (0, 0))) (h' : W.heap[B]? = some (.cells #[b0, b1, b2, b3] t' (0, 0))) :
    ((set4 (set4 W A 0 v0 v1 v2 v3) B 0 u0 u1 u2 u3).alloc o).heap[A]? = some (.cells #[v0, v1, v2, v3] t (0, 0)) :=
  (heap_alloc_old _ _ (by rw [set4_size, set4_size]; exact lt_of_block h)).trans ((set4_other _ _ _ _ _ _ _ _ hne).trans (row_set4 v0 v1 v2 v3 h))
theorem row_two2 {W : World} {A B : Nat} {t : TypeId} {b0 b1 b2 b3 : Value} (v0 v1 v2 v3 u0 u1 u2 u3 : Value) (o : Obj) (hne : B ≠ A) (h : W.heap[B]? = some (.cells #[b0, b1, b2, b3] t (0, 0))) :
    ((set4 (set4 W A 0 v0 v1 v2 v3) B 0 u0 u1 u2 u3).alloc o).heap[B]? = some (.cells #[u0, u1, u2, u3] t (0, 0)) :=
  row_put u0 u1 u2 u3 o ((set4_other _ _ _ _ _ _ _ _ hne).trans h)

set_option maxHeartbeats 8000000 in
set_option maxRecDepth 100000 in
theorem walk (a0 : Option Addr) (len0 cap0 : Nat) (T0 : Nat → Tm) (a1 : Option Addr) (len1 cap1 : Nat) (Z1 : Nat → Nat → Int) (w : World) (w0 : Terms w a0 len0 cap0 T0) (w1 : Arrs .u8 2 w a1 len1 cap1 Z1) :
    Calls Try.prog 4 #[.slice a0 len0 cap0, .slice a1 len1 cap1] w fun e w' => e = .returned (.bool true) ∧ Below w.heap.size w w' := by
  have HT0 := Lib.hid w0
  obtain ⟨hcm, hlc, b, off, hz⟩ := w1
  have HZ := Lib.hid hz
  unfold maxLen at hcm
  clear w0 hz
  have gR := fun g => RSq.good w.heap.size g 1000
  have gP := fun g => PSq.good w.heap.size g 1000
  go_enter Try.func4, Try.ntmps4
  go_wp2_with fail
  refine (stores_any 20 a0 len0 cap0 T0 _ (by omega) HT0.out).mono ?_
  rintro e w1 ⟨g1, g2, L0, rfl, hL, hp⟩
  have HP0 : Hid (Pair w.heap.size (PSq w.heap.size g1 1000) (RSq w.heap.size g2 1000) L0 L0 (fun _ => False) w w1) := Lib.hid hp
  have hft := hp.facts.1
  clear hp HT0
  by_cases hn : L0.length = 0
  · have hl0 : ((L0.length : Int) == 0) = true := by simp [hn]
    clear hn hL hft
    go_wp2_with fail
    refine (HP0.out.lenP).mono ?_
    rintro e w2 ⟨rfl, rfl⟩
    go_wp2_with fail
    refine (fixed_any _).mono ?_
    rintro e w3 ⟨rfl, hb3⟩
    have hb4 := HP0.out.belowW.trans (hb3.mono HP0.out.base_le)
    clear hb3
    go_wp2
    go_ret
    exact ⟨rfl, hb4⟩
  · have hl0 : ((L0.length : Int) == 0) = false := by simpa using hn
    obtain ⟨a, L, e1, ok, ex, ha, nn⟩ := Ok.begin hft hL
    have HOk := Lib.hid ok
    have E1 := Lib.hid e1
    have E2 := Lib.hid (begin_old (most := 1000) nm_le nn)
    clear hn hL hft ok ex e1 ha nn
    go_wp2_with fail
    refine (HP0.out.lenP).mono ?_
    rintro e w2 ⟨rfl, rfl⟩
    go_wp2_with fail
    refine (HP0.out.beginP (gR g2) nm_wf E1.out).mono ?_
    rintro e w4 ⟨rfl, hp, _⟩
    simp only [Sy.v]
    have HBw := Lib.hid hp.base_le
    have HP1 : Hid (J (At w4.heap.size) w g1 g2 L L0 (w4.alloc (.cells #[.int .i64 a, .int .i64 0, .int .i64 a, .int .u64 0] 25))) := Lib.hid (Pair.box (gP g1) (gR g2) hp _)
    clear hp HP0 hl0
    go_wp2_with fail
    refine (HP1.out.beginP (gR g2) nm_wf E2.out).mono ?_
    rintro e w5 ⟨rfl, hp, hkk⟩
    simp only [Sy.v]
    have ra := (hkk _ (.inr rfl)).trans (heap_alloc_new w4 _)
    have HAB := Lib.hid (lt_of_block ra)
    have hAB := HAB.out
    have HP2 : Hid (J (At2 w4.heap.size w5.heap.size) w g1 g2 L L0 (w5.alloc (.cells #[.int .i64 a, .int .i64 0, .int .i64 a, .int .u64 0] 25))) := Lib.hid (Pair.box (gP g1) (gR g2) hp _)
    have HRa := Lib.hid ((heap_alloc_old w5 (.cells #[.int .i64 a, .int .i64 0, .int .i64 a, .int .u64 0] 25) (lt_of_block ra)).trans ra)
    have HRb := Lib.hid (heap_alloc_new w5 (.cells #[.int .i64 a, .int .i64 0, .int .i64 a, .int .u64 0] 25))
    clear hp hkk ra HP1
    go_wp2_with fail
    go_loopw [11] (fun i wr => ∃ k, ∃ L : List Tm, ∃ y : Sy, k ≤ 20 ∧ i = .int .i64 (k : Nat) ∧ Hid (Ok L k y) ∧ Hid (J (At2 w4.heap.size w5.heap.size) w g1 g2 L L0 wr) ∧ Hid (wr.heap[w4.heap.size]? = some (.cells #[.int .i64 y.CK, .int .i64 y.K, .int .i64 y.H, .int .u64 y.N] 25 (0, 0))) ∧ Hid (wr.heap[w5.heap.size]? = some (.cells #[.int .i64 y.CK, .int .i64 y.K, .int .i64 y.H, .int .u64 y.N] 25 (0, 0)))) (fun i _ => 20 - (intOf i).toNat)
    case atStart => exact ⟨0, L, ⟨a, 0, a, 0⟩, Nat.zero_le _, rfl, HOk, HP2, HRa, HRb⟩
    case round =>
      clear HP2 HRa HRb HOk E1 E2 L
      obtain ⟨k, L, ⟨yc, yk, yh, yn⟩, hk, rfl, HOk, HP, HRa, HRb⟩ := hrel
      by_cases hlt : k < len1
      · have hlt1 : (k : Int) < (len1 : Int) := by omega
        by_cases h20 : k < 20
        · have h21 : (k : Int) < 20 := by omega
          have Hk := Lib.hid h20
          obtain ⟨rfl, hcl⟩ := HZ.out k hlt
          obtain ⟨q0, wf0⟩ := hcl 0 (by omega)
          obtain ⟨q1, wf1⟩ := hcl 1 (by omega)
          have hbw : b < w.heap.size := block_lt_of_cell q0
          obtain ⟨u0, hu0⟩ : ∃ u, u = Z1 k 0 := ⟨_, rfl⟩
          obtain ⟨u1, hu1⟩ : ∃ u, u = Z1 k 1 := ⟨_, rfl⟩
          rw [← hu0] at q0 wf0
          rw [← hu1] at q1 wf1
          have q0 : w.cell? ⟨b, off + k * 2, none⟩ = some (.int .u8 u0) := q0
          have HQ0 := Lib.hid q0
          rw [← HP.out.belowW.cell (by exact hbw)] at q1
          have bu0 := byte_in wf0
          have WU1 := Lib.hid wf1
          have hL0 : (0 : Int) < (L.length : Int) := by have := HOk.out.ck; omega
          have HLl := Lib.hid (show (L.length : Int) ≤ 1000 by have := HOk.out.len; omega)
          have hn1 := hL0
          have HLN : Hid (∀ n, Calls Try.prog 26 #[.pointer (some ⟨g1, 0, none⟩)] (wr.drewN n) fun e w' => e = .returned (.int .i64 L.length) ∧ ∃ m, w' = wr.drewN m) := Lib.hid (fun n => quiet_of ((Pair.below (gP g1) (gR g2) HP.out (drewN_below _ _)).lenP))
          clear hu0 hu1 hcl wf0 wf1 hk hlt h20 q0 hL0
          go_wp2_with fail
          go_quiet (first | (go_at_call 26; exact HLN.out _))
          obtain ⟨x, hx⟩ : ∃ x, x = wrap64 (1 + (wrap64 u1).tmod ↑L.length) := ⟨_, rfl⟩
          have bx : 1 ≤ x ∧ x ≤ (L.length : Int) := by rw [hx]; exact pick_in u1 _ WU1.out hn1 HLl.out
          have HX := Lib.hid bx
          rw [← hx]
          have HIx : Hid (I64 x) := Lib.hid (i64_small (by omega) (by have := HLl.out; omega))
          have HPq := J.below (drewN_below wr nq) HP
          have HRaq := Lib.hid (show (wr.drewN nq).heap[w4.heap.size]? = _ from HRa.out)
          have HRbq := Lib.hid (show (wr.drewN nq).heap[w5.heap.size]? = _ from HRb.out)
          have q0 := HQ0.out
          rw [← HPq.out.belowW.cell (by exact hbw)] at q0
          clear hx bx HP HRa HRb HLN q1 hn1
          generalize wr.drewN nq = wq at HPq HRaq HRbq q0 ⊢
          have HP := HPq
          have HRa := HRaq
          have HRb := HRbq
          clear HPq HRaq HRbq
          by_cases r0 : u0 % 3 = 0
          · have r1 : (u0 % 3 == 0) = true := by simpa using r0
            clear r0
            obtain ⟨h', L', e1, ok', ex', ne, e2⟩ := HOk.out.say (x := x) Hk.out HX.out
            have E1 := Lib.hid e1
            have E2 := Lib.hid e2
            have HOk' := Lib.hid ok'
            clear e1 e2 ok' ex' ne
            have HWf := Lib.hid (HOk.out.wf (by have := Hk.out; omega))
            have hE := neq_Y ⟨yc, yk, h', yn⟩ ⟨yc, yk, h', yn⟩
            rw [(eqY_iff _ _).2 rfl] at hE
            unfold Sy.v at hE
            simp only [] at hE
            have hgd := guardY
            have ha := HRa.out
            have c0 := cell_of_row wq _ 0 _ _ _ ha
            have c1 := cell_of_row wq _ 1 _ _ _ ha
            have c2 := cell_of_row wq _ 2 _ _ _ ha
            have c3 := cell_of_row wq _ 3 _ _ _ ha
            simp at c0 c1 c2 c3
            have lta := lt_of_block ha
            clear ha
            go_wp2_with fail
            refine (HP.out.sayP (gR g2) HWf.out HIx.out E1.out).mono ?_
            rintro e w6 ⟨rfl, hp, hkk⟩
            simp only [Sy.v, zeroY]
            have ra := (hkk _ (.inl (.inr rfl))).trans HRa.out
            have rb := (hkk _ (.inr rfl)).trans HRb.out
            have HRa6 := Lib.hid ra
            have HRb6 := Lib.hid rb
            have d0 := cell_of_row w6 _ 0 _ _ _ rb
            have d1 := cell_of_row w6 _ 1 _ _ _ rb
            have d2 := cell_of_row w6 _ 2 _ _ _ rb
            have d3 := cell_of_row w6 _ 3 _ _ _ rb
            simp at d0 d1 d2 d3
            have ltb := lt_of_block rb
            have HP6 := Lib.hid (Pair.box (gP g1) (gR g2) hp (.cells #[.int .i64 yc, .int .i64 yk, .int .i64 h', .int .u64 yn] 25))
            clear hp hkk ra rb HP c0 c1 c2 c3 lta HRa HRb
            go_wp2_with fail
            refine (HP6.out.sayP (gR g2) HWf.out HIx.out E2.out).mono ?_
            rintro e w7 ⟨rfl, hp, hkk⟩
            simp only [Sy.v, zeroY]
            have ra := (hkk _ (.inl (.inl (.inr rfl)))).trans ((heap_alloc_old _ _ (lt_of_block HRa6.out)).trans HRa6.out)
            have rb := (hkk _ (.inl (.inr rfl))).trans ((heap_alloc_old _ _ (lt_of_block HRb6.out)).trans HRb6.out)
            have rc := (hkk _ (.inr rfl)).trans (heap_alloc_new w6 _)
            have a0 := cell_of_row w7 _ 0 _ _ _ ra
            have a1 := cell_of_row w7 _ 1 _ _ _ ra
            have a2 := cell_of_row w7 _ 2 _ _ _ ra
            have a3 := cell_of_row w7 _ 3 _ _ _ ra
            simp at a0 a1 a2 a3
            have fa0 := frz_of_row 0 ra
            have fa1 := frz_of_row 1 ra
            have fa2 := frz_of_row 2 ra
            have fa3 := frz_of_row 3 ra
            have b0 := cell_of_row w7 _ 0 _ _ _ rb
            have b1 := cell_of_row w7 _ 1 _ _ _ rb
            have b2 := cell_of_row w7 _ 2 _ _ _ rb
            have b3 := cell_of_row w7 _ 3 _ _ _ rb
            simp at b0 b1 b2 b3
            have fb0 := frz_of_row 0 rb
            have fb1 := frz_of_row 1 rb
            have fb2 := frz_of_row 2 rb
            have fb3 := frz_of_row 3 rb
            have c0 := cell_of_row w7 _ 0 _ _ _ rc
            have c1 := cell_of_row w7 _ 1 _ _ _ rc
            have c2 := cell_of_row w7 _ 2 _ _ _ rc
            have c3 := cell_of_row w7 _ 3 _ _ _ rc
            simp at c0 c1 c2 c3
            have lta7 := lt_of_block ra
            have ltb7 := lt_of_block rb
            have ltc7 := lt_of_block rc
            have HRa7 := Lib.hid ra
            have HRb7 := Lib.hid rb
            have HP7 : Hid (J (At2 w4.heap.size w5.heap.size) w g1 g2 L' L0 w7) := Lib.hid (Pair.less hp (fun k q => .inl q))
            clear hp hkk ra rb rc HP6 HRa6 HRb6 d0 d1 d2 d3
            go_wp2_with fail
            go_roundw
            case rel => exact ⟨k + 1, L', ⟨yc, yk, h', yn⟩, by have := Hk.out; omega, by go_num, HOk', J.alloc (J.put (J.put HP7 (.inl (.inr rfl)) HBw.out _ _ _ _) (.inr rfl) (by have := HBw.out; have := HAB.out; omega) _ _ _ _) _, Lib.hid (row_two1 _ _ _ _ _ _ _ _ _ (by have := HAB.out; omega) HRa7.out HRb7.out), Lib.hid (row_two2 _ _ _ _ _ _ _ _ _ (by have := HAB.out; omega) HRb7.out)⟩
            case measure => have := Hk.out; simp [intOf]; omega
          · have r1 : (u0 % 3 == 0) = false := by simpa using r0
            by_cases r2 : u0 % 3 = 1
            · have r3 : (u0 % 3 == 1) = true := by simpa using r2
              clear r0 r2
              obtain ⟨a', b', L', e1, ok', ex', n1, n2, n3, e2⟩ := HOk.out.turn (x := x) Hk.out HX.out
              have E1 := Lib.hid e1
              have E2 := Lib.hid e2
              have HOk' := Lib.hid ok'
              clear e1 e2 ok' ex' n1 n2 n3
              have HWf := Lib.hid (HOk.out.wf (by have := Hk.out; omega))
              have hE := neq_Y ⟨a', b', yh, 0⟩ ⟨a', b', yh, 0⟩
              rw [(eqY_iff _ _).2 rfl] at hE
              unfold Sy.v at hE
              simp only [] at hE
              have hgd := guardY
              have ha := HRa.out
              have c0 := cell_of_row wq _ 0 _ _ _ ha
              have c1 := cell_of_row wq _ 1 _ _ _ ha
              have c2 := cell_of_row wq _ 2 _ _ _ ha
              have c3 := cell_of_row wq _ 3 _ _ _ ha
              simp at c0 c1 c2 c3
              have lta := lt_of_block ha
              clear ha
              go_wp2_with fail
              refine (HP.out.turnP (gR g2) HWf.out HIx.out E1.out).mono ?_
              rintro e w6 ⟨rfl, hp, hkk⟩
              simp only [Sy.v, zeroY]
              have ra := (hkk _ (.inl (.inr rfl))).trans HRa.out
              have rb := (hkk _ (.inr rfl)).trans HRb.out
              have HRa6 := Lib.hid ra
              have HRb6 := Lib.hid rb
              have d0 := cell_of_row w6 _ 0 _ _ _ rb
              have d1 := cell_of_row w6 _ 1 _ _ _ rb
              have d2 := cell_of_row w6 _ 2 _ _ _ rb
              have d3 := cell_of_row w6 _ 3 _ _ _ rb
              simp at d0 d1 d2 d3
              have ltb := lt_of_block rb
              have HP6 := Lib.hid (Pair.box (gP g1) (gR g2) hp (.cells #[.int .i64 a', .int .i64 b', .int .i64 yh, .int .u64 0] 25))
              clear hp hkk ra rb HP c0 c1 c2 c3 lta HRa HRb
              go_wp2_with fail
              refine (HP6.out.turnP (gR g2) HWf.out HIx.out E2.out).mono ?_
              rintro e w7 ⟨rfl, hp, hkk⟩
              simp only [Sy.v, zeroY]
              have ra := (hkk _ (.inl (.inl (.inr rfl)))).trans ((heap_alloc_old _ _ (lt_of_block HRa6.out)).trans HRa6.out)
              have rb := (hkk _ (.inl (.inr rfl))).trans ((heap_alloc_old _ _ (lt_of_block HRb6.out)).trans HRb6.out)
              have rc := (hkk _ (.inr rfl)).trans (heap_alloc_new w6 _)
              have a0 := cell_of_row w7 _ 0 _ _ _ ra
              have a1 := cell_of_row w7 _ 1 _ _ _ ra
              have a2 := cell_of_row w7 _ 2 _ _ _ ra
              have a3 := cell_of_row w7 _ 3 _ _ _ ra
              simp at a0 a1 a2 a3
              have fa0 := frz_of_row 0 ra
              have fa1 := frz_of_row 1 ra
              have fa2 := frz_of_row 2 ra
              have fa3 := frz_of_row 3 ra
              have b0 := cell_of_row w7 _ 0 _ _ _ rb
              have b1 := cell_of_row w7 _ 1 _ _ _ rb
              have b2 := cell_of_row w7 _ 2 _ _ _ rb
              have b3 := cell_of_row w7 _ 3 _ _ _ rb
              simp at b0 b1 b2 b3
              have fb0 := frz_of_row 0 rb
              have fb1 := frz_of_row 1 rb
              have fb2 := frz_of_row 2 rb
              have fb3 := frz_of_row 3 rb
              have c0 := cell_of_row w7 _ 0 _ _ _ rc
              have c1 := cell_of_row w7 _ 1 _ _ _ rc
              have c2 := cell_of_row w7 _ 2 _ _ _ rc
              have c3 := cell_of_row w7 _ 3 _ _ _ rc
              simp at c0 c1 c2 c3
              have lta7 := lt_of_block ra
              have ltb7 := lt_of_block rb
              have ltc7 := lt_of_block rc
              have HRa7 := Lib.hid ra
              have HRb7 := Lib.hid rb
              have HP7 : Hid (J (At2 w4.heap.size w5.heap.size) w g1 g2 L' L0 w7) := Lib.hid (Pair.less hp (fun k q => .inl q))
              clear hp hkk ra rb rc HP6 HRa6 HRb6 d0 d1 d2 d3
              go_wp2_with fail
              go_roundw
              case rel => exact ⟨k + 1, L', ⟨a', b', yh, 0⟩, by have := Hk.out; omega, by go_num, HOk', J.alloc (J.put (J.put HP7 (.inl (.inr rfl)) HBw.out _ _ _ _) (.inr rfl) (by have := HBw.out; have := HAB.out; omega) _ _ _ _) _, Lib.hid (row_two1 _ _ _ _ _ _ _ _ _ (by have := HAB.out; omega) HRa7.out HRb7.out), Lib.hid (row_two2 _ _ _ _ _ _ _ _ _ (by have := HAB.out; omega) HRb7.out)⟩
              case measure => have := Hk.out; simp [intOf]; omega
            · have r3 : (u0 % 3 == 1) = false := by simpa using r2
              have r4 : (u0 % 3 == 2) = true := by simp; omega
              clear r0 r2
              by_cases hk0 : yk = 0
              · have k0' : (yk == 0) = true := by simpa using hk0
                have E1 := Lib.hid (seal_not (L := L) (most := 1000) (y := ⟨yc, yk, yh, yn⟩) (x := x) (.inl hk0))
                have E2 := Lib.hid (unseal_not (L := L) (most := 1000) (y := ⟨yc, yk, yh, yn⟩) (x := 0) (.inl hk0))
                have k1' : (yk != 0) = false := by simpa using hk0
                clear hk0
                have HWf := Lib.hid (HOk.out.wf (by have := Hk.out; omega))
                have ha := HRa.out
                have c0 := cell_of_row wq _ 0 _ _ _ ha
                have c1 := cell_of_row wq _ 1 _ _ _ ha
                have c2 := cell_of_row wq _ 2 _ _ _ ha
                have c3 := cell_of_row wq _ 3 _ _ _ ha
                simp at c0 c1 c2 c3
                have lta := lt_of_block ha
                clear ha
                go_wp2_with fail
                refine (HP.out.ysealP (gR g2) HWf.out HIx.out E1.out).mono ?_
                rintro e w6 ⟨rfl, hp, hkk⟩
                simp only [Sy.v, zeroY]
                have ra := (hkk _ (.inl (.inr rfl))).trans HRa.out
                have rb := (hkk _ (.inr rfl)).trans HRb.out
                have HRa6 := Lib.hid ra
                have HRb6 := Lib.hid rb
                have d0 := cell_of_row w6 _ 0 _ _ _ rb
                have d1 := cell_of_row w6 _ 1 _ _ _ rb
                have d2 := cell_of_row w6 _ 2 _ _ _ rb
                have d3 := cell_of_row w6 _ 3 _ _ _ rb
                simp at d0 d1 d2 d3
                have ltb := lt_of_block rb
                have HP6 := Lib.hid (Pair.box (gP g1) (gR g2) hp (.cells #[.int .i64 0, .int .i64 0, .int .i64 0, .int .u64 0] 25))
                clear hp hkk ra rb HP c0 c1 c2 c3 lta HRa HRb
                go_wp2_with fail
                refine (HP6.out.yopenP (gR g2) HWf.out k0 E2.out).mono ?_
                rintro e w7 ⟨rfl, hp, hkk⟩
                simp only [Sy.v, zeroY]
                have ra := (hkk _ (.inl (.inl (.inr rfl)))).trans ((heap_alloc_old _ _ (lt_of_block HRa6.out)).trans HRa6.out)
                have rb := (hkk _ (.inl (.inr rfl))).trans ((heap_alloc_old _ _ (lt_of_block HRb6.out)).trans HRb6.out)
                have rc := (hkk _ (.inr rfl)).trans (heap_alloc_new w6 _)
                have a0 := cell_of_row w7 _ 0 _ _ _ ra
                have a1 := cell_of_row w7 _ 1 _ _ _ ra
                have a2 := cell_of_row w7 _ 2 _ _ _ ra
                have a3 := cell_of_row w7 _ 3 _ _ _ ra
                simp at a0 a1 a2 a3
                have fa0 := frz_of_row 0 ra
                have fa1 := frz_of_row 1 ra
                have fa2 := frz_of_row 2 ra
                have fa3 := frz_of_row 3 ra
                have b0 := cell_of_row w7 _ 0 _ _ _ rb
                have b1 := cell_of_row w7 _ 1 _ _ _ rb
                have b2 := cell_of_row w7 _ 2 _ _ _ rb
                have b3 := cell_of_row w7 _ 3 _ _ _ rb
                simp at b0 b1 b2 b3
                have fb0 := frz_of_row 0 rb
                have fb1 := frz_of_row 1 rb
                have fb2 := frz_of_row 2 rb
                have fb3 := frz_of_row 3 rb
                have c0 := cell_of_row w7 _ 0 _ _ _ rc
                have c1 := cell_of_row w7 _ 1 _ _ _ rc
                have c2 := cell_of_row w7 _ 2 _ _ _ rc
                have c3 := cell_of_row w7 _ 3 _ _ _ rc
                simp at c0 c1 c2 c3
                have lta7 := lt_of_block ra
                have ltb7 := lt_of_block rb
                have ltc7 := lt_of_block rc
                have HRa7 := Lib.hid ra
                have HRb7 := Lib.hid rb
                have HP7 : Hid (J (At2 w4.heap.size w5.heap.size) w g1 g2 L L0 w7) := Lib.hid (Pair.less hp (fun k q => .inl q))
                clear hp hkk ra rb rc HP6 HRa6 HRb6 d0 d1 d2 d3
                go_wp2_with fail
                go_roundw
                case rel => exact ⟨k + 1, L, ⟨yc, yk, yh, yn⟩, by have := Hk.out; omega, by go_num, Lib.hid HOk.out.next, J.alloc HP7 _, Lib.hid ((heap_alloc_old _ _ (lt_of_block HRa7.out)).trans HRa7.out), Lib.hid ((heap_alloc_old _ _ (lt_of_block HRb7.out)).trans HRb7.out)⟩
                case measure => have := Hk.out; simp [intOf]; omega
              · have k0' : (yk == 0) = false := by simpa using hk0
                obtain ⟨c', h', L', e1, ok', ex', n1, n2, ic, e2⟩ := HOk.out.sealing (x := x) Hk.out hk0 HX.out
                have HIc := Lib.hid ic
                have E1 := Lib.hid e1
                have E2 := Lib.hid e2
                have HOk' := Lib.hid ok'
                clear ic e1 e2 ok' ex' n1 n2 hk0
                have HWf := Lib.hid (HOk.out.wf (by have := Hk.out; omega))
                have hE := neq_Y ⟨yc, yk, h', yn + 1⟩ ⟨yc, yk, h', yn + 1⟩
                rw [(eqY_iff _ _).2 rfl] at hE
                unfold Sy.v at hE
                simp only [] at hE
                have hgd := guardY
                have sx : (x != x) = false := by simp
                have ha := HRa.out
                have c0 := cell_of_row wq _ 0 _ _ _ ha
                have c1 := cell_of_row wq _ 1 _ _ _ ha
                have c2 := cell_of_row wq _ 2 _ _ _ ha
                have c3 := cell_of_row wq _ 3 _ _ _ ha
                simp at c0 c1 c2 c3
                have lta := lt_of_block ha
                clear ha
                go_wp2_with fail
                refine (HP.out.ysealP (gR g2) HWf.out HIx.out E1.out).mono ?_
                rintro e w6 ⟨rfl, hp, hkk⟩
                simp only [Sy.v, zeroY]
                have ra := (hkk _ (.inl (.inr rfl))).trans HRa.out
                have rb := (hkk _ (.inr rfl)).trans HRb.out
                have HRa6 := Lib.hid ra
                have HRb6 := Lib.hid rb
                have d0 := cell_of_row w6 _ 0 _ _ _ rb
                have d1 := cell_of_row w6 _ 1 _ _ _ rb
                have d2 := cell_of_row w6 _ 2 _ _ _ rb
                have d3 := cell_of_row w6 _ 3 _ _ _ rb
                simp at d0 d1 d2 d3
                have ltb := lt_of_block rb
                have HP6 := Lib.hid (Pair.box (gP g1) (gR g2) hp (.cells #[.int .i64 yc, .int .i64 yk, .int .i64 h', .int .u64 (yn + 1)] 25))
                clear hp hkk ra rb HP c0 c1 c2 c3 lta HRa HRb
                go_wp2_with fail
                refine (HP6.out.yopenP (gR g2) HWf.out HIc.out E2.out).mono ?_
                rintro e w7 ⟨rfl, hp, hkk⟩
                simp only [Sy.v, zeroY]
                have ra := (hkk _ (.inl (.inl (.inr rfl)))).trans ((heap_alloc_old _ _ (lt_of_block HRa6.out)).trans HRa6.out)
                have rb := (hkk _ (.inl (.inr rfl))).trans ((heap_alloc_old _ _ (lt_of_block HRb6.out)).trans HRb6.out)
                have rc := (hkk _ (.inr rfl)).trans (heap_alloc_new w6 _)
                have a0 := cell_of_row w7 _ 0 _ _ _ ra
                have a1 := cell_of_row w7 _ 1 _ _ _ ra
                have a2 := cell_of_row w7 _ 2 _ _ _ ra
                have a3 := cell_of_row w7 _ 3 _ _ _ ra
                simp at a0 a1 a2 a3
                have fa0 := frz_of_row 0 ra
                have fa1 := frz_of_row 1 ra
                have fa2 := frz_of_row 2 ra
                have fa3 := frz_of_row 3 ra
                have b0 := cell_of_row w7 _ 0 _ _ _ rb
                have b1 := cell_of_row w7 _ 1 _ _ _ rb
                have b2 := cell_of_row w7 _ 2 _ _ _ rb
                have b3 := cell_of_row w7 _ 3 _ _ _ rb
                simp at b0 b1 b2 b3
                have fb0 := frz_of_row 0 rb
                have fb1 := frz_of_row 1 rb
                have fb2 := frz_of_row 2 rb
                have fb3 := frz_of_row 3 rb
                have c0 := cell_of_row w7 _ 0 _ _ _ rc
                have c1 := cell_of_row w7 _ 1 _ _ _ rc
                have c2 := cell_of_row w7 _ 2 _ _ _ rc
                have c3 := cell_of_row w7 _ 3 _ _ _ rc
                simp at c0 c1 c2 c3
                have lta7 := lt_of_block ra
                have ltb7 := lt_of_block rb
                have ltc7 := lt_of_block rc
                have HRa7 := Lib.hid ra
                have HRb7 := Lib.hid rb
                have HP7 : Hid (J (At2 w4.heap.size w5.heap.size) w g1 g2 L' L0 w7) := Lib.hid (Pair.less hp (fun k q => .inl q))
                clear hp hkk ra rb rc HP6 HRa6 HRb6 d0 d1 d2 d3
                go_wp2_with fail
                go_roundw
                case rel => exact ⟨k + 1, L', ⟨yc, yk, h', yn + 1⟩, by have := Hk.out; omega, by go_num, HOk', J.alloc (J.put (J.put HP7 (.inl (.inr rfl)) HBw.out _ _ _ _) (.inr rfl) (by have := HBw.out; have := HAB.out; omega) _ _ _ _) _, Lib.hid (row_two1 _ _ _ _ _ _ _ _ _ (by have := HAB.out; omega) HRa7.out HRb7.out), Lib.hid (row_two2 _ _ _ _ _ _ _ _ _ (by have := HAB.out; omega) HRb7.out)⟩
                case measure => have := Hk.out; simp [intOf]; omega
        · have h21 : decide ((k : Int) < 20) = false := by simp; omega
          have ok := HOk.out
          obtain ⟨t, u, v, M, e1, nt, m1, ex, hl, ff⟩ := split_step (most := 1000) (y := ⟨yc, yk, yh, yn⟩) ok.fit ok.ck (by have := ok.len; omega)
          have E1 := Lib.hid e1
          have E2 := Lib.hid (split_old (most := 1000) (y := ⟨yc, yk, yh, yn⟩) (ex.in ok.ck) nt m1)
          have s1 : (u != v) = true := by simpa using (m1.lt ff).2.2.2.2
          have suu := beq_self_eq_true u
          have svv := beq_self_eq_true v
          have HWf := Lib.hid (ok.wf (by omega))
          have ha := HRa.out
          have c0 := cell_of_row wr _ 0 _ _ _ ha
          have c1 := cell_of_row wr _ 1 _ _ _ ha
          have c2 := cell_of_row wr _ 2 _ _ _ ha
          have c3 := cell_of_row wr _ 3 _ _ _ ha
          simp at c0 c1 c2 c3
          clear ok e1 nt m1 ex hl ff ha hk hlt h20
          go_wp2_with fail
          refine (HP.out.splitP (gR g2) HWf.out E1.out).mono ?_
          rintro e w6 ⟨rfl, hp, hkk⟩
          have rb := (hkk _ (.inr rfl)).trans HRb.out
          have d0 := cell_of_row w6 _ 0 _ _ _ rb
          have d1 := cell_of_row w6 _ 1 _ _ _ rb
          have d2 := cell_of_row w6 _ 2 _ _ _ rb
          have d3 := cell_of_row w6 _ 3 _ _ _ rb
          simp at d0 d1 d2 d3
          have HP6 := Lib.hid hp
          clear hp hkk rb HP c0 c1 c2 c3
          go_wp2_with fail
          refine (HP6.out.splitP (gR g2) HWf.out E2.out).mono ?_
          rintro e w7 ⟨rfl, hp, hkk⟩
          have HP7 : Hid (J (At2 w4.heap.size w5.heap.size) w g1 g2 M L0 w7) := Lib.hid hp
          clear hp hkk HP6 d0 d1 d2 d3
          go_wp2_with fail
          refine (fixed_any _).mono ?_
          rintro e w8 ⟨rfl, hb2⟩
          have HP8 := J.below hb2 HP7
          clear hb2 HP7
          go_wp2
          go_ret
          exact ⟨rfl, HP8.out.belowW⟩
      · have hlt1 : decide (k < len1) = false := by simpa using hlt
        have ok := HOk.out
        obtain ⟨t, u, v, M, e1, nt, m1, ex, hl, ff⟩ := split_step (most := 1000) (y := ⟨yc, yk, yh, yn⟩) ok.fit ok.ck (by have := ok.len; omega)
        have E1 := Lib.hid e1
        have E2 := Lib.hid (split_old (most := 1000) (y := ⟨yc, yk, yh, yn⟩) (ex.in ok.ck) nt m1)
        have s1 : (u != v) = true := by simpa using (m1.lt ff).2.2.2.2
        have suu := beq_self_eq_true u
        have svv := beq_self_eq_true v
        have HWf := Lib.hid (ok.wf (by omega))
        have ha := HRa.out
        have c0 := cell_of_row wr _ 0 _ _ _ ha
        have c1 := cell_of_row wr _ 1 _ _ _ ha
        have c2 := cell_of_row wr _ 2 _ _ _ ha
        have c3 := cell_of_row wr _ 3 _ _ _ ha
        simp at c0 c1 c2 c3
        clear ok e1 nt m1 ex hl ff ha hk hlt
        go_wp2_with fail
        refine (HP.out.splitP (gR g2) HWf.out E1.out).mono ?_
        rintro e w6 ⟨rfl, hp, hkk⟩
        have rb := (hkk _ (.inr rfl)).trans HRb.out
        have d0 := cell_of_row w6 _ 0 _ _ _ rb
        have d1 := cell_of_row w6 _ 1 _ _ _ rb
        have d2 := cell_of_row w6 _ 2 _ _ _ rb
        have d3 := cell_of_row w6 _ 3 _ _ _ rb
        simp at d0 d1 d2 d3
        have HP6 := Lib.hid hp
        clear hp hkk rb HP c0 c1 c2 c3
        go_wp2_with fail
        refine (HP6.out.splitP (gR g2) HWf.out E2.out).mono ?_
        rintro e w7 ⟨rfl, hp, hkk⟩
        have HP7 : Hid (J (At2 w4.heap.size w5.heap.size) w g1 g2 M L0 w7) := Lib.hid hp
        clear hp hkk HP6 d0 d1 d2 d3
        go_wp2_with fail
        refine (fixed_any _).mono ?_
        rintro e w8 ⟨rfl, hb2⟩
        have HP8 := J.below hb2 HP7
        clear hb2 HP7
        go_wp2
        go_ret
        exact ⟨rfl, HP8.out.belowW⟩

set_option maxRecDepth 100000 in
theorem lifted (os : Os) (started : os.Started) (H : Type) (enc : TypeId × Value → H) :
    ReturnsInHanded {} Try.checked os 4 .any (Rows.symBothSpec.pre6 enc Try.prog Try.f4 Rows.symBothRow.domain false) (Rows.symBothSpec.post enc Try.prog Try.f4 false true false false) := by
  refine returnsInHanded_of_change (C := Try.checked) own started (by kernel_rfl) Try.func4
    (ChangeSpec.witness6 (enc := enc) (C := Try.checked) false ⟨#[], #[.slice none 0 0, .slice none 0 0], []⟩ 8 (by kernel_rfl) (by kernel_rfl) (by kernel_rfl) (by kernel_rfl)) ?_
  intro W base args ds gs before hval0 hW hcnd _
  have hval : ∀ (j : Nat) t v, Try.f4.params[j]? = some t → args[j]? = some v → Value.okWide Try.prog W .any base t v := hval0
  have hW' := hW
  obtain ⟨p, q, hA0, hV, rfl, hfz, hnd⟩ := hW
  have hA : DataW.TrodAll enc Try.prog W 0 (fun _ => true) true Try.f4.params.toList args.toList ds p := hA0
  rw [Try.params4] at hA hval
  obtain ⟨v0, vs0, d0, ds0, p0, q0, hargs, rfl, rfl, h0, r0⟩ := trodAll_cons hA
  obtain ⟨v1, vs1, d1, ds1, p1, q1, rfl, rfl, rfl, h1, r1⟩ := trodAll_cons r0
  obtain ⟨rfl, rfl, rfl⟩ := trodAll_nil r1
  obtain rfl : args = #[v0, v1] := by cases args; simp_all
  obtain ⟨rfl, rfl⟩ := trodVars_none hV
  obtain ⟨a0, len0, cap0, rfl⟩ := okWide_slice Try.underlying22 (hval 0 22 v0 rfl rfl)
  have k0 := h0
  have lt0 : ∀ x ∈ p0, x.block < W.heap.size := by obtain ⟨m, hm⟩ := k0; exact DataW.trod_lt m _ _ _ hm
  obtain ⟨T0, w0⟩ : ∃ T, Terms W a0 len0 cap0 T := by
    obtain ⟨fuel, hf⟩ := h0
    exact open_terms (by simpa [Value.cells] using hf)
  obtain ⟨a1, len1, cap1, rfl⟩ := okWide_slice Try.underlying52 (hval 1 52 v1 rfl rfl)
  have k1 := h1
  have lt1 : ∀ x ∈ p1, x.block < W.heap.size := by obtain ⟨m, hm⟩ := k1; exact DataW.trod_lt m _ _ _ hm
  obtain ⟨Z1, w1⟩ : ∃ Z, Arrs .u8 2 W a1 len1 cap1 Z := by
    obtain ⟨fuel, hf⟩ := h1
    exact open_arrs Try.underlying52 Try.underlying54 Try.underlying5 (by kernel_rfl) (by kernel_rfl) (by omega) (by simpa [Value.cells] using hf)
  clear hA0 hval0
  refine (walk a0 len0 cap0 T0 a1 len1 cap1 Z1 W w0 w1).mono fun e W' ⟨he, bel⟩ => ?_
  subst he
  exact ⟨_, rfl, _, _, _, [], _, [], hW', trodAll_mk1 (shut_bool Try.underlying4 _), (trodAll_cons_mk (Below.trod laidOut (by kernel_rfl) (of_decide_eq_true (by kernel_rfl)) k0 bel lt0) (trodAll_cons_mk (Below.trod laidOut (by kernel_rfl) (of_decide_eq_true (by kernel_rfl)) k1 bel lt1) trodAll_mk0)), rfl, bel.frame _, fun h => by cases h⟩

theorem over : Rows.symBothRow.holds Try.pinned (OpenSpec.ofChange Rows.symBothSpec) :=
  OpenClaim.holds_of_wide 4 Try.f4 rfl rfl rfl rfl rfl rfl rfl ⟨rfl, rfl, rfl, rfl, rfl⟩ rfl rfl rfl rfl rfl (by kernel_rfl) Try.func4 (by kernel_rfl)
    (of_decide_eq_true (by kernel_rfl)) (by unfold Func.isWrapper; first | (rw [if_pos (by decide +kernel)]; kernel_rfl) | (rw [if_neg (by decide +kernel)]; exact ⟨rfl, rfl⟩))
    (fun os started H enc _ => lifted os started H enc)

theorem proved : Rows.SymBothSaid := over
#print axioms proved
end Go.Proofs.Ytlejejeflgnglaa.symBoth
