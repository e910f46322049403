/- What one of two endpoints begins the other one opens; what is finished is the same session, with the best version of both offers, for every input. -/
import Derived.Test.YtgeonppckeiceaaGreatDoorCards
import Derived.Test.YtgeonppckeiceaaGreatDoorTie
import Derived.Test.YtgeonppckeiceaaGreatDoorGp43
import Derived.Test.YtgeonppckeiceaaGreatDoorHandM
import Derived.Test.YtgeonppckeiceaaGreatDoorOffL
import Derived.Deep.CutRange
import Derived.Deep.CutBlock
import Derived.SizedLaws
import Derived.WalkKit
import Derived.ProofKit
import Derived.OpenShut
import Derived.ShutString
import Derived.ChangeOld
import Derived.Below
import Derived.LaidMore
import Derived.Stop.Joined
import Derived.SevenTiedAt
namespace Go.Proofs.YtgeonppckeiceaaGreatDoor.handMeets
open Go.ChangeShapes Go.WideShapes Go.ChangeAt Go.RowKit
open Go.ChangeMaps (open_string shut_string)
open Go.Proofs.YtgeonppckeiceaaGreatDoor
set_option linter.unusedVariables false
set_option linter.unusedSimpArgs false

theorem own : ownKnob Tryz.prog.godebug = none := by kernel_rfl
theorem laidOut : laidOutB Tryz.prog = true := by kernel_rfl


abbrev laidX {H : Type} : List (String × DataW H) := [("math/bits.deBruijn32tab", Rows.laid_math_bits_deBruijn32tab), ("math/bits.deBruijn64tab", Rows.laid_math_bits_deBruijn64tab), ("internal/strconv.uint64pow10", Rows.laid_internal_strconv_uint64pow10)]
theorem door_met (os : Os) (args : Array Value) : laidMetH Tryz.prog laidX ((World.doorLaid Tryz.prog 400 os).forCall (fun _ _ => 0) ⟨#[], args, []⟩).memory :=
  laidMetH_of_parts3 (fuel := 8) (laidMet_of_run' 8 (by kernel_rfl) (by kernel_rfl)) (by kernel_rfl) (by kernel_rfl)

def pk (z : Int) : Int := wrap64 (1 + (wrap64 z).tmod 255)
theorem pk_ok {ks : List Int} (h : ∀ x, x ∈ ks → (Lit.int .u8 x).wf = true) (k : Nat) : Ms.okV ((ks.take k).map pk) = true := by
  rw [Ms.okV_iff]
  intro x hx
  obtain ⟨z, hz, rfl⟩ := List.mem_map.1 hx
  exact pick_in z 255 (h z (List.mem_of_mem_take hz)) (by omega) (by omega)
theorem ok_wf {l : List Int} (h : Ms.okV l = true) : ∀ x, x ∈ l → (Lit.int .i64 x).wf = true := fun x hx => by
  have := Ms.okV_iff.1 h x hx
  have e1 : IntKind.i64.min = -9223372036854775808 := by decide
  have e2 : IntKind.i64.max = 9223372036854775807 := by decide
  simp only [Lit.wf, e1, e2, Bool.and_eq_true, decide_eq_true_eq]
  omega
theorem make_nil : Ms.makeE [] = 1 := by kernel_rfl
/-- One of both rows is none, or both make offers. -/
theorem cases_of {xs ys : List Int} {k1 k2 : Nat} {X Y : ByteArray} {eX eY : Int} (h1 : k1 = xs.length) (h2 : k2 = ys.length) (o1 : Ms.okV xs = true) (o2 : Ms.okV ys = true) (h8 : k1 ≤ 8 ∧ k2 ≤ 8) (hX : X.data.toList = Ms.makeS xs) (hY : Y.data.toList = Ms.makeS ys) (e1 : Ms.makeE xs = eX) (e2 : Ms.makeE ys = eY) :
    ((k1 = 0 ∧ eX = 1) ∨ (eX = 0 ∧ ((k1 : Int) == 0) = false)) ∧ ((k2 = 0 ∧ eY = 1) ∨ (eY = 0 ∧ ((k2 : Int) == 0) = false)) ∧ ¬ (eX = 0 ∧ eY = 0) ∨ (eX = 0 ∧ eY = 0 ∧ Ms.rightB X.data.toList = true ∧ Ms.rightB Y.data.toList = true) := by
  have f : ∀ {l : List Int} {n : Nat} {T : ByteArray} {e : Int}, n = l.length → Ms.okV l = true → n ≤ 8 → T.data.toList = Ms.makeS l → Ms.makeE l = e → (n = 0 ∧ e = 1) ∨ (e = 0 ∧ ((n : Int) == 0) = false ∧ Ms.rightB T.data.toList = true) := by
    intro l n T e hn ho h8 hT he
    by_cases hl : l = []
    · subst hl
      exact .inl ⟨hn, by rw [← he]; exact make_nil⟩
    · obtain ⟨_, _, g3, g4⟩ := Ms.make_good ho hl (by omega)
      have hp := List.length_pos_iff.2 hl
      exact .inr ⟨by rw [← he, g3], by simp; omega, by rw [hT]; exact g4⟩
  rcases f h1 o1 h8.1 hX e1 with a | a <;> rcases f h2 o2 h8.2 hY e2 with b | b
  · exact .inl ⟨.inl a, .inl b, by omega⟩
  · exact .inl ⟨.inl a, .inr ⟨b.1, b.2.1⟩, by omega⟩
  · exact .inl ⟨.inr ⟨a.1, a.2.1⟩, .inl b, by omega⟩
  · exact .inr ⟨a.1, b.1, a.2.2, b.2.2⟩
set_option maxHeartbeats 40000000 in
set_option maxRecDepth 200000 in
theorem walkN (a0 a1 : Option Addr) (len0 cap0 len1 cap1 : Nat) (ks0 ks1 : List Int) {st : Nat} (w : World) (hl0 : ks0.length = len0) (hl1 : ks1.length = len1) (hr0 : Ms.RowAt .u8 w a0 cap0 ks0) (hr1 : Ms.RowAt .u8 w a1 cap1 ks1) (hw0 : ∀ x, x ∈ ks0 → (Lit.int .u8 x).wf = true) (hw1 : ∀ x, x ∈ ks1 → (Lit.int .u8 x).wf = true) (HST2 : Hid (st ≤ 18446744073709551615)) (HLs : Hid ((wrap64 ((len0 : Int) + (len1 : Int))).tmod 2 = 0 ∨ (wrap64 ((len0 : Int) + (len1 : Int))).tmod 2 = 1)) : Calls Tryz.prog 4 #[.slice a0 len0 cap0, .slice a1 len1 cap1, .int .u64 (st : Int)] w fun e w' => e = .returned (.bool true) ∧ Below w.heap.size w w' := by
  have HL := Lib.hid (And.intro hl0 hl1)
  have HR0 := Lib.hid hr0
  have HR1 := Lib.hid hr1
  have HW0 := Lib.hid hw0
  have HW1 := Lib.hid hw1
  clear hl0 hl1 hr0 hr1 hw0 hw1
  have gN := NoS.good w.heap.size
  go_enter Tryz.func4, Tryz.ntmps4
  go_wp2_with fail
  refine (two_k w).mono ?_
  rintro e w1 ⟨g, rfl, h1⟩
  have gP := PSq.good w.heap.size g 5000
  have HC := Lib.hid h1
  clear h1
  replace HC := Lib.hid (HC.out.boxB gP gN #[.int .i64 1, .int .i64 2, .int .i64 3, .int .i64 4] 90 (b := w1.heap.size) (by simp))
  replace HC := Lib.hid (HC.out.boxB gP gN #[.int .i64 17, .int .i64 18, .int .i64 5, .int .i64 6, .int .i64 15, .int .i64 16, .int .i64 5, .int .i64 6] 91 (b := w1.heap.size + 1) (by simp))
  go_upto_region 5 with fail
  generalize hwz : ((w1.alloc (.cells #[.int .i64 1, .int .i64 2, .int .i64 3, .int .i64 4] 90 : Obj)).alloc (.cells #[.int .i64 17, .int .i64 18, .int .i64 5, .int .i64 6, .int .i64 15, .int .i64 16, .int .i64 5, .int .i64 6] 91 : Obj)) = wz at HC ⊢
  clear hwz
  have HLo : Hid (Below w.heap.size w wz) := Lib.hid HC.out.low
  go_upto_block 0 with fail
  have HST : Hid (Ms.RowsOk wz.heap.size [(.slice (some ⟨wz.heap.size, 0, none⟩) 0 0, (ks0.take 0).map pk), (.slice (some ⟨wz.heap.size + 1, 0, none⟩) 0 0, [])] ((wz.alloc (.cells #[] 3)).alloc (.cells #[] 3))) := Lib.hid (by
    have h1 := (Ms.RowsOk.nil wz.heap.size wz).lit (Nat.le_refl _) [] 0 rfl (by omega) #[] rfl
    have h2 := h1.lit (by simp) [] 0 rfl (by omega) #[] rfl
    have h3 := h2.swap
    simpa using h3)
  go_cut [11, 13] from 45 to 64 (fun s i wx => i = i ∧ ∃ (k : Nat) (a : Option Addr) (ca : Nat), s = .slice a k ca ∧ k = min len0 8 ∧ Hid (Ms.RowsOk wz.heap.size [(.slice a k ca, (ks0.take k).map pk), (.slice (some ⟨wz.heap.size + 1, 0, none⟩) 0 0, [])] wx) ∧ Hid (Below wz.heap.size wz wx))
  case first =>
    go_wp2_with fail
    go_loopw [11, 13] (fun s i wr => ∃ (k : Nat) (a : Option Addr) (ca : Nat), k ≤ 8 ∧ k ≤ len0 ∧ i = .int .i64 k ∧ s = .slice a k ca ∧ Hid (Ms.RowsOk wz.heap.size [(.slice a k ca, (ks0.take k).map pk), (.slice (some ⟨wz.heap.size + 1, 0, none⟩) 0 0, [])] wr) ∧ Hid (Below wz.heap.size wz wr)) (fun _ j _ => 8 - (intOf j).toNat)
    case atStart => exact ⟨0, some ⟨wz.heap.size, 0, none⟩, 0, Nat.zero_le _, Nat.zero_le _, rfl, rfl, HST, Lib.hid ((below_alloc wz _).trans ((Below.refl _ _).alloc (by simp) _))⟩
    case round =>
      obtain ⟨k, a, ca, hk1, hk2, rfl, rfl, HRW, HB⟩ := hrel
      by_cases hlt : k < len0 ∧ k < 8
      · obtain ⟨h1, h2⟩ := hlt
        obtain ⟨q1, q2, bk, off, q3⟩ := HR0.out
        obtain ⟨hqa, hc⟩ := q3 k (by rw [HL.out.1]; exact h1)
        subst hqa
        have htk : (ks0.take (k + 1)).map pk = (ks0.take k).map pk ++ [pk (ks0.getD k 0)] := by
          have hk : k < ks0.length := by rw [HL.out.1]; exact h1
          have e : ks0.take (k + 1) = ks0.take k ++ [ks0.getD k 0] := by
            rw [List.take_add_one]
            simp [List.getD, hk]
          rw [e, List.map_append]
          rfl
        generalize ks0.getD k 0 = z at htk hc
        have HC9 := Lib.hid hc
        have HTK := Lib.hid htk
        have hc2 : wr.cell? ⟨bk, off + k, none⟩ = some (.int .u8 z) := ((HLo.out.trans (HB.out.mono HLo.out.size)).cell (block_lt_of_cell hc)).trans hc
        clear hc q1 q2 q3 htk
        have HLN : Hid (((ks0.take k).map pk).length = k) := Lib.hid (by rw [List.length_map, List.length_take, HL.out.1]; omega)
        have e1 : decide (k < len0) = true := by simpa using h1
        have e2 : decide (k < 8) = true := by simpa using h2
        have e3 : decide ((k : Int) < 8) = true := decide_eq_true (by omega)
        have h3 : (k : Int) < (len0 : Int) := by omega
        have h4 : (k : Int) < 8 := by omega
        have h5 : wrap64 ((k : Int) + 1) = (k : Int) + 1 := by unfold wrap64; omega
        have HI := Lib.hid (And.intro h1 h2)
        clear h1 h2 hk1 hk2
        go_wp2_with (at_builtin; refine Ms.wpList_push rfl (.tmp 55) (.tmp 63) rfl wz.heap.size [] [(.slice (some ⟨wz.heap.size + 1, 0, none⟩) 0 0, [])] _ ((ks0.take k).map pk) (pk z) wr HRW.out rfl rfl k HLN.out (by have := HI.out; omega) HB.out.size ?_; intro g3 cap3 w6 hR6 hB6; have HR6 := Lib.hid hR6; have HB6 := Lib.hid (HB.out.trans hB6); clear hR6 hB6)
        go_roundw
        case rel => exact ⟨k + 1, some ⟨g3, 0, none⟩, cap3, by have := HI.out; omega, by have := HI.out; omega, by have := HI.out; go_num, rfl, Lib.hid (by rw [HTK.out]; exact HR6.out), HB6⟩
        case measure => have := HI.out; simp [intOf]; omega
      · have e12 : decide (k < len0) = false ∨ (decide (k < len0) = true ∧ decide ((k : Int) < 8) = false) := by
          simp only [decide_eq_false_iff_not, decide_eq_true_eq]
          omega
        have HK := Lib.hid (show k = min len0 8 by omega)
        clear hlt hk1 hk2
        rcases e12 with e1 | ⟨e1, e2⟩
        all_goals
          go_wp2_with fail
          go_meet
          exact ⟨trivial, k, a, ca, rfl, HK.out, HRW, HB⟩
  case rest =>
    obtain ⟨_, n1, aA, cA, rfl, hk1, HRA, HBA⟩ := hcut
    have HK1 := Lib.hid hk1
    clear hk1 HST
    go_upto_block 2 with fail
    go_cut [12, 14] from 65 to 84 (fun s i wx => i = i ∧ ∃ (k : Nat) (a : Option Addr) (ca : Nat), s = .slice a k ca ∧ k = min len1 8 ∧ Hid (Ms.RowsOk wz.heap.size [(.slice aA n1 cA, (ks0.take n1).map pk), (.slice a k ca, (ks1.take k).map pk)] wx) ∧ Hid (Below wz.heap.size wz wx))
    case first =>
      go_wp2_with fail
      go_loopw [12, 14] (fun s i wr => ∃ (k : Nat) (a : Option Addr) (ca : Nat), k ≤ 8 ∧ k ≤ len1 ∧ i = .int .i64 k ∧ s = .slice a k ca ∧ Hid (Ms.RowsOk wz.heap.size [(.slice aA n1 cA, (ks0.take n1).map pk), (.slice a k ca, (ks1.take k).map pk)] wr) ∧ Hid (Below wz.heap.size wz wr)) (fun _ j _ => 8 - (intOf j).toNat)
      case atStart => exact ⟨0, some ⟨wz.heap.size + 1, 0, none⟩, 0, Nat.zero_le _, Nat.zero_le _, rfl, rfl, Lib.hid (by simpa using HRA.out), HBA⟩
      case round =>
        obtain ⟨k, a, ca, hk1, hk2, rfl, rfl, HRW, HB⟩ := hrel
        by_cases hlt : k < len1 ∧ k < 8
        · obtain ⟨h1, h2⟩ := hlt
          obtain ⟨q1, q2, bk, off, q3⟩ := HR1.out
          obtain ⟨hqa, hc⟩ := q3 k (by rw [HL.out.2]; exact h1)
          subst hqa
          have htk : (ks1.take (k + 1)).map pk = (ks1.take k).map pk ++ [pk (ks1.getD k 0)] := by
            have hk : k < ks1.length := by rw [HL.out.2]; exact h1
            have e : ks1.take (k + 1) = ks1.take k ++ [ks1.getD k 0] := by
              rw [List.take_add_one]
              simp [List.getD, hk]
            rw [e, List.map_append]
            rfl
          generalize ks1.getD k 0 = z at htk hc
          have HC9 := Lib.hid hc
          have HTK := Lib.hid htk
          have hc2 : wr.cell? ⟨bk, off + k, none⟩ = some (.int .u8 z) := ((HLo.out.trans (HB.out.mono HLo.out.size)).cell (block_lt_of_cell hc)).trans hc
          clear hc q1 q2 q3 htk
          have HLN : Hid (((ks1.take k).map pk).length = k) := Lib.hid (by rw [List.length_map, List.length_take, HL.out.2]; omega)
          have e1 : decide (k < len1) = true := by simpa using h1
          have e2 : decide (k < 8) = true := by simpa using h2
          have e3 : decide ((k : Int) < 8) = true := decide_eq_true (by omega)
          have h3 : (k : Int) < (len1 : Int) := by omega
          have h4 : (k : Int) < 8 := by omega
          have h5 : wrap64 ((k : Int) + 1) = (k : Int) + 1 := by unfold wrap64; omega
          have HI := Lib.hid (And.intro h1 h2)
          clear h1 h2 hk1 hk2
          go_wp2_with (at_builtin; refine Ms.wpList_push rfl (.tmp 75) (.tmp 83) rfl wz.heap.size [(.slice aA n1 cA, (ks0.take n1).map pk)] [] _ ((ks1.take k).map pk) (pk z) wr HRW.out rfl rfl k HLN.out (by have := HI.out; omega) HB.out.size ?_; intro g3 cap3 w6 hR6 hB6; have HR6 := Lib.hid hR6; have HB6 := Lib.hid (HB.out.trans hB6); clear hR6 hB6)
          go_roundw
          case rel => exact ⟨k + 1, some ⟨g3, 0, none⟩, cap3, by have := HI.out; omega, by have := HI.out; omega, by have := HI.out; go_num, rfl, Lib.hid (by rw [HTK.out]; exact HR6.out), HB6⟩
          case measure => have := HI.out; simp [intOf]; omega
        · have e12 : decide (k < len1) = false ∨ (decide (k < len1) = true ∧ decide ((k : Int) < 8) = false) := by
            simp only [decide_eq_false_iff_not, decide_eq_true_eq]
            omega
          have HK := Lib.hid (show k = min len1 8 by omega)
          clear hlt hk1 hk2
          rcases e12 with e1 | ⟨e1, e2⟩
          all_goals
            go_wp2_with fail
            go_meet
            exact ⟨trivial, k, a, ca, rfl, HK.out, HRW, HB⟩
    case rest =>
      obtain ⟨_, n2, aB, cB, rfl, hk2, HRB, HBB⟩ := hcut
      have HK2 := Lib.hid hk2
      clear hk2 HRA HBA
      have HLA : Hid (n1 = ((ks0.take n1).map pk).length) := Lib.hid (by have := HK1.out; rw [List.length_map, List.length_take, HL.out.1]; omega)
      have HLB : Hid (n2 = ((ks1.take n2).map pk).length) := Lib.hid (by have := HK2.out; rw [List.length_map, List.length_take, HL.out.2]; omega)
      have HOA : Hid (Ms.okV ((ks0.take n1).map pk) = true) := Lib.hid (pk_ok HW0.out n1)
      have HOB : Hid (Ms.okV ((ks1.take n2).map pk) = true) := Lib.hid (pk_ok HW1.out n2)
      have HRX : Hid (Ms.RowAt .i64 wc aA cA ((ks0.take n1).map pk)) := Lib.hid (HRB.out.rowAt (n := n1) (by simp)).2
      have HRY : Hid (Ms.RowAt .i64 wc aB cB ((ks1.take n2).map pk)) := Lib.hid (HRB.out.rowAt (n := n2) (by simp)).2
      have H8 : Hid (n1 ≤ 8 ∧ n2 ≤ 8) := Lib.hid (by have := HK1.out; have := HK2.out; omega)
      generalize (ks0.take n1).map pk = xs at HLA HOA HRX
      generalize (ks1.take n2).map pk = ys at HLB HOB HRY
      clear HRB HK1 HK2 HR0 HR1 HW0 HW1
      obtain ⟨X, hX⟩ := Ms.text_of (Ms.makeS xs)
      obtain ⟨Y, hY⟩ := Ms.text_of (Ms.makeS ys)
      obtain ⟨eX, heX⟩ : ∃ e, Ms.makeE xs = e := ⟨_, rfl⟩
      obtain ⟨eY, heY⟩ : ∃ e, Ms.makeE ys = e := ⟨_, rfl⟩
      have HX := Lib.hid hX
      have HY := Lib.hid hY
      have HEX := Lib.hid heX
      have HEY := Lib.hid heY
      clear hX hY heX heY
      go_wp2_with fail
      refine (Ms.make_any aA n1 cA xs _ HLA.out HRX.out (ok_wf HOA.out) X eX HX HEX).mono ?_
      rintro e v1 ⟨rfl, hb⟩
      have J1 := Lib.hid hb
      clear hb
      go_wp2_with fail
      refine (Ms.make_any aB n2 cB ys _ HLB.out (HRY.out.below J1.out) (ok_wf HOB.out) Y eY HY HEY).mono ?_
      rintro e v2 ⟨rfl, hb⟩
      have J2 : Hid (Below wz.heap.size wz v2) := Lib.hid ((HBB.out.trans (J1.out.mono HBB.out.size)).trans (hb.mono (HBB.out.trans (J1.out.mono HBB.out.size)).size))
      clear hb J1 HRX HRY HBB
      have HCS := Lib.hid (cases_of HLA.out HLB.out HOA.out HOB.out H8.out HX.out HY.out HEX.out HEY.out)
      clear HX HY HEX HEY HLA HLB HOA HOB H8
      obtain ⟨z1, z2, zn⟩ | ⟨rfl, rfl, hX, hY⟩ := HCS.out
      · clear HCS
        rcases z1 with ⟨rfl, rfl⟩ | ⟨rfl, z1⟩ <;> rcases z2 with ⟨rfl, rfl⟩ | ⟨rfl, z2⟩
        rotate_left 3
        · exact absurd ⟨rfl, rfl⟩ zn
        all_goals
          clear zn
          go_wp2_with fail
          refine (fixed_any _).mono ?_
          rintro e w' ⟨rfl, hb⟩
          go_wp2_with fail
          go_ret
          exact ⟨rfl, HLo.out.trans ((J2.out.trans (hb.mono J2.out.size)).mono HLo.out.size)⟩
      · clear HCS
        obtain ⟨vv, hvv⟩ : ∃ v, Ms.bestV Y.data.toList X.data.toList = v := ⟨_, rfl⟩
        obtain ⟨ev, hev⟩ : ∃ e, Ms.bestE Y.data.toList X.data.toList = e := ⟨_, rfl⟩
        have hc := Ms.best_comm X.data.toList Y.data.toList
        have HBI : Hid (Ms.BestIs X Y vv ev) := Lib.hid ⟨by rw [hc.1, hvv], by rw [hc.2, hev]⟩
        have HZ : Hid (X.size ≤ maxLen ∧ Y.size ≤ maxLen ∧ X.size ≤ 1000) := Lib.hid (by
          have a := (Ms.right_iff.1 hX).2.1
          have b := (Ms.right_iff.1 hY).2.1
          rw [Ms.text_size] at a b
          have : (1000 : Nat) ≤ maxLen := by decide
          omega)
        obtain ⟨sl, hsl⟩ : ∃ sl, (wrap64 ((len0 : Int) + (len1 : Int))).tmod 2 = sl := ⟨_, rfl⟩
        have hs : sl = 0 ∨ sl = 1 := by have := HLs.out; rw [← hsl]; exact this
        obtain ⟨hmA, hmB⟩ := meet_is (stamp := st) hs HST2.out hX hY
        have HM := Lib.hid (And.intro hmA hmB)
        rw [hvv, hev] at HM
        have HSL := Lib.hid hsl
        have HS := Lib.hid hs
        clear hvv hev hc hX hY hsl hs hmA hmB
        go_wp2_with fail
        refine (Ms.best_any X Y _ HZ.out.1 HZ.out.2.1 vv ev HBI).mono ?_
        rintro e v3 ⟨rfl, hb⟩
        have J3 : Hid (Below wz.heap.size wz v3) := Lib.hid (J2.out.trans (hb.mono J2.out.size))
        clear hb J2
        replace HC := Lib.hid (HC.out.below gP gN J3.out)
        clear J3
        by_cases h0 : ev = 0
        · subst h0
          obtain ⟨m, q, y, r, u, L1, L2, L3, L4, hS⟩ := HM.out.1 rfl
          have S := Lib.hid hS
          have HA := Lib.hid hS.a
          clear hS HM HBI
          obtain ⟨mef0, mef1, mef2, mef3⟩ := cell4s (HC.out.kept (w1.heap.size) (.cells #[.int .i64 1, .int .i64 2, .int .i64 3, .int .i64 4] 90 (0, 0) : Obj) (by simp))
          obtain ⟨ppf0, ppf1, ppf2, ppf3, ppf4, ppf5, ppf6, ppf7⟩ := cell8s (HC.out.kept (w1.heap.size + 1) (.cells #[.int .i64 17, .int .i64 18, .int .i64 5, .int .i64 6, .int .i64 15, .int .i64 16, .int .i64 5, .int .i64 6] 91 (0, 0) : Obj) (by simp))
          go_wp2_with fail
          clear mef0 mef1 mef2 mef3 ppf0 ppf1 ppf2 ppf3 ppf4 ppf5 ppf6 ppf7
          have hZ := HZ.out.2.2
          have hs := HS.out
          have hst := HST2.out
          rw [HSL.out]
          refine (HC.out.hbegin gN (a1 := 1) (a2 := 2) (d0 := 7) (d1 := 8) (d2 := 9) (p := pB) (m0 := mIn X sl) (stamp := st) k1 k2 pB_wf (mIn_wf hZ (by omega) (by omega)) (by omega) k7 k8 k9 HA.out.c1).mono ?_
          rintro e w31 ⟨rfl, h⟩
          replace HC := Lib.hid h
          clear h hZ hs hst
          simp only [Ms.Ms.v, Ms.Ms.cl, Pnd.v]
          replace HC := Lib.hid (HC.out.boxB gP gN #[.int .i64 (m.i 0), .int .u64 (m.i 1), .int .u64 (m.i 2), .string m.s, .int .i64 (m.i 4), .int .i64 (m.i 5), .int .i64 (m.i 6), .int .i64 (m.i 7), .int .i64 (m.i 8), .int .i64 (m.i 9), .int .i64 (m.i 10), .int .u64 (m.i 11), .int .u64 (m.i 12)] 25 (b := w31.heap.size) (by simp))
          replace HC := Lib.hid (HC.out.boxB gP gN #[.int .i64 q.y.CK, .int .i64 q.y.K, .int .i64 q.y.H, .int .u64 q.y.N, .int .i64 q.e, .int .i64 q.ek, .string q.offer] 47 (b := w31.heap.size + 1) (by simp))
          obtain ⟨meg0, meg1, meg2, meg3⟩ := cell4s (HC.out.kept (w1.heap.size) (.cells #[.int .i64 1, .int .i64 2, .int .i64 3, .int .i64 4] 90 (0, 0) : Obj) (by simp))
          obtain ⟨ppg0, ppg1, ppg2, ppg3, ppg4, ppg5, ppg6, ppg7⟩ := cell8s (HC.out.kept (w1.heap.size + 1) (.cells #[.int .i64 17, .int .i64 18, .int .i64 5, .int .i64 6, .int .i64 15, .int .i64 16, .int .i64 5, .int .i64 6] 91 (0, 0) : Obj) (by simp))
          replace HC := Lib.hid (HC.out.boxB gP gN #[.int .i64 15, .int .i64 16, .int .i64 5, .int .i64 6] 43 (b := w31.heap.size + 1 + 1) (by simp))
          obtain ⟨mf0, mf1, mf2, mf3, mf4, mf5, mf6, mf7, mf8, mf9, mf10, mf11, mf12⟩ := cell13s (HC.out.kept (w31.heap.size) (.cells #[.int .i64 (m.i 0), .int .u64 (m.i 1), .int .u64 (m.i 2), .string m.s, .int .i64 (m.i 4), .int .i64 (m.i 5), .int .i64 (m.i 6), .int .i64 (m.i 7), .int .i64 (m.i 8), .int .i64 (m.i 9), .int .i64 (m.i 10), .int .u64 (m.i 11), .int .u64 (m.i 12)] 25 (0, 0) : Obj) (by simp))
          go_wp2_with fail
          clear meg0 meg1 meg2 meg3 ppg0 ppg1 ppg2 ppg3 ppg4 ppg5 ppg6 ppg7 mf0 mf1 mf2 mf3 mf4 mf5 mf6 mf7 mf8 mf9 mf10 mf11 mf12
          have HR : ∀ bs, ((w31.heap.size + 1 + 1, (.cells #[.int .i64 15, .int .i64 16, .int .i64 5, .int .i64 6] 43 (0, 0) : Obj)) : Nat × Obj) ∈ bs → RowB bs (some ⟨w31.heap.size + 1 + 1, 0, none⟩) [pA] := fun bs hm W hk => row_one (p := pA) (hk (w31.heap.size + 1 + 1) (.cells #[.int .i64 15, .int .i64 16, .int .i64 5, .int .i64 6] 43 (0, 0) : Obj) hm)
          refine (HC.out.hopen gN (x := 3) (y := 4) (ps := [pA]) (offer := Y) k3 k4 (by rfl) (by decide) (HR _ (by simp)) (by simp; exact pA_wf) HZ.out.2.1 HA.out.mw HA.out.c2).mono ?_
          rintro e w32 ⟨rfl, h⟩
          replace HC := Lib.hid h
          clear h HR
          simp only [Opd.v]
          replace HC := Lib.hid (HC.out.boxB gP gN #[.int .i64 y.CK, .int .i64 y.K, .int .i64 y.H, .int .u64 y.N, .int .i64 0, .int .i64 vv, .int .u64 st, .int .i64 (m.i 6), .int .i64 (m.i 7), .int .i64 15] 64 (b := w32.heap.size) (by simp))
          have t1 : (m.s.toList != X.toList) = false := by rw [HA.out.ms]; simp
          have t2 : (m.i 4 != (wrap64 ((len0 : Int) + (len1 : Int))).tmod 2) = false := by rw [HA.out.m4, HSL.out]; simp
          obtain ⟨mf0, mf1, mf2, mf3, mf4, mf5, mf6, mf7, mf8, mf9, mf10, mf11, mf12⟩ := cell13s (HC.out.kept (w31.heap.size) (.cells #[.int .i64 (m.i 0), .int .u64 (m.i 1), .int .u64 (m.i 2), .string m.s, .int .i64 (m.i 4), .int .i64 (m.i 5), .int .i64 (m.i 6), .int .i64 (m.i 7), .int .i64 (m.i 8), .int .i64 (m.i 9), .int .i64 (m.i 10), .int .u64 (m.i 11), .int .u64 (m.i 12)] 25 (0, 0) : Obj) (by simp))
          go_upto_region 25 with fail
          clear mf0 mf1 mf2 mf3 mf4 mf5 mf6 mf7 mf8 mf9 mf10 mf11 mf12
          clear t1 t2
          obtain ⟨of0, of1, of2, of3, of4, of5, of6, of7, of8, of9⟩ := cell10s (HC.out.kept (w32.heap.size) (.cells #[.int .i64 y.CK, .int .i64 y.K, .int .i64 y.H, .int .u64 y.N, .int .i64 0, .int .i64 vv, .int .u64 st, .int .i64 (m.i 6), .int .i64 (m.i 7), .int .i64 15] 64 (0, 0) : Obj) (by simp))
          go_wp2_with fail
          clear of0 of1 of2 of3 of4 of5 of6 of7 of8 of9
          refine (HC.out.hanswer gN (o := ⟨y, 0, vv, st, m.i 6, m.i 7, 15⟩) (fr := 9) (tt := 7) (d0 := 10) (d1 := 11) S.out.oy (u64_small (by omega) (by omega)) (u64_small (by omega) (by omega)) (i64_small (by omega) (by omega)) (i64_small (by omega) (by omega)) S.out.c3).mono ?_
          rintro e w33 ⟨rfl, h⟩
          replace HC := Lib.hid h
          clear h
          simp only [Ms.Ms.v, Ms.Ms.cl, Ses.v]
          replace HC := Lib.hid (HC.out.boxB gP gN #[.int .i64 (r.i 0), .int .u64 (r.i 1), .int .u64 (r.i 2), .string r.s, .int .i64 (r.i 4), .int .i64 (r.i 5), .int .i64 (r.i 6), .int .i64 (r.i 7), .int .i64 (r.i 8), .int .i64 (r.i 9), .int .i64 (r.i 10), .int .u64 (r.i 11), .int .u64 (r.i 12)] 25 (b := w33.heap.size) (by simp))
          replace HC := Lib.hid (HC.out.boxB gP gN #[.int .i64 u.h, .int .i64 u.send, .int .i64 u.recv, .int .i64 u.version] 75 (b := w33.heap.size + 1) (by simp))
          obtain ⟨mef0, mef1, mef2, mef3⟩ := cell4s (HC.out.kept (w1.heap.size) (.cells #[.int .i64 1, .int .i64 2, .int .i64 3, .int .i64 4] 90 (0, 0) : Obj) (by simp))
          obtain ⟨qf0, qf1, qf2, qf3, qf4, qf5, qf6⟩ := cell7s (HC.out.kept (w31.heap.size + 1) (.cells #[.int .i64 q.y.CK, .int .i64 q.y.K, .int .i64 q.y.H, .int .u64 q.y.N, .int .i64 q.e, .int .i64 q.ek, .string q.offer] 47 (0, 0) : Obj) (by simp))
          obtain ⟨rf0, rf1, rf2, rf3, rf4, rf5, rf6, rf7, rf8, rf9, rf10, rf11, rf12⟩ := cell13s (HC.out.kept (w33.heap.size) (.cells #[.int .i64 (r.i 0), .int .u64 (r.i 1), .int .u64 (r.i 2), .string r.s, .int .i64 (r.i 4), .int .i64 (r.i 5), .int .i64 (r.i 6), .int .i64 (r.i 7), .int .i64 (r.i 8), .int .i64 (r.i 9), .int .i64 (r.i 10), .int .u64 (r.i 11), .int .u64 (r.i 12)] 25 (0, 0) : Obj) (by simp))
          go_wp2_with fail
          clear mef0 mef1 mef2 mef3 qf0 qf1 qf2 qf3 qf4 qf5 qf6 rf0 rf1 rf2 rf3 rf4 rf5 rf6 rf7 rf8 rf9 rf10 rf11 rf12
          refine (HC.out.hfinish gN (x := 1) (y := 2) (p := q) (m := r) k1 S.out.qy ⟨by rw [S.out.qe]; exact i64_small (by omega) (by omega), by rw [S.out.qk]; exact i64_small (by omega) (by omega)⟩ S.out.rw S.out.c4).mono ?_
          rintro e w34 ⟨rfl, h⟩
          replace HC := Lib.hid h
          clear h
          simp only [Ses.v]
          replace HC := Lib.hid (HC.out.boxB gP gN #[.int .i64 u.h, .int .i64 u.recv, .int .i64 u.send, .int .i64 vv] 75 (b := w34.heap.size) (by simp))
          have t3 : (u.recv != u.send) = true := by simpa using S.out.un
          have t4 : (u.version == vv) = true := by rw [S.out.uv]; simp
          obtain ⟨of0, of1, of2, of3, of4, of5, of6, of7, of8, of9⟩ := cell10s (HC.out.kept (w32.heap.size) (.cells #[.int .i64 y.CK, .int .i64 y.K, .int .i64 y.H, .int .u64 y.N, .int .i64 0, .int .i64 vv, .int .u64 st, .int .i64 (m.i 6), .int .i64 (m.i 7), .int .i64 15] 64 (0, 0) : Obj) (by simp))
          obtain ⟨uf0, uf1, uf2, uf3⟩ := cell4s (HC.out.kept (w33.heap.size + 1) (.cells #[.int .i64 u.h, .int .i64 u.send, .int .i64 u.recv, .int .i64 u.version] 75 (0, 0) : Obj) (by simp))
          obtain ⟨vf0, vf1, vf2, vf3⟩ := cell4s (HC.out.kept (w34.heap.size) (.cells #[.int .i64 u.h, .int .i64 u.recv, .int .i64 u.send, .int .i64 vv] 75 (0, 0) : Obj) (by simp))
          go_wp2_with fail
          clear of0 of1 of2 of3 of4 of5 of6 of7 of8 of9 uf0 uf1 uf2 uf3 vf0 vf1 vf2 vf3
          refine (fixed_any _).mono ?_
          rintro e w' ⟨rfl, hb⟩
          go_wp2_with fail
          go_ret
          exact ⟨rfl, HC.out.low.trans (hb.mono HC.out.low.size)⟩
          all_goals exact absurd (by rw [HA.out.ms]) ‹¬ m.s.toList = X.toList›
        · obtain ⟨m, q, L1, L2, hS⟩ := HM.out.2 h0
          have HA := Lib.hid hS
          have z0 : (ev != 0) = true := by simpa using h0
          clear hS HM HBI h0
          obtain ⟨mef0, mef1, mef2, mef3⟩ := cell4s (HC.out.kept (w1.heap.size) (.cells #[.int .i64 1, .int .i64 2, .int .i64 3, .int .i64 4] 90 (0, 0) : Obj) (by simp))
          obtain ⟨ppf0, ppf1, ppf2, ppf3, ppf4, ppf5, ppf6, ppf7⟩ := cell8s (HC.out.kept (w1.heap.size + 1) (.cells #[.int .i64 17, .int .i64 18, .int .i64 5, .int .i64 6, .int .i64 15, .int .i64 16, .int .i64 5, .int .i64 6] 91 (0, 0) : Obj) (by simp))
          go_wp2_with fail
          clear mef0 mef1 mef2 mef3 ppf0 ppf1 ppf2 ppf3 ppf4 ppf5 ppf6 ppf7
          have hZ := HZ.out.2.2
          have hs := HS.out
          have hst := HST2.out
          rw [HSL.out]
          refine (HC.out.hbegin gN (a1 := 1) (a2 := 2) (d0 := 7) (d1 := 8) (d2 := 9) (p := pB) (m0 := mIn X sl) (stamp := st) k1 k2 pB_wf (mIn_wf hZ (by omega) (by omega)) (by omega) k7 k8 k9 HA.out.c1).mono ?_
          rintro e w31 ⟨rfl, h⟩
          replace HC := Lib.hid h
          clear h hZ hs hst
          simp only [Ms.Ms.v, Ms.Ms.cl, Pnd.v]
          replace HC := Lib.hid (HC.out.boxB gP gN #[.int .i64 (m.i 0), .int .u64 (m.i 1), .int .u64 (m.i 2), .string m.s, .int .i64 (m.i 4), .int .i64 (m.i 5), .int .i64 (m.i 6), .int .i64 (m.i 7), .int .i64 (m.i 8), .int .i64 (m.i 9), .int .i64 (m.i 10), .int .u64 (m.i 11), .int .u64 (m.i 12)] 25 (b := w31.heap.size) (by simp))
          replace HC := Lib.hid (HC.out.boxB gP gN #[.int .i64 q.y.CK, .int .i64 q.y.K, .int .i64 q.y.H, .int .u64 q.y.N, .int .i64 q.e, .int .i64 q.ek, .string q.offer] 47 (b := w31.heap.size + 1) (by simp))
          obtain ⟨meg0, meg1, meg2, meg3⟩ := cell4s (HC.out.kept (w1.heap.size) (.cells #[.int .i64 1, .int .i64 2, .int .i64 3, .int .i64 4] 90 (0, 0) : Obj) (by simp))
          obtain ⟨ppg0, ppg1, ppg2, ppg3, ppg4, ppg5, ppg6, ppg7⟩ := cell8s (HC.out.kept (w1.heap.size + 1) (.cells #[.int .i64 17, .int .i64 18, .int .i64 5, .int .i64 6, .int .i64 15, .int .i64 16, .int .i64 5, .int .i64 6] 91 (0, 0) : Obj) (by simp))
          replace HC := Lib.hid (HC.out.boxB gP gN #[.int .i64 15, .int .i64 16, .int .i64 5, .int .i64 6] 43 (b := w31.heap.size + 1 + 1) (by simp))
          obtain ⟨mf0, mf1, mf2, mf3, mf4, mf5, mf6, mf7, mf8, mf9, mf10, mf11, mf12⟩ := cell13s (HC.out.kept (w31.heap.size) (.cells #[.int .i64 (m.i 0), .int .u64 (m.i 1), .int .u64 (m.i 2), .string m.s, .int .i64 (m.i 4), .int .i64 (m.i 5), .int .i64 (m.i 6), .int .i64 (m.i 7), .int .i64 (m.i 8), .int .i64 (m.i 9), .int .i64 (m.i 10), .int .u64 (m.i 11), .int .u64 (m.i 12)] 25 (0, 0) : Obj) (by simp))
          go_wp2_with fail
          clear meg0 meg1 meg2 meg3 ppg0 ppg1 ppg2 ppg3 ppg4 ppg5 ppg6 ppg7 mf0 mf1 mf2 mf3 mf4 mf5 mf6 mf7 mf8 mf9 mf10 mf11 mf12
          have HR : ∀ bs, ((w31.heap.size + 1 + 1, (.cells #[.int .i64 15, .int .i64 16, .int .i64 5, .int .i64 6] 43 (0, 0) : Obj)) : Nat × Obj) ∈ bs → RowB bs (some ⟨w31.heap.size + 1 + 1, 0, none⟩) [pA] := fun bs hm W hk => row_one (p := pA) (hk (w31.heap.size + 1 + 1) (.cells #[.int .i64 15, .int .i64 16, .int .i64 5, .int .i64 6] 43 (0, 0) : Obj) hm)
          refine (HC.out.hopen gN (x := 3) (y := 4) (ps := [pA]) (offer := Y) k3 k4 (by rfl) (by decide) (HR _ (by simp)) (by simp; exact pA_wf) HZ.out.2.1 HA.out.mw HA.out.c2).mono ?_
          rintro e w32 ⟨rfl, h⟩
          replace HC := Lib.hid h
          clear h HR
          simp only [Opd.v, zeroOpd, zeroY]
          replace HC := Lib.hid (HC.out.boxB gP gN #[.int .i64 0, .int .i64 0, .int .i64 0, .int .u64 0, .int .i64 0, .int .i64 0, .int .u64 0, .int .i64 0, .int .i64 0, .int .i64 0] 64 (b := w32.heap.size) (by simp))
          have t1 : (m.s.toList != X.toList) = false := by rw [HA.out.ms]; simp
          have t2 : (m.i 4 != (wrap64 ((len0 : Int) + (len1 : Int))).tmod 2) = false := by rw [HA.out.m4, HSL.out]; simp
          obtain ⟨mf0, mf1, mf2, mf3, mf4, mf5, mf6, mf7, mf8, mf9, mf10, mf11, mf12⟩ := cell13s (HC.out.kept (w31.heap.size) (.cells #[.int .i64 (m.i 0), .int .u64 (m.i 1), .int .u64 (m.i 2), .string m.s, .int .i64 (m.i 4), .int .i64 (m.i 5), .int .i64 (m.i 6), .int .i64 (m.i 7), .int .i64 (m.i 8), .int .i64 (m.i 9), .int .i64 (m.i 10), .int .u64 (m.i 11), .int .u64 (m.i 12)] 25 (0, 0) : Obj) (by simp))
          go_wp2_with fail
          clear mf0 mf1 mf2 mf3 mf4 mf5 mf6 mf7 mf8 mf9 mf10 mf11 mf12
          refine (fixed_any _).mono ?_
          rintro e w' ⟨rfl, hb⟩
          go_wp2_with fail
          go_ret
          exact ⟨rfl, HC.out.low.trans (hb.mono HC.out.low.size)⟩
          all_goals exact absurd (by rw [HA.out.ms]) ‹¬ m.s.toList = X.toList›
theorem walk (a0 : Option Addr) (len0 cap0 : Nat) (z0 : List Int) (a1 : Option Addr) (len1 cap1 : Nat) (z1 : List Int) (a2 : Int) (w : World) (w0 : Ms.IsRow .u8 w a0 len0 cap0 z0) (w1 : Ms.IsRow .u8 w a1 len1 cap1 z1) (w2 : (Lit.int .u64 a2).wf = true) (l0 : len0 ≤ 140737488355328) (l1 : len1 ≤ 140737488355328) : Calls Tryz.prog 4 #[.slice a0 len0 cap0, .slice a1 len1 cap1, .int .u64 a2] w fun e w' => e = .returned (.bool true) ∧ Below w.heap.size w w' := by
  obtain ⟨ks0, hks0, hr0, hwf0, _⟩ := w0.row
  obtain ⟨ks1, hks1, hr1, hwf1, _⟩ := w1.row
  have b2 : 0 ≤ a2 ∧ a2 ≤ 18446744073709551615 := by
    have e1 : IntKind.u64.min = 0 := by decide
    have e2 : IntKind.u64.max = 18446744073709551615 := by decide
    simpa only [Lit.wf, e1, e2, Bool.and_eq_true, decide_eq_true_eq] using w2
  obtain ⟨st, rfl⟩ : ∃ n : Nat, a2 = (n : Int) := ⟨a2.toNat, by omega⟩
  exact walkN a0 a1 len0 cap0 len1 cap1 ks0 ks1 w hks0 hks1 hr0 hr1 hwf0 hwf1 (Lib.hid (by omega)) (Lib.hid (by
    rw [show wrap64 ((len0 : Int) + (len1 : Int)) = (len0 : Int) + (len1 : Int) by unfold wrap64; omega, Int.tmod_eq_emod_of_nonneg (by omega)]
    omega))
set_option maxRecDepth 100000 in
theorem lifted (os : Os) (started : os.Started) (H : Type) (enc : TypeId × Value → H) :
    ReturnsInHanded {} Tryz.checked os 4 .any (fun w args => (Rows.handMeetsSpec.pre enc Tryz.prog Tryz.f4 [] false w args ∧ laidMetH Tryz.prog laidX w) ∧ sizedMet enc Tryz.prog Tryz.f4 (OpenSpec.ofChange Rows.handMeetsSpec) false w args) (Rows.handMeetsSpec.post enc Tryz.prog Tryz.f4 false true false false) := by
  refine returnsInHanded_of_change_and (C := Tryz.checked) (X := fun w _ => laidMetH Tryz.prog laidX w) (fun _ _ _ hh h => h.of_heap hh) own started (by kernel_rfl) Tryz.func4
    (ChangeSpec.witness_shaped (enc := enc) (C := Tryz.checked) (os := os) (X := fun w _ => laidMetH Tryz.prog laidX w) false (World.doorLaid Tryz.prog 400 os) #[.slice none 0 0, .slice none 0 0, .int .u64 0] 8 rfl (World.shaped_of_RefB (by kernel_rfl) (by kernel_rfl)) (by kernel_rfl) (by kernel_rfl) (by kernel_rfl) (door_met os _)) ?_
  intro W base args ds gs before hval0 hW hcnd hsz0 _ _
  have hval : ∀ (j : Nat) t v, Tryz.f4.params[j]? = some t → args[j]? = some v → Value.okWide Tryz.prog W .any base t v := hval0
  have hW' := hW
  obtain ⟨p, q, hA0, hV, rfl, hfz, hnd⟩ := hW
  have hA : DataW.TrodAll enc Tryz.prog W 0 (fun _ => true) true Tryz.f4.params.toList args.toList ds p := hA0
  rw [Tryz.params4] at hA hval
  obtain ⟨v0, vs0, d0, ds0, p0, q0, hargs, rfl, rfl, h0, r0⟩ := trodAll_cons hA
  obtain ⟨v1, vs1, d1, ds1, p1, q1, rfl, rfl, rfl, h1, r1⟩ := trodAll_cons r0
  obtain ⟨v2, vs2, d2, ds2, p2, q2, rfl, rfl, rfl, h2, r2⟩ := trodAll_cons r1
  obtain ⟨rfl, rfl, rfl⟩ := trodAll_nil r2
  obtain rfl : args = #[v0, v1, v2] := by cases args; simp_all
  obtain ⟨rfl, rfl⟩ := trodVars_none hV
  obtain ⟨a0, len0, cap0, rfl⟩ := okWide_slice Tryz.underlying89 (hval 0 89 v0 rfl rfl)
  have k0 := h0
  have lt0 : ∀ x ∈ p0, x.block < W.heap.size := by obtain ⟨m, hm⟩ := k0; exact DataW.trod_lt m _ _ _ hm
  obtain ⟨z0, w0, g0⟩ : ∃ zs, Ms.IsRow .u8 W a0 len0 cap0 zs ∧ len0 ≤ 140737488355328 := by
    obtain ⟨fuel, hf⟩ := h0
    rcases open_ints Tryz.underlying89 Tryz.underlying5 (by kernel_rfl) hf with ⟨hcs, _⟩ | ⟨x, l, c, zs, hcs, _, hl, hm, hz, hx, hcell, hwz⟩
    · simp [Value.cells] at hcs
      obtain ⟨rfl, rfl, rfl⟩ := hcs
      exact ⟨[], .inl ⟨rfl, rfl, rfl, rfl⟩, by omega⟩
    · simp [Value.cells] at hcs
      obtain ⟨rfl, rfl, rfl⟩ := hcs
      have hx2 := hx
      simp only [Prod.mk.injEq] at hx2
      have hsz := hsz0
      rw [Tryz.params4] at hsz
      have hz2 : zs.length = cap0 := by simpa using hz
      have hr := sized_slice hsz (j := 0) (t := 89) (e := 5) rfl (by rw [hx2.1]; rfl) Tryz.underlying89
      rw [show Tryz.checked.prog.bytesOf 5 = 1 by kernel_rfl] at hr
      simp only [lits, List.length_map, List.length_take, List.length_drop, reachBytes] at hr
      exact ⟨zs, .inr ⟨_, rfl, hl, hm, hz2, hcell, hwz⟩, by omega⟩
  obtain ⟨a1, len1, cap1, rfl⟩ := okWide_slice Tryz.underlying89 (hval 1 89 v1 rfl rfl)
  have k1 := h1
  have lt1 : ∀ x ∈ p1, x.block < W.heap.size := by obtain ⟨m, hm⟩ := k1; exact DataW.trod_lt m _ _ _ hm
  obtain ⟨z1, w1, g1⟩ : ∃ zs, Ms.IsRow .u8 W a1 len1 cap1 zs ∧ len1 ≤ 140737488355328 := by
    obtain ⟨fuel, hf⟩ := h1
    rcases open_ints Tryz.underlying89 Tryz.underlying5 (by kernel_rfl) hf with ⟨hcs, _⟩ | ⟨x, l, c, zs, hcs, _, hl, hm, hz, hx, hcell, hwz⟩
    · simp [Value.cells] at hcs
      obtain ⟨rfl, rfl, rfl⟩ := hcs
      exact ⟨[], .inl ⟨rfl, rfl, rfl, rfl⟩, by omega⟩
    · simp [Value.cells] at hcs
      obtain ⟨rfl, rfl, rfl⟩ := hcs
      have hx2 := hx
      simp only [Prod.mk.injEq] at hx2
      have hsz := hsz0
      rw [Tryz.params4] at hsz
      have hz2 : zs.length = cap1 := by simpa using hz
      have hr := sized_slice hsz (j := 1) (t := 89) (e := 5) rfl (by rw [hx2.1]; rfl) Tryz.underlying89
      rw [show Tryz.checked.prog.bytesOf 5 = 1 by kernel_rfl] at hr
      simp only [lits, List.length_map, List.length_take, List.length_drop, reachBytes] at hr
      exact ⟨zs, .inr ⟨_, rfl, hl, hm, hz2, hcell, hwz⟩, by omega⟩
  obtain ⟨a2, rfl, rfl, rfl, w2⟩ := open_int Tryz.underlying23 (hval 2 23 v2 rfl rfl) h2
  clear hA0 hval0
  refine (walk a0 len0 cap0 z0 a1 len1 cap1 z1 a2 W w0 w1 w2 g0 g1).mono fun e W' ⟨he, bel⟩ => ?_
  subst he
  exact ⟨_, rfl, _, _, _, [], _, [], hW', trodAll_mk1 (shut_bool Tryz.underlying4 _), (trodAll_cons_mk (Below.trod laidOut (by kernel_rfl) (of_decide_eq_true (by kernel_rfl)) k0 bel lt0) (trodAll_cons_mk (Below.trod laidOut (by kernel_rfl) (of_decide_eq_true (by kernel_rfl)) k1 bel lt1) (trodAll_cons_mk (shut_int Tryz.underlying23 w2) trodAll_mk0))), rfl, bel.frame _, fun h => by cases h⟩

theorem over : Rows.handMeetsRow.holds Tryz.pinned (OpenSpec.ofChange Rows.handMeetsSpec) :=
  OpenClaim.holds_of_wide 4 Tryz.f4 rfl rfl rfl rfl rfl rfl rfl ⟨rfl, rfl, rfl, rfl, rfl⟩ rfl rfl rfl rfl rfl (by kernel_rfl) Tryz.func4 (by kernel_rfl)
    (of_decide_eq_true (by kernel_rfl)) (by unfold Func.isWrapper; first | (rw [if_pos (by decide +kernel)]; kernel_rfl) | (rw [if_neg (by decide +kernel)]; exact ⟨rfl, rfl⟩))
    (fun os started H enc _ => lifted os started H enc)

theorem proved : Rows.HandMeetsCardSaid :=
  Claim7.holds_tied_plain_at .later [] [.data, .data, .data] true (true, "214d8958b74491cbef1c0d449ff4d349e3047b1a9571b3ced18372bfe132fcea") true
    over (fun _ h => by cases h) (by kernel_rfl) (fun _ h => by cases h) handMeets_row_tie rfl ⟨rfl, rfl⟩ (by kernel_rfl) rfl
    (fun f fn hf hfn => by
      obtain rfl : f = 4 := Option.some.inj ((show Tryz.prog.funcNamed "sough/soughlaw17.HandMeets" = some 4 by kernel_rfl).symm.trans hf) |>.symm
      obtain rfl : fn = Tryz.f4 := (Option.some.inj (Tryz.func4.symm.trans hfn)).symm
      exact ⟨by kernel_rfl, fun j t ht => by
        rw [Tryz.params4] at ht
        have hm : t ∈ [89, 89, 23] := by simpa using Array.mem_of_getElem? ht
        have hall : ([89, 89, 23].all fun u => !Tryz.prog.wantsStandIn u) = true := by kernel_rfl
        exact (show Tryz.prog.wantsStandIn t = false by simpa using List.all_eq_true.1 hall t hm)⟩)
    (by kernel_rfl)
#print axioms proved
end Go.Proofs.YtgeonppckeiceaaGreatDoor.handMeets
