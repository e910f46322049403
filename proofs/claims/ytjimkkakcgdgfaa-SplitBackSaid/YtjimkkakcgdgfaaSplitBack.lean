/- SplitBack: what is cut is joined as it was; each part is encoded, and decoded as it was; without one part, or with one twice, nothing is joined. No condition. -/
import Derived.Test.YtjimkkakcgdgfaaRows
import Derived.Test.YtjimkkakcgdgfaaFragQ
import Derived.WalkKit
import Derived.ProofKit
import Derived.OpenShut
import Derived.ShutString
import Derived.ChangeOld
import Derived.Below
namespace Go.Proofs.Ytjimkkakcgdgfaa.splitBack
open Go.ChangeShapes Go.WideShapes Go.ChangeAt Go.RowKit
open Go.ChangeMaps (open_string shut_string)
open Go.Proofs.Ytjimkkakcgdgfaa
set_option linter.unusedVariables false
set_option linter.unusedSimpArgs false
set_option maxRecDepth 20000

theorem own : ownKnob Try.prog.godebug = none := by kernel_rfl
theorem laidOut : laidOutB Try.prog = true := by kernel_rfl
theorem rowF_drop {w : World} {b off cap : Nat} {fs : List Fr} (h : RowF w (some ⟨b, off, none⟩) cap fs) (hne : fs ≠ []) : RowF w (some ⟨b, off + 4, none⟩) (cap - 1) (fs.drop 1) := by
  cases fs with
  | nil => exact absurd rfl hne
  | cons f r => exact rowF_tail h
set_option maxHeartbeats 16000000 in
set_option maxRecDepth 100000 in
theorem walk0 (a1 A : ByteArray) (x y id : Int) (k : Nat) (w : World) (hx0 : 0 ≤ x) (hx1 : x ≤ 4294967295) (hy0 : 0 ≤ y) (hy1 : y ≤ 65535)
    (m1 : min (a1.size : Int) 4096 = A.size) (u1 : A.size ≤ a1.size) (v1 : A.size ≤ 4096) (y1 : a1.extract 0 A.size = A) (w1 : a1.size ≤ maxLen) (hk : 1 + y % 1000 = (k : Int)) (hid : 1 + x = id) (hg : Good A id k) (h0 : Hid (A.size = 0)) :
    Calls Try.prog 5 #[.string a1, .int .u32 x, .int .u16 y] w fun e w' => e = .returned (.bool true) ∧ Below w.heap.size w w' := by
  have HG := Lib.hid hg
  have HA : Hid (A.size ≤ 1000000) := Lib.hid (by omega)
  have n1 : (if (4096 : Int) < (a1.size : Int) then (4096 : Int) else (a1.size : Int)) = (A.size : Int) := by rw [← m1]; omega
  have hk1 : (1 : Int) ≤ k := by have := hg.k1; omega
  have hk2 : (k : Int) ≤ 1000 := by have := hg.k2; omega
  have hk0 : ((k : Int) == 0) = false := by simp; omega
  unfold maxLen at w1
  have HCUT : Hid (cutF A id k = ([], 1)) := Lib.hid (cut_none h0.out)
  have d1 : decide (16 * (k : Int) < (A.size : Int)) = false := by rw [h0.out]; simp; omega
  have he : A.toList.isEmpty = true := by rw [toList_empty h0.out]; rfl
  go_enter Try.func5, Try.ntmps5
  go_wp2_with fail
  refine (cut_l A id k _ HA.out [] 1 1 HCUT.out rfl).mono ?_
  rintro e wb ⟨v, rfl, ho, hb⟩
  obtain ⟨aa, ac, rfl, _⟩ := ho.at
  rw [show ([] : List Fr).length = 0 from rfl]
  have HBB := Lib.hid hb
  clear ho hb
  go_wp2_with fail
  refine (fixed_any _).mono ?_
  rintro e w2 ⟨rfl, hb⟩
  replace HBB := Lib.hid (HBB.out.trans (hb.mono HBB.out.size))
  clear hb
  go_wp2
  go_ret
  exact ⟨rfl, HBB.out⟩
set_option maxHeartbeats 16000000 in
set_option maxRecDepth 100000 in
theorem walk4 (a1 A : ByteArray) (x y id : Int) (k : Nat) (w : World) (hx0 : 0 ≤ x) (hx1 : x ≤ 4294967295) (hy0 : 0 ≤ y) (hy1 : y ≤ 65535)
    (m1 : min (a1.size : Int) 4096 = A.size) (u1 : A.size ≤ a1.size) (v1 : A.size ≤ 4096) (y1 : a1.extract 0 A.size = A) (w1 : a1.size ≤ maxLen) (hk : 1 + y % 1000 = (k : Int)) (hid : 1 + x = id) (hg : Good A id k) (h0 : Hid (A.size ≠ 0)) (h16 : Hid (16 < many A.size k)) :
    Calls Try.prog 5 #[.string a1, .int .u32 x, .int .u16 y] w fun e w' => e = .returned (.bool true) ∧ Below w.heap.size w w' := by
  have HG := Lib.hid hg
  have HA : Hid (A.size ≤ 1000000) := Lib.hid (by omega)
  have n1 : (if (4096 : Int) < (a1.size : Int) then (4096 : Int) else (a1.size : Int)) = (A.size : Int) := by rw [← m1]; omega
  have hk1 : (1 : Int) ≤ k := by have := hg.k1; omega
  have hk2 : (k : Int) ≤ 1000 := by have := hg.k2; omega
  have hk0 : ((k : Int) == 0) = false := by simp; omega
  unfold maxLen at w1
  have HCUT : Hid (cutF A id k = ([], 4)) := Lib.hid (cut_many hg h0.out h16.out)
  have h17 := (many_16 hg.k1).1 h16.out
  have d1 : decide (16 * (k : Int) < (A.size : Int)) = true := by simp; omega
  have he : A.toList.isEmpty = false := toList_some h0.out
  clear h17
  go_enter Try.func5, Try.ntmps5
  go_wp2_with fail
  refine (cut_l A id k _ HA.out [] 4 4 HCUT.out rfl).mono ?_
  rintro e wb ⟨v, rfl, ho, hb⟩
  obtain ⟨aa, ac, rfl, _⟩ := ho.at
  rw [show ([] : List Fr).length = 0 from rfl]
  have HBB := Lib.hid hb
  clear ho hb
  go_wp2_with fail
  refine (fixed_any _).mono ?_
  rintro e w2 ⟨rfl, hb⟩
  replace HBB := Lib.hid (HBB.out.trans (hb.mono HBB.out.size))
  clear hb
  go_wp2
  go_ret
  exact ⟨rfl, HBB.out⟩
set_option maxHeartbeats 16000000 in
set_option maxRecDepth 100000 in
theorem walkP (a1 A : ByteArray) (x y id : Int) (k : Nat) (w : World) (hx0 : 0 ≤ x) (hx1 : x ≤ 4294967295) (hy0 : 0 ≤ y) (hy1 : y ≤ 65535)
    (m1 : min (a1.size : Int) 4096 = A.size) (u1 : A.size ≤ a1.size) (v1 : A.size ≤ 4096) (y1 : a1.extract 0 A.size = A) (w1 : a1.size ≤ maxLen) (hk : 1 + y % 1000 = (k : Int)) (hid : 1 + x = id) (hg : Good A id k) (m : Nat) (hc : Hid (Cutd A id k m)) :
    Calls Try.prog 5 #[.string a1, .int .u32 x, .int .u16 y] w fun e w' => e = .returned (.bool true) ∧ Below w.heap.size w w' := by
  have HG := Lib.hid hg
  have HA : Hid (A.size ≤ 1000000) := Lib.hid (by omega)
  have n1 : (if (4096 : Int) < (a1.size : Int) then (4096 : Int) else (a1.size : Int)) = (A.size : Int) := by rw [← m1]; omega
  have hk1 : (1 : Int) ≤ k := by have := hg.k1; omega
  have hk2 : (k : Int) ≤ 1000 := by have := hg.k2; omega
  have hk0 : ((k : Int) == 0) = false := by simp; omega
  unfold maxLen at w1
  have HCUT : Hid (cutF A id k = (parts A id k m, 0)) := Lib.hid (by
    have := cut_parts hg hc.out.s1 (by rw [hc.out.hm]; have := hc.out.m2; omega)
    rw [hc.out.hm] at this; exact this)
  have hm1 : (1 : Int) ≤ (m : Int) := by have := hc.out.m1; omega
  have hm2 : (m : Int) ≤ 16 := by have := hc.out.m2; omega
  go_enter Try.func5, Try.ntmps5
  go_wp2_with fail
  refine (cut_l A id k _ HA.out (parts A id k m) 0 0 HCUT.out rfl).mono ?_
  rintro e wb ⟨v, rfl, ho, hb⟩
  obtain ⟨aa, ac, rfl, hr⟩ := ho.at
  rw [parts_len]
  have HR0 := Lib.hid hr
  have HB0 := Lib.hid hb
  clear ho hb hr
  have HO0 : Hid (OwnF 26 wb.heap.size (.slice (some ⟨wb.heap.size, 0, none⟩) 0 0) ((parts A id k m).take 0) (wb.alloc (.cells #[] 26))) := Lib.hid (OwnF.new _ _ (Nat.le_refl _))
  have HBW0 : Hid (Below wb.heap.size wb (wb.alloc (.cells #[] 26))) := Lib.hid (below_alloc _ _)
  go_wp2_with fail
  clear hk0 hx0 hx1 hy0 hy1 m1 u1 y1 w1 n1 hid hk
  go_loopw [10, 11] (fun v i wr => ∃ j : Nat, j ≤ m ∧ i = .int .i64 j ∧ Hid (OwnF 26 wb.heap.size v ((parts A id k m).take j) wr) ∧ Hid (Below wb.heap.size wb wr)) (fun _ i _ => m - (intOf i).toNat)
  case atStart => exact ⟨0, Nat.zero_le _, rfl, HO0, HBW0⟩
  case round =>
    clear HO0 HBW0
    obtain ⟨j, hj, rfl, HO, HBW⟩ := hrel
    by_cases hlt : j < m
    · have hlt' : (j : Int) < (m : Int) := by omega
      have e1 : decide (j < m) = true := by simpa using hlt
      obtain ⟨bk, off, hqa, c0, c1, c2, c3⟩ := frow_cell (HR0.out.below HBW.out) (j := j) (by rw [parts_len]; exact hlt)
      subst hqa
      rw [parts_getD _ _ _ _ _ hlt] at c0 c1 c2 c3
      obtain ⟨px, hpx⟩ : ∃ t, (partAt A id k m j).s = t := ⟨_, rfl⟩
      have c0' : wr.cell? ⟨bk, off + j * 4, none⟩ = some (.int .u64 id) := c0
      have c1' : wr.cell? ⟨bk, off + j * 4 + 1, none⟩ = some (.int .i64 (j : Int)) := c1
      have c2' : wr.cell? ⟨bk, off + j * 4 + 2, none⟩ = some (.int .i64 (m : Int)) := c2
      have c3' : wr.cell? ⟨bk, off + j * 4 + 3, none⟩ = some (.string px) := by rw [c3, hpx]
      clear c0 c1 c2 c3
      have hle := hc.out.le hlt
      rw [hpx] at hle
      have hfull : j + 1 < m → px.size = k := fun q => by rw [← hpx]; exact hc.out.full q
      have hr1 : rightF ⟨id, j, m, px⟩ = true := by rw [← hpx]; exact hc.out.right hlt
      have HRT := Lib.hid hr1
      have HT : Hid ((parts A id k m).take (j + 1) = (parts A id k m).take j ++ [⟨id, j, m, px⟩]) := Lib.hid (by rw [take_getF (by rw [parts_len]; exact hlt), parts_getD _ _ _ _ _ hlt, ← hpx]; rfl)
      have HL : Hid (((parts A id k m).take j).length < 100000) := Lib.hid (by rw [List.length_take, parts_len]; omega)
      obtain ⟨t, ht⟩ : ∃ t, encF ⟨id, j, m, px⟩ = t := ⟨_, rfl⟩
      have HENC := Lib.hid ht
      have HDEC : Hid (decF t = (⟨id, j, m, px⟩, 0)) := Lib.hid (by rw [← ht]; exact dec_enc hr1)
      have HTS : Hid (t.size ≤ 1000000) := Lib.hid (by rw [← ht]; have := (enc_len hr1).2; omega)
      have HJ := Lib.hid hlt
      have HFU := Lib.hid hfull
      have HLE := Lib.hid hle
      clear hr1 ht hfull hle hlt hj hpx
      go_wp2_with fail
      refine (enc_f ⟨id, j, m, px⟩ _ (right_wf HRT.out) t HENC).mono ?_
      rintro e w1 ⟨rfl, hb⟩
      replace HO := Lib.hid (HO.out.below hb)
      replace c0' := (hb.cell (block_lt_of_cell c0')).trans c0'
      replace c1' := (hb.cell (block_lt_of_cell c1')).trans c1'
      replace c2' := (hb.cell (block_lt_of_cell c2')).trans c2'
      replace c3' := (hb.cell (block_lt_of_cell c3')).trans c3'
      replace HBW := Lib.hid (HBW.out.trans (hb.mono HBW.out.size))
      clear hb
      go_wp2_with fail
      refine (dec_l t _ HTS.out ⟨id, j, m, px⟩ 0 0 #[.int .u64 id, .int .i64 (j : Int), .int .i64 (m : Int), .string px] HDEC.out rfl rfl).mono ?_
      rintro e w2 ⟨rfl, hb⟩
      replace HO := Lib.hid (HO.out.below hb)
      replace c0' := (hb.cell (block_lt_of_cell c0')).trans c0'
      replace c1' := (hb.cell (block_lt_of_cell c1')).trans c1'
      replace c2' := (hb.cell (block_lt_of_cell c2')).trans c2'
      replace c3' := (hb.cell (block_lt_of_cell c3')).trans c3'
      replace HBW := Lib.hid (HBW.out.trans (hb.mono HBW.out.size))
      clear hb
      go_wp2_with fail
      obtain ⟨u, hu⟩ : ∃ u, u = w2.alloc (.cells #[.int .u64 id, .int .i64 (j : Int), .int .i64 (m : Int), .string px] 26) := ⟨_, rfl⟩
      have hb : Below w2.heap.size w2 u := by rw [hu]; exact below_alloc _ _
      obtain ⟨q, hq⟩ : ∃ q, q = w2.heap.size := ⟨_, rfl⟩
      have HF : Hid (FrAt 26 u q ⟨id, j, m, px⟩) := Lib.hid (by rw [hu, hq]; exact heap_alloc_new w2 _)
      replace HO := Lib.hid (HO.out.below hb)
      replace c0' := (hb.cell (block_lt_of_cell c0')).trans c0'
      replace c1' := (hb.cell (block_lt_of_cell c1')).trans c1'
      replace c2' := (hb.cell (block_lt_of_cell c2')).trans c2'
      replace c3' := (hb.cell (block_lt_of_cell c3')).trans c3'
      replace HBW := Lib.hid (HBW.out.trans (hb.mono HBW.out.size))
      rw [← hu, ← hq]
      clear hb hu hq
      obtain ⟨k0, k1, k2, k3⟩ := HF.out.cells
      dsimp only at k0 k1 k2 k3
      have hneq := fun u => (show (binOp .neq 26 (.agg #[.int .u64 id, .int .i64 (j : Int), .int .i64 (m : Int), .string px]) (.agg #[.int .u64 id, .int .i64 (j : Int), .int .i64 (m : Int), .string px])).run Try.prog u = .ok (.bool false) u by have := neqP ⟨id, j, m, px⟩ ⟨id, j, m, px⟩ u; rw [eqF_self] at this; exact this)
      have hgd := guardP
      have dk : decide ((k : Int) < (px.size : Int)) = false := by have := HLE.out; simp; omega
      have dk2 : decide (k < px.size) = false := by have := HLE.out; simp; omega
      have HB3 := Lib.hid HBW.out.size
      by_cases hl : j + 1 < m
      · have dj : decide ((j : Int) + 1 < (m : Int)) = true := by simp; omega
        have df : ((px.size : Int) != (k : Int)) = false := by have := HFU.out hl; simp; omega
        clear hl
        go_quiet (fail)
        obtain ⟨u2, hu2⟩ : ∃ x, x = u.drewN nq := ⟨_, rfl⟩
        have hb : Below u.heap.size u u2 := by rw [hu2]; exact drewN_below3 (Nat.le_refl _) _
        rw [← hu2]
        clear hu2 k0 k1 k2 k3 hneq hgd dk dk2 dj c0' c1' c2' c3'
        replace HF := Lib.hid (HF.out.below hb)
        replace HO := Lib.hid (HO.out.below hb)
        replace HBW := Lib.hid (HBW.out.trans (hb.mono HBW.out.size))
        clear hb HB3
        obtain ⟨k0, k1, k2, k3⟩ := HF.out.cells
        dsimp only at k0 k1 k2 k3
        go_wp2_with (at_builtin; refine wpList_appF rfl (.tmp 110) (.tmp 112) 23 26 Try.underlying23 infoP rfl wb.heap.size _ ((parts A id k m).take j) ⟨id, j, m, px⟩ _ rfl (HO.out.below (below_alloc _ _)) u2.heap.size 1 rfl (heap_alloc_new u2 _) HL.out (by have := HBW.out.size; simp; omega) ?_; intro v' w3 hA; have HA := Lib.hid hA; clear hA)
        go_roundw
        case rel => exact ⟨j + 1, by have := HJ.out; omega, by go_num, Lib.hid (by rw [HT.out]; exact HA.out.own), Lib.hid (HBW.out.trans ((below_alloc u2 (.cells #[.int .u64 id, .int .i64 (j : Int), .int .i64 (m : Int), .string px] 26)).mono HBW.out.size |>.trans HA.out.low))⟩
        case measure => have := HJ.out; simp [intOf]; omega
      · have dj : decide ((j : Int) + 1 < (m : Int)) = false := by simp; omega
        clear hl
        go_quiet (fail)
        obtain ⟨u2, hu2⟩ : ∃ x, x = u.drewN nq := ⟨_, rfl⟩
        have hb : Below u.heap.size u u2 := by rw [hu2]; exact drewN_below3 (Nat.le_refl _) _
        rw [← hu2]
        clear hu2 k0 k1 k2 k3 hneq hgd dk dk2 dj c0' c1' c2' c3'
        replace HF := Lib.hid (HF.out.below hb)
        replace HO := Lib.hid (HO.out.below hb)
        replace HBW := Lib.hid (HBW.out.trans (hb.mono HBW.out.size))
        clear hb HB3
        obtain ⟨k0, k1, k2, k3⟩ := HF.out.cells
        dsimp only at k0 k1 k2 k3
        go_wp2_with (at_builtin; refine wpList_appF rfl (.tmp 110) (.tmp 112) 23 26 Try.underlying23 infoP rfl wb.heap.size _ ((parts A id k m).take j) ⟨id, j, m, px⟩ _ rfl (HO.out.below (below_alloc _ _)) u2.heap.size 1 rfl (heap_alloc_new u2 _) HL.out (by have := HBW.out.size; simp; omega) ?_; intro v' w3 hA; have HA := Lib.hid hA; clear hA)
        go_roundw
        case rel => exact ⟨j + 1, by have := HJ.out; omega, by go_num, Lib.hid (by rw [HT.out]; exact HA.out.own), Lib.hid (HBW.out.trans ((below_alloc u2 (.cells #[.int .u64 id, .int .i64 (j : Int), .int .i64 (m : Int), .string px] 26)).mono HBW.out.size |>.trans HA.out.low))⟩
        case measure => have := HJ.out; simp [intOf]; omega
    · obtain rfl : j = m := by omega
      have e1 : decide (j < j) = false := decide_eq_false (Nat.lt_irrefl _)
      have HTK : Hid ((parts A id k j).take j = parts A id k j) := Lib.hid (by rw [List.take_of_length_le (by rw [parts_len]; exact Nat.le_refl _)])
      rw [HTK.out] at HO
      have HM1 := Lib.hid hm1
      obtain ⟨g, oc, hv⟩ := HO.out.form (by intro h; have := parts_len A id k j; rw [h] at this; simp at this; have := HM1.out; omega)
      rw [parts_len] at hv
      subst hv
      have hrow : ∀ w'' : World, OwnF 26 wb.heap.size (.slice (some ⟨g, 0, none⟩) j oc) (parts A id k j) w'' → RowF w'' (some ⟨g, 0, none⟩) oc (parts A id k j) := by
        intro w'' h
        obtain ⟨a', c', e, hr⟩ := h.at
        injection e with e1 _ e3
        subst e1; subst e3
        exact hr
      have HROW := Lib.hid hrow
      have HSS : Hid (∀ f, f ∈ parts A id k j → f.s.size ≤ 1000000) := Lib.hid (fun f hf => by
        unfold parts at hf
        rw [List.mem_map] at hf
        obtain ⟨i, hi, rfl⟩ := hf
        have := (hc.out.le (List.mem_range.1 hi)).1
        have := hc.out.k2
        omega)
      have ht1 : (A.toList != A.toList) = false := by simp
      have ht2 : ((j : Int) == 0) = false := by simp; omega
      have HBB := Lib.hid (HB0.out.trans (HBW.out.mono HB0.out.size))
      have HOC : Hid (j ≤ oc) := Lib.hid (by have := (hrow _ HO.out).1; rw [parts_len] at this; exact this)
      clear hlt hj hrow
      go_wp2_with fail
      refine (join_l _ _ _ (parts A id k j) _ (parts_len _ _ _ _).symm (HROW.out _ HO.out) HSS.out A 0 0 hc.out.join rfl).mono ?_
      rintro e w2 ⟨rfl, hb⟩
      replace HO := Lib.hid (HO.out.below hb)
      replace HBB := Lib.hid (HBB.out.trans (hb.mono HBB.out.size))
      replace HBW := Lib.hid (HBW.out.trans (hb.mono HBW.out.size))
      clear hb
      have hoc : (1 : Int) ≤ (oc : Int) := by have := HOC.out; omega
      have HSD : Hid (∀ f, f ∈ (parts A id k j).drop 1 → f.s.size ≤ 1000000) := Lib.hid (fun f hf => HSS.out f (List.mem_of_mem_drop hf))
      have HLD : Hid (j - 1 = ((parts A id k j).drop 1).length) := Lib.hid (by rw [List.length_drop, parts_len])
      have hj1 : (0 : Int) < (j : Int) := by have := HM1.out; omega
      have hj2 : 0 < j := by have := HM1.out; omega
      by_cases hoc1 : oc = 1
      · subst hoc1
        have HDR : Hid (∀ w'' : World, RowF w'' (some ⟨g, 0, none⟩) 0 ((parts A id k j).drop 1)) := Lib.hid (fun w'' => ⟨by rw [← HLD.out]; have := HOC.out; omega, Nat.zero_le _, g, 0, fun i hi => by rw [← HLD.out] at hi; have := HOC.out; omega⟩)
        go_wp2_with fail
        refine (join_l _ _ _ ((parts A id k j).drop 1) _ HLD.out (HDR.out _) HSD.out _ 3 3 hc.out.tail rfl).mono ?_
        rintro e w4 ⟨rfl, hb⟩
        replace HO := Lib.hid (HO.out.below hb)
        replace HBB := Lib.hid (HBB.out.trans (hb.mono HBB.out.size))
        replace HBW := Lib.hid (HBW.out.trans (hb.mono HBW.out.size))
        clear hb
        have hr0 := HROW.out _ HO.out
        obtain ⟨bk, off, hqa, c0, c1, c2, c3⟩ := frow_cell hr0 (j := 0) (by rw [parts_len]; exact hj2)
        obtain ⟨rfl, rfl⟩ : g = bk ∧ 0 = off := by simpa using hqa
        rw [parts_getD _ _ _ _ _ hj2] at c0 c1 c2 c3
        obtain ⟨px, hpx⟩ : ∃ t, (partAt A id k j 0).s = t := ⟨_, rfl⟩
        rw [hpx] at c3
        have c0' : w4.cell? ⟨g, 0, none⟩ = some (.int .u64 id) := c0
        have c1' : w4.cell? ⟨g, 1, none⟩ = some (.int .i64 0) := c1
        have c2' : w4.cell? ⟨g, 2, none⟩ = some (.int .i64 (j : Int)) := c2
        have c3' : w4.cell? ⟨g, 3, none⟩ = some (.string px) := c3
        have HPX : Hid (px.size ≤ 1000000) := Lib.hid (by rw [← hpx]; have := (hc.out.le hj2).1; have := hc.out.k2; omega)
        have HL : Hid ((parts A id k j).length < 100000) := Lib.hid (by rw [parts_len]; omega)
        have HLP : Hid ((parts A id k j).length = j) := Lib.hid (parts_len _ _ _ _)
        clear hr0 hqa c0 c1 c2 c3 hpx
        go_wp2_with (at_builtin; refine wpList_appF rfl (.tmp 137) (.tmp 141) 23 26 Try.underlying23 infoP rfl wb.heap.size _ (parts A id k j) ⟨id, 0, j, px⟩ _ rfl (HO.out.below (below_alloc _ _)) w4.heap.size 1 rfl (heap_alloc_new w4 _) HL.out (by have := HBW.out.size; simp; omega) ?_; intro v' w5 hA; obtain ⟨g5, c5, hv5⟩ := hA.form; subst hv5; have HA5 := Lib.hid hA; clear hA)
        obtain ⟨a6, c6, hv6, hr6⟩ := HA5.out.own.at
        injection hv6 with e5 e7 e6
        subst e5; subst e6
        clear e7
        rw [HLP.out]
        have HBB5 := Lib.hid (HBB.out.trans ((((below_alloc w4 (.cells #[.int .u64 id, .int .i64 0, .int .i64 (j : Int), .string px] 26)).mono HBW.out.size).trans HA5.out.low).mono HB0.out.size))
        refine (join_l _ _ _ (parts A id k j ++ [⟨id, 0, j, px⟩]) _ (by rw [List.length_append, HLP.out]; rfl) hr6 (fun f hf => by
          rw [List.mem_append] at hf
          rcases hf with hf | hf
          · exact HSS.out f hf
          · rw [List.mem_singleton] at hf
            rw [hf]; exact HPX.out) _ 3 3 (hc.out.more _) rfl).mono ?_
        rintro e w6 ⟨rfl, hb⟩
        have HBB6 := Lib.hid (HBB5.out.trans (hb.mono HBB5.out.size))
        clear hb hr6
        go_wp2_with fail
        refine (fixed_any _).mono ?_
        rintro e w7 ⟨rfl, hb⟩
        have HBB7 := Lib.hid (HBB6.out.trans (hb.mono HBB6.out.size))
        clear hb
        go_wp2
        go_ret
        exact ⟨rfl, HBB7.out⟩
      · have hoc2 : (1 : Int) < (oc : Int) := by omega
        clear hoc1
        go_wp2_with fail
        refine (join_l _ _ _ ((parts A id k j).drop 1) _ HLD.out (rowF_drop (HROW.out _ HO.out) (by intro h; have := parts_len A id k j; rw [h] at this; simp at this; omega)) HSD.out _ 3 3 hc.out.tail rfl).mono ?_
        rintro e w4 ⟨rfl, hb⟩
        replace HO := Lib.hid (HO.out.below hb)
        replace HBB := Lib.hid (HBB.out.trans (hb.mono HBB.out.size))
        replace HBW := Lib.hid (HBW.out.trans (hb.mono HBW.out.size))
        clear hb
        have hr0 := HROW.out _ HO.out
        obtain ⟨bk, off, hqa, c0, c1, c2, c3⟩ := frow_cell hr0 (j := 0) (by rw [parts_len]; exact hj2)
        obtain ⟨rfl, rfl⟩ : g = bk ∧ 0 = off := by simpa using hqa
        rw [parts_getD _ _ _ _ _ hj2] at c0 c1 c2 c3
        obtain ⟨px, hpx⟩ : ∃ t, (partAt A id k j 0).s = t := ⟨_, rfl⟩
        rw [hpx] at c3
        have c0' : w4.cell? ⟨g, 0, none⟩ = some (.int .u64 id) := c0
        have c1' : w4.cell? ⟨g, 1, none⟩ = some (.int .i64 0) := c1
        have c2' : w4.cell? ⟨g, 2, none⟩ = some (.int .i64 (j : Int)) := c2
        have c3' : w4.cell? ⟨g, 3, none⟩ = some (.string px) := c3
        have HPX : Hid (px.size ≤ 1000000) := Lib.hid (by rw [← hpx]; have := (hc.out.le hj2).1; have := hc.out.k2; omega)
        have HL : Hid ((parts A id k j).length < 100000) := Lib.hid (by rw [parts_len]; omega)
        have HLP : Hid ((parts A id k j).length = j) := Lib.hid (parts_len _ _ _ _)
        clear hr0 hqa c0 c1 c2 c3 hpx
        go_wp2_with (at_builtin; refine wpList_appF rfl (.tmp 137) (.tmp 141) 23 26 Try.underlying23 infoP rfl wb.heap.size _ (parts A id k j) ⟨id, 0, j, px⟩ _ rfl (HO.out.below (below_alloc _ _)) w4.heap.size 1 rfl (heap_alloc_new w4 _) HL.out (by have := HBW.out.size; simp; omega) ?_; intro v' w5 hA; obtain ⟨g5, c5, hv5⟩ := hA.form; subst hv5; have HA5 := Lib.hid hA; clear hA)
        obtain ⟨a6, c6, hv6, hr6⟩ := HA5.out.own.at
        injection hv6 with e5 e7 e6
        subst e5; subst e6
        clear e7
        rw [HLP.out]
        have HBB5 := Lib.hid (HBB.out.trans ((((below_alloc w4 (.cells #[.int .u64 id, .int .i64 0, .int .i64 (j : Int), .string px] 26)).mono HBW.out.size).trans HA5.out.low).mono HB0.out.size))
        refine (join_l _ _ _ (parts A id k j ++ [⟨id, 0, j, px⟩]) _ (by rw [List.length_append, HLP.out]; rfl) hr6 (fun f hf => by
          rw [List.mem_append] at hf
          rcases hf with hf | hf
          · exact HSS.out f hf
          · rw [List.mem_singleton] at hf
            rw [hf]; exact HPX.out) _ 3 3 (hc.out.more _) rfl).mono ?_
        rintro e w6 ⟨rfl, hb⟩
        have HBB6 := Lib.hid (HBB5.out.trans (hb.mono HBB5.out.size))
        clear hb hr6
        go_wp2_with fail
        refine (fixed_any _).mono ?_
        rintro e w7 ⟨rfl, hb⟩
        have HBB7 := Lib.hid (HBB6.out.trans (hb.mono HBB6.out.size))
        clear hb
        go_wp2
        go_ret
        exact ⟨rfl, HBB7.out⟩

theorem walk (a1 : ByteArray) (x y : Int) (w : World) (w1 : a1.size ≤ maxLen) (h0 : (Lit.int .u32 x).wf = true) (h1 : (Lit.int .u16 y).wf = true) :
    Calls Try.prog 5 #[.string a1, .int .u32 x, .int .u16 y] w fun e w' => e = .returned (.bool true) ∧ Below w.heap.size w w' := by
  obtain ⟨A, m1, u1, v1, y1⟩ := slice_facts a1 4096
  have m2 : min (a1.size : Int) 4096 = A.size := m1
  obtain ⟨x0, x1⟩ := u32_range h0
  obtain ⟨y0, y2⟩ := u16_range h1
  obtain ⟨k, hk⟩ : ∃ k : Nat, 1 + y % 1000 = (k : Int) := ⟨(1 + y % 1000).toNat, by omega⟩
  have hg : Good A (1 + x) k := ⟨by omega, by omega, by omega, by omega, v1⟩
  by_cases e0 : A.size = 0
  · exact walk0 a1 A x y _ k w x0 x1 y0 y2 m2 u1 v1 y1 w1 hk rfl hg (Lib.hid e0)
  · by_cases e1 : 16 < many A.size k
    · exact walk4 a1 A x y _ k w x0 x1 y0 y2 m2 u1 v1 y1 w1 hk rfl hg (Lib.hid e0) (Lib.hid e1)
    · exact walkP a1 A x y _ k w x0 x1 y0 y2 m2 u1 v1 y1 w1 hk rfl hg _ (Lib.hid ⟨hg, e0, rfl, by omega⟩)

set_option maxRecDepth 100000 in
theorem lifted (os : Os) (started : os.Started) (H : Type) (enc : TypeId × Value → H) :
    ReturnsInHanded {} Try.checked os 5 .any (Rows.splitBackSpec.pre6 enc Try.prog Try.f5 Rows.splitBackRow.domain false) (Rows.splitBackSpec.post enc Try.prog Try.f5 false true false false) := by
  refine returnsInHanded_of_change (C := Try.checked) own started (by kernel_rfl) Try.func5
    (ChangeSpec.witness6 (enc := enc) (C := Try.checked) false ⟨#[], #[.string ByteArray.empty, .int .u32 0, .int .u16 0], []⟩ 8 (by kernel_rfl) (by kernel_rfl) (by kernel_rfl) (by kernel_rfl)) ?_
  intro W base args ds gs before hval0 hW hcnd _
  have hval : ∀ (j : Nat) t v, Try.f5.params[j]? = some t → args[j]? = some v → Value.okWide Try.prog W .any base t v := hval0
  have hW' := hW
  obtain ⟨p, q, hA0, hV, rfl, hfz, hnd⟩ := hW
  have hA : DataW.TrodAll enc Try.prog W 0 (fun _ => true) true Try.f5.params.toList args.toList ds p := hA0
  rw [Try.params5] at hA hval
  obtain ⟨v0, vs0, d0, ds0, p0, q0, hargs, rfl, rfl, h0, r0⟩ := trodAll_cons hA
  obtain ⟨v1, vs1, d1, ds1, p1, q1, rfl, rfl, rfl, h1, r1⟩ := trodAll_cons r0
  obtain ⟨v2, vs2, d2, ds2, p2, q2, rfl, rfl, rfl, h2, r2⟩ := trodAll_cons r1
  obtain ⟨rfl, rfl, rfl⟩ := trodAll_nil r2
  obtain rfl : args = #[v0, v1, v2] := by cases args; simp_all
  obtain ⟨rfl, rfl⟩ := trodVars_none hV
  obtain ⟨a0, rfl, rfl, rfl, w0⟩ := open_string Try.underlying9 (hval 0 9 v0 rfl rfl) h0
  obtain ⟨a1, rfl, rfl, rfl, w1⟩ := open_int Try.underlying52 (hval 1 52 v1 rfl rfl) h1
  obtain ⟨a2, rfl, rfl, rfl, w2⟩ := open_int Try.underlying53 (hval 2 53 v2 rfl rfl) h2
  clear hA0 hval0
  refine (walk a0 a1 a2 W w0 w1 w2).mono fun e W' ⟨he, bel⟩ => ?_
  subst he
  exact ⟨_, rfl, _, _, _, [], _, [], hW', trodAll_mk1 (shut_bool Try.underlying4 _), (trodAll_cons_mk (shut_string Try.underlying9 w0) (trodAll_cons_mk (shut_int Try.underlying52 w1) (trodAll_cons_mk (shut_int Try.underlying53 w2) trodAll_mk0))), rfl, bel.frame _, fun h => by cases h⟩

theorem over : Rows.splitBackRow.holds Try.pinned (OpenSpec.ofChange Rows.splitBackSpec) :=
  OpenClaim.holds_of_wide 5 Try.f5 rfl rfl rfl rfl rfl rfl rfl ⟨rfl, rfl, rfl, rfl, rfl⟩ rfl rfl rfl rfl rfl (by kernel_rfl) Try.func5 (by kernel_rfl)
    (of_decide_eq_true (by kernel_rfl)) (by unfold Func.isWrapper; first | (rw [if_pos (by decide +kernel)]; kernel_rfl) | (rw [if_neg (by decide +kernel)]; exact ⟨rfl, rfl⟩))
    (fun os started H enc _ => lifted os started H enc)

theorem proved : Rows.SplitBackSaid := over
#print axioms proved
end Go.Proofs.Ytjimkkakcgdgfaa.splitBack
