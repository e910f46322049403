/- Entries: Get and Keys of the program. -/
import Derived.Test.YtpbcndbmmphngaaSkpP
import Derived.Test.YtpbcndbmmphngaaEnL
namespace Go.Proofs.Ytpbcndbmmphngaa
open Go.RowKit
set_option linter.unusedVariables false
set_option linter.unusedSimpArgs false
set_option maxRecDepth 20000
theorem get_idx {fs : List En} {K : Int} {m : Nat} (h : fs.findIdx (fun x => x.ep == K) = m) : (m < fs.length → getE fs K = (fs.getD m zeroE, true)) ∧ (m = fs.length → getE fs K = (zeroE, false)) := by
  refine ⟨fun hm => ?_, fun hm => ?_⟩
  · refine get_here hm (fun x hx => ?_) ?_
    · obtain ⟨k, hk, rfl⟩ := List.mem_take_iff_getElem.1 hx
      have hk2 : k < fs.findIdx (fun x => x.ep == K) := by omega
      have := List.not_of_lt_findIdx hk2
      simpa using this
    · have h2 := List.findIdx_getElem (p := fun x : En => x.ep == K) (xs := fs) (w := by rw [h]; exact hm)
      simp only [h] at h2
      simpa [List.getD, hm] using h2
  · refine get_none (fun x hx => ?_)
    rw [hm, List.findIdx_eq_length] at h
    simpa using h x hx
set_option maxHeartbeats 4000000 in
set_option maxRecDepth 100000 in
theorem pget_e (a : Option Addr) (n cap : Nat) (fs : List En) (K : Int) (w : World) (hn : n = fs.length) (h : RowE w a cap fs) (hok : OkE fs) :
    Calls Try.prog 13 #[.agg #[.slice a n cap], .int .i64 K] w fun e w' => e = .returned (.tuple #[(getE fs K).1.v, .bool (getE fs K).2]) ∧ Below w.heap.size w w' := by
  obtain ⟨m, hm⟩ : ∃ m, fs.findIdx (fun x => x.ep == K) = m := ⟨_, rfl⟩
  have hmn : m ≤ n := by rw [hn, ← hm]; exact List.findIdx_le_length
  have HG := Lib.hid (get_idx hm)
  have HM := Lib.hid hm
  have hn63 : (n : Int) ≤ 9223372036854775807 := by rw [hn]; have := h.len; omega
  obtain ⟨o0, ho0⟩ : ∃ o0, o0 = w.alloc (.cells #[.slice a n cap] 26 : Obj) := ⟨_, rfl⟩
  obtain ⟨o1, ho1⟩ : ∃ o1, o1 = o0.alloc (.cells #[.int .i64 0, .int .i64 0, .int .u64 0, .int .u64 0] 33 : Obj) := ⟨_, rfl⟩
  obtain ⟨B5, hB5⟩ : ∃ B5, B5 = o0.heap.size := ⟨_, rfl⟩
  have hb5 : w.heap.size + 1 = B5 := by rw [hB5, ho0]; simp
  have HO := Lib.hid (And.intro ho0 (And.intro ho1 hb5))
  have HBL : Hid (Below w.heap.size w o1) := Lib.hid (by rw [ho1, ho0]; exact (below_alloc w _).trans ((below_alloc _ _).mono (below_alloc w _).size))
  have k0 : o0.heap[w.heap.size]? = some (.cells #[.slice a n cap] 26 (0, 0)) := by rw [ho0]; exact heap_alloc_new w _
  have HK3 : Hid (o1.heap[w.heap.size]? = some (.cells #[.slice a n cap] 26 (0, 0))) := Lib.hid (by rw [ho1]; exact ((below_alloc o0 _).block _ (blk_lt k0)).trans k0)
  have HK5 : Hid (o1.heap[B5]? = some (.cells #[.int .i64 0, .int .i64 0, .int .u64 0, .int .u64 0] 33 (0, 0))) := Lib.hid (by rw [ho1, hB5]; exact heap_alloc_new o0 _)
  have HB5 : Hid (w.heap.size ≤ B5) := Lib.hid (by omega)
  have HR2 : Hid (RowE o1 a cap fs) := Lib.hid (h.below HBL.out)
  have HN := Lib.hid hn
  clear ho0 ho1 hB5 hb5 k0 hn h hok hm
  have HFst : Hid (∀ W, Below o1.heap.size o1 W → W.heap[o1.heap.size]? = some (.cells #[.int .i64 K] 3 (0, 0)) → Calls Try.prog 26 #[.slice a n cap, .func (.func 30) #[] #[.pointer (some ⟨o1.heap.size, 0, none⟩)]] W fun e w' => e = .returned (.int .i64 m) ∧ Below o1.heap.size o1 w') := Lib.hid (fun W hW hk => by
    refine (first_e (of_tells K o1.heap.size) a n cap fs W HN.out (HR2.out.below hW) hk HM.out).mono ?_
    rintro e w' ⟨he, hb⟩
    exact ⟨he, hW.trans (hb.mono hW.size)⟩)
  go_enter Try.func13, Try.ntmps13
  go_upto_region 1 with fail
  rw [← HO.out.1, ← HO.out.2.1, HO.out.2.2]
  obtain ⟨r0, _⟩ := cell1 HK3.out
  go_region_with (first
    | (go_at_call 23; refine (of_k K _).mono ?_; rintro e w2 ⟨rfl, hw2⟩; have HB2 : Hid (Below o1.heap.size o1 w2) := Lib.hid (by rw [hw2]; exact below_da o1 _); have HBK : Hid (w2.heap[o1.heap.size]? = some (.cells #[.int .i64 K] 3 (0, 0))) := Lib.hid (by rw [hw2]; exact heap_alloc_new o1.drew _); have HK32 := Lib.hid ((HB2.out.block _ (blk_lt HK3.out)).trans HK3.out); obtain ⟨r02, _⟩ := cell1 HK32.out; clear hw2)
    | (go_at_call 26; refine (HFst.out _ HB2.out HBK.out).mono ?_; rintro e w3 ⟨rfl, hb3⟩; have HB3 := Lib.hid hb3; have HK33 := Lib.hid ((hb3.block _ (blk_lt HK3.out)).trans HK3.out); obtain ⟨r03, _⟩ := cell1 HK33.out; clear hb3))
  all_goals
    have HK53 : Hid (w3.heap[B5]? = some (.cells #[.int .i64 0, .int .i64 0, .int .u64 0, .int .u64 0] 33 (0, 0))) := Lib.hid ((HB3.out.block _ (blk_lt HK5.out)).trans HK5.out)
    obtain ⟨s0, s1, s2, s3, t0, t1, t2, t3⟩ := cells4 HK53.out
    by_cases hlt : m < n
    · have hlt' : (m : Int) < (n : Int) := by omega
      have hne : ((m : Int) == (n : Int)) = false := by simp; omega
      have HD := Lib.hid (HG.out.1 (by rw [← HN.out]; exact hlt))
      obtain ⟨b1, f1, rfl, c0, c1, c2, c3⟩ := erow_cell HR2.out (j := m) (by rw [← HN.out]; exact hlt)
      replace c0 := (HB3.out.cell (block_lt_of_cell c0)).trans c0
      replace c1 := (HB3.out.cell (block_lt_of_cell c1)).trans c1
      replace c2 := (HB3.out.cell (block_lt_of_cell c2)).trans c2
      replace c3 := (HB3.out.cell (block_lt_of_cell c3)).trans c3
      generalize fs.getD m zeroE = z at c0 c1 c2 c3 HD
      obtain ⟨ep, key, nx, bt⟩ := z
      dsimp only at c0 c1 c2 c3
      have hr4 := four_set (a := .int .i64 ep) (b := .int .i64 key) (c := .int .u64 nx) (d := .int .u64 bt) HK53.out
      have HF : Hid (Below w.heap.size w ((((w3.setCell ⟨B5, 0, none⟩ (.int .i64 ep)).setCell ⟨B5, 1, none⟩ (.int .i64 key)).setCell ⟨B5, 2, none⟩ (.int .u64 nx)).setCell ⟨B5, 3, none⟩ (.int .u64 bt))) := Lib.hid (four_below (HBL.out.trans (HB3.out.mono HBL.out.size)) HB5.out _ _ _ _)
      obtain ⟨q0, q1, q2, q3, _, _, _, _⟩ := cells4 hr4
      clear hlt hr4 hmn
      go_wp2_with fail
      exact bodyPost_ret (v := .tuple #[.agg #[.int .i64 ep, .int .i64 key, .int .u64 nx, .int .u64 bt], .bool true]) (by simp [results, Try.results13, go_sem, q0, q1, q2, q3]) rfl ⟨by rw [HD.out]; rfl, HF.out⟩
    · obtain rfl : m = n := by omega
      have hne : ((m : Int) == (m : Int)) = true := by simp
      have HD := Lib.hid (HG.out.2 HN.out)
      have hr4 := four_set (a := .int .i64 0) (b := .int .i64 0) (c := .int .u64 0) (d := .int .u64 0) HK53.out
      have HF : Hid (Below w.heap.size w ((((w3.setCell ⟨B5, 0, none⟩ (.int .i64 0)).setCell ⟨B5, 1, none⟩ (.int .i64 0)).setCell ⟨B5, 2, none⟩ (.int .u64 0)).setCell ⟨B5, 3, none⟩ (.int .u64 0))) := Lib.hid (four_below (HBL.out.trans (HB3.out.mono HBL.out.size)) HB5.out _ _ _ _)
      obtain ⟨q0, q1, q2, q3, _, _, _, _⟩ := cells4 hr4
      clear hlt hr4 hmn
      go_wp2_with fail
      exact bodyPost_ret (v := .tuple #[.agg #[.int .i64 0, .int .i64 0, .int .u64 0, .int .u64 0], .bool false]) (by simp [results, Try.results13, go_sem, q0, q1, q2, q3]) rfl ⟨by rw [HD.out]; rfl, HF.out⟩
set_option maxHeartbeats 4000000 in
set_option maxRecDepth 100000 in
theorem pkeys_e (a : Option Addr) (n cap : Nat) (fs : List En) (w : World) (hn : n = fs.length) (h : RowE w a cap fs) (hok : OkE fs) :
    Calls Try.prog 18 #[.agg #[.slice a n cap]] w fun e w' => ∃ v, e = .returned v ∧ Own 3 .i64 w.heap.size v (keysE fs) w' ∧ Below w.heap.size w w' := by
  have hm : n ≤ 1000 := by have := hok.2; omega
  obtain ⟨o0, ho0⟩ : ∃ o0, o0 = w.alloc (.cells #[.slice a n cap] 26 : Obj) := ⟨_, rfl⟩
  have HO := Lib.hid ho0
  have HBL : Hid (Below w.heap.size w o0) := Lib.hid (by rw [ho0]; exact below_alloc w _)
  have HK3 : Hid (o0.heap[w.heap.size]? = some (.cells #[.slice a n cap] 26 (0, 0))) := Lib.hid (by rw [ho0]; exact heap_alloc_new w _)
  have HR1 := Lib.hid h
  have HN := Lib.hid hn
  have HO0 : Hid (Own 3 .i64 w.heap.size (.slice none 0 0) (keysE (fs.take 0)) o0) := Lib.hid (Own.nil _ _ _ _)
  clear ho0 hn h hok
  go_enter Try.func18, Try.ntmps18
  go_upto_region 1 with fail
  rw [← HO.out]
  obtain ⟨r0, _⟩ := cell1 HK3.out
  go_wp2_with fail
  clear r0
  go_loopw [3, 9] (fun v i wr => ∃ (k : Nat), k ≤ n ∧ i = .int .i64 k ∧ Hid (Own 3 .i64 w.heap.size v (keysE (fs.take k)) wr) ∧ Hid (Below w.heap.size w wr)) (fun _ i _ => n - (intOf i).toNat)
  case atStart => exact ⟨0, Nat.zero_le _, rfl, HO0, HBL⟩
  case round =>
    clear HO0
    obtain ⟨k, hk, rfl, HO1, HB⟩ := hrel
    by_cases hlt : k < n
    · have hlt' : (k : Int) < (n : Int) := by omega
      obtain ⟨b1, f1, rfl, c0, c1, c2, c3⟩ := erow_cell HR1.out (j := k) (by rw [← HN.out]; exact hlt)
      replace c0 := (HB.out.cell (block_lt_of_cell c0)).trans c0
      replace c1 := (HB.out.cell (block_lt_of_cell c1)).trans c1
      replace c2 := (HB.out.cell (block_lt_of_cell c2)).trans c2
      replace c3 := (HB.out.cell (block_lt_of_cell c3)).trans c3
      have HT : Hid (keysE (fs.take (k + 1)) = keysE (fs.take k) ++ [(fs.getD k zeroE).key]) := Lib.hid (keys_take (by rw [← HN.out]; exact hlt))
      have HL : Hid ((keysE (fs.take k)).length < 100000) := Lib.hid (by simp [keysE]; omega)
      generalize fs.getD k zeroE = z at c0 c1 c2 c3 HT
      obtain ⟨ep, key, nx, bt⟩ := z
      dsimp only at c0 c1 c2 c3 HT
      have HK1 := Lib.hid hlt
      have hbx := heap_alloc_new wr (.cells #[.int .i64 ep, .int .i64 key, .int .u64 nx, .int .u64 bt] 33)
      obtain ⟨d0, d1, d2, d3, _, _, _, _⟩ := cells4 hbx
      have HBA : Hid (Below w.heap.size w (wr.alloc (.cells #[.int .i64 ep, .int .i64 key, .int .u64 nx, .int .u64 bt] 33)) ∧ w.heap.size ≤ wr.heap.size) := Lib.hid ⟨HB.out.trans ((below_alloc wr _).mono HB.out.size), HB.out.size⟩
      have HOA := Lib.hid (HO1.out.below (below_alloc wr (.cells #[.int .i64 ep, .int .i64 key, .int .u64 nx, .int .u64 bt] 33)))
      have HX : Hid (((wr.alloc (.cells #[.int .i64 ep, .int .i64 key, .int .u64 nx, .int .u64 bt] 33)).alloc (.cells #[.int .i64 key] 3)).heap[wr.heap.size + 1]? = some (.cells #[.int .i64 key] 3 (0, 0))) := Lib.hid (by
        have := heap_alloc_new (wr.alloc (.cells #[.int .i64 ep, .int .i64 key, .int .u64 nx, .int .u64 bt] 33)) (.cells #[.int .i64 key] 3)
        simpa using this)
      clear hlt hk hbx
      go_wp2_with (at_builtin; refine wpList_app rfl (.tmp 13) (.tmp 16) 51 3 .i64 8 Try.underlying51 infoI (by decide) rfl w.heap.size _ (keysE (fs.take k)) key _ rfl (HOA.out.below (below_alloc _ _)) (wr.heap.size + 1) 1 rfl HX.out HL.out (by have := HBA.out.2; simp; omega) ?_; intro v' w2 hA; have HA := Lib.hid hA; clear hA)
      go_roundw
      case rel => exact ⟨k + 1, by have := HK1.out; omega, by go_num, Lib.hid (by rw [HT.out]; exact HA.out.own), Lib.hid (HBA.out.1.trans ((below_alloc _ (.cells #[.int .i64 key] 3)).mono HBA.out.1.size |>.trans HA.out.low))⟩
      case measure => have := HK1.out; simp [intOf]; omega
    · obtain rfl : k = n := by omega
      have HE : Hid (fs.take k = fs) := Lib.hid (by rw [List.take_of_length_le (by rw [← HN.out]; exact Nat.le_refl _)])
      clear hlt
      go_wp2
      go_ret
      exact ⟨_, rfl, by have := HO1.out; rw [HE.out] at this; exact this, HB.out⟩
end Go.Proofs.Ytpbcndbmmphngaa
