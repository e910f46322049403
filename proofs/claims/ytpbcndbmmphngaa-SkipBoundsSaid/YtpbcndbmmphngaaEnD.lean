/- Entries: the document's Drop, Get, Keys. -/
import Derived.Test.YtpbcndbmmphngaaEnR
namespace Go.Proofs.Ytpbcndbmmphngaa
open Go.RowKit
set_option linter.unusedVariables false
set_option linter.unusedSimpArgs false
set_option maxRecDepth 20000
theorem take_getE {fs : List En} {k : Nat} (h : k < fs.length) : fs.take (k + 1) = fs.take k ++ [fs.getD k zeroE] := by
  rw [List.take_succ_eq_append_getElem h]; simp [List.getD, h]
theorem drop_yes {fs : List En} {i : Nat} {k : Int} (h : i < fs.length) (hk : (fs.getD i zeroE).ep ≠ k) : dropE (fs.take (i + 1)) k = dropE (fs.take i) k ++ [fs.getD i zeroE] := by
  rw [take_getE h]
  unfold dropE
  rw [List.filter_append, List.filter_cons_of_pos (by simpa using hk), List.filter_nil]
theorem drop_not {fs : List En} {i : Nat} {k : Int} (h : i < fs.length) (hk : (fs.getD i zeroE).ep = k) : dropE (fs.take (i + 1)) k = dropE (fs.take i) k := by
  rw [take_getE h]
  unfold dropE
  rw [List.filter_append, List.filter_cons_of_neg (by simpa using hk), List.filter_nil, List.append_nil]
set_option maxHeartbeats 4000000 in
set_option maxRecDepth 100000 in
theorem rdrop_e (a : Option Addr) (n cap : Nat) (fs : List En) (K : Int) (w : World) (hn : n = fs.length) (h : RowE w a cap fs) (hm : n ≤ 1000) :
    Calls Try.prog 9 #[.slice a n cap, .int .i64 K] w fun e w' => ∃ v, e = .returned v ∧ OwnE 40 w.heap.size v (dropE fs K) w' ∧ Below w.heap.size w w' ∧ ∃ g cap, v = .slice (some ⟨g, 0, none⟩) (dropE fs K).length cap := by
  have HR1 := Lib.hid h
  have HN := Lib.hid hn
  clear h hn
  have HO0 : Hid (OwnE 40 w.heap.size (.slice (some ⟨w.heap.size, 0, none⟩) 0 0) (dropE (fs.take 0) K) (w.alloc (.cells #[] 40))) := Lib.hid (OwnE.new _ _ (Nat.le_refl _))
  have HB0 : Hid (Below w.heap.size w (w.alloc (.cells #[] 40))) := Lib.hid (below_alloc _ _)
  go_enter Try.func9, Try.ntmps9
  go_wp2_with fail
  go_loopw [5, 6] (fun v i wr => ∃ (k : Nat), k ≤ n ∧ i = .int .i64 k ∧ Hid (OwnE 40 w.heap.size v (dropE (fs.take k) K) wr) ∧ Hid (Below w.heap.size w wr) ∧ Hid (∃ g cap, v = .slice (some ⟨g, 0, none⟩) (dropE (fs.take k) K).length cap)) (fun _ i _ => n - (intOf i).toNat)
  case atStart => exact ⟨0, Nat.zero_le _, rfl, HO0, HB0, Lib.hid ⟨_, _, rfl⟩⟩
  case round =>
    clear HO0 HB0
    obtain ⟨k, hk, rfl, HO, HB, HG⟩ := hrel
    by_cases hlt : k < n
    · have hlt' : (k : Int) < (n : Int) := by omega
      obtain ⟨b1, f1, rfl, c0, c1, c2, c3⟩ := erow_cell HR1.out (j := k) (by rw [← HN.out]; exact hlt)
      replace c0 := (HB.out.cell (block_lt_of_cell c0)).trans c0
      replace c1 := (HB.out.cell (block_lt_of_cell c1)).trans c1
      replace c2 := (HB.out.cell (block_lt_of_cell c2)).trans c2
      replace c3 := (HB.out.cell (block_lt_of_cell c3)).trans c3
      have HY : Hid ((fs.getD k zeroE).ep ≠ K → dropE (fs.take (k + 1)) K = dropE (fs.take k) K ++ [fs.getD k zeroE]) := Lib.hid (drop_yes (by rw [← HN.out]; exact hlt))
      have HNO : Hid ((fs.getD k zeroE).ep = K → dropE (fs.take (k + 1)) K = dropE (fs.take k) K) := Lib.hid (drop_not (by rw [← HN.out]; exact hlt))
      have HL : Hid ((dropE (fs.take k) K).length + 1 < 100000) := Lib.hid (by have := drop_len (l := fs.take k) K; rw [List.length_take] at this; omega)
      generalize fs.getD k zeroE = z at c0 c1 c2 c3 HY HNO
      obtain ⟨ep, key, nx, bt⟩ := z
      dsimp only at c0 c1 c2 c3 HY HNO
      have HK := Lib.hid hlt
      clear hlt hk
      by_cases he : ep = K
      · have e1 : (ep != K) = false := by simp [he]
        have HD := Lib.hid (HNO.out he)
        clear he
        go_wp2_with fail
        go_roundw
        case rel => exact ⟨k + 1, by have := HK.out; omega, by go_num, Lib.hid (by rw [HD.out]; exact HO.out), HB, Lib.hid (by rw [HD.out]; exact HG.out)⟩
        case measure => have := HK.out; simp [intOf]; omega
      · have e1 : (ep != K) = true := by simpa using he
        have HD := Lib.hid (HY.out he)
        clear he
        go_wp2_with (at_builtin; refine wpList_appE rfl (.tmp 21) (.tmp 26) 27 40 Try.underlying27 infoQ rfl w.heap.size _ (dropE (fs.take k) K) [⟨ep, key, nx, bt⟩] _ rfl (HO.out.below (below_alloc _ _)) wr.heap.size 0 1 1 rfl rfl (news_one wr ⟨ep, key, nx, bt⟩ _) (by decide) HL.out (by have := HB.out.size; simp; omega) ?_; intro v' w2 hA; have HA := Lib.hid hA; clear hA)
        go_roundw
        case rel => exact ⟨k + 1, by have := HK.out; omega, by go_num, Lib.hid (by rw [HD.out]; exact HA.out.own), Lib.hid (HB.out.trans ((below_alloc wr (.cells #[.int .i64 ep, .int .i64 key, .int .u64 nx, .int .u64 bt] 40)).mono HB.out.size |>.trans HA.out.low)), Lib.hid (by rw [HD.out]; exact HA.out.form)⟩
        case measure => have := HK.out; simp [intOf]; omega
    · obtain rfl : k = n := by omega
      have HE : Hid (fs.take k = fs) := Lib.hid (by rw [List.take_of_length_le (by rw [← HN.out]; exact Nat.le_refl _)])
      clear hlt
      go_wp2
      go_ret
      exact ⟨_, rfl, by have := HO.out; rw [HE.out] at this; exact this, HB.out, by have := HG.out; rw [HE.out] at this; exact this⟩
/-! Get: up to the first one that is it. -/
theorem get_here {fs : List En} {i : Nat} {k : Int} (h : i < fs.length) (hb : ∀ x, x ∈ fs.take i → x.ep ≠ k) (hk : (fs.getD i zeroE).ep = k) : getE fs k = (fs.getD i zeroE, true) := by
  have hs : fs = fs.take i ++ (fs.getD i zeroE :: fs.drop (i + 1)) := by
    rw [show fs.getD i zeroE = fs[i] by simp [List.getD, h], ← List.drop_eq_getElem_cons h, List.take_append_drop]
  have h1 : fs.find? (fun x => x.ep == k) = some (fs.getD i zeroE) := by
    conv => lhs; rw [hs]
    rw [List.find?_append, List.find?_eq_none.2 (fun x hx => by simpa using hb x hx), List.find?_cons_of_pos (by simpa using hk)]
    rfl
  unfold getE
  rw [h1]
theorem get_none {fs : List En} {k : Int} (hb : ∀ x, x ∈ fs → x.ep ≠ k) : getE fs k = (zeroE, false) := getE_not hb
theorem four_below {W u : World} {B r : Nat} (h : Below B W u) (hr : B ≤ r) (a b c d : Value) : Below B W ((((u.setCell ⟨r, 0, none⟩ a).setCell ⟨r, 1, none⟩ b).setCell ⟨r, 2, none⟩ c).setCell ⟨r, 3, none⟩ d) :=
  (((h.setCell (p := ⟨r, 0, none⟩) hr _).setCell (p := ⟨r, 1, none⟩) hr _).setCell (p := ⟨r, 2, none⟩) hr _).setCell (p := ⟨r, 3, none⟩) hr _
set_option maxHeartbeats 4000000 in
set_option maxRecDepth 100000 in
theorem rget_e (a : Option Addr) (n cap : Nat) (fs : List En) (K : Int) (w : World) (hn : n = fs.length) (h : RowE w a cap fs) (hm : n ≤ 1000) :
    Calls Try.prog 14 #[.slice a n cap, .int .i64 K] w fun e w' => e = .returned (.tuple #[(getE fs K).1.v, .bool (getE fs K).2]) ∧ Below w.heap.size w w' := by
  have HR1 := Lib.hid h
  have HN := Lib.hid hn
  clear h hn
  obtain ⟨o1, ho1⟩ : ∃ o1, o1 = w.alloc (.cells #[.int .i64 0, .int .i64 0, .int .u64 0, .int .u64 0] 40 : Obj) := ⟨_, rfl⟩
  have HO := Lib.hid ho1
  have HB1 : Hid (Below w.heap.size w o1) := Lib.hid (by rw [ho1]; exact below_alloc _ _)
  have HBR : Hid (o1.heap[w.heap.size]? = some (.cells #[.int .i64 0, .int .i64 0, .int .u64 0, .int .u64 0] 40 (0, 0))) := Lib.hid (by rw [ho1]; exact heap_alloc_new w _)
  clear ho1
  go_enter Try.func14, Try.ntmps14
  go_upto_region 1 with fail
  rw [← HO.out]
  go_wp2_with fail
  go_loopw [6] (fun i wr => ∃ (k : Nat), k ≤ n ∧ i = .int .i64 k ∧ Hid (∀ x, x ∈ fs.take k → x.ep ≠ K) ∧ wr = o1) (fun i _ => n - (intOf i).toNat)
  case atStart => exact ⟨0, Nat.zero_le _, rfl, Lib.hid (by simp), rfl⟩
  case round =>
    obtain ⟨k, hk, rfl, HX, rfl⟩ := hrel
    by_cases hlt : k < n
    · have hlt' : (k : Int) < (n : Int) := by omega
      obtain ⟨b1, f1, rfl, c0, c1, c2, c3⟩ := erow_cell HR1.out (j := k) (by rw [← HN.out]; exact hlt)
      replace c0 := (HB1.out.cell (block_lt_of_cell c0)).trans c0
      replace c1 := (HB1.out.cell (block_lt_of_cell c1)).trans c1
      replace c2 := (HB1.out.cell (block_lt_of_cell c2)).trans c2
      replace c3 := (HB1.out.cell (block_lt_of_cell c3)).trans c3
      have HG : Hid ((fs.getD k zeroE).ep = K → getE fs K = (fs.getD k zeroE, true)) := Lib.hid (get_here (by rw [← HN.out]; exact hlt) HX.out)
      have HT : Hid (fs.take (k + 1) = fs.take k ++ [fs.getD k zeroE]) := Lib.hid (take_getE (by rw [← HN.out]; exact hlt))
      generalize fs.getD k zeroE = z at c0 c1 c2 c3 HG HT
      obtain ⟨ep, key, nx, bt⟩ := z
      dsimp only at c0 c1 c2 c3 HG HT
      have HK := Lib.hid hlt
      clear hlt hk
      by_cases he : ep = K
      · have e1 : (ep == K) = true := by simp [he]
        have HD := Lib.hid (HG.out he)
        have hr4 := four_set (a := .int .i64 ep) (b := .int .i64 key) (c := .int .u64 nx) (d := .int .u64 bt) HBR.out
        have HF : Hid (Below w.heap.size w ((((wr.setCell ⟨w.heap.size, 0, none⟩ (.int .i64 ep)).setCell ⟨w.heap.size, 1, none⟩ (.int .i64 key)).setCell ⟨w.heap.size, 2, none⟩ (.int .u64 nx)).setCell ⟨w.heap.size, 3, none⟩ (.int .u64 bt))) := Lib.hid (four_below HB1.out (Nat.le_refl _) _ _ _ _)
        obtain ⟨s0, s1, s2, s3, t0, t1, t2, t3⟩ := cells4 HBR.out
        obtain ⟨r0, r1, r2, r3, _, _, _, _⟩ := cells4 hr4
        clear he hr4
        go_wp2_with fail
        exact bodyPost_ret (v := .tuple #[.agg #[.int .i64 ep, .int .i64 key, .int .u64 nx, .int .u64 bt], .bool true]) (by simp [results, Try.results14, go_sem, r0, r1, r2, r3]) rfl ⟨by rw [HD.out]; rfl, HF.out⟩
      · have e1 : (ep == K) = false := by simpa using he
        have HX2 : Hid (∀ x, x ∈ fs.take (k + 1) → x.ep ≠ K) := Lib.hid (fun x hx => by
          rw [HT.out] at hx
          rcases List.mem_append.1 hx with q | q
          · exact HX.out x q
          · rw [List.mem_singleton.1 q]; exact he)
        clear he
        go_wp2_with fail
        go_roundw
        case rel => exact ⟨k + 1, by have := HK.out; omega, by go_num, HX2, trivial⟩
        case measure => have := HK.out; simp [intOf]; omega
    · obtain rfl : k = n := by omega
      have HE : Hid (fs.take k = fs) := Lib.hid (by rw [List.take_of_length_le (by rw [← HN.out]; exact Nat.le_refl _)])
      have HD : Hid (getE fs K = (zeroE, false)) := Lib.hid (get_none (by have := HX.out; rw [HE.out] at this; exact this))
      have hr4 := four_set (a := .int .i64 0) (b := .int .i64 0) (c := .int .u64 0) (d := .int .u64 0) HBR.out
      have HF : Hid (Below w.heap.size w ((((wr.setCell ⟨w.heap.size, 0, none⟩ (.int .i64 0)).setCell ⟨w.heap.size, 1, none⟩ (.int .i64 0)).setCell ⟨w.heap.size, 2, none⟩ (.int .u64 0)).setCell ⟨w.heap.size, 3, none⟩ (.int .u64 0))) := Lib.hid (four_below HB1.out (Nat.le_refl _) _ _ _ _)
      obtain ⟨s0, s1, s2, s3, t0, t1, t2, t3⟩ := cells4 HBR.out
      obtain ⟨r0, r1, r2, r3, _, _, _, _⟩ := cells4 hr4
      clear hlt hr4
      go_wp2_with fail
      exact bodyPost_ret (v := .tuple #[.agg #[.int .i64 0, .int .i64 0, .int .u64 0, .int .u64 0], .bool false]) (by simp [results, Try.results14, go_sem, r0, r1, r2, r3]) rfl ⟨by rw [HD.out]; rfl, HF.out⟩
end Go.Proofs.Ytpbcndbmmphngaa
