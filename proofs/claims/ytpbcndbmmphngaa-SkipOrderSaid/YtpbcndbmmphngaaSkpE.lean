/- Entries: DeleteFunc of the library, Drop of the program. -/
import Derived.Test.YtpbcndbmmphngaaSkpD
namespace Go.Proofs.Ytpbcndbmmphngaa
open Go.RowKit
set_option linter.unusedVariables false
set_option linter.unusedSimpArgs false
set_option maxRecDepth 20000
set_option maxHeartbeats 1000000 in
theorem strike_e0 {f B : Nat} {o : Obj} {p : En → Bool} (ht : Tells f B o p) (a : Option Addr) (n cap : Nat) (fs : List En) (w : World) (hn : n = fs.length) (h : RowE w a cap fs) (ho : w.heap[B]? = some o) (hno : ¬ fs.findIdx p < fs.length) :
    Calls Try.prog 21 #[.slice a n cap, .func (.func f) #[] #[.pointer (some ⟨B, 0, none⟩)]] w fun e w' => e = .returned (.slice a n cap) ∧ Below w.heap.size w w' := by
  have HT := Lib.hid ht
  have eg := ht.1
  have HR := Lib.hid h
  have HN := Lib.hid hn
  have HO := Lib.hid ho
  have HE : Hid (idxE p fs = -1) := Lib.hid (by unfold idxE; rw [if_neg hno])
  clear ht h hn ho hno
  go_enter Try.func21, Try.ntmps21
  go_wp2_with fail
  refine (index_e HT.out a n cap fs _ HN.out HR.out HO.out).mono ?_
  rintro e w2 ⟨rfl, hb2⟩
  have HB2 := Lib.hid hb2
  rw [HE.out]
  clear hb2
  go_wp2
  go_ret
  exact ⟨rfl, HB2.out⟩
set_option maxHeartbeats 4000000 in
set_option maxRecDepth 100000 in
theorem strike_e {f B : Nat} {o : Obj} {p : En → Bool} (ht : Tells f B o p) (g n cap : Nat) (L : List En) (w : World) (hn : L.length = n) (h : RowG g cap L w) (ho : w.heap[B]? = some o) (hBg : B ≠ g) (hyes : L.findIdx p < L.length) :
    Calls Try.prog 21 #[.slice (some ⟨g, 0, none⟩) n cap, .func (.func f) #[] #[.pointer (some ⟨B, 0, none⟩)]] w fun e w' => ∃ m, e = .returned (.slice (some ⟨g, 0, none⟩) m cap) ∧ (L.filter (fun x => !p x)).length = m ∧ RowG g cap (L.filter (fun x => !p x)) w' ∧ Chg (fun k => k = g) w w' := by
  obtain ⟨m0, hm0⟩ : ∃ m0, L.findIdx p = m0 := ⟨_, rfl⟩
  rw [hm0] at hyes
  have HFT := Lib.hid (strike_first hm0 hyes)
  have hcap := h.len.1
  have hcap2 := h.len.2
  have HE : Hid (idxE p L = (m0 : Int)) := Lib.hid (by unfold idxE; rw [hm0, if_pos hyes])
  rw [hn] at hyes hcap
  have h63 : n ≤ 9223372036854775807 := by unfold maxLen at hcap2; omega
  have HT := Lib.hid ht
  have eg := ht.1
  have HR := Lib.hid h
  have HN := Lib.hid hn
  have HO := Lib.hid ho
  have HBG := Lib.hid hBg
  have hw0 : IntKind.i64.wrap ((m0 : Int) + 1) = (m0 : Int) + 1 := by rw [IntKind.wrap_i64]; omega
  have HCP := Lib.hid (And.intro hcap hcap2)
  have hm1 : ((m0 : Int) == -1) = false := by simp
  clear ht h hn ho hBg hm0 hcap hcap2
  go_enter Try.func21, Try.ntmps21
  go_wp2_with fail
  refine (index_e HT.out _ n cap L _ HN.out.symm HR.out.row HO.out).mono ?_
  rintro e w2 ⟨rfl, hb2⟩
  have HR2 := Lib.hid (HR.out.below hb2)
  have HC2 : Hid (Chg (fun k => k = g) w w2) := Lib.hid (Chg.of_below hb2)
  rw [HE.out]
  clear hb2
  go_wp2_with fail
  go_loopw [5, 6] (fun si sj wr => ∃ (i j : Nat) (D : List En), i < j ∧ j ≤ n ∧ si = .int .i64 i ∧ sj = .int .i64 j ∧ Hid (D.length = n ∧ D.take i = (L.take j).filter (fun x => !p x) ∧ D.drop j = L.drop j) ∧ Hid (RowG g cap D wr) ∧ Hid (Chg (fun k => k = g) w wr)) (fun _ j _ => n - (intOf j).toNat)
  case atStart => exact ⟨m0, m0 + 1, L, by omega, by omega, rfl, by go_num, Lib.hid ⟨HN.out, HFT.out, rfl⟩, HR2, HC2⟩
  case round =>
    obtain ⟨i, j, D, hij, hj, rfl, rfl, HD, HRD, HC⟩ := hrel
    by_cases hlt : j < n
    · have hlt' : (j : Int) < (n : Int) := by omega
      have hin : (i : Int) < (n : Int) := by omega
      have HIJ := Lib.hid (And.intro hij hlt)
      obtain ⟨c0, c1, c2, c3⟩ := HRD.out.four (j := j) (by rw [HD.out.1]; exact hlt)
      have hat := strike_at hlt HD.out.2.2 HD.out.1 HN.out
      rw [hat] at c0 c1 c2 c3
      have HK := Lib.hid (strike_keep HD.out.1 hij hlt HD.out.2.1 HD.out.2.2 HN.out)
      have HS := Lib.hid (strike_skip HD.out.1 hlt HD.out.2.1 HD.out.2.2 HN.out)
      generalize L.getD j zeroE = z at c0 c1 c2 c3 HK HS
      obtain ⟨ep, key, nx, bt⟩ := z
      dsimp only at c0 c1 c2 c3
      obtain ⟨u, hu⟩ : ∃ u, u = wr.alloc (.cells #[.int .i64 ep, .int .i64 key, .int .u64 nx, .int .u64 bt] 33 : Obj) := ⟨_, rfl⟩
      have HU := Lib.hid hu
      have HOu : Hid (u.heap[B]? = some o) := Lib.hid (by rw [hu]; exact ((below_alloc wr _).block _ (blk_lt (HC.out.blk HO.out HBG.out))).trans (HC.out.blk HO.out HBG.out))
      have HBX : Hid (u.heap[wr.heap.size]? = some (.cells #[.int .i64 ep, .int .i64 key, .int .u64 nx, .int .u64 bt] 33 (0, 0))) := Lib.hid (by rw [hu]; exact heap_alloc_new wr _)
      have HRu : Hid (RowG g cap D u) := Lib.hid (by rw [hu]; exact HRD.out.below (below_alloc _ _))
      have HCu : Hid (Chg (fun k => k = g) w u) := Lib.hid (by rw [hu]; exact HC.out.trans (.of_below (below_alloc _ _)))
      have hwi : IntKind.i64.wrap ((i : Int) + 1) = (i : Int) + 1 := by rw [IntKind.wrap_i64]; omega
      have hwj : IntKind.i64.wrap ((j : Int) + 1) = (j : Int) + 1 := by rw [IntKind.wrap_i64]; omega
      obtain ⟨d0, d1, d2, d3, _, _, _, _⟩ := cells4 HBX.out
      rw [HU.out] at d0 d1 d2 d3
      clear hu hlt hij hat hj
      go_wp2_with fail
      rw [← HU.out]
      refine (HT.out.2 ep key nx bt u HOu.out).mono ?_
      rintro e w3 ⟨rfl, hb3⟩
      have HBX3 : Hid (w3.heap[wr.heap.size]? = some (.cells #[.int .i64 ep, .int .i64 key, .int .u64 nx, .int .u64 bt] 33 (0, 0))) := Lib.hid ((hb3.block _ (blk_lt HBX.out)).trans HBX.out)
      have HR3 := Lib.hid (HRu.out.below hb3)
      have HC3 : Hid (Chg (fun k => k = g) w w3) := Lib.hid (HCu.out.trans (.of_below hb3))
      clear hb3 c0 c1 c2 c3 d0 d1 d2 d3
      obtain ⟨d0, d1, d2, d3, _, _, _, _⟩ := cells4 HBX3.out
      obtain ⟨s0, s1, s2, s3⟩ := HR3.out.four (j := i) (by rw [HD.out.1]; have := HIJ.out; omega)
      have t0 := HR3.out.free (i * 4)
      have t1 := HR3.out.free (i * 4 + 1)
      have t2 := HR3.out.free (i * 4 + 2)
      have t3 := HR3.out.free (i * 4 + 3)
      cases hp : p ⟨ep, key, nx, bt⟩ with
      | true =>
        have HS2 := Lib.hid (HS.out hp)
        clear hp
        go_wp2_with fail
        go_roundw
        case rel => exact ⟨i, j + 1, D, by have := HIJ.out; omega, by have := HIJ.out; omega, rfl, by go_num, Lib.hid ⟨HD.out.1, HS2.out.1, HS2.out.2⟩, HR3, HC3⟩
        case measure => have := HIJ.out; simp [intOf]; omega
      | false =>
        have HK2 := Lib.hid (HK.out hp)
        have HS4 := Lib.hid (HR3.out.set4 (j := i) (by rw [HD.out.1]; have := HIJ.out; omega) ⟨ep, key, nx, bt⟩)
        clear hp
        go_wp2_with fail
        go_roundw
        case rel => exact ⟨i + 1, j + 1, D.set i ⟨ep, key, nx, bt⟩, by have := HIJ.out; omega, by have := HIJ.out; omega, by go_num, by go_num, Lib.hid ⟨by simpa using HD.out.1, HK2.out.1, HK2.out.2⟩, Lib.hid HS4.out.1, Lib.hid (HC3.out.trans HS4.out.2)⟩
        case measure => have := HIJ.out; simp [intOf]; omega
    · obtain rfl : j = n := by omega
      have hi0 : (i : Int) ≤ (j : Int) := by omega
      have hci : ¬ (cap = i) := by have := HCP.out.1; omega
      have hic : (i : Int) ≤ (cap : Int) := by have := HCP.out.1; omega
      have HF : Hid (D.take i = L.filter (fun x => !p x)) := Lib.hid (by rw [HD.out.2.1, List.take_of_length_le (by rw [HN.out]; exact Nat.le_refl _)])
      have HTK := HRD.out.take i
      have hil : (D.take i).length = i := by rw [List.length_take, HD.out.1]; omega
      obtain ⟨w4, hr4, hR4, hC4⟩ := HTK.clear i (j - i) (cap - i) 0 (by rw [hil]; exact Nat.le_refl _) (by have := HCP.out.1; omega)
      have HR4 : Hid (RowG g cap (L.filter (fun x => !p x)) w4) := Lib.hid (by rw [← HF.out]; exact hR4)
      have HL4 : Hid ((L.filter (fun x => !p x)).length = i) := Lib.hid (by rw [← HF.out]; exact hil)
      have HC4 : Hid (Chg (fun k => k = g) w w4) := Lib.hid (HC.out.trans hC4)
      clear hlt hj HTK hil hR4 hC4 hij
      go_wp2
      go_ret
      exact ⟨_, rfl, HL4.out, HR4.out, HC4.out⟩
theorem strike_k {f B base : Nat} {o : Obj} {p : En → Bool} {v : Value} (ht : Tells f B o p) (L : List En) (w : World) (h : OwnE 33 base v L w) (hb : base ≤ w.heap.size) (ho : w.heap[B]? = some o) (hBg : ∀ g, v.ownBlock = some g → B ≠ g) :
    Calls Try.prog 21 #[v, .func (.func f) #[] #[.pointer (some ⟨B, 0, none⟩)]] w fun e w' => ∃ a m c, e = .returned (.slice a m c) ∧ OwnE 33 base (.slice a m c) (L.filter (fun x => !p x)) w' ∧ Below base w w' := by
  by_cases hy : L.findIdx p < L.length
  · rcases h.rowG with ⟨_, h2⟩ | ⟨g, cap, rfl, hg, hr⟩
    · rw [h2] at hy; simp at hy
    · refine (strike_e ht g _ cap L w rfl hr ho (hBg g rfl) hy).mono ?_
      rintro e w' ⟨m, he, hl, hR, hC⟩
      exact ⟨_, m, cap, he, by rw [← hl]; exact hR.own hg, hC.below (fun k q => by rw [q]; exact hg) hb⟩
  · obtain ⟨a, c, hv, hrow⟩ := h.at
    rw [hv]
    refine (strike_e0 ht a L.length c L w rfl hrow ho hy).mono ?_
    rintro e w' ⟨he, hb2⟩
    exact ⟨a, L.length, c, he, by rw [strike_none hy, ← hv]; exact h.below hb2, hb2.mono hb⟩
theorem dropE_filter (L : List En) (K : Int) : L.filter (fun x => !(x.ep == K)) = dropE L K := rfl
set_option maxHeartbeats 4000000 in
theorem pdrop_e (a : Option Addr) (n cap : Nat) (fs : List En) (K : Int) (w : World) (hn : n = fs.length) (h : RowE w a cap fs) (hok : OkE fs) :
    Calls Try.prog 8 #[.agg #[.slice a n cap], .int .i64 K] w fun e w' => ∃ v, e = .returned (.agg #[v]) ∧ OwnE 33 w.heap.size v (dropE fs K) w' ∧ Below w.heap.size w w' := by
  have hm : n ≤ 1000 := by have := hok.2; omega
  have HN := Lib.hid hn
  obtain ⟨o0, ho0⟩ : ∃ o0, o0 = w.alloc (.cells #[.slice a n cap] 26 : Obj) := ⟨_, rfl⟩
  obtain ⟨o1, ho1⟩ : ∃ o1, o1 = o0.alloc (.cells #[.slice none 0 0] 26 : Obj) := ⟨_, rfl⟩
  obtain ⟨B5, hB5⟩ : ∃ B5, B5 = o0.heap.size := ⟨_, rfl⟩
  have hb5 : w.heap.size + 1 = B5 := by rw [hB5, ho0]; simp
  have HO := Lib.hid (And.intro ho0 (And.intro ho1 hb5))
  have HBL : Hid (Below w.heap.size w o1) := Lib.hid (by rw [ho1, ho0]; exact (below_alloc w _).trans ((below_alloc _ _).mono (below_alloc w _).size))
  have k0 : o0.heap[w.heap.size]? = some (.cells #[.slice a n cap] 26 (0, 0)) := by rw [ho0]; exact heap_alloc_new w _
  have HK3 : Hid (o1.heap[w.heap.size]? = some (.cells #[.slice a n cap] 26 (0, 0))) := Lib.hid (by rw [ho1]; exact ((below_alloc o0 _).block _ (blk_lt k0)).trans k0)
  have HK5 : Hid (o1.heap[B5]? = some (.cells #[.slice none 0 0] 26 (0, 0))) := Lib.hid (by rw [ho1, hB5]; exact heap_alloc_new o0 _)
  have HB5 : Hid (w.heap.size ≤ B5) := Lib.hid (by omega)
  have HR2 : Hid (RowE o1 a cap fs) := Lib.hid (h.below HBL.out)
  clear ho0 ho1 hB5 hb5 k0 hn h hok
  go_enter Try.func8, Try.ntmps8
  go_upto_region 1 with fail
  rw [← HO.out.1, ← HO.out.2.1, HO.out.2.2]
  obtain ⟨r0, _⟩ := cell1 HK3.out
  go_wp2_with fail
  refine (clone_e a n cap fs o1 HN.out HR2.out hm).mono ?_
  rintro e w1 ⟨v, rfl, hO, hb⟩
  obtain ⟨a1, c1, rfl, _⟩ := hO.at
  have HO1 : Hid (OwnE 33 o1.heap.size (.slice a1 fs.length c1) fs w1) := Lib.hid hO
  have HB1 := Lib.hid hb
  clear hO hb r0
  go_wp2_with fail
  refine (of_k K w1).mono ?_
  rintro e w2 ⟨rfl, hw2⟩
  have HBK : Hid (w2.heap[w1.heap.size]? = some (.cells #[.int .i64 K] 3 (0, 0))) := Lib.hid (by rw [hw2]; exact heap_alloc_new w1 _)
  have HB2 : Hid (Below o1.heap.size o1 w2 ∧ w1.heap.size ≤ w2.heap.size) := Lib.hid (by rw [hw2]; exact ⟨HB1.out.trans ((below_alloc w1 _).mono HB1.out.size), (below_alloc w1 _).size⟩)
  have HO2 : Hid (OwnE 33 o1.heap.size (.slice a1 fs.length c1) fs w2) := Lib.hid (by rw [hw2]; exact HO1.out.below (below_alloc _ _))
  have HAP : Hid (∀ g, (Value.slice a1 fs.length c1).ownBlock = some g → w1.heap.size ≠ g) := Lib.hid (fun g q e => by
    have := (World.ownsRow.lt HO1.out g q).2
    omega)
  clear hw2
  go_wp2_with fail
  refine (strike_k (of_tells K w1.heap.size) fs w2 HO2.out HB2.out.1.size HBK.out HAP.out).mono ?_
  rintro e w3 ⟨a3, m3, c3, rfl, hO3, hb3⟩
  have HB3 : Hid (Below o1.heap.size o1 w3) := Lib.hid (HB2.out.1.trans hb3)
  have HO3 : Hid (OwnE 33 o1.heap.size (.slice a3 m3 c3) (dropE fs K) w3) := Lib.hid hO3
  have HK53 : Hid (w3.heap[B5]? = some (.cells #[.slice none 0 0] 26 (0, 0))) := Lib.hid ((HB3.out.block _ (blk_lt HK5.out)).trans HK5.out)
  clear hO3 hb3
  obtain ⟨s0, f0⟩ := cell1 HK53.out
  have hs := heap_setCell_same w3 B5 0 _ _ (.slice a3 m3 c3) HK53.out
  have HS : Hid ((w3.setCell ⟨B5, 0, none⟩ (.slice a3 m3 c3)).cell? ⟨B5, 0, none⟩ = some (.slice a3 m3 c3)) := Lib.hid (by simp at hs; exact (cell1 hs).1)
  have HE : Hid (OwnE 33 w.heap.size (.slice a3 m3 c3) (dropE fs K) (w3.setCell ⟨B5, 0, none⟩ (.slice a3 m3 c3)) ∧ Below w.heap.size w (w3.setCell ⟨B5, 0, none⟩ (.slice a3 m3 c3))) := Lib.hid (by
    have hlt : B5 < o1.heap.size := blk_lt HK5.out
    refine ⟨?_, ?_⟩
    · have h1 := HO3.out.chg (Chg.setC w3 B5 0 (.slice a3 m3 c3)) (fun j q e => by
        have := (World.ownsRow.lt HO3.out j q).1
        omega)
      have h1' : (w3.setCell ⟨B5, 0, none⟩ (.slice a3 m3 c3)).ownsRow o1.heap.size 33 4 (.slice a3 m3 c3) (dropE fs K).length (cellsE (dropE fs K)) := h1
      exact ⟨h1'.1, h1'.2.imp id (fun ⟨g, cap, cur, e1, e2, e3⟩ => ⟨g, cap, cur, e1, by have := HBL.out.size; omega, e3⟩)⟩
    · exact ((HBL.out.trans (HB3.out.mono HBL.out.size)).setCell (p := ⟨B5, 0, none⟩) HB5.out _))
  have hr := HS.out
  clear hs
  go_wp2_with fail
  exact bodyPost_ret (v := .agg #[.slice a3 m3 c3]) (by simp [results, Try.results8, go_sem, hr]) rfl ⟨_, rfl, HE.out⟩
end Go.Proofs.Ytpbcndbmmphngaa
