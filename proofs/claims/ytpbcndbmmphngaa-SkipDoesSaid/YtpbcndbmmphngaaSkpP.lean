/- Entries: Put of the program. -/
import Derived.Test.YtpbcndbmmphngaaSkpJ
namespace Go.Proofs.Ytpbcndbmmphngaa
open Go.RowKit
set_option linter.unusedVariables false
set_option linter.unusedSimpArgs false
set_option maxRecDepth 20000
theorem above_idx : ∀ (R : List En) (k : Int), (∀ x, x ∈ R → x.ep ≠ k) → R.findIdx (fun x => decide (k < x.ep)) = (underE R k).length
  | [], k, _ => rfl
  | x :: R, k, h => by
    have h0 := h x (by simp)
    unfold underE
    by_cases hx : x.ep < k
    · have hn : decide (k < x.ep) = false := by simp; omega
      rw [List.findIdx_cons, hn, List.takeWhile_cons_of_pos (by simpa using hx)]
      simp only [cond_false, List.length_cons]
      have := above_idx R k (fun y hy => h y (by simp [hy]))
      unfold underE at this
      rw [this]
    · have hn : decide (k < x.ep) = true := by simp; omega
      rw [List.findIdx_cons, hn, List.takeWhile_cons_of_neg (by simpa using hx)]
      rfl
theorem field_l (a : Option Addr) (n c : Nat) (W : World) : (Instr.field 26 (.agg #[.slice a n c]) 0).run Try.prog W = .ok (.slice a n c) W := by kernel_rfl
/-- Both results stored. -/
theorem put_end {w : World} {B4 B5 : Nat} {x y0 y1 y2 y3 : Value} {T S : TypeId} (v p q r s : Value) (h4 : w.heap[B4]? = some (.cells #[x] T (0, 0))) (h5 : w.heap[B5]? = some (.cells #[y0, y1, y2, y3] S (0, 0))) (hne : B4 ≠ B5) :
    (((((w.setCell ⟨B4, 0, none⟩ v).setCell ⟨B5, 0, none⟩ p).setCell ⟨B5, 1, none⟩ q).setCell ⟨B5, 2, none⟩ r).setCell ⟨B5, 3, none⟩ s).heap[B4]? = some (.cells #[v] T (0, 0)) ∧
    (((((w.setCell ⟨B4, 0, none⟩ v).setCell ⟨B5, 0, none⟩ p).setCell ⟨B5, 1, none⟩ q).setCell ⟨B5, 2, none⟩ r).setCell ⟨B5, 3, none⟩ s).heap[B5]? = some (.cells #[p, q, r, s] S (0, 0)) ∧
    Chg (fun k => k = B4 ∨ k = B5) w (((((w.setCell ⟨B4, 0, none⟩ v).setCell ⟨B5, 0, none⟩ p).setCell ⟨B5, 1, none⟩ q).setCell ⟨B5, 2, none⟩ r).setCell ⟨B5, 3, none⟩ s) := by
  have c1 := Chg.setC w B4 0 v
  have c2 := four_chg (w.setCell ⟨B4, 0, none⟩ v) B5 p q r s
  have e4 : (w.setCell ⟨B4, 0, none⟩ v).heap[B4]? = some (.cells #[v] T (0, 0)) := by have := heap_setCell_same w B4 0 _ _ v h4; simpa using this
  have e5 : (w.setCell ⟨B4, 0, none⟩ v).heap[B5]? = some (.cells #[y0, y1, y2, y3] S (0, 0)) := (c1.block B5 (blk_lt h5) (fun e => hne e.symm)).trans h5
  refine ⟨(c2.block B4 (blk_lt e4) hne).trans e4, four_set e5, ?_⟩
  have c1' : Chg (fun k => k = B4 ∨ k = B5) w (w.setCell ⟨B4, 0, none⟩ v) := ⟨c1.os, c1.tape, c1.output, c1.size, fun k hk hs => c1.block k hk (fun e => hs (.inl e))⟩
  exact c1'.trans ⟨c2.os, c2.tape, c2.output, c2.size, fun k hk hs => c2.block k hk (fun e => hs (.inr e))⟩
theorem below_ad (w : World) (o : Obj) : Below w.heap.size w (w.alloc o).drew := (below_alloc w o).trans ((drew_b _).mono (below_alloc w o).size)
theorem below_da (w : World) (o : Obj) : Below w.heap.size w (w.drew.alloc o) := (drew_b w).trans (below_alloc w.drew o)
set_option maxHeartbeats 8000000 in
set_option maxRecDepth 100000 in
theorem pput_e (a : Option Addr) (n cap : Nat) (fs : List En) (ep key nx bt : Int) (w : World) (hn : n = fs.length) (h : RowE w a cap fs) (hok : OkE fs) :
    Calls Try.prog 10 #[.agg #[.slice a n cap], .agg #[.int .i64 ep, .int .i64 key, .int .u64 nx, .int .u64 bt]] w fun e w' => ∃ v, e = .returned (.tuple #[.agg #[v], (putE fs ⟨ep, key, nx, bt⟩).2.1.v, .bool (putE fs ⟨ep, key, nx, bt⟩).2.2]) ∧ NewE 33 w.heap.size v (putE fs ⟨ep, key, nx, bt⟩).1 w' ∧ Below w.heap.size w w' := by
  obtain ⟨R, hR⟩ : ∃ R, dropE fs ep = R := ⟨_, rfl⟩
  obtain ⟨m, hm⟩ : ∃ m, (underE R ep).length = m := ⟨_, rfl⟩
  obtain ⟨rn, hrn⟩ : ∃ rn, R.length = rn := ⟨_, rfl⟩
  have hml : m ≤ rn := by rw [← hm, ← hrn]; exact under_len R ep
  obtain ⟨n5, hn5⟩ : ∃ n5, rn + 1 = n5 := ⟨_, rfl⟩
  have HN5 := Lib.hid hn5
  have hr4 : rn ≤ 4 := by have := (hok.drop ep).2; rw [hR] at this; omega
  have HI : Hid (R.findIdx (fun x => decide (ep < x.ep)) = m) := Lib.hid (by rw [above_idx R ep (fun x hx => by rw [← hR] at hx; exact (mem_dropE.1 hx).2), hm])
  have HW : Hid (R.take m ++ ⟨ep, key, nx, bt⟩ :: R.drop m = withE fs ⟨ep, key, nx, bt⟩) := Lib.hid (by
    unfold withE
    show _ = underE (dropE fs ep) ep ++ _ :: overE (dropE fs ep) ep
    rw [hR, ← hm, under_take, under_drop])
  have HWL : Hid ((withE fs ⟨ep, key, nx, bt⟩).length = n5) := Lib.hid (by rw [with_len]; show (dropE fs ep).length + 1 = _; rw [hR, hrn, hn5])
  obtain ⟨o0, ho0⟩ : ∃ o0, o0 = w.alloc (.cells #[.slice a n cap] 26 : Obj) := ⟨_, rfl⟩
  obtain ⟨o1, ho1⟩ : ∃ o1, o1 = o0.alloc (.cells #[.int .i64 ep, .int .i64 key, .int .u64 nx, .int .u64 bt] 33 : Obj) := ⟨_, rfl⟩
  obtain ⟨o2, ho2⟩ : ∃ o2, o2 = o1.alloc (.cells #[.slice none 0 0] 26 : Obj) := ⟨_, rfl⟩
  obtain ⟨o3, ho3⟩ : ∃ o3, o3 = o2.alloc (.cells #[.int .i64 0, .int .i64 0, .int .u64 0, .int .u64 0] 33 : Obj) := ⟨_, rfl⟩
  obtain ⟨B3, hB3⟩ : ∃ B3, B3 = o0.heap.size := ⟨_, rfl⟩
  obtain ⟨B4, hB4⟩ : ∃ B4, B4 = o1.heap.size := ⟨_, rfl⟩
  obtain ⟨B5, hB5⟩ : ∃ B5, B5 = o2.heap.size := ⟨_, rfl⟩
  have e3 : w.heap.size + 1 = B3 := by rw [hB3, ho0]; simp
  have e4 : B3 + 1 = B4 := by rw [hB4, ho1, hB3]; simp
  have e5 : B4 + 1 = B5 := by rw [hB5, ho2, hB4]; simp
  have HO := Lib.hid (And.intro ho0 (And.intro ho1 (And.intro ho2 (And.intro ho3 (And.intro e3 (And.intro e4 e5))))))
  have b01 : Below w.heap.size w o0 := by rw [ho0]; exact below_alloc w _
  have b12 : Below o0.heap.size o0 o1 := by rw [ho1]; exact below_alloc _ _
  have b23 : Below o1.heap.size o1 o2 := by rw [ho2]; exact below_alloc _ _
  have b34 : Below o2.heap.size o2 o3 := by rw [ho3]; exact below_alloc _ _
  have b24 : Below o1.heap.size o1 o3 := b23.trans (b34.mono b23.size)
  have b14 : Below o0.heap.size o0 o3 := b12.trans (b24.mono b12.size)
  have HBL : Hid (Below w.heap.size w o3) := Lib.hid (b01.trans (b14.mono b01.size))
  have k2 : o0.heap[w.heap.size]? = some (.cells #[.slice a n cap] 26 (0, 0)) := by rw [ho0]; exact heap_alloc_new w _
  have k3 : o1.heap[B3]? = some (.cells #[.int .i64 ep, .int .i64 key, .int .u64 nx, .int .u64 bt] 33 (0, 0)) := by rw [ho1, hB3]; exact heap_alloc_new o0 _
  have k4 : o2.heap[B4]? = some (.cells #[.slice none 0 0] 26 (0, 0)) := by rw [ho2, hB4]; exact heap_alloc_new o1 _
  have HK2 : Hid (o3.heap[w.heap.size]? = some (.cells #[.slice a n cap] 26 (0, 0))) := Lib.hid ((b14.block _ (blk_lt k2)).trans k2)
  have HK3 : Hid (o3.heap[B3]? = some (.cells #[.int .i64 ep, .int .i64 key, .int .u64 nx, .int .u64 bt] 33 (0, 0))) := Lib.hid ((b24.block _ (blk_lt k3)).trans k3)
  have HK4 : Hid (o3.heap[B4]? = some (.cells #[.slice none 0 0] 26 (0, 0))) := Lib.hid ((b34.block _ (blk_lt k4)).trans k4)
  have HK5 : Hid (o3.heap[B5]? = some (.cells #[.int .i64 0, .int .i64 0, .int .u64 0, .int .u64 0] 33 (0, 0))) := Lib.hid (by rw [ho3, hB5]; exact heap_alloc_new o2 _)
  have HWB : Hid (w.heap.size < B3 ∧ B3 < B4 ∧ B4 < B5 ∧ B5 < o3.heap.size) := Lib.hid ⟨by omega, by omega, by omega, blk_lt HK5.out⟩
  have HR2 : Hid (RowE o3 a cap fs) := Lib.hid (h.below HBL.out)
  have HN := Lib.hid hn
  have HOK := Lib.hid hok
  have HRR := Lib.hid hR
  have HRN := Lib.hid hrn
  have HML := Lib.hid (And.intro hml hr4)
  clear ho0 ho1 ho2 ho3 hB3 hB4 hB5 e3 e4 e5 b01 b12 b23 b34 b24 b14 k2 k3 k4 hn h hok hR hrn hm hml hn5
  have hmf : ∀ (fn : Fn) (first cap : Array Value) (w : World), (Instr.makeFunc fn first cap).run Try.prog w = .ok (.func fn first cap) w := fun _ _ _ _ => rfl
  go_enter Try.func10, Try.ntmps10
  go_upto_region 1 with fail
  rw [← HO.out.1, ← HO.out.2.1, ← HO.out.2.2.1, ← HO.out.2.2.2.1, HO.out.2.2.2.2.1, HO.out.2.2.2.2.2.1, HO.out.2.2.2.2.2.2]
  obtain ⟨r0, _⟩ := cell1 HK2.out
  obtain ⟨s0, s1, s2, s3, _, _, _, _⟩ := cells4 HK3.out
  go_wp2_with fail
  refine (pdrop_e a n cap fs ep o3 HN.out HR2.out HOK.out).mono ?_
  rintro e w1 ⟨v, rfl, hO, hb⟩
  rw [HRR.out] at hO
  obtain ⟨a1, c1, rfl, hrow⟩ := hO.at
  rw [HRN.out] at hO ⊢
  have HO1 := Lib.hid hO
  have HRow := Lib.hid hrow
  have HB1 := Lib.hid hb
  have HK31 : Hid (w1.heap[B3]? = some (.cells #[.int .i64 ep, .int .i64 key, .int .u64 nx, .int .u64 bt] 33 (0, 0))) := Lib.hid ((hb.block _ (blk_lt HK3.out)).trans HK3.out)
  have HFst : Hid (∀ W, Below w1.heap.size w1 W → Calls Try.prog 26 #[.slice a1 rn c1, .func (.func 24) #[] #[.pointer (some ⟨B3, 0, none⟩)]] W fun e w' => e = .returned (.int .i64 m) ∧ Below w1.heap.size w1 w' ∧ ∀ k o, W.heap[k]? = some o → w'.heap[k]? = some o) := Lib.hid (fun W hW => by
    refine (first_e (above_tells ep key nx bt B3) a1 rn c1 R W HRN.out.symm (HRow.out.below hW) ((hW.block _ (blk_lt HK31.out)).trans HK31.out) HI.out).mono ?_
    rintro e w' ⟨he, hb⟩
    exact ⟨he, hW.trans (hb.mono hW.size), fun k o q => (hb.block k (blk_lt q)).trans q⟩)
  have HIns : Hid (∀ W V, Below w1.heap.size w1 W → w1.heap.size ≤ V → W.heap[V]? = some (.cells #[.int .i64 ep, .int .i64 key, .int .u64 nx, .int .u64 bt] 33 (0, 0)) → Calls Try.prog 25 #[.slice a1 rn c1, .int .i64 m, .slice (some ⟨V, 0, none⟩) 1 1] W fun x w' => ∃ a' c', x = .returned (.slice a' n5 c') ∧ OwnE 33 o3.heap.size (.slice a' n5 c') (withE fs ⟨ep, key, nx, bt⟩) w' ∧ Below o3.heap.size o3 w') := Lib.hid (fun W V hW hV hk => by
    refine (insert_k (e := ⟨ep, key, nx, bt⟩) HRN.out (HO1.out.below hW) hk (fun g q e => by
      have := (World.ownsRow.lt HO1.out g q).2
      omega) (Nat.le_trans HB1.out.size hW.size) HML.out.1 (by have := HML.out.2; omega)).mono ?_
    rintro x w' ⟨a', c', he, h1, h2⟩
    rw [HN5.out] at he h1
    exact ⟨a', c', he, by rw [← HW.out]; exact h1, (HB1.out.trans (hW.mono HB1.out.size)).trans h2⟩)
  clear hO hrow hb s0 s1 s2 s3 r0
  obtain ⟨s0, s1, s2, s3, _, _, _, _⟩ := cells4 HK31.out
  have hfl := field_l a1 rn c1
  go_wp2_with fail
  go_region_with (first
    | (go_at_call 26; refine (HFst.out _ (by first | exact drew_b _ | exact below_ad _ _ | exact below_da _ _)).mono ?_; rintro e w2 ⟨rfl, hb2, hk2⟩; have HB2 := Lib.hid hb2; have HK2 := Lib.hid hk2; have HK32 := Lib.hid ((hb2.block _ (blk_lt HK31.out)).trans HK31.out); obtain ⟨s02, s12, s22, s32, _, _, _, _⟩ := cells4 HK32.out; clear hb2 hk2)
    | (go_at_call 25; refine (HIns.out _ _ (by first | exact HB2.out | exact HB2.out.trans ((below_alloc _ _).mono HB2.out.size)) (by first | exact Nat.le_refl _ | exact HB2.out.size) (by first | exact heap_alloc_new _ _ | exact HK2.out _ _ (heap_alloc_new w1.drew _))).mono ?_; rintro e w3 ⟨a3, c3, rfl, hO3, hB3⟩; have HO3 := Lib.hid hO3; have HB3 := Lib.hid hB3; clear hO3 hB3))
  all_goals
    have HK43 : Hid (w3.heap[B4]? = some (.cells #[.slice none 0 0] 26 (0, 0))) := Lib.hid ((HB3.out.block _ (blk_lt HK4.out)).trans HK4.out)
    have HK53 : Hid (w3.heap[B5]? = some (.cells #[.int .i64 0, .int .i64 0, .int .u64 0, .int .u64 0] 33 (0, 0))) := Lib.hid ((HB3.out.block _ (blk_lt HK5.out)).trans HK5.out)
    have HSZ := Lib.hid HB3.out.size
    clear s0 s1 s2 s3 s02 s12 s22 s32 hfl hmf
    by_cases h4 : n5 ≤ 4
    · have hi4 : (n5 : Int) ≤ 4 := by omega
      have HP := Lib.hid (put_few (by rw [HWL.out]; exact h4))
      obtain ⟨x4, y4⟩ := cell1 HK43.out
      obtain ⟨z0, z1, z2, z3, f0, f1, f2, f3⟩ := cells4 HK53.out
      have hpe := put_end (.slice a3 n5 c3) (.int .i64 0) (.int .i64 0) (.int .u64 0) (.int .u64 0) HK43.out HK53.out (by have := HWB.out; omega)
      obtain ⟨q0, _⟩ := cell1 hpe.1
      obtain ⟨q1, q2, q3, q4, _, _, _, _⟩ := cells4 hpe.2.1
      have HC := Lib.hid hpe.2.2
      have hnb : ¬ B5 = B4 := by have := HWB.out; omega
      have hnb2 : ¬ B4 = B5 := by have := HWB.out; omega
      clear hpe h4
      go_wp2_with fail
      exact bodyPost_ret (v := .tuple #[.agg #[.slice a3 n5 c3], .agg #[.int .i64 0, .int .i64 0, .int .u64 0, .int .u64 0], .bool false]) (by simp [results, Try.results10, go_sem, q0, q1, q2, q3, q4]) rfl (by
        refine ⟨.slice a3 n5 c3, by rw [HP.out]; rfl, ?_, ?_⟩
        · rw [HP.out]
          exact (HO3.out.chg HC.out (fun j q e => by
            have := (World.ownsRow.lt HO3.out j q).1
            have := HWB.out
            omega)).newE.mono HBL.out.size
        · exact (HBL.out.trans (HB3.out.mono HBL.out.size)).trans (HC.out.below (fun k e => by have := HWB.out; omega) (by have := HBL.out.size; have := HSZ.out; omega)))
    · have hr5 : n5 = 5 := by have := HML.out.2; have := HN5.out; omega
      subst hr5
      obtain ⟨x, L, hx, hp⟩ := put_many (l := fs) (e := ⟨ep, key, nx, bt⟩) (by rw [HWL.out]; omega)
      have HP := Lib.hid hp
      have HWX := Lib.hid hx
      have hL4 : L.length = 4 := by have := HWL.out; rw [hx] at this; simpa using this
      have hOx := HO3.out
      rw [hx] at hOx
      rcases hOx.rowG with ⟨q, _⟩ | ⟨g3, cap3, q, hg3, hrg⟩
      · injection q with q1 q2 q3
        cases q2
      · injection q with q1 q2 q3
        subst q1 q3
        have HG3 := Lib.hid hg3
        obtain ⟨p0, p1, p2, p3⟩ := hrg.four (j := 0) (by simp)
        obtain ⟨xp, xk, xn, xb⟩ := x
        rw [show ((⟨xp, xk, xn, xb⟩ : En) :: L).getD 0 zeroE = ⟨xp, xk, xn, xb⟩ from rfl] at p0 p1 p2 p3
        dsimp only at p0 p1 p2 p3
        simp only [Nat.zero_mul, Nat.zero_add] at p0 p1 p2 p3
        have hcg := hrg.len.1
        have hcl : (5 : Int) ≤ (c3 : Int) := by simp only [List.length_cons, hL4] at hcg; omega
        have HD0 := Lib.hid (delete_e (hrg.below (below_ad w3 (.cells #[.int .i64 xp, .int .i64 xk, .int .u64 xn, .int .u64 xb] 33))) hL4)
        have HK4a : Hid ((w3.alloc (.cells #[.int .i64 xp, .int .i64 xk, .int .u64 xn, .int .u64 xb] 33 : Obj)).heap[B4]? = some (.cells #[.slice none 0 0] 26 (0, 0))) := Lib.hid (((below_alloc w3 _).block _ (blk_lt HK43.out)).trans HK43.out)
        have HK5a : Hid ((w3.alloc (.cells #[.int .i64 xp, .int .i64 xk, .int .u64 xn, .int .u64 xb] 33 : Obj)).heap[B5]? = some (.cells #[.int .i64 0, .int .i64 0, .int .u64 0, .int .u64 0] 33 (0, 0))) := Lib.hid (((below_alloc w3 _).block _ (blk_lt HK53.out)).trans HK53.out)
        have HKXa : Hid ((w3.alloc (.cells #[.int .i64 xp, .int .i64 xk, .int .u64 xn, .int .u64 xb] 33 : Obj)).heap[w3.heap.size]? = some (.cells #[.int .i64 xp, .int .i64 xk, .int .u64 xn, .int .u64 xb] 33 (0, 0))) := Lib.hid (heap_alloc_new w3 _)
        have HGL : Hid (g3 < w3.heap.size) := Lib.hid hrg.lt
        obtain ⟨d0, d1, d2, d3, _, _, _, _⟩ := cells4 HKXa.out
        have hnb : ¬ B5 = B4 := by have := HWB.out; omega
        have hnb2 : ¬ B4 = B5 := by have := HWB.out; omega
        have hn1 : ¬ w3.heap.size = B4 := by have := HWB.out; have := HSZ.out; omega
        have hn2 : ¬ B4 = w3.heap.size := by have := HWB.out; have := HSZ.out; omega
        have hn3 : ¬ w3.heap.size = B5 := by have := HWB.out; have := HSZ.out; omega
        have hn4 : ¬ B5 = w3.heap.size := by have := HWB.out; have := HSZ.out; omega
        clear h4 hp hx hOx hrg hcg hg3 hL4 q2
        go_wp2_with fail
        go_region_with (go_at_call 27; refine HD0.out.mono ?_; rintro e w5 ⟨rfl, hR5, hC5⟩; have HR5 := Lib.hid hR5; have HC5 := Lib.hid hC5; have HK45 : Hid (w5.heap[B4]? = some (.cells #[.slice none 0 0] 26 (0, 0))) := Lib.hid ((hC5.block B4 (blk_lt HK4a.out) (by have := HG3.out; have := HWB.out; omega)).trans HK4a.out); have HK55 : Hid (w5.heap[B5]? = some (.cells #[.int .i64 0, .int .i64 0, .int .u64 0, .int .u64 0] 33 (0, 0))) := Lib.hid ((hC5.block B5 (blk_lt HK5a.out) (by have := HG3.out; have := HWB.out; omega)).trans HK5a.out); have HKX5 : Hid (w5.heap[w3.heap.size]? = some (.cells #[.int .i64 xp, .int .i64 xk, .int .u64 xn, .int .u64 xb] 33 (0, 0))) := Lib.hid ((hC5.block w3.heap.size (blk_lt HKXa.out) (by have := HGL.out; omega)).trans HKXa.out); clear hR5 hC5; obtain ⟨x4, y4⟩ := cell1 HK45.out; obtain ⟨z0, z1, z2, z3, f0, f1, f2, f3⟩ := cells4 HK55.out; obtain ⟨u0, u1, u2, u3, _, _, _, _⟩ := cells4 HKX5.out)
        all_goals
          have hpe := put_end (.slice (some ⟨g3, 0, none⟩) 4 c3) (.int .i64 xp) (.int .i64 xk) (.int .u64 xn) (.int .u64 xb) HK45.out HK55.out (by have := HWB.out; omega)
          obtain ⟨q0, _⟩ := cell1 hpe.1
          obtain ⟨q1, q2, q3, q4, _, _, _, _⟩ := cells4 hpe.2.1
          have HC := Lib.hid hpe.2.2
          clear hpe
          go_wp2_with fail
          exact bodyPost_ret (v := .tuple #[.agg #[.slice (some ⟨g3, 0, none⟩) 4 c3], .agg #[.int .i64 xp, .int .i64 xk, .int .u64 xn, .int .u64 xb], .bool true]) (by simp [results, Try.results10, go_sem, q0, q1, q2, q3, q4]) rfl (by
            have h1 : Below o3.heap.size o3 w5 := HB3.out.trans (((below_ad w3 _).mono HSZ.out).trans (HC5.out.below (fun k e => by rw [e]; exact HG3.out) (by have := HSZ.out; have := (below_ad w3 (.cells #[.int .i64 xp, .int .i64 xk, .int .u64 xn, .int .u64 xb] 33)).size; omega)))
            refine ⟨_, by rw [HP.out]; rfl, ?_, ?_⟩
            · rw [HP.out]
              have h2 : OwnE 33 o3.heap.size (.slice (some ⟨g3, 0, none⟩) L.length c3) L _ := (HR5.out.own HG3.out).chg HC.out (fun j q e => by
                injection q with q
                have := HG3.out
                have := HWB.out
                subst q
                dsimp only at e
                omega)
              have hl4 : L.length = 4 := by have := HWL.out; have e := HWX.out; rw [e] at this; simpa using this
              rw [hl4] at h2
              exact h2.newE.mono HBL.out.size
            · exact (HBL.out.trans (h1.mono HBL.out.size)).trans (HC.out.below (fun k e => by have := HWB.out; omega) (by have := HBL.out.size; have := h1.size; omega)))
end Go.Proofs.Ytpbcndbmmphngaa
