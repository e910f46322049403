/- AeadOpens: for every row of terms and twice four numbers, of all terms just those that are sealed by a key, with a number, and what stands beside, are opened with these, and nothing is put. No condition. -/
import Derived.Test.YtgfnngpbngmalaaRows
import Derived.Test.YtgfnngpbngmalaaAeadF
import Derived.Test.YtgfnngpbngmalaaAeadQ
import Derived.Test.YtgfnngpbngmalaaOpens
import Derived.WalkKit
import Derived.ProofKit
import Derived.OpenShut
import Derived.ShutString
import Derived.ChangeOld
import Derived.Below
namespace Go.Proofs.Ytgfnngpbngmalaa.aeadOpens
open Go.ChangeShapes Go.WideShapes Go.ChangeAt Go.RowKit
open Go.ChangeMaps (open_string shut_string)
open Go.Proofs.Ytgfnngpbngmalaa
set_option linter.unusedVariables false
set_option linter.unusedSimpArgs false

theorem own : ownKnob Try.prog.godebug = none := by kernel_rfl
theorem laidOut : laidOutB Try.prog = true := by kernel_rfl

theorem bare_of {L : List Tm} (hs : Sound L) {x TK TN TA TB TC : Int} {TS : ByteArray} (h : getT L x = (⟨TK, TS, TN, TA, TB, TC⟩, true)) (hk : TK = 10) : TS = ⟨#[]⟩ := by
  have hm := (may_iff _ _).1 (hs.get h)
  have h3 := hm.2.2.1 (by show TK ≠ 1; omega)
  exact (empty_iff _).1 h3
theorem opened {L : List Tm} (hs : Sound L) {k n b x TK TN TA TB TC : Int} {TS : ByteArray} (hk : 1 ≤ k ∧ k ≤ (L.length : Int)) (hb : 1 ≤ b ∧ b ≤ (L.length : Int)) (h : getT L x = (⟨TK, TS, TN, TA, TB, TC⟩, true)) :
    openF L k n b x = if TK = 10 ∧ TA = k ∧ TN = n ∧ TB = b then (TC, 0) else (0, 9) := by
  obtain ⟨tk, gk⟩ := getT_of hk
  obtain ⟨tb, gb⟩ := getT_of hb
  unfold openF
  rw [gk, gb, h]
  simp only []
  by_cases he : TK = 10 ∧ TA = k ∧ TN = n ∧ TB = b
  · have hS := bare_of hs h he.1
    have e1 : (if TK = 10 ∧ TA = k ∧ TN = n ∧ TB = b then (TC, (0 : Int)) else (0, 9)) = (TC, 0) := if_pos he
    rw [e1]
    obtain ⟨rfl, rfl, rfl, rfl⟩ := he
    rw [show eqB ⟨10, TS, TN, TA, TB, TC⟩ (sealT TA TN TB TC) = true from (eqB_iff _ _).2 (by rw [hS]; rfl)]
    rfl
  · have : eqB ⟨TK, TS, TN, TA, TB, TC⟩ (sealT k n b TC) = false := by
      cases hq : eqB ⟨TK, TS, TN, TA, TB, TC⟩ (sealT k n b TC)
      · rfl
      · have h2 := (eqB_iff _ _).1 hq
        unfold sealT at h2
        injection h2 with q1 q2 q3 q4 q5 q6
        exact absurd ⟨q1, q4, q3, q5⟩ he
    rw [if_neg he, this]
    rfl
theorem pickE (a n : Int) (ha : 0 ≤ a) (h1 : 0 < n) (h2 : n ≤ 1000) : 1 ≤ wrap64 (1 + a % n) ∧ wrap64 (1 + a % n) ≤ n := by
  have b1 := Int.emod_nonneg a (by omega : n ≠ 0)
  have b2 := Int.emod_lt_of_pos a h1
  unfold wrap64
  omega
theorem put_len {L L1 : List Tm} {most a e : Int} {t : Tm} (h : putF L most t = (a, e, L1)) : L.length ≤ L1.length ∧ L1.length ≤ L.length + 1 := by
  rcases putF_cases L most t with ⟨hp, hm⟩ | ⟨j, hj, hp, hjt, hm, hn⟩ | ⟨hr, hp, hm, hn⟩ | ⟨hr, hp, hm, hn⟩
  all_goals
    have hh := hp.symm.trans h
    injection hh with a1 a2
    injection a2 with a2 a3
    subst a1 a2 a3
    simp

set_option maxHeartbeats 4000000 in
set_option maxRecDepth 100000 in
theorem walk (a0 : Option Addr) (len0 cap0 : Nat) (T0 : Nat → Tm) (x0 x1 x2 x3 y0 y1 y2 y3 : Int) (w : World) (w0 : Terms w a0 len0 cap0 T0) (hx0 : (Lit.int .u8 x0).wf = true) (hx1 : (Lit.int .u8 x1).wf = true) (hx2 : (Lit.int .u8 x2).wf = true) (hx3 : (Lit.int .u8 x3).wf = true) (hy0 : (Lit.int .u8 y0).wf = true) (hy1 : (Lit.int .u8 y1).wf = true) (hy2 : (Lit.int .u8 y2).wf = true) (hy3 : (Lit.int .u8 y3).wf = true) :
    Calls Try.prog 7 #[.slice a0 len0 cap0, .agg #[.int .u8 x0, .int .u8 x1, .int .u8 x2, .int .u8 x3], .agg #[.int .u8 y0, .int .u8 y1, .int .u8 y2, .int .u8 y3]] w fun e w' => e = .returned (.bool true) ∧ Below w.heap.size w w' := by
  have hB0 : Below w.heap.size w ((w.alloc (.cells #[.int .u8 x0, .int .u8 x1, .int .u8 x2, .int .u8 x3] 43)).alloc (.cells #[.int .u8 y0, .int .u8 y1, .int .u8 y2, .int .u8 y3] 43)) := (((Below.refl w.heap.size w).alloc (by simp) (.cells #[.int .u8 x0, .int .u8 x1, .int .u8 x2, .int .u8 x3] 43)).alloc (by simp) (.cells #[.int .u8 y0, .int .u8 y1, .int .u8 y2, .int .u8 y3] 43))
  have HT := Lib.hid (w0.below hB0)
  have HB0 := Lib.hid hB0
  have HBx0 := Lib.hid (byte_in hx0)
  have HBx1 := Lib.hid (byte_in hx1)
  have HBx2 := Lib.hid (byte_in hx2)
  have HBx3 := Lib.hid (byte_in hx3)
  have HBy0 := Lib.hid (byte_in hy0)
  have HBy1 := Lib.hid (byte_in hy1)
  have HBy2 := Lib.hid (byte_in hy2)
  have HBy3 := Lib.hid (byte_in hy3)
  have CAx : Hid (∀ W, Below ((w.alloc (.cells #[.int .u8 x0, .int .u8 x1, .int .u8 x2, .int .u8 x3] 43)).alloc (.cells #[.int .u8 y0, .int .u8 y1, .int .u8 y2, .int .u8 y3] 43)).heap.size ((w.alloc (.cells #[.int .u8 x0, .int .u8 x1, .int .u8 x2, .int .u8 x3] 43)).alloc (.cells #[.int .u8 y0, .int .u8 y1, .int .u8 y2, .int .u8 y3] 43)) W → ∀ j, W.cell? ⟨w.heap.size, j, none⟩ = #[Value.int .u8 x0, .int .u8 x1, .int .u8 x2, .int .u8 x3][j]?) := Lib.hid (fun W hb j => by
    rw [hb.cell (by show w.heap.size < ((w.alloc (.cells #[.int .u8 x0, .int .u8 x1, .int .u8 x2, .int .u8 x3] 43)).alloc (.cells #[.int .u8 y0, .int .u8 y1, .int .u8 y2, .int .u8 y3] 43)).heap.size; first | (simp; done) | (simp; omega))]
    exact cell_of_row _ _ j _ _ _ ((((Below.refl (w.alloc (.cells #[.int .u8 x0, .int .u8 x1, .int .u8 x2, .int .u8 x3] 43)).heap.size (w.alloc (.cells #[.int .u8 x0, .int .u8 x1, .int .u8 x2, .int .u8 x3] 43))).alloc (Nat.le_refl _) (.cells #[.int .u8 y0, .int .u8 y1, .int .u8 y2, .int .u8 y3] 43)).block (w.heap.size) (by simp)).trans (heap_alloc_new w (.cells #[.int .u8 x0, .int .u8 x1, .int .u8 x2, .int .u8 x3] 43))))
  have CAy : Hid (∀ W, Below ((w.alloc (.cells #[.int .u8 x0, .int .u8 x1, .int .u8 x2, .int .u8 x3] 43)).alloc (.cells #[.int .u8 y0, .int .u8 y1, .int .u8 y2, .int .u8 y3] 43)).heap.size ((w.alloc (.cells #[.int .u8 x0, .int .u8 x1, .int .u8 x2, .int .u8 x3] 43)).alloc (.cells #[.int .u8 y0, .int .u8 y1, .int .u8 y2, .int .u8 y3] 43)) W → ∀ j, W.cell? ⟨w.heap.size + 1, j, none⟩ = #[Value.int .u8 y0, .int .u8 y1, .int .u8 y2, .int .u8 y3][j]?) := Lib.hid (fun W hb j => by
    rw [hb.cell (by show w.heap.size + 1 < ((w.alloc (.cells #[.int .u8 x0, .int .u8 x1, .int .u8 x2, .int .u8 x3] 43)).alloc (.cells #[.int .u8 y0, .int .u8 y1, .int .u8 y2, .int .u8 y3] 43)).heap.size; first | (simp; done) | (simp; omega))]
    exact cell_of_row _ _ j _ _ _ ((by have h := heap_alloc_new (w.alloc (.cells #[.int .u8 x0, .int .u8 x1, .int .u8 x2, .int .u8 x3] 43)) (.cells #[.int .u8 y0, .int .u8 y1, .int .u8 y2, .int .u8 y3] 43); rw [show (w.alloc (.cells #[.int .u8 x0, .int .u8 x1, .int .u8 x2, .int .u8 x3] 43)).heap.size = w.heap.size + 1 by simp] at h; exact h)))
  clear w0 hB0 hx0 hx1 hx2 hx3 hy0 hy1 hy2 hy3
  go_enter Try.func7, Try.ntmps7
  go_wp2_with fail
  refine (stores_made 20 a0 len0 cap0 T0 _ (by omega) HT.out).mono ?_
  rintro e w1 ⟨g1, g2, L, rfl, hL, hSd, hp⟩
  have HSd := Lib.hid hSd
  have HPA := Lib.hid hp
  have HLn := Lib.hid hL
  have gR := RSq.good ((w.alloc (.cells #[.int .u8 x0, .int .u8 x1, .int .u8 x2, .int .u8 x3] 43)).alloc (.cells #[.int .u8 y0, .int .u8 y1, .int .u8 y2, .int .u8 y3] 43)).heap.size g2 1000
  have gP := PSq.good ((w.alloc (.cells #[.int .u8 x0, .int .u8 x1, .int .u8 x2, .int .u8 x3] 43)).alloc (.cells #[.int .u8 y0, .int .u8 y1, .int .u8 y2, .int .u8 y3] 43)).heap.size g1 1000
  clear hp hL hSd HT
  by_cases hn : L.length = 0
  · have hl0 : ((L.length : Int) == 0) = true := by simp [hn]
    clear hn
    go_wp2_with fail
    refine (HPA.out.lenP).mono ?_
    rintro e w2 ⟨rfl, rfl⟩
    go_wp2_with fail
    refine (fixed_any _).mono ?_
    rintro e w3 ⟨rfl, hb3⟩
    have hb4 := HB0.out.trans ((HPA.out.belowW.trans (hb3.mono HPA.out.base_le)).mono HB0.out.size)
    clear hb3
    go_wp2
    go_ret
    exact ⟨rfl, hb4⟩
  · have hl0 : ((L.length : Int) == 0) = false := by simpa using hn
    have HLp : Hid (1 ≤ L.length) := Lib.hid (by omega)
    clear hn
    go_wp2_with fail
    refine (HPA.out.lenP).mono ?_
    rintro e w2 ⟨rfl, rfl⟩
    obtain ⟨a, e, L1, e1⟩ : ∃ a e L', putF L 1000 (pickT x0 x1 x2 x3) = (a, e, L') := ⟨_, _, _, rfl⟩
    have hlen := put_len e1
    have hln := HLn.out
    have hlp := HLp.out
    have hSd := HSd.out.put 1000 (pickT x0 x1 x2 x3)
    rw [e1] at hSd
    have HS1 : Hid (Sound L1) := Lib.hid hSd
    have E1 := Lib.hid e1
    have HM : Hid (1 ≤ L1.length ∧ L1.length ≤ 21) := Lib.hid (by omega)
    clear e1 hlen hln hlp hSd
    have cx0 := CAx.out w1 HPA.out.belowW 0
    have cx1 := CAx.out w1 HPA.out.belowW 1
    have cx2 := CAx.out w1 HPA.out.belowW 2
    have cx3 := CAx.out w1 HPA.out.belowW 3
    simp at cx0 cx1 cx2 cx3
    go_wp2_with fail
    clear cx0 cx1 cx2 cx3
    clear hl0
    refine (HPA.out.pickP gR HBx0.out HBx1.out HBx2.out HBx3.out E1.out).mono ?_
    rintro e w2 ⟨rfl, hp, _⟩
    have HP2 := Lib.hid hp
    clear hp HPA E1
    go_wp2_with fail
    refine (HP2.out.lenP).mono ?_
    rintro e w3 ⟨rfl, rfl⟩
    have hm1 : (1 : Int) ≤ L1.length := by have := HM.out; omega
    have hm2 : (L1.length : Int) ≤ 21 := by have := HM.out; omega
    have hm0 : decide ((L1.length : Int) < 1) = false := by simp; omega
    obtain ⟨py0, qy0⟩ := HBy0.out
    obtain ⟨py1, qy1⟩ := HBy1.out
    obtain ⟨py2, qy2⟩ := HBy2.out
    obtain ⟨py3, qy3⟩ := HBy3.out
    have cy0 := CAy.out w2 HP2.out.belowW 0
    have cy1 := CAy.out w2 HP2.out.belowW 1
    have cy2 := CAy.out w2 HP2.out.belowW 2
    have cy3 := CAy.out w2 HP2.out.belowW 3
    simp at cy0 cy1 cy2 cy3
    go_wp2_with fail
    go_quiet (fail)
    obtain ⟨k, hk⟩ : ∃ k, k = wrap64 (1 + y0 % ↑L1.length) := ⟨_, rfl⟩
    obtain ⟨b, hb⟩ : ∃ b, b = wrap64 (1 + y1 % ↑L1.length) := ⟨_, rfl⟩
    obtain ⟨c, hc⟩ : ∃ c, c = wrap64 (1 + y2 % ↑L1.length) := ⟨_, rfl⟩
    obtain ⟨n, hn⟩ : ∃ n, n = y3 % 4 := ⟨_, rfl⟩
    have bk : 1 ≤ k ∧ k ≤ (L1.length : Int) := by rw [hk]; exact pickE y0 _ py0 (by omega) (by omega)
    have bb : 1 ≤ b ∧ b ≤ (L1.length : Int) := by rw [hb]; exact pickE y1 _ py1 (by omega) (by omega)
    have bc : 1 ≤ c ∧ c ≤ (L1.length : Int) := by rw [hc]; exact pickE y2 _ py2 (by omega) (by omega)
    rw [← hk, ← hb, ← hc, ← hn]
    obtain ⟨⟨TK, TS, TN, TA, TB, TC⟩, hg⟩ := getT_of bc
    have ho := opened HS1.out (n := n) bk bb hg
    have HG := Lib.hid hg
    have HO := Lib.hid ho
    have HPB := Lib.hid (HP2.out.below gP gR (drewN_below w2 nq))
    clear hk hb hc hn bk bb bc hg ho hm0 hm1 hm2 HP2 HM HS1 py0 qy0 py1 qy1 py2 qy2 py3 qy3
    clear cy0 cy1 cy2 cy3
    generalize w2.drewN nq = w3 at HPB ⊢
    by_cases h0 : TK = 10
    · have f0 : (TK == 10) = true := by simpa using h0
      have Hq0 := Lib.hid h0
      clear h0
      by_cases h1 : TA = k
      · have f1 : (TA == k) = true := by simpa using h1
        have Hq1 := Lib.hid h1
        clear h1
        by_cases h2 : TN = n
        · have f2 : (TN == n) = true := by simpa using h2
          have Hq2 := Lib.hid h2
          clear h2
          by_cases h3 : TB = b
          · have f3 : (TB == b) = true := by simpa using h3
            have Hq3 := Lib.hid h3
            clear h3
            have f5 : (TC == TC) = true := by simp
            have EO : Hid (openF L1 k n b c = (TC, 0)) := Lib.hid (by rw [HO.out]; simp [Hq0.out, Hq1.out, Hq2.out, Hq3.out])
            clear HO
            go_wp2_with fail
            refine (HPB.out.getP gR c HG.out).mono ?_
            rintro e w4 ⟨rfl, hp, hb⟩
            rw [show ((⟨TK, TS, TN, TA, TB, TC⟩, true) : Tm × Bool).1.v = .agg #[.int .i64 TK, .string TS, .int .u64 TN, .int .i64 TA, .int .i64 TB, .int .i64 TC] from rfl]
            have HP4 := Lib.hid (hp.below gP gR ((Below.refl _ _).alloc (Nat.le_refl _) (.cells #[.int .i64 TK, .string TS, .int .u64 TN, .int .i64 TA, .int .i64 TB, .int .i64 TC] 48)))
            have hbx := heap_alloc_new w4 (.cells #[.int .i64 TK, .string TS, .int .u64 TN, .int .i64 TA, .int .i64 TB, .int .i64 TC] 48)
            have HX4 := Lib.hid hbx
            clear hp hb HPB hbx
            go_wp2_with fail
            refine (HP4.out.aopenP gR EO.out).mono ?_
            rintro e w5 ⟨rfl, hp, hb⟩
            have HX5 := Lib.hid ((hb.block _ (blk_lt HX4.out)).trans HX4.out)
            have HP5 := Lib.hid hp
            have z0 := cell_of_row w5 _ 0 _ _ _ HX5.out
            have z2 := cell_of_row w5 _ 2 _ _ _ HX5.out
            have z3 := cell_of_row w5 _ 3 _ _ _ HX5.out
            have z4 := cell_of_row w5 _ 4 _ _ _ HX5.out
            have z5 := cell_of_row w5 _ 5 _ _ _ HX5.out
            have hz := blk_lt HX5.out
            simp at z0 z2 z3 z4 z5
            have hl : ((L1.length : Int) != L1.length) = false := by simp
            clear hp hb HP4 HX4
            go_wp2_with fail
            refine (HP5.out.lenP).mono ?_
            rintro e w6 ⟨rfl, rfl⟩
            go_wp2_with fail
            refine (fixed_any _).mono ?_
            rintro e w99 ⟨rfl, hb9⟩
            have hb := HB0.out.trans ((HP5.out.belowW.trans (hb9.mono HP5.out.base_le)).mono HB0.out.size)
            clear hb9
            go_wp2
            go_ret
            exact ⟨rfl, hb⟩
          · have f3 : (TB == b) = false := by simpa using h3
            have Hq3 := Lib.hid h3
            clear h3
            have EO : Hid (openF L1 k n b c = (0, 9)) := Lib.hid (by rw [HO.out]; simp [Hq3.out])
            clear HO
            go_wp2_with fail
            refine (HPB.out.getP gR c HG.out).mono ?_
            rintro e w4 ⟨rfl, hp, hb⟩
            rw [show ((⟨TK, TS, TN, TA, TB, TC⟩, true) : Tm × Bool).1.v = .agg #[.int .i64 TK, .string TS, .int .u64 TN, .int .i64 TA, .int .i64 TB, .int .i64 TC] from rfl]
            have HP4 := Lib.hid (hp.below gP gR ((Below.refl _ _).alloc (Nat.le_refl _) (.cells #[.int .i64 TK, .string TS, .int .u64 TN, .int .i64 TA, .int .i64 TB, .int .i64 TC] 48)))
            have hbx := heap_alloc_new w4 (.cells #[.int .i64 TK, .string TS, .int .u64 TN, .int .i64 TA, .int .i64 TB, .int .i64 TC] 48)
            have HX4 := Lib.hid hbx
            clear hp hb HPB hbx
            go_wp2_with fail
            refine (HP4.out.aopenP gR EO.out).mono ?_
            rintro e w5 ⟨rfl, hp, hb⟩
            have HX5 := Lib.hid ((hb.block _ (blk_lt HX4.out)).trans HX4.out)
            have HP5 := Lib.hid hp
            have z0 := cell_of_row w5 _ 0 _ _ _ HX5.out
            have z2 := cell_of_row w5 _ 2 _ _ _ HX5.out
            have z3 := cell_of_row w5 _ 3 _ _ _ HX5.out
            have z4 := cell_of_row w5 _ 4 _ _ _ HX5.out
            have z5 := cell_of_row w5 _ 5 _ _ _ HX5.out
            have hz := blk_lt HX5.out
            simp at z0 z2 z3 z4 z5
            have hl : ((L1.length : Int) != L1.length) = false := by simp
            clear hp hb HP4 HX4
            go_wp2_with fail
            refine (HP5.out.lenP).mono ?_
            rintro e w6 ⟨rfl, rfl⟩
            go_wp2_with fail
            refine (fixed_any _).mono ?_
            rintro e w99 ⟨rfl, hb9⟩
            have hb := HB0.out.trans ((HP5.out.belowW.trans (hb9.mono HP5.out.base_le)).mono HB0.out.size)
            clear hb9
            go_wp2
            go_ret
            exact ⟨rfl, hb⟩
        · have f2 : (TN == n) = false := by simpa using h2
          have Hq2 := Lib.hid h2
          clear h2
          have EO : Hid (openF L1 k n b c = (0, 9)) := Lib.hid (by rw [HO.out]; simp [Hq2.out])
          clear HO
          go_wp2_with fail
          refine (HPB.out.getP gR c HG.out).mono ?_
          rintro e w4 ⟨rfl, hp, hb⟩
          rw [show ((⟨TK, TS, TN, TA, TB, TC⟩, true) : Tm × Bool).1.v = .agg #[.int .i64 TK, .string TS, .int .u64 TN, .int .i64 TA, .int .i64 TB, .int .i64 TC] from rfl]
          have HP4 := Lib.hid (hp.below gP gR ((Below.refl _ _).alloc (Nat.le_refl _) (.cells #[.int .i64 TK, .string TS, .int .u64 TN, .int .i64 TA, .int .i64 TB, .int .i64 TC] 48)))
          have hbx := heap_alloc_new w4 (.cells #[.int .i64 TK, .string TS, .int .u64 TN, .int .i64 TA, .int .i64 TB, .int .i64 TC] 48)
          have HX4 := Lib.hid hbx
          clear hp hb HPB hbx
          go_wp2_with fail
          refine (HP4.out.aopenP gR EO.out).mono ?_
          rintro e w5 ⟨rfl, hp, hb⟩
          have HX5 := Lib.hid ((hb.block _ (blk_lt HX4.out)).trans HX4.out)
          have HP5 := Lib.hid hp
          have z0 := cell_of_row w5 _ 0 _ _ _ HX5.out
          have z2 := cell_of_row w5 _ 2 _ _ _ HX5.out
          have z3 := cell_of_row w5 _ 3 _ _ _ HX5.out
          have z4 := cell_of_row w5 _ 4 _ _ _ HX5.out
          have z5 := cell_of_row w5 _ 5 _ _ _ HX5.out
          have hz := blk_lt HX5.out
          simp at z0 z2 z3 z4 z5
          have hl : ((L1.length : Int) != L1.length) = false := by simp
          clear hp hb HP4 HX4
          go_wp2_with fail
          refine (HP5.out.lenP).mono ?_
          rintro e w6 ⟨rfl, rfl⟩
          go_wp2_with fail
          refine (fixed_any _).mono ?_
          rintro e w99 ⟨rfl, hb9⟩
          have hb := HB0.out.trans ((HP5.out.belowW.trans (hb9.mono HP5.out.base_le)).mono HB0.out.size)
          clear hb9
          go_wp2
          go_ret
          exact ⟨rfl, hb⟩
      · have f1 : (TA == k) = false := by simpa using h1
        have Hq1 := Lib.hid h1
        clear h1
        have EO : Hid (openF L1 k n b c = (0, 9)) := Lib.hid (by rw [HO.out]; simp [Hq1.out])
        clear HO
        go_wp2_with fail
        refine (HPB.out.getP gR c HG.out).mono ?_
        rintro e w4 ⟨rfl, hp, hb⟩
        rw [show ((⟨TK, TS, TN, TA, TB, TC⟩, true) : Tm × Bool).1.v = .agg #[.int .i64 TK, .string TS, .int .u64 TN, .int .i64 TA, .int .i64 TB, .int .i64 TC] from rfl]
        have HP4 := Lib.hid (hp.below gP gR ((Below.refl _ _).alloc (Nat.le_refl _) (.cells #[.int .i64 TK, .string TS, .int .u64 TN, .int .i64 TA, .int .i64 TB, .int .i64 TC] 48)))
        have hbx := heap_alloc_new w4 (.cells #[.int .i64 TK, .string TS, .int .u64 TN, .int .i64 TA, .int .i64 TB, .int .i64 TC] 48)
        have HX4 := Lib.hid hbx
        clear hp hb HPB hbx
        go_wp2_with fail
        refine (HP4.out.aopenP gR EO.out).mono ?_
        rintro e w5 ⟨rfl, hp, hb⟩
        have HX5 := Lib.hid ((hb.block _ (blk_lt HX4.out)).trans HX4.out)
        have HP5 := Lib.hid hp
        have z0 := cell_of_row w5 _ 0 _ _ _ HX5.out
        have z2 := cell_of_row w5 _ 2 _ _ _ HX5.out
        have z3 := cell_of_row w5 _ 3 _ _ _ HX5.out
        have z4 := cell_of_row w5 _ 4 _ _ _ HX5.out
        have z5 := cell_of_row w5 _ 5 _ _ _ HX5.out
        have hz := blk_lt HX5.out
        simp at z0 z2 z3 z4 z5
        have hl : ((L1.length : Int) != L1.length) = false := by simp
        clear hp hb HP4 HX4
        go_wp2_with fail
        refine (HP5.out.lenP).mono ?_
        rintro e w6 ⟨rfl, rfl⟩
        go_wp2_with fail
        refine (fixed_any _).mono ?_
        rintro e w99 ⟨rfl, hb9⟩
        have hb := HB0.out.trans ((HP5.out.belowW.trans (hb9.mono HP5.out.base_le)).mono HB0.out.size)
        clear hb9
        go_wp2
        go_ret
        exact ⟨rfl, hb⟩
    · have f0 : (TK == 10) = false := by simpa using h0
      have Hq0 := Lib.hid h0
      clear h0
      have EO : Hid (openF L1 k n b c = (0, 9)) := Lib.hid (by rw [HO.out]; simp [Hq0.out])
      clear HO
      go_wp2_with fail
      refine (HPB.out.getP gR c HG.out).mono ?_
      rintro e w4 ⟨rfl, hp, hb⟩
      rw [show ((⟨TK, TS, TN, TA, TB, TC⟩, true) : Tm × Bool).1.v = .agg #[.int .i64 TK, .string TS, .int .u64 TN, .int .i64 TA, .int .i64 TB, .int .i64 TC] from rfl]
      have HP4 := Lib.hid (hp.below gP gR ((Below.refl _ _).alloc (Nat.le_refl _) (.cells #[.int .i64 TK, .string TS, .int .u64 TN, .int .i64 TA, .int .i64 TB, .int .i64 TC] 48)))
      have hbx := heap_alloc_new w4 (.cells #[.int .i64 TK, .string TS, .int .u64 TN, .int .i64 TA, .int .i64 TB, .int .i64 TC] 48)
      have HX4 := Lib.hid hbx
      clear hp hb HPB hbx
      go_wp2_with fail
      refine (HP4.out.aopenP gR EO.out).mono ?_
      rintro e w5 ⟨rfl, hp, hb⟩
      have HX5 := Lib.hid ((hb.block _ (blk_lt HX4.out)).trans HX4.out)
      have HP5 := Lib.hid hp
      have z0 := cell_of_row w5 _ 0 _ _ _ HX5.out
      have z2 := cell_of_row w5 _ 2 _ _ _ HX5.out
      have z3 := cell_of_row w5 _ 3 _ _ _ HX5.out
      have z4 := cell_of_row w5 _ 4 _ _ _ HX5.out
      have z5 := cell_of_row w5 _ 5 _ _ _ HX5.out
      have hz := blk_lt HX5.out
      simp at z0 z2 z3 z4 z5
      have hl : ((L1.length : Int) != L1.length) = false := by simp
      clear hp hb HP4 HX4
      go_wp2_with fail
      refine (HP5.out.lenP).mono ?_
      rintro e w6 ⟨rfl, rfl⟩
      go_wp2_with fail
      refine (fixed_any _).mono ?_
      rintro e w99 ⟨rfl, hb9⟩
      have hb := HB0.out.trans ((HP5.out.belowW.trans (hb9.mono HP5.out.base_le)).mono HB0.out.size)
      clear hb9
      go_wp2
      go_ret
      exact ⟨rfl, hb⟩

set_option maxRecDepth 100000 in
theorem lifted (os : Os) (started : os.Started) (H : Type) (enc : TypeId × Value → H) :
    ReturnsInHanded {} Try.checked os 7 .any (Rows.aeadOpensSpec.pre6 enc Try.prog Try.f7 Rows.aeadOpensRow.domain false) (Rows.aeadOpensSpec.post enc Try.prog Try.f7 false true false false) := by
  refine returnsInHanded_of_change (C := Try.checked) own started (by kernel_rfl) Try.func7
    (ChangeSpec.witness6 (enc := enc) (C := Try.checked) false ⟨#[], #[.slice none 0 0, .agg #[.int .u8 0, .int .u8 0, .int .u8 0, .int .u8 0], .agg #[.int .u8 0, .int .u8 0, .int .u8 0, .int .u8 0]], []⟩ 8 (by kernel_rfl) (by kernel_rfl) (by kernel_rfl) (by kernel_rfl)) ?_
  intro W base args ds gs before hval0 hW hcnd _
  have hval : ∀ (j : Nat) t v, Try.f7.params[j]? = some t → args[j]? = some v → Value.okWide Try.prog W .any base t v := hval0
  have hW' := hW
  obtain ⟨p, q, hA0, hV, rfl, hfz, hnd⟩ := hW
  have hA : DataW.TrodAll enc Try.prog W 0 (fun _ => true) true Try.f7.params.toList args.toList ds p := hA0
  rw [Try.params7] at hA hval
  obtain ⟨v0, vs0, d0, ds0, p0, q0, hargs, rfl, rfl, h0, r0⟩ := trodAll_cons hA
  obtain ⟨v1, vs1, d1, ds1, p1, q1, rfl, rfl, rfl, h1, r1⟩ := trodAll_cons r0
  obtain ⟨v2, vs2, d2, ds2, p2, q2, rfl, rfl, rfl, h2, r2⟩ := trodAll_cons r1
  obtain ⟨rfl, rfl, rfl⟩ := trodAll_nil r2
  obtain rfl : args = #[v0, v1, v2] := by cases args; simp_all
  obtain ⟨rfl, rfl⟩ := trodVars_none hV
  obtain ⟨a0, len0, cap0, rfl⟩ := okWide_slice Try.underlying22 (hval 0 22 v0 rfl rfl)
  have k0 := h0
  have lt0 : ∀ x ∈ p0, x.block < W.heap.size := by obtain ⟨m, hm⟩ := k0; exact DataW.trod_lt m _ _ _ hm
  obtain ⟨T0, w0⟩ : ∃ T, Terms W a0 len0 cap0 T := by
    obtain ⟨fuel, hf⟩ := h0
    exact open_terms (by simpa [Value.cells] using hf)
  obtain ⟨cs1, rfl, hsz1⟩ : ∃ cs, v1 = .agg cs ∧ cs.size = Try.prog.cellsOf 43 := by
    have h := hval 1 43 v1 rfl rfl
    simp only [Value.okWide, Try.underlying43] at h
    obtain ⟨cs, e1, e2, _⟩ := h
    exact ⟨cs, e1, e2⟩
  have k1 := h1
  have lt1 : ∀ x ∈ p1, x.block < W.heap.size := by obtain ⟨m, hm⟩ := k1; exact DataW.trod_lt m _ _ _ hm
  obtain ⟨Z1, rfl, w1⟩ : ∃ Z : Nat → Int, cs1 = ((List.range 4).map fun j => Value.int .u8 (Z j)).toArray ∧ ∀ j, j < 4 → (Lit.int .u8 (Z j)).wf = true := by
    obtain ⟨fuel, hf⟩ := h1
    exact open_arrV Try.underlying43 Try.underlying5 (by kernel_rfl) (by kernel_rfl) hf
  obtain ⟨cs2, rfl, hsz2⟩ : ∃ cs, v2 = .agg cs ∧ cs.size = Try.prog.cellsOf 43 := by
    have h := hval 2 43 v2 rfl rfl
    simp only [Value.okWide, Try.underlying43] at h
    obtain ⟨cs, e1, e2, _⟩ := h
    exact ⟨cs, e1, e2⟩
  have k2 := h2
  have lt2 : ∀ x ∈ p2, x.block < W.heap.size := by obtain ⟨m, hm⟩ := k2; exact DataW.trod_lt m _ _ _ hm
  obtain ⟨Z2, rfl, w2⟩ : ∃ Z : Nat → Int, cs2 = ((List.range 4).map fun j => Value.int .u8 (Z j)).toArray ∧ ∀ j, j < 4 → (Lit.int .u8 (Z j)).wf = true := by
    obtain ⟨fuel, hf⟩ := h2
    exact open_arrV Try.underlying43 Try.underlying5 (by kernel_rfl) (by kernel_rfl) hf
  clear hA0 hval0
  refine (walk a0 len0 cap0 T0 (Z1 0) (Z1 1) (Z1 2) (Z1 3) (Z2 0) (Z2 1) (Z2 2) (Z2 3) W w0 (w1 0 (by omega)) (w1 1 (by omega)) (w1 2 (by omega)) (w1 3 (by omega)) (w2 0 (by omega)) (w2 1 (by omega)) (w2 2 (by omega)) (w2 3 (by omega))).mono fun e W' ⟨he, bel⟩ => ?_
  subst he
  exact ⟨_, rfl, _, _, _, [], _, [], hW', trodAll_mk1 (shut_bool Try.underlying4 _), (trodAll_cons_mk (Below.trod laidOut (by kernel_rfl) (of_decide_eq_true (by kernel_rfl)) k0 bel lt0) (trodAll_cons_mk (Below.trod laidOut (by kernel_rfl) (of_decide_eq_true (by kernel_rfl)) k1 bel lt1) (trodAll_cons_mk (Below.trod laidOut (by kernel_rfl) (of_decide_eq_true (by kernel_rfl)) k2 bel lt2) trodAll_mk0))), rfl, bel.frame _, fun h => by cases h⟩

theorem over : Rows.aeadOpensRow.holds Try.pinned (OpenSpec.ofChange Rows.aeadOpensSpec) :=
  OpenClaim.holds_of_wide 7 Try.f7 rfl rfl rfl rfl rfl rfl rfl ⟨rfl, rfl, rfl, rfl, rfl⟩ rfl rfl rfl rfl rfl (by kernel_rfl) Try.func7 (by kernel_rfl)
    (of_decide_eq_true (by kernel_rfl)) (by unfold Func.isWrapper; first | (rw [if_pos (by decide +kernel)]; kernel_rfl) | (rw [if_neg (by decide +kernel)]; exact ⟨rfl, rfl⟩))
    (fun os started H enc _ => lifted os started H enc)

theorem proved : Rows.AeadOpensSaid := over
#print axioms proved
end Go.Proofs.Ytgfnngpbngmalaa.aeadOpens
