/- SymDoes: for every row of terms, every state and every row of two numbers, whatever is said, mixed in, sealed, opened and split, from any state on, each state and name, or what is wrong, is as the document says. No condition. -/
import Derived.Test.YtlejejeflgnglaaRows
import Derived.Test.YtlejejeflgnglaaSymG
import Derived.Test.YtlejejeflgnglaaSameL
import Derived.WalkKit
import Derived.BigQuiet
import Derived.Deep.CutRange
import Derived.Deep.CutBlock
import Derived.Deep.RegionHeld3
import Derived.ProofKit
import Derived.OpenShut
import Derived.ShutString
import Derived.ChangeOld
import Derived.Below
namespace Go.Proofs.Ytlejejeflgnglaa.symDoes
open Go.ChangeShapes Go.WideShapes Go.ChangeAt Go.RowKit
open Go.ChangeMaps (open_string shut_string)
open Go.Proofs.Ytlejejeflgnglaa
set_option linter.unusedVariables false
set_option linter.unusedSimpArgs false

theorem own : ownKnob Try.prog.godebug = none := by kernel_rfl
theorem laidOut : laidOutB Try.prog = true := by kernel_rfl

set_option maxHeartbeats 16000000 in
set_option maxRecDepth 100000 in
theorem walk (a0 : Option Addr) (len0 cap0 : Nat) (T0 : Nat → Tm) (y0 : Sy) (a1 : Option Addr) (len1 cap1 : Nat) (Z1 : Nat → Nat → Int) (w : World) (w0 : Terms w a0 len0 cap0 T0) (hy0 : y0.Wf) (w1 : Arrs .i64 2 w a1 len1 cap1 Z1) :
    Calls Try.prog 3 #[.slice a0 len0 cap0, .agg #[.int .i64 y0.CK, .int .i64 y0.K, .int .i64 y0.H, .int .u64 y0.N], .slice a1 len1 cap1] w fun e w' => e = .returned (.bool true) ∧ Below w.heap.size w w' := by
  obtain ⟨yc0, yk0, yh0, yn0⟩ := y0
  have HWy := Lib.hid hy0
  obtain ⟨hcm, hlc, b, off, hz⟩ := w1
  have HZ := Lib.hid hz
  unfold maxLen at hcm
  have hB0 : Below w.heap.size w (w.alloc (.cells #[.int .i64 yc0, .int .i64 yk0, .int .i64 yh0, .int .u64 yn0] 25)) := (Below.refl _ _).alloc (Nat.le_refl _) _
  have HT0 := Lib.hid (w0.below hB0)
  have HR0 := Lib.hid (heap_alloc_new w (.cells #[.int .i64 yc0, .int .i64 yk0, .int .i64 yh0, .int .u64 yn0] 25))
  have HB0 := Lib.hid hB0
  obtain ⟨bs, hbs⟩ : ∃ bs, bs = (w.alloc (.cells #[.int .i64 yc0, .int .i64 yk0, .int .i64 yh0, .int .u64 yn0] 25)).heap.size := ⟨_, rfl⟩
  have HBS : Hid (bs = w.heap.size + 1) := Lib.hid (by rw [hbs]; simp)
  have HBE := Lib.hid hbs
  clear w0 hz hy0 hB0 hbs
  have gR := fun g => RSq.good bs g 1000
  have gP := fun g => PSq.good bs g 1000
  go_enter Try.func3, Try.ntmps3
  go_wp2_with fail
  refine (stores_any 30 a0 len0 cap0 T0 _ (by omega) HT0.out).mono ?_
  rintro e w1 ⟨g1, g2, L, rfl, hL, hp⟩
  rw [← HBE.out] at hp
  have hr := (hp.belowW.block w.heap.size (by simp)).trans HR0.out
  have c0 := cell_of_row w1 _ 0 _ _ _ hr
  have c1 := cell_of_row w1 _ 1 _ _ _ hr
  have c2 := cell_of_row w1 _ 2 _ _ _ hr
  have c3 := cell_of_row w1 _ 3 _ _ _ hr
  simp at c0 c1 c2 c3
  have HRy := Lib.hid hr
  have HP0 : Hid (JD bs (fun _ => False) g1 g2 (w.alloc (.cells #[.int .i64 yc0, .int .i64 yk0, .int .i64 yh0, .int .u64 yn0] 25)) L L w1) := Lib.hid hp
  clear hp hL HT0 hr
  go_wp2_with fail
  refine (refY_c ⟨yc0, yk0, yh0, yn0⟩ _).mono ?_
  rintro e w2 ⟨rfl, hb2⟩
  simp only [Sy.v]
  have HP1 := JD.below hb2 HP0
  have hr := (hb2.block w.heap.size (lt_of_block HRy.out)).trans HRy.out
  have HP2 : Hid (JD bs (At w2.heap.size) g1 g2 (w.alloc (.cells #[.int .i64 yc0, .int .i64 yk0, .int .i64 yh0, .int .u64 yn0] 25)) L L (w2.alloc (.cells #[.int .i64 yc0, .int .i64 yk0, .int .i64 yh0, .int .u64 yn0] 31))) := Lib.hid (Pair.box (gP g1) (gR g2) HP1.out _)
  have HRy2 := Lib.hid ((heap_alloc_old w2 (.cells #[.int .i64 yc0, .int .i64 yk0, .int .i64 yh0, .int .u64 yn0] 31) (lt_of_block hr)).trans hr)
  have HRz2 := Lib.hid (heap_alloc_new w2 (.cells #[.int .i64 yc0, .int .i64 yk0, .int .i64 yh0, .int .u64 yn0] 31))
  have HYZ := Lib.hid (lt_of_block hr)
  have hYZ := HYZ.out
  have HZb := Lib.hid (show bs ≤ w2.heap.size by have := HBS.out; omega)
  clear hb2 hr HP0 HP1 HRy c0 c1 c2 c3
  go_wp2_with fail
  go_loopw [10] (fun i wr => ∃ k, ∃ L : List Tm, ∃ y : Sy, ∃ v : World, k ≤ 20 ∧ i = .int .i64 (k : Nat) ∧ Hid y.Wf ∧ Hid (Below w.heap.size w v) ∧ Hid (JD bs (At w2.heap.size) g1 g2 v L L wr) ∧ Hid (wr.heap[w.heap.size]? = some (.cells #[.int .i64 y.CK, .int .i64 y.K, .int .i64 y.H, .int .u64 y.N] 25 (0, 0))) ∧ Hid (wr.heap[w2.heap.size]? = some (.cells #[.int .i64 y.CK, .int .i64 y.K, .int .i64 y.H, .int .u64 y.N] 31 (0, 0)))) (fun i _ => 20 - (intOf i).toNat)
  case atStart => exact ⟨0, L, ⟨yc0, yk0, yh0, yn0⟩, _, Nat.zero_le _, rfl, HWy, HB0, HP2, HRy2, HRz2⟩
  case round =>
    clear HP2 HRy2 HRz2 HWy HB0 L HR0 HBE
    obtain ⟨k, L, ⟨yc, yk, yh, yn⟩, v, hk, rfl, HWf, HBv, HP, HRy, HRz⟩ := hrel
    by_cases hlt : k < len1
    · have hlt1 : (k : Int) < (len1 : Int) := by omega
      by_cases h20 : k < 20
      · have h21 : (k : Int) < 20 := by omega
        have Hk := Lib.hid h20
        obtain ⟨rfl, hcl⟩ := HZ.out k hlt
        obtain ⟨q0, wf0⟩ := hcl 0 (by omega)
        obtain ⟨q1, wf1⟩ := hcl 1 (by omega)
        have hbw : b < w.heap.size := block_lt_of_cell q0
        obtain ⟨u0, hu0⟩ : ∃ u, u = Z1 k 0 := ⟨_, rfl⟩
        obtain ⟨x, hx⟩ : ∃ u, u = Z1 k 1 := ⟨_, rfl⟩
        rw [← hu0] at q0 wf0
        rw [← hx] at q1 wf1
        have HIx : Hid (I64 x) := Lib.hid wf1
        have q0 : w.cell? ⟨b, off + k * 2, none⟩ = some (.int .i64 u0) := q0
        have HQ0 := Lib.hid q0
        have HBr : Hid (Below w.heap.size w wr) := Lib.hid (HBv.out.trans ((Pair.belowW HP.out).mono HBv.out.size))
        rw [← HBr.out.cell (by exact hbw)] at q0 q1
        clear hu0 hx hcl wf0 wf1 hk hlt h20
        have ry := HRy.out
        have rz := HRz.out
        have c0 := cell_of_row wr _ 0 _ _ _ ry
        have c1 := cell_of_row wr _ 1 _ _ _ ry
        have c2 := cell_of_row wr _ 2 _ _ _ ry
        have c3 := cell_of_row wr _ 3 _ _ _ ry
        simp at c0 c1 c2 c3
        have d0 := cell_of_row wr _ 0 _ _ _ rz
        have d1 := cell_of_row wr _ 1 _ _ _ rz
        have d2 := cell_of_row wr _ 2 _ _ _ rz
        have d3 := cell_of_row wr _ 3 _ _ _ rz
        simp at d0 d1 d2 d3
        have hltY := lt_of_block ry
        have hltZ := lt_of_block rz
        clear ry rz
        go_upto_region 9 with fail
        go_cut [16, 17] from 33 to 188 (fun a b wx => ∃ A C : Nat, a = .pointer (some ⟨A, 0, none⟩) ∧ b = .pointer (some ⟨C, 0, none⟩) ∧ Hid (JD bs (K4 w2.heap.size A C) g1 g2 v L L wx) ∧ Hid (Four w.heap.size w2.heap.size A C ⟨yc, yk, yh, yn⟩ ⟨yc, yk, yh, yn⟩ ⟨yc, yk, yh, yn⟩ wx))
        case first =>
          go_region
          · go_wp2_with fail
            go_meet
            have hb := boxes1 (y := ⟨yc, yk, yh, yn⟩) HP HRy.out HRz.out HYZ.out
            exact ⟨_, _, rfl, rfl, hb.1, hb.2⟩
          · go_wp2_with fail
            go_meet
            have hb := boxes2 (y := ⟨yc, yk, yh, yn⟩) HP HRy.out HRz.out HYZ.out
            exact ⟨_, _, rfl, rfl, hb.1, hb.2⟩
        case rest =>
          obtain ⟨A, C, rfl, rfl, HPc, HF⟩ := hcut
          clear HP HRy HRz c0 c1 c2 c3 d0 d1 d2 d3 hltY hltZ q0 q1
          have q0 := HQ0.out
          rw [← (HBv.out.trans ((Pair.belowW HPc.out).mono HBv.out.size)).cell (by exact hbw)] at q0
          go_upto_block 2 with fail
          go_cut [12, 13, 14, 15, 18, 19, 20, 21, 22, 23] from 33 to 188 (fun s12 s13 s14 s15 s18 s19 s20 s21 s22 s23 wx => ∃ (L' : List Tm) (n : Sy) (e vv : Int), s12 = .int .i64 e ∧ s13 = .int .i64 e ∧ s14 = .int .i64 vv ∧ s15 = .int .i64 vv ∧ Hid (JD bs (K4 w2.heap.size A C) g1 g2 v L' L' wx) ∧ Hid (Four w.heap.size w2.heap.size A C ⟨yc, yk, yh, yn⟩ n n wx) ∧ Hid n.Wf)
          case first =>
            clear q0
            have hr8 : u0 % 8 = 0 ∨ u0 % 8 = 1 ∨ u0 % 8 = 2 ∨ u0 % 8 = 3 ∨ u0 % 8 = 4 ∨ u0 % 8 = 5 ∨ u0 % 8 = 6 ∨ u0 % 8 = 7 := by omega
            rcases hr8 with hr | hr | hr | hr | hr | hr | hr | hr
            · have hand : bits BinOp.and IntKind.i64 u0 7 = 0 := by rw [i64_and7]; exact hr
              clear hr
              obtain ⟨⟨zc, zk, zh, zn⟩, e1, L', hq⟩ : ∃ n e M, beginF L 1000 (nameF x) = (n, e, M) := ⟨_, _, _, rfl⟩
              have HQ := Lib.hid hq
              have HWn := Lib.hid (begin_wf (JD.len HPc) hq)
              clear hq
              have hza := HF.out.za
              have hzc := HF.out.zc
              have hyz := HF.out.yz
              have hac := HF.out.ac
              go_wp2_with fail
              refine (names_c x _).mono ?_
              rintro e w3 ⟨rfl, hb⟩
              have HP3 := JD.below hb HPc
              have HF3 := Lib.hid (HF.out.below hb)
              clear hb HPc HF
              go_wp2_with fail
              refine ((HP3.out).beginP (gR g2) (name_wf x) HQ.out).mono ?_
              rintro e w4 ⟨rfl, hp, hkk⟩
              simp only [Sy.v]
              have HP4 : Hid (JD bs (K4 w2.heap.size A C) g1 g2 v L' L w4) := Lib.hid hp
              have HF4 := Lib.hid (Four.keep HF3.out hkk ((JD.low HP4 (Y := w.heap.size) (by have := HBS.out; omega)).trans (JD.low HP3 (Y := w.heap.size) (by have := HBS.out; omega)).symm))
              have ra := HF4.out.ra
              have a0 := cell_of_row w4 _ 0 _ _ _ ra
              have a1 := cell_of_row w4 _ 1 _ _ _ ra
              have a2 := cell_of_row w4 _ 2 _ _ _ ra
              have a3 := cell_of_row w4 _ 3 _ _ _ ra
              simp at a0 a1 a2 a3
              have fa0 := frz_of_row 0 ra
              have fa1 := frz_of_row 1 ra
              have fa2 := frz_of_row 2 ra
              have fa3 := frz_of_row 3 ra
              have lta := lt_of_block ra
              clear ra
              clear hp hkk HP3 HF3
              have HP5 := JD.put HP4 (.inr (.inl rfl)) (by have := HZb.out; have := hza; omega) (.int .i64 zc) (.int .i64 zk) (.int .i64 zh) (.int .u64 zn)
              have HF5 := Lib.hid (HF4.out.setA ⟨zc, zk, zh, zn⟩)
              clear HP4 HF4
              go_wp2_with fail
              refine (names_c x _).mono ?_
              rintro e w5 ⟨rfl, hb⟩
              have HP6 := JD.below hb HP5
              have HF6 := Lib.hid (HF5.out.below hb)
              clear a0 a1 a2 a3 lta
              clear hb HP5 HF5
              go_wp2_with fail
              refine ((HP6.out.swap).beginR (gP g1) (name_wf x) HQ.out).mono ?_
              rintro e w7 ⟨rfl, hp, hkk⟩
              simp only [Sy.v]
              have HP7 : Hid (JD bs (K4 w2.heap.size A C) g1 g2 v L' L' w7) := Lib.hid hp.swap
              have HF7 := Lib.hid (Four.keep HF6.out hkk ((JD.low HP7 (Y := w.heap.size) (by have := HBS.out; omega)).trans (JD.low HP6 (Y := w.heap.size) (by have := HBS.out; omega)).symm))
              have ra := HF7.out.rc
              have a0 := cell_of_row w7 _ 0 _ _ _ ra
              have a1 := cell_of_row w7 _ 1 _ _ _ ra
              have a2 := cell_of_row w7 _ 2 _ _ _ ra
              have a3 := cell_of_row w7 _ 3 _ _ _ ra
              simp at a0 a1 a2 a3
              have fa0 := frz_of_row 0 ra
              have fa1 := frz_of_row 1 ra
              have fa2 := frz_of_row 2 ra
              have fa3 := frz_of_row 3 ra
              have lta := lt_of_block ra
              clear ra
              clear hp hkk HP6 HF6
              go_wp2_with fail
              go_meet
              exact ⟨L', ⟨zc, zk, zh, zn⟩, e1, 0, rfl, rfl, rfl, rfl, JD.put HP7 (.inr (.inr rfl)) (by have := HZb.out; have := hzc; omega) (.int .i64 zc) (.int .i64 zk) (.int .i64 zh) (.int .u64 zn), Lib.hid (HF7.out.setC ⟨zc, zk, zh, zn⟩), HWn⟩
            · have hand : bits BinOp.and IntKind.i64 u0 7 = 1 := by rw [i64_and7]; exact hr
              clear hr
              obtain ⟨⟨zc, zk, zh, zn⟩, e1, L', hq⟩ : ∃ n e M, sayF L 1000 ⟨yc, yk, yh, yn⟩ x = (n, e, M) := ⟨_, _, _, rfl⟩
              have HQ := Lib.hid hq
              have HWn := Lib.hid (say_wf (JD.len HPc) HWf.out hq)
              clear hq
              have hza := HF.out.za
              have hzc := HF.out.zc
              have hyz := HF.out.yz
              have hac := HF.out.ac
              have rc := HF.out.ry
              have c0 := cell_of_row wc _ 0 _ _ _ rc
              have c1 := cell_of_row wc _ 1 _ _ _ rc
              have c2 := cell_of_row wc _ 2 _ _ _ rc
              have c3 := cell_of_row wc _ 3 _ _ _ rc
              simp at c0 c1 c2 c3
              have ltc := lt_of_block rc
              clear rc
              go_wp2_with fail
              refine ((HPc.out).sayP (gR g2) HWf.out HIx.out HQ.out).mono ?_
              rintro e w4 ⟨rfl, hp, hkk⟩
              simp only [Sy.v]
              have HP4 : Hid (JD bs (K4 w2.heap.size A C) g1 g2 v L' L w4) := Lib.hid hp
              have HF4 := Lib.hid (Four.keep HF.out hkk ((JD.low HP4 (Y := w.heap.size) (by have := HBS.out; omega)).trans (JD.low HPc (Y := w.heap.size) (by have := HBS.out; omega)).symm))
              clear c0 c1 c2 c3 ltc
              have rd := HF4.out.rz
              have d0 := cell_of_row w4 _ 0 _ _ _ rd
              have d1 := cell_of_row w4 _ 1 _ _ _ rd
              have d2 := cell_of_row w4 _ 2 _ _ _ rd
              have d3 := cell_of_row w4 _ 3 _ _ _ rd
              simp at d0 d1 d2 d3
              have ltd := lt_of_block rd
              clear rd
              have ra := HF4.out.ra
              have a0 := cell_of_row w4 _ 0 _ _ _ ra
              have a1 := cell_of_row w4 _ 1 _ _ _ ra
              have a2 := cell_of_row w4 _ 2 _ _ _ ra
              have a3 := cell_of_row w4 _ 3 _ _ _ ra
              simp at a0 a1 a2 a3
              have fa0 := frz_of_row 0 ra
              have fa1 := frz_of_row 1 ra
              have fa2 := frz_of_row 2 ra
              have fa3 := frz_of_row 3 ra
              have lta := lt_of_block ra
              clear ra
              clear hp hkk HPc HF
              have HP5 := JD.put HP4 (.inr (.inl rfl)) (by have := HZb.out; have := hza; omega) (.int .i64 zc) (.int .i64 zk) (.int .i64 zh) (.int .u64 zn)
              have HF5 := Lib.hid (HF4.out.setA ⟨zc, zk, zh, zn⟩)
              clear HP4 HF4
              go_wp2_with fail
              refine ((HP5.out.swap).sayR (gP g1) HWf.out HIx.out HQ.out).mono ?_
              rintro e w6 ⟨rfl, hp, hkk⟩
              simp only [Sy.v]
              have HP6 : Hid (JD bs (K4 w2.heap.size A C) g1 g2 v L' L' w6) := Lib.hid hp.swap
              have HF6 := Lib.hid (Four.keep HF5.out hkk ((JD.low HP6 (Y := w.heap.size) (by have := HBS.out; omega)).trans (JD.low HP5 (Y := w.heap.size) (by have := HBS.out; omega)).symm))
              clear d0 d1 d2 d3 ltd a0 a1 a2 a3 lta
              have ra := HF6.out.rc
              have a0 := cell_of_row w6 _ 0 _ _ _ ra
              have a1 := cell_of_row w6 _ 1 _ _ _ ra
              have a2 := cell_of_row w6 _ 2 _ _ _ ra
              have a3 := cell_of_row w6 _ 3 _ _ _ ra
              simp at a0 a1 a2 a3
              have fa0 := frz_of_row 0 ra
              have fa1 := frz_of_row 1 ra
              have fa2 := frz_of_row 2 ra
              have fa3 := frz_of_row 3 ra
              have lta := lt_of_block ra
              clear ra
              clear hp hkk HP5 HF5
              go_wp2_with fail
              go_meet
              exact ⟨L', ⟨zc, zk, zh, zn⟩, e1, 0, rfl, rfl, rfl, rfl, JD.put HP6 (.inr (.inr rfl)) (by have := HZb.out; have := hzc; omega) (.int .i64 zc) (.int .i64 zk) (.int .i64 zh) (.int .u64 zn), Lib.hid (HF6.out.setC ⟨zc, zk, zh, zn⟩), HWn⟩
            · have hand : bits BinOp.and IntKind.i64 u0 7 = 2 := by rw [i64_and7]; exact hr
              clear hr
              obtain ⟨⟨zc, zk, zh, zn⟩, e1, L', hq⟩ : ∃ n e M, sayF L 1000 ⟨yc, yk, yh, yn⟩ x = (n, e, M) := ⟨_, _, _, rfl⟩
              have HQ := Lib.hid hq
              have HWn := Lib.hid (say_wf (JD.len HPc) HWf.out hq)
              clear hq
              have hza := HF.out.za
              have hzc := HF.out.zc
              have hyz := HF.out.yz
              have hac := HF.out.ac
              have rc := HF.out.ry
              have c0 := cell_of_row wc _ 0 _ _ _ rc
              have c1 := cell_of_row wc _ 1 _ _ _ rc
              have c2 := cell_of_row wc _ 2 _ _ _ rc
              have c3 := cell_of_row wc _ 3 _ _ _ rc
              simp at c0 c1 c2 c3
              have ltc := lt_of_block rc
              clear rc
              go_wp2_with fail
              refine ((HPc.out).sayP (gR g2) HWf.out HIx.out HQ.out).mono ?_
              rintro e w4 ⟨rfl, hp, hkk⟩
              simp only [Sy.v]
              have HP4 : Hid (JD bs (K4 w2.heap.size A C) g1 g2 v L' L w4) := Lib.hid hp
              have HF4 := Lib.hid (Four.keep HF.out hkk ((JD.low HP4 (Y := w.heap.size) (by have := HBS.out; omega)).trans (JD.low HPc (Y := w.heap.size) (by have := HBS.out; omega)).symm))
              clear c0 c1 c2 c3 ltc
              have rd := HF4.out.rz
              have d0 := cell_of_row w4 _ 0 _ _ _ rd
              have d1 := cell_of_row w4 _ 1 _ _ _ rd
              have d2 := cell_of_row w4 _ 2 _ _ _ rd
              have d3 := cell_of_row w4 _ 3 _ _ _ rd
              simp at d0 d1 d2 d3
              have ltd := lt_of_block rd
              clear rd
              have ra := HF4.out.ra
              have a0 := cell_of_row w4 _ 0 _ _ _ ra
              have a1 := cell_of_row w4 _ 1 _ _ _ ra
              have a2 := cell_of_row w4 _ 2 _ _ _ ra
              have a3 := cell_of_row w4 _ 3 _ _ _ ra
              simp at a0 a1 a2 a3
              have fa0 := frz_of_row 0 ra
              have fa1 := frz_of_row 1 ra
              have fa2 := frz_of_row 2 ra
              have fa3 := frz_of_row 3 ra
              have lta := lt_of_block ra
              clear ra
              clear hp hkk HPc HF
              have HP5 := JD.put HP4 (.inr (.inl rfl)) (by have := HZb.out; have := hza; omega) (.int .i64 zc) (.int .i64 zk) (.int .i64 zh) (.int .u64 zn)
              have HF5 := Lib.hid (HF4.out.setA ⟨zc, zk, zh, zn⟩)
              clear HP4 HF4
              go_wp2_with fail
              refine ((HP5.out.swap).sayR (gP g1) HWf.out HIx.out HQ.out).mono ?_
              rintro e w6 ⟨rfl, hp, hkk⟩
              simp only [Sy.v]
              have HP6 : Hid (JD bs (K4 w2.heap.size A C) g1 g2 v L' L' w6) := Lib.hid hp.swap
              have HF6 := Lib.hid (Four.keep HF5.out hkk ((JD.low HP6 (Y := w.heap.size) (by have := HBS.out; omega)).trans (JD.low HP5 (Y := w.heap.size) (by have := HBS.out; omega)).symm))
              clear d0 d1 d2 d3 ltd a0 a1 a2 a3 lta
              have ra := HF6.out.rc
              have a0 := cell_of_row w6 _ 0 _ _ _ ra
              have a1 := cell_of_row w6 _ 1 _ _ _ ra
              have a2 := cell_of_row w6 _ 2 _ _ _ ra
              have a3 := cell_of_row w6 _ 3 _ _ _ ra
              simp at a0 a1 a2 a3
              have fa0 := frz_of_row 0 ra
              have fa1 := frz_of_row 1 ra
              have fa2 := frz_of_row 2 ra
              have fa3 := frz_of_row 3 ra
              have lta := lt_of_block ra
              clear ra
              clear hp hkk HP5 HF5
              go_wp2_with fail
              go_meet
              exact ⟨L', ⟨zc, zk, zh, zn⟩, e1, 0, rfl, rfl, rfl, rfl, JD.put HP6 (.inr (.inr rfl)) (by have := HZb.out; have := hzc; omega) (.int .i64 zc) (.int .i64 zk) (.int .i64 zh) (.int .u64 zn), Lib.hid (HF6.out.setC ⟨zc, zk, zh, zn⟩), HWn⟩
            · have hand : bits BinOp.and IntKind.i64 u0 7 = 3 := by rw [i64_and7]; exact hr
              clear hr
              obtain ⟨⟨zc, zk, zh, zn⟩, e1, L', hq⟩ : ∃ n e M, turnF L 1000 ⟨yc, yk, yh, yn⟩ x = (n, e, M) := ⟨_, _, _, rfl⟩
              have HQ := Lib.hid hq
              have HWn := Lib.hid (turn_wf (JD.len HPc) HWf.out hq)
              clear hq
              have hza := HF.out.za
              have hzc := HF.out.zc
              have hyz := HF.out.yz
              have hac := HF.out.ac
              have rc := HF.out.ry
              have c0 := cell_of_row wc _ 0 _ _ _ rc
              have c1 := cell_of_row wc _ 1 _ _ _ rc
              have c2 := cell_of_row wc _ 2 _ _ _ rc
              have c3 := cell_of_row wc _ 3 _ _ _ rc
              simp at c0 c1 c2 c3
              have ltc := lt_of_block rc
              clear rc
              go_wp2_with fail
              refine ((HPc.out).turnP (gR g2) HWf.out HIx.out HQ.out).mono ?_
              rintro e w4 ⟨rfl, hp, hkk⟩
              simp only [Sy.v]
              have HP4 : Hid (JD bs (K4 w2.heap.size A C) g1 g2 v L' L w4) := Lib.hid hp
              have HF4 := Lib.hid (Four.keep HF.out hkk ((JD.low HP4 (Y := w.heap.size) (by have := HBS.out; omega)).trans (JD.low HPc (Y := w.heap.size) (by have := HBS.out; omega)).symm))
              clear c0 c1 c2 c3 ltc
              have rd := HF4.out.rz
              have d0 := cell_of_row w4 _ 0 _ _ _ rd
              have d1 := cell_of_row w4 _ 1 _ _ _ rd
              have d2 := cell_of_row w4 _ 2 _ _ _ rd
              have d3 := cell_of_row w4 _ 3 _ _ _ rd
              simp at d0 d1 d2 d3
              have ltd := lt_of_block rd
              clear rd
              have ra := HF4.out.ra
              have a0 := cell_of_row w4 _ 0 _ _ _ ra
              have a1 := cell_of_row w4 _ 1 _ _ _ ra
              have a2 := cell_of_row w4 _ 2 _ _ _ ra
              have a3 := cell_of_row w4 _ 3 _ _ _ ra
              simp at a0 a1 a2 a3
              have fa0 := frz_of_row 0 ra
              have fa1 := frz_of_row 1 ra
              have fa2 := frz_of_row 2 ra
              have fa3 := frz_of_row 3 ra
              have lta := lt_of_block ra
              clear ra
              clear hp hkk HPc HF
              have HP5 := JD.put HP4 (.inr (.inl rfl)) (by have := HZb.out; have := hza; omega) (.int .i64 zc) (.int .i64 zk) (.int .i64 zh) (.int .u64 zn)
              have HF5 := Lib.hid (HF4.out.setA ⟨zc, zk, zh, zn⟩)
              clear HP4 HF4
              go_wp2_with fail
              refine ((HP5.out.swap).turnR (gP g1) HWf.out HIx.out HQ.out).mono ?_
              rintro e w6 ⟨rfl, hp, hkk⟩
              simp only [Sy.v]
              have HP6 : Hid (JD bs (K4 w2.heap.size A C) g1 g2 v L' L' w6) := Lib.hid hp.swap
              have HF6 := Lib.hid (Four.keep HF5.out hkk ((JD.low HP6 (Y := w.heap.size) (by have := HBS.out; omega)).trans (JD.low HP5 (Y := w.heap.size) (by have := HBS.out; omega)).symm))
              clear d0 d1 d2 d3 ltd a0 a1 a2 a3 lta
              have ra := HF6.out.rc
              have a0 := cell_of_row w6 _ 0 _ _ _ ra
              have a1 := cell_of_row w6 _ 1 _ _ _ ra
              have a2 := cell_of_row w6 _ 2 _ _ _ ra
              have a3 := cell_of_row w6 _ 3 _ _ _ ra
              simp at a0 a1 a2 a3
              have fa0 := frz_of_row 0 ra
              have fa1 := frz_of_row 1 ra
              have fa2 := frz_of_row 2 ra
              have fa3 := frz_of_row 3 ra
              have lta := lt_of_block ra
              clear ra
              clear hp hkk HP5 HF5
              go_wp2_with fail
              go_meet
              exact ⟨L', ⟨zc, zk, zh, zn⟩, e1, 0, rfl, rfl, rfl, rfl, JD.put HP6 (.inr (.inr rfl)) (by have := HZb.out; have := hzc; omega) (.int .i64 zc) (.int .i64 zk) (.int .i64 zh) (.int .u64 zn), Lib.hid (HF6.out.setC ⟨zc, zk, zh, zn⟩), HWn⟩
            · have hand : bits BinOp.and IntKind.i64 u0 7 = 4 := by rw [i64_and7]; exact hr
              clear hr
              obtain ⟨⟨zc, zk, zh, zn⟩, e1, L', hq⟩ : ∃ n e M, turnF L 1000 ⟨yc, yk, yh, yn⟩ x = (n, e, M) := ⟨_, _, _, rfl⟩
              have HQ := Lib.hid hq
              have HWn := Lib.hid (turn_wf (JD.len HPc) HWf.out hq)
              clear hq
              have hza := HF.out.za
              have hzc := HF.out.zc
              have hyz := HF.out.yz
              have hac := HF.out.ac
              have rc := HF.out.ry
              have c0 := cell_of_row wc _ 0 _ _ _ rc
              have c1 := cell_of_row wc _ 1 _ _ _ rc
              have c2 := cell_of_row wc _ 2 _ _ _ rc
              have c3 := cell_of_row wc _ 3 _ _ _ rc
              simp at c0 c1 c2 c3
              have ltc := lt_of_block rc
              clear rc
              go_wp2_with fail
              refine ((HPc.out).turnP (gR g2) HWf.out HIx.out HQ.out).mono ?_
              rintro e w4 ⟨rfl, hp, hkk⟩
              simp only [Sy.v]
              have HP4 : Hid (JD bs (K4 w2.heap.size A C) g1 g2 v L' L w4) := Lib.hid hp
              have HF4 := Lib.hid (Four.keep HF.out hkk ((JD.low HP4 (Y := w.heap.size) (by have := HBS.out; omega)).trans (JD.low HPc (Y := w.heap.size) (by have := HBS.out; omega)).symm))
              clear c0 c1 c2 c3 ltc
              have rd := HF4.out.rz
              have d0 := cell_of_row w4 _ 0 _ _ _ rd
              have d1 := cell_of_row w4 _ 1 _ _ _ rd
              have d2 := cell_of_row w4 _ 2 _ _ _ rd
              have d3 := cell_of_row w4 _ 3 _ _ _ rd
              simp at d0 d1 d2 d3
              have ltd := lt_of_block rd
              clear rd
              have ra := HF4.out.ra
              have a0 := cell_of_row w4 _ 0 _ _ _ ra
              have a1 := cell_of_row w4 _ 1 _ _ _ ra
              have a2 := cell_of_row w4 _ 2 _ _ _ ra
              have a3 := cell_of_row w4 _ 3 _ _ _ ra
              simp at a0 a1 a2 a3
              have fa0 := frz_of_row 0 ra
              have fa1 := frz_of_row 1 ra
              have fa2 := frz_of_row 2 ra
              have fa3 := frz_of_row 3 ra
              have lta := lt_of_block ra
              clear ra
              clear hp hkk HPc HF
              have HP5 := JD.put HP4 (.inr (.inl rfl)) (by have := HZb.out; have := hza; omega) (.int .i64 zc) (.int .i64 zk) (.int .i64 zh) (.int .u64 zn)
              have HF5 := Lib.hid (HF4.out.setA ⟨zc, zk, zh, zn⟩)
              clear HP4 HF4
              go_wp2_with fail
              refine ((HP5.out.swap).turnR (gP g1) HWf.out HIx.out HQ.out).mono ?_
              rintro e w6 ⟨rfl, hp, hkk⟩
              simp only [Sy.v]
              have HP6 : Hid (JD bs (K4 w2.heap.size A C) g1 g2 v L' L' w6) := Lib.hid hp.swap
              have HF6 := Lib.hid (Four.keep HF5.out hkk ((JD.low HP6 (Y := w.heap.size) (by have := HBS.out; omega)).trans (JD.low HP5 (Y := w.heap.size) (by have := HBS.out; omega)).symm))
              clear d0 d1 d2 d3 ltd a0 a1 a2 a3 lta
              have ra := HF6.out.rc
              have a0 := cell_of_row w6 _ 0 _ _ _ ra
              have a1 := cell_of_row w6 _ 1 _ _ _ ra
              have a2 := cell_of_row w6 _ 2 _ _ _ ra
              have a3 := cell_of_row w6 _ 3 _ _ _ ra
              simp at a0 a1 a2 a3
              have fa0 := frz_of_row 0 ra
              have fa1 := frz_of_row 1 ra
              have fa2 := frz_of_row 2 ra
              have fa3 := frz_of_row 3 ra
              have lta := lt_of_block ra
              clear ra
              clear hp hkk HP5 HF5
              go_wp2_with fail
              go_meet
              exact ⟨L', ⟨zc, zk, zh, zn⟩, e1, 0, rfl, rfl, rfl, rfl, JD.put HP6 (.inr (.inr rfl)) (by have := HZb.out; have := hzc; omega) (.int .i64 zc) (.int .i64 zk) (.int .i64 zh) (.int .u64 zn), Lib.hid (HF6.out.setC ⟨zc, zk, zh, zn⟩), HWn⟩
            · have hand : bits BinOp.and IntKind.i64 u0 7 = 5 := by rw [i64_and7]; exact hr
              clear hr
              obtain ⟨⟨zc, zk, zh, zn⟩, c1, e1, L', hq⟩ : ∃ n c e M, sealF L 1000 ⟨yc, yk, yh, yn⟩ x = (n, c, e, M) := ⟨_, _, _, _, rfl⟩
              have HQ := Lib.hid hq
              have HWn := Lib.hid (sealing_wf (JD.len HPc) HWf.out hq)
              clear hq
              have hza := HF.out.za
              have hzc := HF.out.zc
              have hyz := HF.out.yz
              have hac := HF.out.ac
              have rc := HF.out.ry
              have c0 := cell_of_row wc _ 0 _ _ _ rc
              have c1 := cell_of_row wc _ 1 _ _ _ rc
              have c2 := cell_of_row wc _ 2 _ _ _ rc
              have c3 := cell_of_row wc _ 3 _ _ _ rc
              simp at c0 c1 c2 c3
              have ltc := lt_of_block rc
              clear rc
              go_wp2_with fail
              refine ((HPc.out).ysealP (gR g2) HWf.out HIx.out HQ.out).mono ?_
              rintro e w4 ⟨rfl, hp, hkk⟩
              simp only [Sy.v]
              have HP4 : Hid (JD bs (K4 w2.heap.size A C) g1 g2 v L' L w4) := Lib.hid hp
              have HF4 := Lib.hid (Four.keep HF.out hkk ((JD.low HP4 (Y := w.heap.size) (by have := HBS.out; omega)).trans (JD.low HPc (Y := w.heap.size) (by have := HBS.out; omega)).symm))
              clear c0 c1 c2 c3 ltc
              have rd := HF4.out.rz
              have d0 := cell_of_row w4 _ 0 _ _ _ rd
              have d1 := cell_of_row w4 _ 1 _ _ _ rd
              have d2 := cell_of_row w4 _ 2 _ _ _ rd
              have d3 := cell_of_row w4 _ 3 _ _ _ rd
              simp at d0 d1 d2 d3
              have ltd := lt_of_block rd
              clear rd
              have ra := HF4.out.ra
              have a0 := cell_of_row w4 _ 0 _ _ _ ra
              have a1 := cell_of_row w4 _ 1 _ _ _ ra
              have a2 := cell_of_row w4 _ 2 _ _ _ ra
              have a3 := cell_of_row w4 _ 3 _ _ _ ra
              simp at a0 a1 a2 a3
              have fa0 := frz_of_row 0 ra
              have fa1 := frz_of_row 1 ra
              have fa2 := frz_of_row 2 ra
              have fa3 := frz_of_row 3 ra
              have lta := lt_of_block ra
              clear ra
              clear hp hkk HPc HF
              have HP5 := JD.put HP4 (.inr (.inl rfl)) (by have := HZb.out; have := hza; omega) (.int .i64 zc) (.int .i64 zk) (.int .i64 zh) (.int .u64 zn)
              have HF5 := Lib.hid (HF4.out.setA ⟨zc, zk, zh, zn⟩)
              clear HP4 HF4
              go_wp2_with fail
              refine ((HP5.out.swap).ysealR (gP g1) HWf.out HIx.out HQ.out).mono ?_
              rintro e w6 ⟨rfl, hp, hkk⟩
              simp only [Sy.v]
              have HP6 : Hid (JD bs (K4 w2.heap.size A C) g1 g2 v L' L' w6) := Lib.hid hp.swap
              have HF6 := Lib.hid (Four.keep HF5.out hkk ((JD.low HP6 (Y := w.heap.size) (by have := HBS.out; omega)).trans (JD.low HP5 (Y := w.heap.size) (by have := HBS.out; omega)).symm))
              clear d0 d1 d2 d3 ltd a0 a1 a2 a3 lta
              have ra := HF6.out.rc
              have a0 := cell_of_row w6 _ 0 _ _ _ ra
              have a1 := cell_of_row w6 _ 1 _ _ _ ra
              have a2 := cell_of_row w6 _ 2 _ _ _ ra
              have a3 := cell_of_row w6 _ 3 _ _ _ ra
              simp at a0 a1 a2 a3
              have fa0 := frz_of_row 0 ra
              have fa1 := frz_of_row 1 ra
              have fa2 := frz_of_row 2 ra
              have fa3 := frz_of_row 3 ra
              have lta := lt_of_block ra
              clear ra
              clear hp hkk HP5 HF5
              go_wp2_with fail
              go_meet
              exact ⟨L', ⟨zc, zk, zh, zn⟩, e1, c1, rfl, rfl, rfl, rfl, JD.put HP6 (.inr (.inr rfl)) (by have := HZb.out; have := hzc; omega) (.int .i64 zc) (.int .i64 zk) (.int .i64 zh) (.int .u64 zn), Lib.hid (HF6.out.setC ⟨zc, zk, zh, zn⟩), HWn⟩
            · have hand : bits BinOp.and IntKind.i64 u0 7 = 6 := by rw [i64_and7]; exact hr
              clear hr
              obtain ⟨⟨zc, zk, zh, zn⟩, c1, e1, L', hq⟩ : ∃ n c e M, unsealF L 1000 ⟨yc, yk, yh, yn⟩ x = (n, c, e, M) := ⟨_, _, _, _, rfl⟩
              have HQ := Lib.hid hq
              have HWn := Lib.hid (opening_wf (JD.len HPc) HWf.out hq)
              clear hq
              have hza := HF.out.za
              have hzc := HF.out.zc
              have hyz := HF.out.yz
              have hac := HF.out.ac
              have rc := HF.out.ry
              have c0 := cell_of_row wc _ 0 _ _ _ rc
              have c1 := cell_of_row wc _ 1 _ _ _ rc
              have c2 := cell_of_row wc _ 2 _ _ _ rc
              have c3 := cell_of_row wc _ 3 _ _ _ rc
              simp at c0 c1 c2 c3
              have ltc := lt_of_block rc
              clear rc
              go_wp2_with fail
              refine ((HPc.out).yopenP (gR g2) HWf.out HIx.out HQ.out).mono ?_
              rintro e w4 ⟨rfl, hp, hkk⟩
              simp only [Sy.v]
              have HP4 : Hid (JD bs (K4 w2.heap.size A C) g1 g2 v L' L w4) := Lib.hid hp
              have HF4 := Lib.hid (Four.keep HF.out hkk ((JD.low HP4 (Y := w.heap.size) (by have := HBS.out; omega)).trans (JD.low HPc (Y := w.heap.size) (by have := HBS.out; omega)).symm))
              clear c0 c1 c2 c3 ltc
              have rd := HF4.out.rz
              have d0 := cell_of_row w4 _ 0 _ _ _ rd
              have d1 := cell_of_row w4 _ 1 _ _ _ rd
              have d2 := cell_of_row w4 _ 2 _ _ _ rd
              have d3 := cell_of_row w4 _ 3 _ _ _ rd
              simp at d0 d1 d2 d3
              have ltd := lt_of_block rd
              clear rd
              have ra := HF4.out.ra
              have a0 := cell_of_row w4 _ 0 _ _ _ ra
              have a1 := cell_of_row w4 _ 1 _ _ _ ra
              have a2 := cell_of_row w4 _ 2 _ _ _ ra
              have a3 := cell_of_row w4 _ 3 _ _ _ ra
              simp at a0 a1 a2 a3
              have fa0 := frz_of_row 0 ra
              have fa1 := frz_of_row 1 ra
              have fa2 := frz_of_row 2 ra
              have fa3 := frz_of_row 3 ra
              have lta := lt_of_block ra
              clear ra
              clear hp hkk HPc HF
              have HP5 := JD.put HP4 (.inr (.inl rfl)) (by have := HZb.out; have := hza; omega) (.int .i64 zc) (.int .i64 zk) (.int .i64 zh) (.int .u64 zn)
              have HF5 := Lib.hid (HF4.out.setA ⟨zc, zk, zh, zn⟩)
              clear HP4 HF4
              go_wp2_with fail
              refine ((HP5.out.swap).yopenR (gP g1) HWf.out HIx.out HQ.out).mono ?_
              rintro e w6 ⟨rfl, hp, hkk⟩
              simp only [Sy.v]
              have HP6 : Hid (JD bs (K4 w2.heap.size A C) g1 g2 v L' L' w6) := Lib.hid hp.swap
              have HF6 := Lib.hid (Four.keep HF5.out hkk ((JD.low HP6 (Y := w.heap.size) (by have := HBS.out; omega)).trans (JD.low HP5 (Y := w.heap.size) (by have := HBS.out; omega)).symm))
              clear d0 d1 d2 d3 ltd a0 a1 a2 a3 lta
              have ra := HF6.out.rc
              have a0 := cell_of_row w6 _ 0 _ _ _ ra
              have a1 := cell_of_row w6 _ 1 _ _ _ ra
              have a2 := cell_of_row w6 _ 2 _ _ _ ra
              have a3 := cell_of_row w6 _ 3 _ _ _ ra
              simp at a0 a1 a2 a3
              have fa0 := frz_of_row 0 ra
              have fa1 := frz_of_row 1 ra
              have fa2 := frz_of_row 2 ra
              have fa3 := frz_of_row 3 ra
              have lta := lt_of_block ra
              clear ra
              clear hp hkk HP5 HF5
              go_wp2_with fail
              go_meet
              exact ⟨L', ⟨zc, zk, zh, zn⟩, e1, c1, rfl, rfl, rfl, rfl, JD.put HP6 (.inr (.inr rfl)) (by have := HZb.out; have := hzc; omega) (.int .i64 zc) (.int .i64 zk) (.int .i64 zh) (.int .u64 zn), Lib.hid (HF6.out.setC ⟨zc, zk, zh, zn⟩), HWn⟩
            · have hand : bits BinOp.and IntKind.i64 u0 7 = 7 := by rw [i64_and7]; exact hr
              clear hr
              obtain ⟨p1, p2, e1, L', hq⟩ : ∃ p q e M, splitF L 1000 ⟨yc, yk, yh, yn⟩ = (p, q, e, M) := ⟨_, _, _, _, rfl⟩
              have HQ := Lib.hid hq
              clear hq
              have hza := HF.out.za
              have hzc := HF.out.zc
              have hyz := HF.out.yz
              have hac := HF.out.ac
              have rc := HF.out.ry
              have c0 := cell_of_row wc _ 0 _ _ _ rc
              have c1 := cell_of_row wc _ 1 _ _ _ rc
              have c2 := cell_of_row wc _ 2 _ _ _ rc
              have c3 := cell_of_row wc _ 3 _ _ _ rc
              simp at c0 c1 c2 c3
              have ltc := lt_of_block rc
              clear rc
              go_wp2_with fail
              refine ((HPc.out).splitP (gR g2) HWf.out HQ.out).mono ?_
              rintro e w4 ⟨rfl, hp, hkk⟩
              have HP4 : Hid (JD bs (K4 w2.heap.size A C) g1 g2 v L' L w4) := Lib.hid hp
              have HF4 := Lib.hid (Four.keep HF.out hkk ((JD.low HP4 (Y := w.heap.size) (by have := HBS.out; omega)).trans (JD.low HPc (Y := w.heap.size) (by have := HBS.out; omega)).symm))
              clear c0 c1 c2 c3 ltc
              have rd := HF4.out.rz
              have d0 := cell_of_row w4 _ 0 _ _ _ rd
              have d1 := cell_of_row w4 _ 1 _ _ _ rd
              have d2 := cell_of_row w4 _ 2 _ _ _ rd
              have d3 := cell_of_row w4 _ 3 _ _ _ rd
              simp at d0 d1 d2 d3
              have ltd := lt_of_block rd
              clear rd
              clear hp hkk HPc HF
              go_wp2_with fail
              refine ((HP4.out.swap).splitR (gP g1) HWf.out HQ.out).mono ?_
              rintro e w6 ⟨rfl, hp, hkk⟩
              have HP6 : Hid (JD bs (K4 w2.heap.size A C) g1 g2 v L' L' w6) := Lib.hid hp.swap
              have HF6 := Lib.hid (Four.keep HF4.out hkk ((JD.low HP6 (Y := w.heap.size) (by have := HBS.out; omega)).trans (JD.low HP4 (Y := w.heap.size) (by have := HBS.out; omega)).symm))
              clear d0 d1 d2 d3 ltd
              clear hp hkk HP4 HF4
              have s1 : (p1 != p1) = false := by simp
              have s2 : (p2 != p2) = false := by simp
              have s3 : (e1 != e1) = false := by simp
              go_wp2_with fail
              go_meet
              exact ⟨L', ⟨yc, yk, yh, yn⟩, 0, 0, rfl, rfl, rfl, rfl, HP6, HF6, HWf⟩
          case rest =>
            clear q0
            obtain ⟨L', ⟨zc, zk, zh, zn⟩, e1, c1, rfl, rfl, rfl, rfl, HP2, HF2, HWn⟩ := hcut
            clear HPc HF
            have hE := neq_Z ⟨zc, zk, zh, zn⟩ ⟨zc, zk, zh, zn⟩
            rw [(eqY_iff _ _).2 rfl] at hE
            unfold Sy.v at hE
            simp only [] at hE
            have hgd := guardZ
            have s1 : (e1 != e1) = false := by simp
            have s2 : (c1 != c1) = false := by simp
            have hdr : Below wc.heap.size wc wc.drew := (Below.refl _ _).drew
            have HP3 := JD.below hdr HP2
            have HF3 := Lib.hid (HF2.out.below hdr)
            have hS : wc.drew.cell? ⟨A, 0, none⟩ = some (.int .i64 zc) ∧ wc.drew.cell? ⟨A, 1, none⟩ = some (.int .i64 zk) ∧ wc.drew.cell? ⟨A, 2, none⟩ = some (.int .i64 zh) ∧ wc.drew.cell? ⟨A, 3, none⟩ = some (.int .u64 zn) ∧ wc.drew.cell? ⟨C, 0, none⟩ = some (.int .i64 zc) ∧ wc.drew.cell? ⟨C, 1, none⟩ = some (.int .i64 zk) ∧ wc.drew.cell? ⟨C, 2, none⟩ = some (.int .i64 zh) ∧ wc.drew.cell? ⟨C, 3, none⟩ = some (.int .u64 zn) :=
              ⟨cell_of_row _ _ 0 _ _ _ HF3.out.ra, cell_of_row _ _ 1 _ _ _ HF3.out.ra, cell_of_row _ _ 2 _ _ _ HF3.out.ra, cell_of_row _ _ 3 _ _ _ HF3.out.ra, cell_of_row _ _ 0 _ _ _ HF3.out.rc, cell_of_row _ _ 1 _ _ _ HF3.out.rc, cell_of_row _ _ 2 _ _ _ HF3.out.rc, cell_of_row _ _ 3 _ _ _ HF3.out.rc⟩
            have hS' := hS
            have HC : Hid (∀ W, Calls Try.prog 10 #[.agg #[.int .i64 zc, .int .i64 zk, .int .i64 zh, .int .u64 zn]] W fun e w' => e = .returned (.agg #[.int .i64 zc, .int .i64 zk, .int .i64 zh, .int .u64 zn]) ∧ Below W.heap.size W w') := Lib.hid (fun W => refY_c ⟨zc, zk, zh, zn⟩ W)
            clear HP2 HF2 hdr
            go_wp2
            go_region_held3 (fun w' => w'.cell? ⟨A, 0, none⟩ = some (.int .i64 zc) ∧ w'.cell? ⟨A, 1, none⟩ = some (.int .i64 zk) ∧ w'.cell? ⟨A, 2, none⟩ = some (.int .i64 zh) ∧ w'.cell? ⟨A, 3, none⟩ = some (.int .u64 zn) ∧ w'.cell? ⟨C, 0, none⟩ = some (.int .i64 zc) ∧ w'.cell? ⟨C, 1, none⟩ = some (.int .i64 zk) ∧ w'.cell? ⟨C, 2, none⟩ = some (.int .i64 zh) ∧ w'.cell? ⟨C, 3, none⟩ = some (.int .u64 zn)) (first | assumption | go_keep) ((go_at_call 10; refine (HC.out _).mono ?_; rintro e w5 ⟨rfl, hb5⟩; have HP5 := JD.below hb5 HP3; have HF5 := Lib.hid (HF3.out.below hb5); have hS5 : w5.cell? ⟨A, 0, none⟩ = some (.int .i64 zc) ∧ w5.cell? ⟨A, 1, none⟩ = some (.int .i64 zk) ∧ w5.cell? ⟨A, 2, none⟩ = some (.int .i64 zh) ∧ w5.cell? ⟨A, 3, none⟩ = some (.int .u64 zn) ∧ w5.cell? ⟨C, 0, none⟩ = some (.int .i64 zc) ∧ w5.cell? ⟨C, 1, none⟩ = some (.int .i64 zk) ∧ w5.cell? ⟨C, 2, none⟩ = some (.int .i64 zh) ∧ w5.cell? ⟨C, 3, none⟩ = some (.int .u64 zn) := ⟨cell_of_row _ _ 0 _ _ _ HF5.out.ra, cell_of_row _ _ 1 _ _ _ HF5.out.ra, cell_of_row _ _ 2 _ _ _ HF5.out.ra, cell_of_row _ _ 3 _ _ _ HF5.out.ra, cell_of_row _ _ 0 _ _ _ HF5.out.rc, cell_of_row _ _ 1 _ _ _ HF5.out.rc, cell_of_row _ _ 2 _ _ _ HF5.out.rc, cell_of_row _ _ 3 _ _ _ HF5.out.rc⟩; clear hb5))
            clear hS hS' HC hS5 HP3 HF3 hE hgd
            have hyz := HF5.out.yz
            have hza := HF5.out.za
            have hzc := HF5.out.zc
            by_cases h0 : e1 = 0
            · have e0 : (e1 == 0) = true := by simpa using h0
              clear h0
              have rc := HF5.out.ry
              have c0 := cell_of_row w5 _ 0 _ _ _ rc
              have c1 := cell_of_row w5 _ 1 _ _ _ rc
              have c2 := cell_of_row w5 _ 2 _ _ _ rc
              have c3 := cell_of_row w5 _ 3 _ _ _ rc
              simp at c0 c1 c2 c3
              have fc0 := frz_of_row 0 rc
              have fc1 := frz_of_row 1 rc
              have fc2 := frz_of_row 2 rc
              have fc3 := frz_of_row 3 rc
              have ltc := lt_of_block rc
              clear rc
              have rd := HF5.out.rz
              have d0 := cell_of_row w5 _ 0 _ _ _ rd
              have d1 := cell_of_row w5 _ 1 _ _ _ rd
              have d2 := cell_of_row w5 _ 2 _ _ _ rd
              have d3 := cell_of_row w5 _ 3 _ _ _ rd
              simp at d0 d1 d2 d3
              have fd0 := frz_of_row 0 rd
              have fd1 := frz_of_row 1 rd
              have fd2 := frz_of_row 2 rd
              have fd3 := frz_of_row 3 rd
              have ltd := lt_of_block rd
              clear rd
              have ra := HF5.out.ra
              have a0 := cell_of_row w5 _ 0 _ _ _ ra
              have a1 := cell_of_row w5 _ 1 _ _ _ ra
              have a2 := cell_of_row w5 _ 2 _ _ _ ra
              have a3 := cell_of_row w5 _ 3 _ _ _ ra
              simp at a0 a1 a2 a3
              have lta := lt_of_block ra
              clear ra
              have rb := HF5.out.rc
              have b0 := cell_of_row w5 _ 0 _ _ _ rb
              have b1 := cell_of_row w5 _ 1 _ _ _ rb
              have b2 := cell_of_row w5 _ 2 _ _ _ rb
              have b3 := cell_of_row w5 _ 3 _ _ _ rb
              simp at b0 b1 b2 b3
              have ltb := lt_of_block rb
              clear rb
              go_wp2_with fail
              go_roundw
              case rel => exact ⟨k + 1, L', ⟨zc, zk, zh, zn⟩, _, by have := Hk.out; omega, by go_num, HWn, Lib.hid (below_set4 HBv.out (Nat.le_refl _) _ _ _ _), JD.go HP5 (by have := HBS.out; omega) HZb.out ⟨zc, zk, zh, zn⟩, Lib.hid ((set4_other _ _ _ _ _ _ _ _ (by omega)).trans (row_set4 _ _ _ _ HF5.out.ry)), Lib.hid (row_set4 _ _ _ _ ((set4_other _ _ _ _ _ _ _ _ (by omega)).trans HF5.out.rz))⟩
              case measure => have := Hk.out; simp [intOf]; omega
            · have e0 : (e1 == 0) = false := by simpa using h0
              clear h0
              go_wp2_with fail
              go_roundw
              case rel => exact ⟨k + 1, L', ⟨yc, yk, yh, yn⟩, v, by have := Hk.out; omega, by go_num, HWf, HBv, JD.stay HP5, Lib.hid HF5.out.ry, Lib.hid HF5.out.rz⟩
              case measure => have := Hk.out; simp [intOf]; omega
      · have h21 : decide ((k : Int) < 20) = false := by simp; omega
        clear hk hlt h20
        go_wp2_with fail
        refine (sameL_any _ HP.out).mono ?_
        rintro e w3 ⟨rfl, hb2⟩
        have HP3 := JD.below hb2 HP
        clear hb2 HP
        go_wp2_with fail
        refine (fixed_any _).mono ?_
        rintro e w4 ⟨rfl, hb3⟩
        have HP4 := JD.below hb3 HP3
        clear hb3 HP3
        go_wp2
        go_ret
        exact ⟨rfl, HBv.out.trans ((Pair.belowW HP4.out).mono HBv.out.size)⟩
    · have hlt1 : decide (k < len1) = false := by simpa using hlt
      clear hk hlt
      go_wp2_with fail
      refine (sameL_any _ HP.out).mono ?_
      rintro e w3 ⟨rfl, hb2⟩
      have HP3 := JD.below hb2 HP
      clear hb2 HP
      go_wp2_with fail
      refine (fixed_any _).mono ?_
      rintro e w4 ⟨rfl, hb3⟩
      have HP4 := JD.below hb3 HP3
      clear hb3 HP3
      go_wp2
      go_ret
      exact ⟨rfl, HBv.out.trans ((Pair.belowW HP4.out).mono HBv.out.size)⟩

set_option maxRecDepth 100000 in
theorem lifted (os : Os) (started : os.Started) (H : Type) (enc : TypeId × Value → H) :
    ReturnsInHanded {} Try.checked os 3 .any (Rows.symDoesSpec.pre6 enc Try.prog Try.f3 Rows.symDoesRow.domain false) (Rows.symDoesSpec.post enc Try.prog Try.f3 false true false false) := by
  refine returnsInHanded_of_change (C := Try.checked) own started (by kernel_rfl) Try.func3
    (ChangeSpec.witness6 (enc := enc) (C := Try.checked) false ⟨#[], #[.slice none 0 0, .agg #[.int .i64 0, .int .i64 0, .int .i64 0, .int .u64 0], .slice none 0 0], []⟩ 8 (by kernel_rfl) (by kernel_rfl) (by kernel_rfl) (by kernel_rfl)) ?_
  intro W base args ds gs before hval0 hW hcnd _
  have hval : ∀ (j : Nat) t v, Try.f3.params[j]? = some t → args[j]? = some v → Value.okWide Try.prog W .any base t v := hval0
  have hW' := hW
  obtain ⟨p, q, hA0, hV, rfl, hfz, hnd⟩ := hW
  have hA : DataW.TrodAll enc Try.prog W 0 (fun _ => true) true Try.f3.params.toList args.toList ds p := hA0
  rw [Try.params3] at hA hval
  obtain ⟨v0, vs0, d0, ds0, p0, q0, hargs, rfl, rfl, h0, r0⟩ := trodAll_cons hA
  obtain ⟨v1, vs1, d1, ds1, p1, q1, rfl, rfl, rfl, h1, r1⟩ := trodAll_cons r0
  obtain ⟨v2, vs2, d2, ds2, p2, q2, rfl, rfl, rfl, h2, r2⟩ := trodAll_cons r1
  obtain ⟨rfl, rfl, rfl⟩ := trodAll_nil r2
  obtain rfl : args = #[v0, v1, v2] := by cases args; simp_all
  obtain ⟨rfl, rfl⟩ := trodVars_none hV
  obtain ⟨a0, len0, cap0, rfl⟩ := okWide_slice Try.underlying22 (hval 0 22 v0 rfl rfl)
  have k0 := h0
  have lt0 : ∀ x ∈ p0, x.block < W.heap.size := by obtain ⟨m, hm⟩ := k0; exact DataW.trod_lt m _ _ _ hm
  obtain ⟨T0, w0⟩ : ∃ T, Terms W a0 len0 cap0 T := by
    obtain ⟨fuel, hf⟩ := h0
    exact open_terms (by simpa [Value.cells] using hf)
  obtain ⟨cs1, rfl, hsz1⟩ : ∃ cs, v1 = .agg cs ∧ cs.size = Try.prog.cellsOf 25 := by
    have h := hval 1 25 v1 rfl rfl
    simp only [Value.okWide, Try.underlying25] at h
    obtain ⟨cs, e1, e2, _⟩ := h
    exact ⟨cs, e1, e2⟩
  have k1 := h1
  have lt1 : ∀ x ∈ p1, x.block < W.heap.size := by obtain ⟨m, hm⟩ := k1; exact DataW.trod_lt m _ _ _ hm
  obtain ⟨y1, rfl, w1⟩ : ∃ y : Sy, cs1 = #[.int .i64 y.CK, .int .i64 y.K, .int .i64 y.H, .int .u64 y.N] ∧ y.Wf := by
    obtain ⟨fuel, hf⟩ := h1
    exact open_sym hf
  obtain ⟨a2, len2, cap2, rfl⟩ := okWide_slice Try.underlying26 (hval 2 26 v2 rfl rfl)
  have k2 := h2
  have lt2 : ∀ x ∈ p2, x.block < W.heap.size := by obtain ⟨m, hm⟩ := k2; exact DataW.trod_lt m _ _ _ hm
  obtain ⟨Z2, w2⟩ : ∃ Z, Arrs .i64 2 W a2 len2 cap2 Z := by
    obtain ⟨fuel, hf⟩ := h2
    exact open_arrs Try.underlying26 Try.underlying33 Try.underlying3 (by kernel_rfl) (by kernel_rfl) (by omega) (by simpa [Value.cells] using hf)
  clear hA0 hval0
  refine (walk a0 len0 cap0 T0 y1 a2 len2 cap2 Z2 W w0 w1 w2).mono fun e W' ⟨he, bel⟩ => ?_
  subst he
  exact ⟨_, rfl, _, _, _, [], _, [], hW', trodAll_mk1 (shut_bool Try.underlying4 _), (trodAll_cons_mk (Below.trod laidOut (by kernel_rfl) (of_decide_eq_true (by kernel_rfl)) k0 bel lt0) (trodAll_cons_mk (Below.trod laidOut (by kernel_rfl) (of_decide_eq_true (by kernel_rfl)) k1 bel lt1) (trodAll_cons_mk (Below.trod laidOut (by kernel_rfl) (of_decide_eq_true (by kernel_rfl)) k2 bel lt2) trodAll_mk0))), rfl, bel.frame _, fun h => by cases h⟩

theorem over : Rows.symDoesRow.holds Try.pinned (OpenSpec.ofChange Rows.symDoesSpec) :=
  OpenClaim.holds_of_wide 3 Try.f3 rfl rfl rfl rfl rfl rfl rfl ⟨rfl, rfl, rfl, rfl, rfl⟩ rfl rfl rfl rfl rfl (by kernel_rfl) Try.func3 (by kernel_rfl)
    (of_decide_eq_true (by kernel_rfl)) (by unfold Func.isWrapper; first | (rw [if_pos (by decide +kernel)]; kernel_rfl) | (rw [if_neg (by decide +kernel)]; exact ⟨rfl, rfl⟩))
    (fun os started H enc _ => lifted os started H enc)

theorem proved : Rows.SymDoesSaid := over
#print axioms proved
end Go.Proofs.Ytlejejeflgnglaa.symDoes
