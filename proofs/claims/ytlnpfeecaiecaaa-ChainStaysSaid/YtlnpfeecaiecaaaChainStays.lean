/- ChainStays: what a chain tells hangs on the chain alone: whatever is put in between, it tells the same. No condition. -/
import Derived.Test.YtlnpfeecaiecaaaRows
import Derived.Test.YtlnpfeecaiecaaaChnX
import Derived.WalkKit
import Derived.ProofKit
import Derived.OpenShut
import Derived.ShutString
import Derived.ChangeOld
import Derived.Below
import Derived.Test.YtlnpfeecaiecaaaChnO
import Derived.Test.YtlnpfeecaiecaaaOpens
namespace Go.Proofs.Ytlnpfeecaiecaaa.chainStays
open Go.ChangeShapes Go.WideShapes Go.ChangeAt Go.RowKit
open Go.ChangeMaps (open_string shut_string)
open Go.Proofs.Ytlnpfeecaiecaaa
set_option linter.unusedVariables false
set_option linter.unusedSimpArgs false
set_option maxRecDepth 20000

theorem own : ownKnob Try.prog.godebug = none := by kernel_rfl
theorem laidOut : laidOutB Try.prog = true := by kernel_rfl
def fz9 : Tm := ⟨2, ⟨#[]⟩, 9, 0, 0, 0⟩
theorem wz9 : Wf fz9 := ⟨wf_emp, k2, by decide, k0, k0, k0⟩
theorem lz9 : putF [] 200 fz9 = (1, 0, [fz9]) := by simp [putF, Tm.may, May, below3, BadP, many, prt, nameOf, eqB, tl0, sz0, List.findIdx?_cons, zeroT, fz9, getT]
theorem fit9 : Fit [fz9] := (put_fit (most := 200) (L := []) (fun k hk => absurd hk (Nat.not_lt_zero _)) (by simp) lz9).1
theorem put_ext {L L' : List Tm} {most a e : Int} {t : Tm} (h : putF L most t = (a, e, L')) : Ext L L' ∧ L'.length ≤ L.length + 1 := by
  rcases putF_cases L most t with ⟨hp, _⟩ | ⟨j, hj, hp, _⟩ | ⟨hr, hp, _⟩ | ⟨hr, hp, _⟩
  all_goals
    have hh := hp.symm.trans h
    injection hh with a1 a2
    injection a2 with a2 a3
    subst a3
  · exact ⟨Ext.refl L, by omega⟩
  · exact ⟨Ext.refl L, by omega⟩
  · exact ⟨Ext.refl L, by omega⟩
  · exact ⟨Ext.snoc L t, by simp⟩
set_option maxHeartbeats 4000000 in
set_option maxRecDepth 100000 in
theorem walk (a0 : Option Addr) (len0 cap0 : Nat) (T0 : Nat → Tm) (x0 x1 : Int) (w : World) (w0 : Terms w a0 len0 cap0 T0) (h0 : (Lit.int .u8 x0).wf = true) (h1 : (Lit.int .u8 x1).wf = true) :
    Calls Try.prog 8 #[.slice a0 len0 cap0, .agg #[.int .u8 x0, .int .u8 x1]] w fun e w' => e = .returned (.bool true) ∧ Below w.heap.size w w' := by
  obtain ⟨y0, y1⟩ := Go.bounds_u8 h0
  obtain ⟨N0, rfl⟩ := Int.eq_ofNat_of_zero_le y0
  obtain ⟨y2, y3⟩ := Go.bounds_u8 h1
  obtain ⟨N1, rfl⟩ := Int.eq_ofNat_of_zero_le y2
  have hB0 : Below w.heap.size w (w.alloc (.cells #[.int .u8 (N0 : Int), .int .u8 (N1 : Int)] 68 : Obj)) := below_alloc _ _
  obtain ⟨wA, hwA⟩ : ∃ wA, wA = w.alloc (.cells #[.int .u8 (N0 : Int), .int .u8 (N1 : Int)] 68 : Obj) := ⟨_, rfl⟩
  have HT9 := w0.below hB0
  rw [← hwA] at HT9 hB0
  obtain ⟨hcm, hlc, b, off, hz⟩ := HT9
  have HTT := Lib.hid hz
  unfold maxLen at hcm
  have HBL := Lib.hid hB0
  have HAR : Hid (∀ u, Below wA.heap.size wA u → u.cell? ⟨w.heap.size, 0, none⟩ = some (.int .u8 (N0 : Int)) ∧ u.cell? ⟨w.heap.size, 1, none⟩ = some (.int .u8 (N1 : Int))) := Lib.hid (fun u hu => by
    have h1 : wA.heap[w.heap.size]? = some (.cells #[.int .u8 (N0 : Int), .int .u8 (N1 : Int)] 68 (0, 0)) := by rw [hwA]; exact heap_alloc_new w _
    have h2 := (hu.block _ (block_lt_of_some h1)).trans h1
    exact ⟨(cells2 h2).1, (cells2 h2).2.1⟩)
  obtain ⟨D, hD⟩ : ∃ D, N1 % 5 = D := ⟨_, rfl⟩
  obtain ⟨T, hT⟩ : ∃ T : Int, (N0 : Int) + (D : Int) = T := ⟨_, rfl⟩
  have eD : (N1 : Int) % 5 = (D : Int) := by rw [← hD]; simp
  have eD2 : (N1 : Int).tmod 5 = (D : Int) := by rw [Int.tmod_eq_emod_of_nonneg (by omega)]; exact eD
  have HDD := Lib.hid (And.intro eD eD2)
  have HT : Hid (T = (N0 : Int) + (D : Int) ∧ D ≤ 4) := Lib.hid ⟨hT.symm, by omega⟩
  have HB0 : Hid ((N0 : Int) ≤ 255) := Lib.hid y1
  have HN0 : Hid (I64 (N0 : Int)) := Lib.hid (i64_small (by omega) (by omega))
  have HTO : Hid (I64 T) := Lib.hid (i64_small (by omega) (by omega))
  have eN : IntKind.i64.wrap (N0 : Int) = (N0 : Int) := by simp [IntKind.wrap, IntKind.signed, IntKind.bits]; omega
  have eN1 : IntKind.i64.wrap (N1 : Int) = (N1 : Int) := by simp [IntKind.wrap, IntKind.signed, IntKind.bits]; omega
  have bT : T ≤ 300 := by omega
  have bN : (N0 : Int) ≤ 255 := by omega
  have bD : (D : Int) ≤ 4 := by omega
  have bN1 : (N1 : Int) ≤ 255 := by omega
  obtain ⟨k', ks, L1, hf1, hr1, hx1, hl1, hfit1⟩ := to_room (most := 200) D (L := [fz9]) (k := 1) (ep := (N0 : Int)) [] fit9 (by simp) (by simp; omega) (by omega) (by omega)
  have HF1 : Hid (toF [fz9] 200 ⟨1, (N0 : Int)⟩ T = (⟨k', T⟩, ks, 0, L1)) := Lib.hid (by rw [to_go (c := ⟨1, (N0 : Int)⟩) (t := D) HT.out.1 HT.out.2, hf1, HT.out.1]; simp)
  have hin1 : 1 ≤ (1 : Int) ∧ (1 : Int) ≤ (L1.length : Int) := hx1.in (by simp)
  obtain ⟨x, L2, hf2, hn2, hx2, hl2, hfit2⟩ := key_step (most := 200) 1 hfit1 hin1 (by simp at hl1; omega)
  have HF2 := Lib.hid hf2
  have HM : Hid (ks.length = D ∧ ChnR L2 D 1 k' ks ∧ Named L2 x (keyT 1 1) ∧ (1 ≤ (1 : Int) ∧ (1 : Int) ≤ (L2.length : Int)) ∧ L2.length ≤ 13 + 0 ∧ Fit L2) := Lib.hid ⟨hr1.len, hr1.ext hx2, hn2, hx2.in hin1, by simp at hl1; omega, hfit2⟩
  have gN := NoS.good wA.heap.size
  clear w0 h0 h1 y0 y1 y2 y3 hB0 hz hD hf1 hr1 hx1 hl1 hfit1 hf2 hn2 hx2 hl2 hfit2 hin1
  go_enter Try.func8, Try.ntmps8
  go_wp2_with fail
  rw [← hwA]
  clear hwA
  refine (Pair.new1 (base := wA.heap.size) (w0 := wA) rfl (Below.refl _ _) (by omega) (by omega)).mono ?_
  rintro e w1 ⟨g, rfl, h1⟩
  have gP := PSq.good wA.heap.size g 200
  have HC := Lib.hid (Cs.start h1)
  clear h1
  go_wp2_with fail
  refine (HC.out.pair.putP gN fz9 wz9 lz9).mono ?_
  rintro e w2 ⟨rfl, hp, hk⟩
  replace HC := Lib.hid (HC.out.step hp hk)
  clear hp hk
  obtain ⟨n0, n1⟩ := HAR.out _ HC.out.low
  replace HC := Lib.hid (HC.out.box gP gN #[.int .i64 1, .int .i64 (N0 : Int)] 30)
  obtain ⟨n2, n3⟩ := HAR.out _ HC.out.low
  obtain ⟨cf0, cf1, cf2, cf3⟩ := cells2 (HC.out.kept (w2.heap.size) (.cells #[.int .i64 1, .int .i64 (N0 : Int)] 30 (0, 0) : Obj) (by simp))
  go_wp2_with fail
  clear cf0 cf1 cf2 cf3
  refine (HC.out.toP gN k1 HN0.out HTO.out HF1.out).mono ?_
  rintro e w3 ⟨rsk, ak, ck, rfl, hc, hi, _⟩
  replace HC := Lib.hid hc
  have HRk := Lib.hid hi
  clear hc hi
  clear n0 n1 n2 n3 hT eD eD2
  replace HC := Lib.hid (HC.out.box gP gN #[.int .i64 k', .int .i64 T] 30)
  obtain ⟨cf0, cf1, cf2, cf3⟩ := cells2 (HC.out.kept (w2.heap.size) (.cells #[.int .i64 1, .int .i64 (N0 : Int)] 30 (0, 0) : Obj) (by simp))
  go_wp2_with fail
  clear cf0 cf1 cf2 cf3
  refine (HC.out.pair.csealP gN k1 HF2.out).mono ?_
  rintro e w4 ⟨rfl, hp, hk⟩
  replace HC := Lib.hid (HC.out.step hp hk)
  clear hp hk
  go_wp2_with fail
  go_loopg [14] 20 (fun gk s14 wr => ∃ (i : Nat) (L : List Tm), i + gk = 20 ∧ s14 = .int .i64 (i : Nat) ∧ Hid (L.length ≤ 13 + i ∧ Ext L2 L ∧ Fit L) ∧ Hid (Cs wA.heap.size (PSq wA.heap.size g 200) NoS L [] ((w3.heap.size, (.cells #[.int .i64 k', .int .i64 T] 30 (0, 0) : Obj)) :: (rsk ++ [(w2.heap.size, (.cells #[.int .i64 1, .int .i64 (N0 : Int)] 30 (0, 0) : Obj))])) wA wr))
  case atStart => exact ⟨0, L2, by omega, rfl, Lib.hid ⟨HM.out.2.2.2.2.1, Ext.refl L2, HM.out.2.2.2.2.2⟩, HC⟩
  case round =>
    clear HC
    obtain ⟨i, L, hi, rfl, HL, HC⟩ := hrel
    by_cases hlt : i < len0
    · have hlt1 : (i : Int) < (len0 : Int) := by omega
      by_cases h20 : i < 20
      · have h21 : (i : Int) < 20 := by omega
        obtain ⟨rfl, hwf, hcl⟩ := HTT.out i hlt
        have hbw : b < wA.heap.size := block_lt_of_cell (hcl 0 _ rfl)
        have hcut := Lib.hid (fun W => cut_c (T0 i) W hwf)
        have HWF0 := Lib.hid (cutT_wf hwf)
        obtain ⟨⟨K, S, N, A, B, C⟩, ht⟩ : ∃ u, u = cutT (T0 i) := ⟨_, rfl⟩
        rw [← ht] at hcut HWF0
        have HWF := HWF0
        obtain ⟨⟨K', S', N', A', B', C'⟩, ht'⟩ : ∃ u, u = T0 i := ⟨_, rfl⟩
        rw [← ht'] at hcut hcl
        have hbl := HC.out.low
        have q0 := hcl 0 _ rfl
        have q1 := hcl 1 _ rfl
        have q2 := hcl 2 _ rfl
        have q3 := hcl 3 _ rfl
        have q4 := hcl 4 _ rfl
        have q5 := hcl 5 _ rfl
        rw [← hbl.cell (by exact hbw)] at q0 q1 q2 q3 q4 q5
        simp at q0 q1 q2 q3 q4 q5
        have HI := Lib.hid (And.intro hi h20)
        obtain ⟨an, er, L', hpf⟩ : ∃ an er L', putF L 200 ⟨K, S, N, A, B, C⟩ = (an, er, L') := ⟨_, _, _, rfl⟩
        have HPF := Lib.hid hpf
        have HL' : Hid (L'.length ≤ 13 + (i + 1) ∧ Ext L2 L' ∧ Fit L') := Lib.hid (by
          obtain ⟨h1, h2, h3⟩ := HL.out
          obtain ⟨g1, g2⟩ := put_ext hpf
          exact ⟨by omega, h2.trans g1, (put_fit h3 (by omega) hpf).1⟩)
        clear hcl ht ht' hbl HWF0 hwf hi hpf h20 hlt
        go_wp2_with fail
        refine (hcut.out _).mono ?_
        rintro e w9 ⟨rfl, hb⟩
        replace HC := Lib.hid (HC.out.below gP gN hb)
        clear hb q0 q1 q2 q3 q4 q5
        go_wp2_with fail
        refine (HC.out.pair.putP gN ⟨K, S, N, A, B, C⟩ HWF.out HPF.out).mono ?_
        rintro e w8 ⟨rfl, hp, hk⟩
        replace HC := Lib.hid (HC.out.step hp hk)
        clear hp hk
        go_wp2_with fail
        go_roundg (20 - (i + 1))
        case rel => exact ⟨i + 1, L', by have := HI.out; omega, by go_num, HL', HC⟩
        case measure => have := HI.out; omega
      · have h21 : decide ((i : Int) < 20) = false := decide_eq_false (by omega)
        have HI := Lib.hid (show i ≤ 20 by omega)
        clear hlt h20 hi
        have HK3 := Lib.hid (HL.out.2.1)
        have hin : 1 ≤ (1 : Int) ∧ (1 : Int) ≤ (L.length : Int) := ⟨by omega, HL.out.2.1.len HM.out.2.2.2.1.2⟩
        have HF3 : Hid (toF L 200 ⟨1, (N0 : Int)⟩ T = (⟨k', T⟩, ks, 0, L)) := Lib.hid (by
          rw [to_go (c := ⟨1, (N0 : Int)⟩) (t := D) HT.out.1 HT.out.2, to_again (k' := k') (ks := ks) [] (HM.out.2.1.ext HK3.out) hin (by omega) (by have := HT.out; have := HB0.out; omega)]
          rw [HT.out.1]
          simp)
        have HF4 : Hid (putF L 200 (keyT 1 1) = (x, 0, L)) := Lib.hid (key_again (HM.out.2.2.1.ext HK3.out) hin)
        clear hin
        obtain ⟨cf0, cf1, cf2, cf3⟩ := cells2 (HC.out.kept (w2.heap.size) (.cells #[.int .i64 1, .int .i64 (N0 : Int)] 30 (0, 0) : Obj) (by simp))
        go_wp2_with fail
        clear cf0 cf1 cf2 cf3
        refine (HC.out.toP gN k1 HN0.out HTO.out HF3.out).mono ?_
        rintro e w21 ⟨rsm, am, cm, rfl, hc, hi, _⟩
        replace HC := Lib.hid hc
        have HRm := Lib.hid hi
        clear hc hi
        replace HC := Lib.hid (HC.out.box gP gN #[.int .i64 k', .int .i64 T] 30)
        obtain ⟨cf0, cf1, cf2, cf3⟩ := cells2 (HC.out.kept (w2.heap.size) (.cells #[.int .i64 1, .int .i64 (N0 : Int)] 30 (0, 0) : Obj) (by simp))
        go_wp2_with fail
        clear cf0 cf1 cf2 cf3
        refine (HC.out.pair.csealP gN k1 HF4.out).mono ?_
        rintro e w22 ⟨rfl, hp, hk⟩
        replace HC := Lib.hid (HC.out.step hp hk)
        clear hp hk
        obtain ⟨n0, n1⟩ := HAR.out _ HC.out.low
        have eD : (N1 : Int) % 5 = (D : Int) := HDD.out.1
        have eD2 : (N1 : Int).tmod 5 = (D : Int) := HDD.out.2
        have hn : ks.length = D := HM.out.1
        have tl : ((D : Int) != (D : Int)) = false := by simp
        have tx : (x == x) = true := by simp
        have tT : (T == T) = true := by simp
        have tc := sameC k' T
        go_wp2_with fail
        clear n0 n1
        go_loopg [20] D (fun gk s20 wr => ∃ (j : Nat), j + gk = D ∧ s20 = .int .i64 (j : Nat) ∧ Hid (Cs wA.heap.size (PSq wA.heap.size g 200) NoS L [] ((w21.heap.size, (.cells #[.int .i64 k', .int .i64 T] 30 (0, 0) : Obj)) :: (rsm ++ ((w3.heap.size, (.cells #[.int .i64 k', .int .i64 T] 30 (0, 0) : Obj)) :: (rsk ++ [(w2.heap.size, (.cells #[.int .i64 1, .int .i64 (N0 : Int)] 30 (0, 0) : Obj))])))) wA wr))
        case atStart => exact ⟨0, by omega, rfl, HC⟩
        case round =>
          clear HC
          obtain ⟨j, hj, rfl, HC⟩ := hrel
          by_cases hjd : j < D
          · have j1 : (j : Int) < (D : Int) := by omega
            have j0 : (0 : Int) ≤ (j : Int) := by omega
            have hk9 := HRk.out _ (fun k o q => HC.out.kept k o (by simp [q]))
            have hm9 := HRm.out _ (fun k o q => HC.out.kept k o (by simp [q]))
            obtain ⟨_, _, b1, o1, hk8⟩ := hk9
            obtain ⟨_, _, b2, o2, hm8⟩ := hm9
            obtain ⟨rfl, hk7⟩ := hk8 j (by rw [hn]; exact hjd)
            obtain ⟨rfl, hm7⟩ := hm8 j (by rw [hn]; exact hjd)
            obtain ⟨z, hz⟩ : ∃ z, ks.getD j 0 = z := ⟨_, rfl⟩
            rw [hz] at hk7 hm7
            have tz : (z != z) = false := by simp
            have HJ := Lib.hid (And.intro hj hjd)
            clear hk8 hm8 hz hj hjd
            go_wp2_with fail
            go_quiet (fail)
            have hd9 := HC.out.below gP gN (drewN_below _ nq)
            replace HC := Lib.hid hd9
            clear hd9
            go_wp2_with fail
            go_roundg (D - (j + 1))
            case rel => exact ⟨j + 1, by have := HJ.out; omega, by go_num, HC⟩
            case measure => have := HJ.out; omega
          · obtain rfl : j = D := by omega
            have j1 : decide ((j : Int) < (j : Int)) = false := decide_eq_false (by omega)
            clear hj hjd
            obtain ⟨af0, af1, _, _⟩ := cells2 (HC.out.kept w3.heap.size (.cells #[.int .i64 k', .int .i64 T] 30 (0, 0) : Obj) (by simp))
            obtain ⟨bf0, bf1, _, _⟩ := cells2 (HC.out.kept w21.heap.size (.cells #[.int .i64 k', .int .i64 T] 30 (0, 0) : Obj) (by simp))
            go_wp2_with fail
            refine (fixed_any _).mono ?_
            rintro e w99 ⟨rfl, hb⟩
            replace HC := Lib.hid (HC.out.below gP gN hb)
            clear hb
            go_wp2_with fail
            go_ret
            exact ⟨rfl, HBL.out.trans (HC.out.low.mono HBL.out.size)⟩
    · have hlt1 : decide (i < len0) = false := by simpa using hlt
      have HI := Lib.hid (show i ≤ 20 by omega)
      clear hlt hi
      have HK3 := Lib.hid (HL.out.2.1)
      have hin : 1 ≤ (1 : Int) ∧ (1 : Int) ≤ (L.length : Int) := ⟨by omega, HL.out.2.1.len HM.out.2.2.2.1.2⟩
      have HF3 : Hid (toF L 200 ⟨1, (N0 : Int)⟩ T = (⟨k', T⟩, ks, 0, L)) := Lib.hid (by
        rw [to_go (c := ⟨1, (N0 : Int)⟩) (t := D) HT.out.1 HT.out.2, to_again (k' := k') (ks := ks) [] (HM.out.2.1.ext HK3.out) hin (by omega) (by have := HT.out; have := HB0.out; omega)]
        rw [HT.out.1]
        simp)
      have HF4 : Hid (putF L 200 (keyT 1 1) = (x, 0, L)) := Lib.hid (key_again (HM.out.2.2.1.ext HK3.out) hin)
      clear hin
      obtain ⟨cf0, cf1, cf2, cf3⟩ := cells2 (HC.out.kept (w2.heap.size) (.cells #[.int .i64 1, .int .i64 (N0 : Int)] 30 (0, 0) : Obj) (by simp))
      go_wp2_with fail
      clear cf0 cf1 cf2 cf3
      refine (HC.out.toP gN k1 HN0.out HTO.out HF3.out).mono ?_
      rintro e w21 ⟨rsm, am, cm, rfl, hc, hi, _⟩
      replace HC := Lib.hid hc
      have HRm := Lib.hid hi
      clear hc hi
      replace HC := Lib.hid (HC.out.box gP gN #[.int .i64 k', .int .i64 T] 30)
      obtain ⟨cf0, cf1, cf2, cf3⟩ := cells2 (HC.out.kept (w2.heap.size) (.cells #[.int .i64 1, .int .i64 (N0 : Int)] 30 (0, 0) : Obj) (by simp))
      go_wp2_with fail
      clear cf0 cf1 cf2 cf3
      refine (HC.out.pair.csealP gN k1 HF4.out).mono ?_
      rintro e w22 ⟨rfl, hp, hk⟩
      replace HC := Lib.hid (HC.out.step hp hk)
      clear hp hk
      obtain ⟨n0, n1⟩ := HAR.out _ HC.out.low
      have eD : (N1 : Int) % 5 = (D : Int) := HDD.out.1
      have eD2 : (N1 : Int).tmod 5 = (D : Int) := HDD.out.2
      have hn : ks.length = D := HM.out.1
      have tl : ((D : Int) != (D : Int)) = false := by simp
      have tx : (x == x) = true := by simp
      have tT : (T == T) = true := by simp
      have tc := sameC k' T
      go_wp2_with fail
      clear n0 n1
      go_loopg [20] D (fun gk s20 wr => ∃ (j : Nat), j + gk = D ∧ s20 = .int .i64 (j : Nat) ∧ Hid (Cs wA.heap.size (PSq wA.heap.size g 200) NoS L [] ((w21.heap.size, (.cells #[.int .i64 k', .int .i64 T] 30 (0, 0) : Obj)) :: (rsm ++ ((w3.heap.size, (.cells #[.int .i64 k', .int .i64 T] 30 (0, 0) : Obj)) :: (rsk ++ [(w2.heap.size, (.cells #[.int .i64 1, .int .i64 (N0 : Int)] 30 (0, 0) : Obj))])))) wA wr))
      case atStart => exact ⟨0, by omega, rfl, HC⟩
      case round =>
        clear HC
        obtain ⟨j, hj, rfl, HC⟩ := hrel
        by_cases hjd : j < D
        · have j1 : (j : Int) < (D : Int) := by omega
          have j0 : (0 : Int) ≤ (j : Int) := by omega
          have hk9 := HRk.out _ (fun k o q => HC.out.kept k o (by simp [q]))
          have hm9 := HRm.out _ (fun k o q => HC.out.kept k o (by simp [q]))
          obtain ⟨_, _, b1, o1, hk8⟩ := hk9
          obtain ⟨_, _, b2, o2, hm8⟩ := hm9
          obtain ⟨rfl, hk7⟩ := hk8 j (by rw [hn]; exact hjd)
          obtain ⟨rfl, hm7⟩ := hm8 j (by rw [hn]; exact hjd)
          obtain ⟨z, hz⟩ : ∃ z, ks.getD j 0 = z := ⟨_, rfl⟩
          rw [hz] at hk7 hm7
          have tz : (z != z) = false := by simp
          have HJ := Lib.hid (And.intro hj hjd)
          clear hk8 hm8 hz hj hjd
          go_wp2_with fail
          go_quiet (fail)
          have hd9 := HC.out.below gP gN (drewN_below _ nq)
          replace HC := Lib.hid hd9
          clear hd9
          go_wp2_with fail
          go_roundg (D - (j + 1))
          case rel => exact ⟨j + 1, by have := HJ.out; omega, by go_num, HC⟩
          case measure => have := HJ.out; omega
        · obtain rfl : j = D := by omega
          have j1 : decide ((j : Int) < (j : Int)) = false := decide_eq_false (by omega)
          clear hj hjd
          obtain ⟨af0, af1, _, _⟩ := cells2 (HC.out.kept w3.heap.size (.cells #[.int .i64 k', .int .i64 T] 30 (0, 0) : Obj) (by simp))
          obtain ⟨bf0, bf1, _, _⟩ := cells2 (HC.out.kept w21.heap.size (.cells #[.int .i64 k', .int .i64 T] 30 (0, 0) : Obj) (by simp))
          go_wp2_with fail
          refine (fixed_any _).mono ?_
          rintro e w99 ⟨rfl, hb⟩
          replace HC := Lib.hid (HC.out.below gP gN hb)
          clear hb
          go_wp2_with fail
          go_ret
          exact ⟨rfl, HBL.out.trans (HC.out.low.mono HBL.out.size)⟩
set_option maxRecDepth 100000 in
theorem lifted (os : Os) (started : os.Started) (H : Type) (enc : TypeId × Value → H) :
    ReturnsInHanded {} Try.checked os 8 .any (Rows.chainStaysSpec.pre6 enc Try.prog Try.f8 Rows.chainStaysRow.domain false) (Rows.chainStaysSpec.post enc Try.prog Try.f8 false true false false) := by
  refine returnsInHanded_of_change (C := Try.checked) own started (by kernel_rfl) Try.func8
    (ChangeSpec.witness6 (enc := enc) (C := Try.checked) false ⟨#[], #[.slice none 0 0, .agg #[.int .u8 0, .int .u8 0]], []⟩ 8 (by kernel_rfl) (by kernel_rfl) (by kernel_rfl) (by kernel_rfl)) ?_
  intro W base args ds gs before hval0 hW hcnd _
  have hval : ∀ (j : Nat) t v, Try.f8.params[j]? = some t → args[j]? = some v → Value.okWide Try.prog W .any base t v := hval0
  have hW' := hW
  obtain ⟨p, q, hA0, hV, rfl, hfz, hnd⟩ := hW
  have hA : DataW.TrodAll enc Try.prog W 0 (fun _ => true) true Try.f8.params.toList args.toList ds p := hA0
  rw [Try.params8] at hA hval
  obtain ⟨v0, vs0, d0, ds0, p0, q0, hargs, rfl, rfl, h0, r0⟩ := trodAll_cons hA
  obtain ⟨v1, vs1, d1, ds1, p1, q1, rfl, rfl, rfl, h1, r1⟩ := trodAll_cons r0
  obtain ⟨rfl, rfl, rfl⟩ := trodAll_nil r1
  obtain rfl : args = #[v0, v1] := by cases args; simp_all
  obtain ⟨rfl, rfl⟩ := trodVars_none hV
  obtain ⟨a0, len0, cap0, rfl⟩ := okWide_slice Try.underlying22 (hval 0 22 v0 rfl rfl)
  have k0 := h0
  have lt0 : ∀ x ∈ p0, x.block < W.heap.size := by obtain ⟨m, hm⟩ := k0; exact DataW.trod_lt m _ _ _ hm
  obtain ⟨T0, w0⟩ : ∃ T, Terms W a0 len0 cap0 T := by
    obtain ⟨fuel, hf⟩ := h0
    exact open_terms (by simpa [Value.cells] using hf)
  obtain ⟨cs1, rfl, hsz1⟩ : ∃ cs, v1 = .agg cs ∧ cs.size = Try.prog.cellsOf 68 := by
    have h := hval 1 68 v1 rfl rfl
    simp only [Value.okWide, Try.underlying68] at h
    obtain ⟨cs, e1, e2, _⟩ := h
    exact ⟨cs, e1, e2⟩
  have k1 := h1
  have lt1 : ∀ x ∈ p1, x.block < W.heap.size := by obtain ⟨m, hm⟩ := k1; exact DataW.trod_lt m _ _ _ hm
  obtain ⟨Z1, rfl, w1⟩ : ∃ Z : Nat → Int, cs1 = ((List.range 2).map fun j => Value.int .u8 (Z j)).toArray ∧ ∀ j, j < 2 → (Lit.int .u8 (Z j)).wf = true := by
    obtain ⟨fuel, hf⟩ := h1
    exact open_arrV Try.underlying68 Try.underlying5 (by kernel_rfl) (by kernel_rfl) hf
  clear hA0 hval0
  refine (walk a0 len0 cap0 T0 (Z1 0) (Z1 1) W w0 (w1 0 (by omega)) (w1 1 (by omega))).mono fun e W' ⟨he, bel⟩ => ?_
  subst he
  exact ⟨_, rfl, _, _, _, [], _, [], hW', trodAll_mk1 (shut_bool Try.underlying4 _), (trodAll_cons_mk (Below.trod laidOut (by kernel_rfl) (of_decide_eq_true (by kernel_rfl)) k0 bel lt0) (trodAll_cons_mk (Below.trod laidOut (by kernel_rfl) (of_decide_eq_true (by kernel_rfl)) k1 bel lt1) trodAll_mk0)), rfl, bel.frame _, fun h => by cases h⟩

theorem over : Rows.chainStaysRow.holds Try.pinned (OpenSpec.ofChange Rows.chainStaysSpec) :=
  OpenClaim.holds_of_wide 8 Try.f8 rfl rfl rfl rfl rfl rfl rfl ⟨rfl, rfl, rfl, rfl, rfl⟩ rfl rfl rfl rfl rfl (by kernel_rfl) Try.func8 (by kernel_rfl)
    (of_decide_eq_true (by kernel_rfl)) (by unfold Func.isWrapper; first | (rw [if_pos (by decide +kernel)]; kernel_rfl) | (rw [if_neg (by decide +kernel)]; exact ⟨rfl, rfl⟩))
    (fun os started H enc _ => lifted os started H enc)

theorem proved : Rows.ChainStaysSaid := over
#print axioms proved
end Go.Proofs.Ytlnpfeecaiecaaa.chainStays
