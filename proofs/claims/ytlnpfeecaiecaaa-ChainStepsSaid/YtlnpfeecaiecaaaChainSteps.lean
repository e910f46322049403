/- ChainSteps: in one go, or step by step, the chain of a later epoch is the same, and so are the keys that are skipped; each epoch has a key of its own. No condition. -/
import Derived.Test.YtlnpfeecaiecaaaRows
import Derived.Test.YtlnpfeecaiecaaaChnX
import Derived.WalkKit
import Derived.ProofKit
import Derived.OpenShut
import Derived.ShutString
import Derived.ChangeOld
import Derived.Below
import Derived.Test.YtlnpfeecaiecaaaChnO
import Derived.Test.YtlnpfeecaiecaaaSameL
import Derived.Test.YtlnpfeecaiecaaaOpens
namespace Go.Proofs.Ytlnpfeecaiecaaa.chainSteps
open Go.ChangeShapes Go.WideShapes Go.ChangeAt Go.RowKit
open Go.ChangeMaps (open_string shut_string)
open Go.Proofs.Ytlnpfeecaiecaaa
set_option linter.unusedVariables false
set_option linter.unusedSimpArgs false
set_option maxRecDepth 20000

theorem own : ownKnob Try.prog.godebug = none := by kernel_rfl
theorem laidOut : laidOutB Try.prog = true := by kernel_rfl
theorem getD_ne {ks : List Int} (hu : ks.Nodup) {j i : Nat} (hj : j < ks.length) (hi : i < ks.length) (h : j < i) : ks.getD j 0 ≠ ks.getD i 0 := by
  have h1 := List.pairwise_iff_getElem.1 hu j i hj hi h
  simpa [List.getD, hj, hi] using h1
set_option maxHeartbeats 4000000 in
set_option maxRecDepth 100000 in
theorem walk (a0 : Option Addr) (len0 cap0 : Nat) (T0 : Nat → Tm) (x0 x1 x2 : Int) (w : World) (w0 : Terms w a0 len0 cap0 T0) (h0 : (Lit.int .u16 x0).wf = true) (h1 : (Lit.int .u16 x1).wf = true) (h2 : (Lit.int .u16 x2).wf = true) :
    Calls Try.prog 4 #[.slice a0 len0 cap0, .agg #[.int .u16 x0, .int .u16 x1, .int .u16 x2]] w fun e w' => e = .returned (.bool true) ∧ Below w.heap.size w w' := by
  obtain ⟨y0, y1⟩ := Go.bounds_u16 h0
  obtain ⟨N0, rfl⟩ := Int.eq_ofNat_of_zero_le y0
  obtain ⟨y2, y3⟩ := Go.bounds_u16 h1
  obtain ⟨N1, rfl⟩ := Int.eq_ofNat_of_zero_le y2
  obtain ⟨y4, y5⟩ := Go.bounds_u16 h2
  obtain ⟨N2, rfl⟩ := Int.eq_ofNat_of_zero_le y4
  have hB0 : Below w.heap.size w (w.alloc (.cells #[.int .u16 (N0 : Int), .int .u16 (N1 : Int), .int .u16 (N2 : Int)] 51 : Obj)) := below_alloc _ _
  obtain ⟨wA, hwA⟩ : ∃ wA, wA = w.alloc (.cells #[.int .u16 (N0 : Int), .int .u16 (N1 : Int), .int .u16 (N2 : Int)] 51 : Obj) := ⟨_, rfl⟩
  have HT9 := w0.below hB0
  rw [← hwA] at HT9 hB0
  have HTM := Lib.hid HT9
  have HBL := Lib.hid hB0
  have HAR : Hid (∀ u, Below wA.heap.size wA u → u.cell? ⟨w.heap.size, 0, none⟩ = some (.int .u16 (N0 : Int)) ∧ u.cell? ⟨w.heap.size, 1, none⟩ = some (.int .u16 (N1 : Int)) ∧ u.cell? ⟨w.heap.size, 2, none⟩ = some (.int .u16 (N2 : Int))) := Lib.hid (fun u hu => by
    have h1 : wA.heap[w.heap.size]? = some (.cells #[.int .u16 (N0 : Int), .int .u16 (N1 : Int), .int .u16 (N2 : Int)] 51 (0, 0)) := by rw [hwA]; exact heap_alloc_new w _
    have h2 := (hu.block _ (block_lt_of_some h1)).trans h1
    exact ⟨cell_of_row _ _ 0 _ _ _ h2, cell_of_row _ _ 1 _ _ _ h2, cell_of_row _ _ 2 _ _ _ h2⟩)
  obtain ⟨D, hD⟩ : ∃ D, N2 % 5 = D := ⟨_, rfl⟩
  obtain ⟨En, hE⟩ : ∃ E, N1 % 990 = E := ⟨_, rfl⟩
  obtain ⟨E, hEE⟩ : ∃ E : Int, (En : Int) = E := ⟨_, rfl⟩
  obtain ⟨T, hT⟩ : ∃ T : Int, E + (D : Int) = T := ⟨_, rfl⟩
  have eD : (N2 : Int) % 5 = (D : Int) := by rw [← hD]; simp
  have eD2 : (N2 : Int).tmod 5 = (D : Int) := by rw [Int.tmod_eq_emod_of_nonneg (by omega)]; exact eD
  have e5 : (N1 : Int) % 990 = E := by rw [← hEE, ← hE]; simp
  have e6 : (N1 : Int).tmod 990 = E := by rw [Int.tmod_eq_emod_of_nonneg (by omega)]; exact e5
  have HTT : Hid (T = E + (D : Int)) := Lib.hid hT.symm
  have HEB : Hid (0 ≤ E ∧ E ≤ 989 ∧ D ≤ 4) := Lib.hid (by omega)
  have HE64 : Hid (I64 E) := Lib.hid (i64_small (by omega) (by omega))
  have HT64 : Hid (I64 T) := Lib.hid (i64_small (by omega) (by omega))
  have eN0 : IntKind.i64.wrap (N0 : Int) = (N0 : Int) := by simp [IntKind.wrap, IntKind.signed, IntKind.bits]; omega
  have eN1 : IntKind.i64.wrap (N1 : Int) = (N1 : Int) := by simp [IntKind.wrap, IntKind.signed, IntKind.bits]; omega
  have eN2 : IntKind.i64.wrap (N2 : Int) = (N2 : Int) := by simp [IntKind.wrap, IntKind.signed, IntKind.bits]; omega
  have bT : T ≤ 1000 := by omega
  have bE : E ≤ 989 := by omega
  have bD : (D : Int) ≤ 4 := by omega
  have bN0 : (N0 : Int) ≤ 65535 := by omega
  have bN1 : (N1 : Int) ≤ 65535 := by omega
  have bN2 : (N2 : Int) ≤ 65535 := by omega
  have bE0 : 0 ≤ E := by omega
  clear w0 h0 h1 h2 y0 y1 y2 y3 y4 y5 hB0 hD hE hEE
  go_enter Try.func4, Try.ntmps4
  go_wp2_with fail
  rw [← hwA]
  clear hwA
  refine (stores_any 20 a0 len0 cap0 T0 _ (by omega) HTM.out).mono ?_
  rintro e w1 ⟨g1, g2, L, rfl, hL, hp⟩
  have gP := PSq.good wA.heap.size g1 1000
  have gR := RSq.good wA.heap.size g2 1000
  have HFit := Lib.hid hp.facts.1
  have HC := Lib.hid (Cs.start hp)
  clear hp HTM
  go_wp2_with fail
  refine (HC.out.pair.lenP).mono ?_
  rintro e w1' ⟨rfl, rfl⟩
  by_cases hl0 : L.length = 0
  · have hl1 : ((L.length : Int) == 0) = true := by simp [hl0]
    have hl2 : L = [] := List.eq_nil_of_length_eq_zero hl0
    subst hl2
    clear hl0 hL hT
    go_wp2_with fail
    refine (fixed_any _).mono ?_
    rintro e w99 ⟨rfl, hb⟩
    replace HC := Lib.hid (HC.out.below gP gR hb)
    clear hb
    go_wp2_with fail
    go_ret
    exact ⟨rfl, HBL.out.trans (HC.out.low.mono HBL.out.size)⟩
  · obtain ⟨ℓ, hℓ⟩ : ∃ ℓ, L.length = ℓ := ⟨_, rfl⟩
    have HLN : Hid (L.length = ℓ ∧ 0 < ℓ ∧ ℓ ≤ 20) := Lib.hid (by omega)
    rw [hℓ]
    have hl1 : ((ℓ : Int) == 0) = false := by simp; omega
    have hl2 : ¬ (ℓ : Int) = 0 := by omega
    have hl3 : ¬ ℓ = 0 := by omega
    obtain ⟨M, hM⟩ : ∃ M, N0 % ℓ = M := ⟨_, rfl⟩
    obtain ⟨X, hX⟩ : ∃ X : Int, 1 + (M : Int) = X := ⟨_, rfl⟩
    have hMl : M < ℓ := by rw [← hM]; exact Nat.mod_lt _ (by omega)
    have e3 : (N0 : Int) % (ℓ : Int) = (M : Int) := by rw [← hM]; simp
    have e4 : (N0 : Int).tmod (ℓ : Int) = (M : Int) := by rw [Int.tmod_eq_emod_of_nonneg (by omega)]; exact e3
    have e7 : IntKind.i64.wrap (M : Int) = (M : Int) := by simp [IntKind.wrap, IntKind.signed, IntKind.bits]; omega
    have e8 : IntKind.i64.wrap X = X := by simp [IntKind.wrap, IntKind.signed, IntKind.bits]; omega
    have e9 : IntKind.i64.wrap E = E := by simp [IntKind.wrap, IntKind.signed, IntKind.bits]; omega
    have hxl : 1 ≤ X ∧ X ≤ (L.length : Int) := by omega
    have HX64 : Hid (I64 X) := Lib.hid (i64_small (by omega) (by omega))
    obtain ⟨k', ks, L1, hf1, hr1, hx1, hl9, hfit1⟩ := to_room (most := 1000) D (L := L) (k := X) (ep := E) [] HFit.out hxl (by have := HEB.out; omega) (by omega) (by omega)
    have HF1 : Hid (toF L 1000 ⟨X, E⟩ T = (⟨k', T⟩, ks, 0, L1)) := Lib.hid (by rw [to_go (c := ⟨X, E⟩) (t := D) HTT.out HEB.out.2.2, hf1, HTT.out]; simp)
    have HR : Hid (ChnR L1 D X k' ks ∧ Fit L1 ∧ (1 ≤ X ∧ X ≤ (L1.length : Int)) ∧ L1.length ≤ 40) := Lib.hid ⟨hr1, hfit1, hx1.in hxl, by have := HEB.out; omega⟩
    have HD9 : Hid (ks.length = D) := Lib.hid hr1.len
    clear hl0 hL hℓ hM hf1 hr1 hx1 hl9 hfit1 hxl hMl
    go_wp2_with fail
    have HLN9 := HLN
    go_upto_region 4 with fail
    go_cut [7] from 35 to 46 (fun x7 wx => ∃ X9 : Nat, x7 = .pointer (some ⟨X9, 0, none⟩) ∧ Hid (wA.heap.size ≤ X9) ∧ Hid (Cs wA.heap.size (PSq wA.heap.size g1 1000) (RSq wA.heap.size g2 1000) L L [(X9, (.cells #[.int .i64 X, .int .i64 E] 30 (0, 0) : Obj))] wA wx))
    case first =>
      have HCL : Hid (∀ (W : World) (bs : List (Nat × Obj)), Cs wA.heap.size (PSq wA.heap.size g1 1000) (RSq wA.heap.size g2 1000) L L bs wA W → Calls Try.prog 20 #[.pointer (some ⟨g1, 0, none⟩)] W fun e w' => e = .returned (.int .i64 (ℓ : Int)) ∧ W = w') := Lib.hid (fun W bs h => (h.pair.lenP).mono fun e w' q => ⟨by rw [q.1, HLN.out.1], q.2⟩)
      have HCb : Hid (Cs wA.heap.size (PSq wA.heap.size g1 1000) (RSq wA.heap.size g2 1000) L L [(w1.heap.size, (.cells #[.int .i64 0, .int .i64 0] 30 (0, 0) : Obj))] wA (w1.alloc (.cells #[.int .i64 0, .int .i64 0] 30 : Obj))) := Lib.hid (HC.out.box gP gR _ _)
      have HCd := Lib.hid (HC.out.below gP gR ((Below.refl _ _).drew))
      have HCe := Lib.hid (HCb.out.below gP gR ((Below.refl _ _).drew))
      have HB9 := Lib.hid HC.out.pair.base_le
      obtain ⟨n0a, n1a, n2a⟩ := HAR.out _ HC.out.low
      obtain ⟨n0b, n1b, n2b⟩ := HAR.out _ HCb.out.low
      have hn := heap_alloc_new w1 (.cells #[.int .i64 0, .int .i64 0] 30 : Obj)
      obtain ⟨z0, z1, z2, z3⟩ := cells2 hn
      clear hn
      go_region_with (go_at_call 20; refine (HCL.out _ _ (by first | exact HCd.out | exact HCe.out)).mono ?_; rintro e w9 ⟨rfl, rfl⟩)
      all_goals
        go_wp2_with fail
        go_meet
        first
        | exact ⟨_, rfl, Lib.hid HB9.out, Lib.hid (HCd.out.box gP gR #[.int .i64 X, .int .i64 E] 30)⟩
        | exact ⟨_, rfl, Lib.hid HB9.out, Lib.hid ((HC.out.box gP gR #[.int .i64 X, .int .i64 E] 30).below gP gR ((Below.refl _ _).drew))⟩
        | exact ⟨_, rfl, Lib.hid HB9.out, Lib.hid ((HCe.out.fill gP gR (by simp) HB9.out (.int .i64 X) (.int .i64 E) (fun z hz => by simp at hz; exact .inl hz)))⟩
    case rest =>
      obtain ⟨Bc, rfl, HBC, hcs⟩ := hcut
      obtain ⟨wa, hwa⟩ : ∃ wa, wa = wc := ⟨_, rfl⟩
      subst hwa
      clear HC e4 e5
      have HC := hcs
      clear hcs
      obtain ⟨n0, n1, n2⟩ := HAR.out _ HC.out.low
      obtain ⟨cf0, cf1, cf2, cf3⟩ := cells2 (HC.out.kept (Bc) (.cells #[.int .i64 X, .int .i64 E] 30 (0, 0) : Obj) (by simp))
      go_wp2_with fail
      clear cf0 cf1 cf2 cf3
      refine (HC.out.toP gR HX64.out HE64.out HT64.out HF1.out).mono ?_
      rintro e w2 ⟨rsk, ak, ck, rfl, hc, hi, hd⟩
      replace HC := Lib.hid hc
      have HRk := Lib.hid hi
      have HDK := Lib.hid hd
      clear hc hi hd
      have hlt9 := HC.out.pair.klt Bc ⟨(.cells #[.int .i64 X, .int .i64 E] 30 (0, 0) : Obj), by simp⟩
      have HBD : Hid (w2.heap.size ≠ Bc ∧ wA.heap.size ≤ Bc) := Lib.hid ⟨fun e => by omega, HBC.out⟩
      clear hlt9
      replace HC := Lib.hid (HC.out.box gP gR #[.int .i64 k', .int .i64 T] 30)
      clear n0 n1 n2
      have hn : ks.length = D := HD9.out
      have tl : ((D : Int) != (D : Int)) = false := by simp
      obtain ⟨df0, df1, _, _⟩ := cells2 (HC.out.kept w2.heap.size (.cells #[.int .i64 k', .int .i64 T] 30 (0, 0) : Obj) (by simp))
      go_wp2_with fail
      clear df0 df1
      go_loopg [12] D (fun gk s12 wr => ∃ (i : Nat) (m ei : Int), i + gk = D ∧ s12 = .int .i64 (i : Nat) ∧ Hid (ChnR L1 i X m (ks.take i) ∧ ei = E + (i : Int)) ∧ Hid (Cs wA.heap.size (PSq wA.heap.size g1 1000) (RSq wA.heap.size g2 1000) L1 L ((w2.heap.size, (.cells #[.int .i64 k', .int .i64 T] 30 (0, 0) : Obj)) :: (rsk ++ [(Bc, (.cells #[.int .i64 m, .int .i64 ei] 30 (0, 0) : Obj))])) wA wr))
      case atStart => exact ⟨0, X, E, by omega, rfl, Lib.hid ⟨⟨rfl, by simp⟩, by simp⟩, HC⟩
      case round =>
        clear HC
        obtain ⟨i, m, ei, hi, rfl, HM, HC⟩ := hrel
        by_cases hid : i < D
        · have i1 : (i : Int) < (D : Int) := by omega
          have i0 : (0 : Int) ≤ (i : Int) := by omega
          obtain ⟨m', y, h1, h2, h3, h4, h5⟩ := HR.out.1.at i hid
          obtain ⟨em, _⟩ := ChnR.fun h1 HM.out.1
          subst em
          have hmin := HM.out.1.in HR.out.2.2.1
          obtain ⟨z, hz⟩ : ∃ z, ks.getD i 0 = z := ⟨_, rfl⟩
          rw [hz] at h2
          obtain ⟨ei2, he2⟩ : ∃ e, ei + 1 = e := ⟨_, rfl⟩
          have HSE : Hid (putF L1 1000 (keyT m' 1) = (z, 0, L1)) := Lib.hid (key_again h2 hmin)
          have HNX : Hid (nextF L1 1000 ⟨m', ei⟩ = (⟨y, ei2⟩, 0, L1)) := Lib.hid (by rw [← he2]; exact next_yes (c := ⟨m', ei⟩) (badE_ok (by have := HM.out.2; have := HEB.out; show 0 ≤ ei; omega) (by have := HM.out.2; have := HEB.out; show ei ≤ 999; omega)) (key_again h3 hmin))
          have HM64 : Hid (I64 m') := Lib.hid (i64_small (by omega) (by have := HR.out.2.2.2; omega))
          have HEI : Hid (I64 ei) := Lib.hid (i64_small (by have := HM.out.2; have := HEB.out; omega) (by have := HM.out.2; have := HEB.out; omega))
          have HI2 : Hid (ChnR L1 (i + 1) X y (ks.take (i + 1)) ∧ ei2 = E + ((i + 1 : Nat) : Int)) := Lib.hid ⟨h4, by rw [← he2, HM.out.2]; push_cast; omega⟩
          have HZ : Hid (ks.getD i 0 = z ∧ ∀ j, j < i → (ks.getD j 0 == z) = false) := Lib.hid ⟨hz, fun j hj => by
            rw [← hz]
            have hu := HR.out.1.uniq HR.out.2.1
            have h9 := getD_ne hu (j := j) (i := i) (by rw [HD9.out]; omega) (by rw [HD9.out]; omega) (by omega)
            simpa using h9⟩
          have tz : (z != z) = false := by simp
          have te : (ei2 != ei2) = false := by simp
          have tyz : (y == z) = false := by have h9 := key_ne h2 h3; simp; exact fun e => h9 e.symm
          have tym : (y == m') = false := by have h9 := h3.key_lt HR.out.2.1; simp; omega
          have b5 : ei2 ≤ 2000 := by have := HM.out.2; have := HEB.out; omega
          have b6 : 0 ≤ ei := by have := HM.out.2; have := HEB.out; omega
          have HI9 := Lib.hid (And.intro hi hid)
          clear h1 h2 h3 h4 h5 hmin hz hi hid
          obtain ⟨m, em⟩ : ∃ m, m = m' := ⟨m', rfl⟩
          subst em
          obtain ⟨cf0, cf1, cf2, cf3⟩ := cells2 (HC.out.kept (Bc) (.cells #[.int .i64 m, .int .i64 ei] 30 (0, 0) : Obj) (by simp))
          go_wp2_with fail
          clear cf0 cf1 cf2 cf3
          refine (HC.out.pair.csealP gR HM64.out HSE.out).mono ?_
          rintro e w11 ⟨rfl, hp, hk⟩
          replace HC := Lib.hid (HC.out.step hp hk)
          clear hp hk
          obtain ⟨cf0, cf1, cf2, cf3⟩ := cells2 (HC.out.kept (Bc) (.cells #[.int .i64 m, .int .i64 ei] 30 (0, 0) : Obj) (by simp))
          go_wp2_with fail
          clear cf0 cf1 cf2 cf3
          refine (HC.out.pair.cnextP gR HM64.out HEI.out HNX.out).mono ?_
          rintro e w12 ⟨rfl, hp, hk⟩
          replace HC := Lib.hid (HC.out.step hp hk)
          clear hp hk
          have hlt9 := HC.out.pair.klt Bc ⟨(.cells #[.int .i64 m, .int .i64 ei] 30 (0, 0) : Obj), by simp⟩
          have HBX : Hid (w12.heap.size ≠ Bc) := Lib.hid (fun e => by omega)
          clear hlt9
          replace HC := Lib.hid (HC.out.box gP gR #[.int .i64 y, .int .i64 ei2] 30)
          have hk9 := HRk.out _ (fun k o q => HC.out.kept k o (by simp [q]))
          obtain ⟨_, _, b1, o1, hk8⟩ := hk9
          obtain ⟨rfl, hk7⟩ := hk8 i (by rw [HD9.out]; exact HI9.out.2)
          rw [HZ.out.1] at hk7
          clear hk8
          obtain ⟨xf0, xf1, _, _⟩ := cells2 (HC.out.kept w12.heap.size (.cells #[.int .i64 y, .int .i64 ei2] 30 (0, 0) : Obj) (by simp))
          obtain ⟨cf0, cf1, _, _⟩ := cells2 (HC.out.kept Bc (.cells #[.int .i64 m, .int .i64 ei] 30 (0, 0) : Obj) (by simp))
          go_wp2_with fail
          clear hk7 xf0 xf1 cf0 cf1
          go_loopg [17] i (fun gk s17 wx => ∃ j : Nat, j + gk = i ∧ s17 = .int .i64 (j : Nat) ∧ Hid (Cs wA.heap.size (PSq wA.heap.size g1 1000) (RSq wA.heap.size g2 1000) L1 L ((w12.heap.size, (.cells #[.int .i64 y, .int .i64 ei2] 30 (0, 0) : Obj)) :: ((w2.heap.size, (.cells #[.int .i64 k', .int .i64 T] 30 (0, 0) : Obj)) :: (rsk ++ [(Bc, (.cells #[.int .i64 m, .int .i64 ei] 30 (0, 0) : Obj))]))) wA wx))
          case atStart => exact ⟨0, by omega, rfl, HC⟩
          case round =>
            clear HC
            obtain ⟨j, hj, rfl, HC⟩ := hrel
            have hk9 := HRk.out _ (fun k o q => HC.out.kept k o (by simp [q]))
            obtain ⟨_, _, b3, o3, hk8⟩ := hk9
            by_cases hji : j < i
            · have j1 : (j : Int) < (i : Int) := by omega
              have j0 : (0 : Int) ≤ (j : Int) := by omega
              obtain ⟨hab, hk7⟩ := hk8 j (by rw [HD9.out]; have := HI9.out.2; omega)
              have jn : (j : Int) < (D : Int) := by have := HI9.out.2; omega
              obtain ⟨q, hq⟩ : ∃ q, ks.getD j 0 = q := ⟨_, rfl⟩
              have tq : (q == z) = false := by rw [← hq]; exact HZ.out.2 j hji
              rw [hq] at hk7
              injection hab with hab
              injection hab with e1 e2 _
              subst e1 e2
              have HJ := Lib.hid (And.intro hj hji)
              clear hk8 hq hj hji
              go_wp2_with fail
              skip
              go_roundg (i - (j + 1))
              case rel => exact ⟨j + 1, by have := HJ.out; omega, by go_num, HC⟩
              case measure => have := HJ.out; omega
            · obtain rfl : j = i := by omega
              have j1 : decide ((j : Int) < (j : Int)) = false := decide_eq_false (by omega)
              clear hj hji hk8
              obtain ⟨xf0, xf1, _, _⟩ := cells2 (HC.out.kept w12.heap.size (.cells #[.int .i64 y, .int .i64 ei2] 30 (0, 0) : Obj) (by simp))
              obtain ⟨cf0, cf1, cf2, cf3⟩ := cells2 (HC.out.kept Bc (.cells #[.int .i64 m, .int .i64 ei] 30 (0, 0) : Obj) (by simp))
              have HCN : Hid (Cs wA.heap.size (PSq wA.heap.size g1 1000) (RSq wA.heap.size g2 1000) L1 L ((w2.heap.size, (.cells #[.int .i64 k', .int .i64 T] 30 (0, 0) : Obj)) :: (rsk ++ [(Bc, (.cells #[.int .i64 y, .int .i64 ei2] 30 (0, 0) : Obj))])) wA ((wr.setCell ⟨Bc, 0, none⟩ (.int .i64 y)).setCell ⟨Bc, 1, none⟩ (.int .i64 ei2))) := Lib.hid (HC.out.fill gP gR (B := Bc) (x := .int .i64 m) (y := .int .i64 ei) (T := 30) (by simp) HBD.out.2 (.int .i64 y) (.int .i64 ei2) (fun z hz => by
                rcases List.mem_cons.1 hz with e | e
                · exact .inr ⟨by rw [e]; simp, by rw [e]; exact HBD.out.1⟩
                · rcases List.mem_append.1 e with e | e
                  · exact .inr ⟨by simp [e], fun e2 => HDK.out z.1 z.2 e ⟨(.cells #[.int .i64 X, .int .i64 E] 30 (0, 0) : Obj), by rw [e2]; simp⟩⟩
                  · exact .inl (by simpa using e)))
              go_wp2_with fail
              go_roundg (D - (j + 1))
              case rel => exact ⟨j + 1, y, ei2, by have := HI9.out; omega, by go_num, HI2, HCN⟩
              case measure => have := HI9.out; omega
        · obtain rfl : i = D := by omega
          have i1 : decide ((i : Int) < (i : Int)) = false := decide_eq_false (by omega)
          have hfin := ChnR.fun HM.out.1 HR.out.1
          obtain ⟨em, _⟩ := hfin
          have eT : ei = T := by rw [HM.out.2]; exact HTT.out.symm
          subst em eT
          have tc := sameC m ei
          clear hi hid
          obtain ⟨cf0, cf1, _, _⟩ := cells2 (HC.out.kept Bc (.cells #[.int .i64 m, .int .i64 ei] 30 (0, 0) : Obj) (by simp))
          obtain ⟨df0, df1, _, _⟩ := cells2 (HC.out.kept w2.heap.size (.cells #[.int .i64 m, .int .i64 ei] 30 (0, 0) : Obj) (by simp))
          go_wp2_with fail
          refine (fixed_any _).mono ?_
          rintro e w99 ⟨rfl, hb⟩
          replace HC := Lib.hid (HC.out.below gP gR hb)
          clear hb
          go_wp2_with fail
          go_ret
          exact ⟨rfl, HBL.out.trans (HC.out.low.mono HBL.out.size)⟩
set_option maxRecDepth 100000 in
theorem lifted (os : Os) (started : os.Started) (H : Type) (enc : TypeId × Value → H) :
    ReturnsInHanded {} Try.checked os 4 .any (Rows.chainStepsSpec.pre6 enc Try.prog Try.f4 Rows.chainStepsRow.domain false) (Rows.chainStepsSpec.post enc Try.prog Try.f4 false true false false) := by
  refine returnsInHanded_of_change (C := Try.checked) own started (by kernel_rfl) Try.func4
    (ChangeSpec.witness6 (enc := enc) (C := Try.checked) false ⟨#[], #[.slice none 0 0, .agg #[.int .u16 0, .int .u16 0, .int .u16 0]], []⟩ 8 (by kernel_rfl) (by kernel_rfl) (by kernel_rfl) (by kernel_rfl)) ?_
  intro W base args ds gs before hval0 hW hcnd _
  have hval : ∀ (j : Nat) t v, Try.f4.params[j]? = some t → args[j]? = some v → Value.okWide Try.prog W .any base t v := hval0
  have hW' := hW
  obtain ⟨p, q, hA0, hV, rfl, hfz, hnd⟩ := hW
  have hA : DataW.TrodAll enc Try.prog W 0 (fun _ => true) true Try.f4.params.toList args.toList ds p := hA0
  rw [Try.params4] at hA hval
  obtain ⟨v0, vs0, d0, ds0, p0, q0, hargs, rfl, rfl, h0, r0⟩ := trodAll_cons hA
  obtain ⟨v1, vs1, d1, ds1, p1, q1, rfl, rfl, rfl, h1, r1⟩ := trodAll_cons r0
  obtain ⟨rfl, rfl, rfl⟩ := trodAll_nil r1
  obtain rfl : args = #[v0, v1] := by cases args; simp_all
  obtain ⟨rfl, rfl⟩ := trodVars_none hV
  obtain ⟨a0, len0, cap0, rfl⟩ := okWide_slice Try.underlying22 (hval 0 22 v0 rfl rfl)
  have k0 := h0
  have lt0 : ∀ x ∈ p0, x.block < W.heap.size := by obtain ⟨m, hm⟩ := k0; exact DataW.trod_lt m _ _ _ hm
  obtain ⟨T0, w0⟩ : ∃ T, Terms W a0 len0 cap0 T := by
    obtain ⟨fuel, hf⟩ := h0
    exact open_terms (by simpa [Value.cells] using hf)
  obtain ⟨cs1, rfl, hsz1⟩ : ∃ cs, v1 = .agg cs ∧ cs.size = Try.prog.cellsOf 51 := by
    have h := hval 1 51 v1 rfl rfl
    simp only [Value.okWide, Try.underlying51] at h
    obtain ⟨cs, e1, e2, _⟩ := h
    exact ⟨cs, e1, e2⟩
  have k1 := h1
  have lt1 : ∀ x ∈ p1, x.block < W.heap.size := by obtain ⟨m, hm⟩ := k1; exact DataW.trod_lt m _ _ _ hm
  obtain ⟨Z1, rfl, w1⟩ : ∃ Z : Nat → Int, cs1 = ((List.range 3).map fun j => Value.int .u16 (Z j)).toArray ∧ ∀ j, j < 3 → (Lit.int .u16 (Z j)).wf = true := by
    obtain ⟨fuel, hf⟩ := h1
    exact open_arrV Try.underlying51 Try.underlying50 (by kernel_rfl) (by kernel_rfl) hf
  clear hA0 hval0
  refine (walk a0 len0 cap0 T0 (Z1 0) (Z1 1) (Z1 2) W w0 (w1 0 (by omega)) (w1 1 (by omega)) (w1 2 (by omega))).mono fun e W' ⟨he, bel⟩ => ?_
  subst he
  exact ⟨_, rfl, _, _, _, [], _, [], hW', trodAll_mk1 (shut_bool Try.underlying4 _), (trodAll_cons_mk (Below.trod laidOut (by kernel_rfl) (of_decide_eq_true (by kernel_rfl)) k0 bel lt0) (trodAll_cons_mk (Below.trod laidOut (by kernel_rfl) (of_decide_eq_true (by kernel_rfl)) k1 bel lt1) trodAll_mk0)), rfl, bel.frame _, fun h => by cases h⟩

theorem over : Rows.chainStepsRow.holds Try.pinned (OpenSpec.ofChange Rows.chainStepsSpec) :=
  OpenClaim.holds_of_wide 4 Try.f4 rfl rfl rfl rfl rfl rfl rfl ⟨rfl, rfl, rfl, rfl, rfl⟩ rfl rfl rfl rfl rfl (by kernel_rfl) Try.func4 (by kernel_rfl)
    (of_decide_eq_true (by kernel_rfl)) (by unfold Func.isWrapper; first | (rw [if_pos (by decide +kernel)]; kernel_rfl) | (rw [if_neg (by decide +kernel)]; exact ⟨rfl, rfl⟩))
    (fun os started H enc _ => lifted os started H enc)

theorem proved : Rows.ChainStepsSaid := over
#print axioms proved
end Go.Proofs.Ytlnpfeecaiecaaa.chainSteps
