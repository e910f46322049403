/- AeadPuts: for every row of terms and twice four numbers, what is sealed is named by its key, number, what stands beside and what it was, and by nothing else, and what is there already is not put again. No condition. -/
import Derived.Test.YtgfnngpbngmalaaRows
import Derived.Test.YtgfnngpbngmalaaAeadF
import Derived.Test.YtgfnngpbngmalaaAeadQ
import Derived.Test.YtgfnngpbngmalaaOpens
import Derived.WalkKit
import Derived.ProofKit
import Derived.OpenShut
import Derived.ShutString
import Derived.ChangeOld
import Derived.Below
namespace Go.Proofs.Ytgfnngpbngmalaa.aeadPuts
open Go.ChangeShapes Go.WideShapes Go.ChangeAt Go.RowKit
open Go.ChangeMaps (open_string shut_string)
open Go.Proofs.Ytgfnngpbngmalaa
set_option linter.unusedVariables false
set_option linter.unusedSimpArgs false

theorem own : ownKnob Try.prog.godebug = none := by kernel_rfl
theorem laidOut : laidOutB Try.prog = true := by kernel_rfl

/-- What both have alike, so far. -/
def smB (x0 x1 x2 x3 y0 y1 y2 y3 : Int) : Nat → Bool
  | 0 => x3 % 4 == y3 % 4
  | 1 => (x3 % 4 == y3 % 4) && (x0 % 20 == y0 % 20)
  | 2 => (x3 % 4 == y3 % 4) && (x0 % 20 == y0 % 20) && (x1 % 20 == y1 % 20)
  | _ => (x3 % 4 == y3 % 4) && (x0 % 20 == y0 % 20) && (x1 % 20 == y1 % 20) && (x2 % 20 == y2 % 20)
theorem smB_iff {x0 x1 x2 x3 y0 y1 y2 y3 : Int} : smB x0 x1 x2 x3 y0 y1 y2 y3 3 = true ↔ pickT x0 x1 x2 x3 = pickT y0 y1 y2 y3 := by
  unfold pickT
  rw [seal_eq]
  simp [smB]
  omega
theorem seal_ok {L L1 : List Tm} {a e x0 x1 x2 x3 : Int} (hL : (L.length : Int) < 1000) (h : putF L 1000 (pickT x0 x1 x2 x3) = (a, e, L1)) : (e = 0 ∧ Named L1 a (pickT x0 x1 x2 x3) ∧ Ext L L1 ∧ L1.length ≤ L.length + 1) ∨ (e = 1 ∧ a = 0 ∧ L1 = L) := by
  cases hm : (pickT x0 x1 x2 x3).may L.length
  · rw [put_bad hm] at h
    injection h with a1 a2
    injection a2 with a2 a3
    exact .inr ⟨a2.symm, a1.symm, a3.symm⟩
  · obtain ⟨a', L', h', n, x, l⟩ := put_named L 1000 _ hm hL
    rw [h'] at h
    injection h with a1 a2
    injection a2 with a2 a3
    subst a1 a2 a3
    exact .inl ⟨rfl, n, x, l⟩
theorem math (L : List Tm) (x0 x1 x2 x3 y0 y1 y2 y3 : Int) (hL : L.length ≤ 20) :
    ∃ a e c g L1 L2, putF L 1000 (pickT x0 x1 x2 x3) = (a, e, L1) ∧ putF L1 1000 (pickT x0 x1 x2 x3) = (a, e, L1) ∧ putF L1 1000 (pickT y0 y1 y2 y3) = (c, g, L2) ∧
      ((e = 0 ∧ getT L2 a = (pickT x0 x1 x2 x3, true)) ∨ (e = 1 ∧ a = 0)) ∧ (g = 0 ∨ (g = 1 ∧ c = 0)) ∧ (e = 0 → g = 0 → (a = c ↔ smB x0 x1 x2 x3 y0 y1 y2 y3 3 = true)) := by
  obtain ⟨a, e, L1, h1⟩ : ∃ a e L', putF L 1000 (pickT x0 x1 x2 x3) = (a, e, L') := ⟨_, _, _, rfl⟩
  obtain ⟨c, g, L2, h2⟩ : ∃ a e L', putF L1 1000 (pickT y0 y1 y2 y3) = (a, e, L') := ⟨_, _, _, rfl⟩
  have k1 := seal_ok (by omega) h1
  have hL1 : L1.length ≤ 21 := by
    rcases k1 with ⟨_, _, _, h⟩ | ⟨_, _, rfl⟩ <;> omega
  have k2 := seal_ok (by omega) h2
  refine ⟨a, e, c, g, L1, L2, h1, put_twice h1, h2, ?_, ?_, ?_⟩
  · rcases k1 with ⟨p1, p2, p3, p4⟩ | ⟨p1, p2, p3⟩
    · rcases k2 with ⟨q1, q2, q3, q4⟩ | ⟨q1, q2, q3⟩
      · exact .inl ⟨p1, (p2.ext q3).get⟩
      · exact .inl ⟨p1, by rw [q3]; exact p2.get⟩
    · exact .inr ⟨p1, p2⟩
  · rcases k2 with ⟨q1, q2, q3, q4⟩ | ⟨q1, q2, q3⟩
    · exact .inl q1
    · exact .inr ⟨q1, q2⟩
  · intro he hg
    rcases k1 with ⟨p1, p2, p3, p4⟩ | ⟨p1, p2, p3⟩
    · rcases k2 with ⟨q1, q2, q3, q4⟩ | ⟨q1, q2, q3⟩
      · rw [smB_iff]
        exact (p2.ext q3).inj q2
      · omega
    · omega

set_option maxHeartbeats 4000000 in
set_option maxRecDepth 100000 in
theorem walk (a0 : Option Addr) (len0 cap0 : Nat) (T0 : Nat → Tm) (x0 x1 x2 x3 y0 y1 y2 y3 : Int) (w : World) (w0 : Terms w a0 len0 cap0 T0) (hx0 : (Lit.int .u8 x0).wf = true) (hx1 : (Lit.int .u8 x1).wf = true) (hx2 : (Lit.int .u8 x2).wf = true) (hx3 : (Lit.int .u8 x3).wf = true) (hy0 : (Lit.int .u8 y0).wf = true) (hy1 : (Lit.int .u8 y1).wf = true) (hy2 : (Lit.int .u8 y2).wf = true) (hy3 : (Lit.int .u8 y3).wf = true) :
    Calls Try.prog 6 #[.slice a0 len0 cap0, .agg #[.int .u8 x0, .int .u8 x1, .int .u8 x2, .int .u8 x3], .agg #[.int .u8 y0, .int .u8 y1, .int .u8 y2, .int .u8 y3]] w fun e w' => e = .returned (.bool true) ∧ Below w.heap.size w w' := by
  have hB0 : Below w.heap.size w ((w.alloc (.cells #[.int .u8 x0, .int .u8 x1, .int .u8 x2, .int .u8 x3] 43)).alloc (.cells #[.int .u8 y0, .int .u8 y1, .int .u8 y2, .int .u8 y3] 43)) := (((Below.refl w.heap.size w).alloc (by simp) (.cells #[.int .u8 x0, .int .u8 x1, .int .u8 x2, .int .u8 x3] 43)).alloc (by simp) (.cells #[.int .u8 y0, .int .u8 y1, .int .u8 y2, .int .u8 y3] 43))
  have HT := Lib.hid (w0.below hB0)
  have HB0 := Lib.hid hB0
  have HBx0 := Lib.hid (byte_in hx0)
  have HBx1 := Lib.hid (byte_in hx1)
  have HBx2 := Lib.hid (byte_in hx2)
  have HBx3 := Lib.hid (byte_in hx3)
  have HBy0 := Lib.hid (byte_in hy0)
  have HBy1 := Lib.hid (byte_in hy1)
  have HBy2 := Lib.hid (byte_in hy2)
  have HBy3 := Lib.hid (byte_in hy3)
  have CAx : Hid (∀ W, Below ((w.alloc (.cells #[.int .u8 x0, .int .u8 x1, .int .u8 x2, .int .u8 x3] 43)).alloc (.cells #[.int .u8 y0, .int .u8 y1, .int .u8 y2, .int .u8 y3] 43)).heap.size ((w.alloc (.cells #[.int .u8 x0, .int .u8 x1, .int .u8 x2, .int .u8 x3] 43)).alloc (.cells #[.int .u8 y0, .int .u8 y1, .int .u8 y2, .int .u8 y3] 43)) W → ∀ j, W.cell? ⟨w.heap.size, j, none⟩ = #[Value.int .u8 x0, .int .u8 x1, .int .u8 x2, .int .u8 x3][j]?) := Lib.hid (fun W hb j => by
    rw [hb.cell (by show w.heap.size < ((w.alloc (.cells #[.int .u8 x0, .int .u8 x1, .int .u8 x2, .int .u8 x3] 43)).alloc (.cells #[.int .u8 y0, .int .u8 y1, .int .u8 y2, .int .u8 y3] 43)).heap.size; first | (simp; done) | (simp; omega))]
    exact cell_of_row _ _ j _ _ _ ((((Below.refl (w.alloc (.cells #[.int .u8 x0, .int .u8 x1, .int .u8 x2, .int .u8 x3] 43)).heap.size (w.alloc (.cells #[.int .u8 x0, .int .u8 x1, .int .u8 x2, .int .u8 x3] 43))).alloc (Nat.le_refl _) (.cells #[.int .u8 y0, .int .u8 y1, .int .u8 y2, .int .u8 y3] 43)).block (w.heap.size) (by simp)).trans (heap_alloc_new w (.cells #[.int .u8 x0, .int .u8 x1, .int .u8 x2, .int .u8 x3] 43))))
  have CAy : Hid (∀ W, Below ((w.alloc (.cells #[.int .u8 x0, .int .u8 x1, .int .u8 x2, .int .u8 x3] 43)).alloc (.cells #[.int .u8 y0, .int .u8 y1, .int .u8 y2, .int .u8 y3] 43)).heap.size ((w.alloc (.cells #[.int .u8 x0, .int .u8 x1, .int .u8 x2, .int .u8 x3] 43)).alloc (.cells #[.int .u8 y0, .int .u8 y1, .int .u8 y2, .int .u8 y3] 43)) W → ∀ j, W.cell? ⟨w.heap.size + 1, j, none⟩ = #[Value.int .u8 y0, .int .u8 y1, .int .u8 y2, .int .u8 y3][j]?) := Lib.hid (fun W hb j => by
    rw [hb.cell (by show w.heap.size + 1 < ((w.alloc (.cells #[.int .u8 x0, .int .u8 x1, .int .u8 x2, .int .u8 x3] 43)).alloc (.cells #[.int .u8 y0, .int .u8 y1, .int .u8 y2, .int .u8 y3] 43)).heap.size; first | (simp; done) | (simp; omega))]
    exact cell_of_row _ _ j _ _ _ ((by have h := heap_alloc_new (w.alloc (.cells #[.int .u8 x0, .int .u8 x1, .int .u8 x2, .int .u8 x3] 43)) (.cells #[.int .u8 y0, .int .u8 y1, .int .u8 y2, .int .u8 y3] 43); rw [show (w.alloc (.cells #[.int .u8 x0, .int .u8 x1, .int .u8 x2, .int .u8 x3] 43)).heap.size = w.heap.size + 1 by simp] at h; exact h)))
  clear w0 hB0 hx0 hx1 hx2 hx3 hy0 hy1 hy2 hy3
  go_enter Try.func6, Try.ntmps6
  go_wp2_with fail
  refine (stores_any 20 a0 len0 cap0 T0 _ (by omega) HT.out).mono ?_
  rintro e w1 ⟨g1, g2, L, rfl, hL, hp⟩
  have HPA := Lib.hid hp
  have HLn := Lib.hid hL
  have gR := RSq.good ((w.alloc (.cells #[.int .u8 x0, .int .u8 x1, .int .u8 x2, .int .u8 x3] 43)).alloc (.cells #[.int .u8 y0, .int .u8 y1, .int .u8 y2, .int .u8 y3] 43)).heap.size g2 1000
  have gP := PSq.good ((w.alloc (.cells #[.int .u8 x0, .int .u8 x1, .int .u8 x2, .int .u8 x3] 43)).alloc (.cells #[.int .u8 y0, .int .u8 y1, .int .u8 y2, .int .u8 y3] 43)).heap.size g1 1000
  clear hp hL HT
  by_cases hn : L.length = 0
  · have hl0 : ((L.length : Int) == 0) = true := by simp [hn]
    clear hn
    go_wp2_with fail
    refine (HPA.out.lenP).mono ?_
    rintro e w2 ⟨rfl, rfl⟩
    go_wp2_with fail
    refine (fixed_any _).mono ?_
    rintro e w3 ⟨rfl, hb3⟩
    have hb4 := HB0.out.trans ((HPA.out.belowW.trans (hb3.mono HPA.out.base_le)).mono HB0.out.size)
    clear hb3
    go_wp2
    go_ret
    exact ⟨rfl, hb4⟩
  · have hl0 : ((L.length : Int) == 0) = false := by simpa using hn
    have HLp : Hid (1 ≤ L.length) := Lib.hid (by omega)
    clear hn
    go_wp2_with fail
    refine (HPA.out.lenP).mono ?_
    rintro e w2 ⟨rfl, rfl⟩
    obtain ⟨a, e, c, g, L1, L2, e1, e2, e3, m1, m2, m3⟩ := math L x0 x1 x2 x3 y0 y1 y2 y3 HLn.out
    have E1 := Lib.hid e1
    have E2 := Lib.hid e2
    have E3 := Lib.hid e3
    have M1 := Lib.hid m1
    have M2 := Lib.hid m2
    have M3 := Lib.hid m3
    clear e1 e2 e3 m1 m2 m3
    have cx0 := CAx.out w1 HPA.out.belowW 0
    have cx1 := CAx.out w1 HPA.out.belowW 1
    have cx2 := CAx.out w1 HPA.out.belowW 2
    have cx3 := CAx.out w1 HPA.out.belowW 3
    simp at cx0 cx1 cx2 cx3
    go_wp2_with fail
    clear cx0 cx1 cx2 cx3
    refine (HPA.out.pickP gR HBx0.out HBx1.out HBx2.out HBx3.out E1.out).mono ?_
    rintro e w2 ⟨rfl, hp, _⟩
    have HP2 := Lib.hid hp
    clear hp HPA
    go_wp2_with fail
    refine (HP2.out.lenP).mono ?_
    rintro e w3 ⟨rfl, rfl⟩
    have cx0 := CAx.out w2 HP2.out.belowW 0
    have cx1 := CAx.out w2 HP2.out.belowW 1
    have cx2 := CAx.out w2 HP2.out.belowW 2
    have cx3 := CAx.out w2 HP2.out.belowW 3
    simp at cx0 cx1 cx2 cx3
    go_wp2_with fail
    clear cx0 cx1 cx2 cx3
    refine (HP2.out.pickP gR HBx0.out HBx1.out HBx2.out HBx3.out E2.out).mono ?_
    rintro e w4 ⟨rfl, hp, _⟩
    have HP4 := Lib.hid hp
    clear hp HP2
    go_wp2_with fail
    refine (HP4.out.lenP).mono ?_
    rintro e w5 ⟨rfl, rfl⟩
    have cy0 := CAy.out w4 HP4.out.belowW 0
    have cy1 := CAy.out w4 HP4.out.belowW 1
    have cy2 := CAy.out w4 HP4.out.belowW 2
    have cy3 := CAy.out w4 HP4.out.belowW 3
    simp at cy0 cy1 cy2 cy3
    go_wp2_with fail
    clear cy0 cy1 cy2 cy3
    refine (HP4.out.pickP gR HBy0.out HBy1.out HBy2.out HBy3.out E3.out).mono ?_
    rintro e w6 ⟨rfl, hp, _⟩
    have HP6 := Lib.hid hp
    clear hp HP4
    have cx0 := CAx.out w6 HP6.out.belowW 0
    have cx1 := CAx.out w6 HP6.out.belowW 1
    have cx2 := CAx.out w6 HP6.out.belowW 2
    have cx3 := CAx.out w6 HP6.out.belowW 3
    simp at cx0 cx1 cx2 cx3
    have cy0 := CAy.out w6 HP6.out.belowW 0
    have cy1 := CAy.out w6 HP6.out.belowW 1
    have cy2 := CAy.out w6 HP6.out.belowW 2
    have cy3 := CAy.out w6 HP6.out.belowW 3
    simp at cy0 cy1 cy2 cy3
    obtain ⟨px0, qx0⟩ := HBx0.out
    obtain ⟨px1, qx1⟩ := HBx1.out
    obtain ⟨px2, qx2⟩ := HBx2.out
    obtain ⟨px3, qx3⟩ := HBx3.out
    obtain ⟨py0, qy0⟩ := HBy0.out
    obtain ⟨py1, qy1⟩ := HBy1.out
    obtain ⟨py2, qy2⟩ := HBy2.out
    obtain ⟨py3, qy3⟩ := HBy3.out
    go_wp2_with fail
    go_loopw [17, 18] (fun b i wr => ∃ k : Nat, k ≤ 3 ∧ i = .int .i64 (k : Nat) ∧ b = .bool (smB x0 x1 x2 x3 y0 y1 y2 y3 k) ∧ Hid (Pair ((w.alloc (.cells #[.int .u8 x0, .int .u8 x1, .int .u8 x2, .int .u8 x3] 43)).alloc (.cells #[.int .u8 y0, .int .u8 y1, .int .u8 y2, .int .u8 y3] 43)).heap.size (PSq ((w.alloc (.cells #[.int .u8 x0, .int .u8 x1, .int .u8 x2, .int .u8 x3] 43)).alloc (.cells #[.int .u8 y0, .int .u8 y1, .int .u8 y2, .int .u8 y3] 43)).heap.size g1 1000) (RSq ((w.alloc (.cells #[.int .u8 x0, .int .u8 x1, .int .u8 x2, .int .u8 x3] 43)).alloc (.cells #[.int .u8 y0, .int .u8 y1, .int .u8 y2, .int .u8 y3] 43)).heap.size g2 1000) L2 L (fun _ => False) ((w.alloc (.cells #[.int .u8 x0, .int .u8 x1, .int .u8 x2, .int .u8 x3] 43)).alloc (.cells #[.int .u8 y0, .int .u8 y1, .int .u8 y2, .int .u8 y3] 43)) wr)) (fun _ i _ => 3 - (intOf i).toNat)
    case atStart => exact ⟨0, by omega, rfl, rfl, HP6⟩
    case round =>
      clear cx0 cx1 cx2 cx3 cy0 cy1 cy2 cy3
      clear HP6
      obtain ⟨k, hk, rfl, rfl, HP⟩ := hrel
      have cx0 := CAx.out wr HP.out.belowW 0
      have cx1 := CAx.out wr HP.out.belowW 1
      have cx2 := CAx.out wr HP.out.belowW 2
      have cx3 := CAx.out wr HP.out.belowW 3
      simp at cx0 cx1 cx2 cx3
      have cy0 := CAy.out wr HP.out.belowW 0
      have cy1 := CAy.out wr HP.out.belowW 1
      have cy2 := CAy.out wr HP.out.belowW 2
      have cy3 := CAy.out wr HP.out.belowW 3
      simp at cy0 cy1 cy2 cy3
      rcases (by omega : k = 3 ∨ k = 0 ∨ k = 1 ∨ k = 2) with rfl | rfl | rfl | rfl
      · skip
        have haa : (a != a) = false := by simp
        have hl1 : ((L1.length : Int) != (L1.length : Int)) = false := by simp
        have m1 := M1.out
        have m2 := M2.out

        clear M1 M2
        clear cx0 cx1 cx2 cx3 cy0 cy1 cy2 cy3
        rcases m1 with ⟨rfl, hg⟩ | ⟨rfl, rfl⟩
        · have HG := Lib.hid hg
          clear hg
          go_wp2_with fail
          refine (HP.out.getP gR a HG.out).mono ?_
          rintro e w7 ⟨rfl, hp, hb⟩
          rw [show ((pickT x0 x1 x2 x3, true) : Tm × Bool).1.v = .agg #[.int .i64 10, .string ⟨#[]⟩, .int .u64 (x3 % 4), .int .i64 (1 + x0 % 20), .int .i64 (1 + x1 % 20), .int .i64 (1 + x2 % 20)] from rfl]
          have HP7 := Lib.hid (hp.below gP gR ((Below.refl _ _).alloc (Nat.le_refl _) (.cells #[.int .i64 10, .string ⟨#[]⟩, .int .u64 (x3 % 4), .int .i64 (1 + x0 % 20), .int .i64 (1 + x1 % 20), .int .i64 (1 + x2 % 20)] 48)))
          clear hp hb HP
          have cx0 := CAx.out (w7.alloc (.cells #[.int .i64 10, .string ⟨#[]⟩, .int .u64 (x3 % 4), .int .i64 (1 + x0 % 20), .int .i64 (1 + x1 % 20), .int .i64 (1 + x2 % 20)] 48)) HP7.out.belowW 0
          have cx1 := CAx.out (w7.alloc (.cells #[.int .i64 10, .string ⟨#[]⟩, .int .u64 (x3 % 4), .int .i64 (1 + x0 % 20), .int .i64 (1 + x1 % 20), .int .i64 (1 + x2 % 20)] 48)) HP7.out.belowW 1
          have cx2 := CAx.out (w7.alloc (.cells #[.int .i64 10, .string ⟨#[]⟩, .int .u64 (x3 % 4), .int .i64 (1 + x0 % 20), .int .i64 (1 + x1 % 20), .int .i64 (1 + x2 % 20)] 48)) HP7.out.belowW 2
          have cx3 := CAx.out (w7.alloc (.cells #[.int .i64 10, .string ⟨#[]⟩, .int .u64 (x3 % 4), .int .i64 (1 + x0 % 20), .int .i64 (1 + x1 % 20), .int .i64 (1 + x2 % 20)] 48)) HP7.out.belowW 3
          simp at cx0 cx1 cx2 cx3
          rcases m2 with rfl | ⟨rfl, rfl⟩
          · skip
            have hac := M3.out (by first | rfl | trivial) (by first | rfl | trivial)
            clear M3
            have hE := eql_termP (pickT x0 x1 x2 x3) (pickT x0 x1 x2 x3)
            have hgd := guard32
            rw [(eqB_iff _ _).2 rfl] at hE
            unfold Tm.v pickT sealT at hE
            simp only [] at hE
            cases hs : smB x0 x1 x2 x3 y0 y1 y2 y3 3 with
            | true =>
              obtain rfl : a = c := hac.2 hs
              clear hac hs
              go_wp2_with fail
              refine (fixed_any _).mono ?_
              rintro e w99 ⟨rfl, hb9⟩
              have hb := HB0.out.trans ((HP7.out.belowW.trans (hb9.mono HP7.out.base_le)).mono HB0.out.size)
              clear hb9
              go_wp2
              go_ret
              exact ⟨rfl, hb⟩
            | false =>
              have hne : ¬ a = c := fun q => by rw [hac.1 q] at hs; cases hs
              have hn1 : (a != c) = true := by simpa using hne
              have hn2 : (a == c) = false := by simpa using hne
              clear hac hs hne
              go_wp2_with fail
              refine (fixed_any _).mono ?_
              rintro e w99 ⟨rfl, hb9⟩
              have hb := HB0.out.trans ((HP7.out.belowW.trans (hb9.mono HP7.out.base_le)).mono HB0.out.size)
              clear hb9
              go_wp2
              go_ret
              exact ⟨rfl, hb⟩
          · skip
            go_wp2_with fail
            refine (fixed_any _).mono ?_
            rintro e w99 ⟨rfl, hb9⟩
            have hb := HB0.out.trans ((HP7.out.belowW.trans (hb9.mono HP7.out.base_le)).mono HB0.out.size)
            clear hb9
            go_wp2
            go_ret
            exact ⟨rfl, hb⟩
        · have HG := Lib.hid (getT_zero L2)
          clear M3
          go_wp2_with fail
          refine (HP.out.getP gR 0 HG.out).mono ?_
          rintro e w7 ⟨rfl, hp, hb⟩
          rw [show ((zeroT, false) : Tm × Bool).1.v = .agg #[.int .i64 0, .string ⟨#[]⟩, .int .u64 0, .int .i64 0, .int .i64 0, .int .i64 0] from rfl]
          have HP7 := Lib.hid (hp.below gP gR ((Below.refl _ _).alloc (Nat.le_refl _) (.cells #[.int .i64 0, .string ⟨#[]⟩, .int .u64 0, .int .i64 0, .int .i64 0, .int .i64 0] 48)))
          clear hp hb HP
          rcases m2 with rfl | ⟨rfl, rfl⟩
          · skip
            go_wp2_with fail
            refine (fixed_any _).mono ?_
            rintro e w99 ⟨rfl, hb9⟩
            have hb := HB0.out.trans ((HP7.out.belowW.trans (hb9.mono HP7.out.base_le)).mono HB0.out.size)
            clear hb9
            go_wp2
            go_ret
            exact ⟨rfl, hb⟩
          · skip
            go_wp2_with fail
            refine (fixed_any _).mono ?_
            rintro e w99 ⟨rfl, hb9⟩
            have hb := HB0.out.trans ((HP7.out.belowW.trans (hb9.mono HP7.out.base_le)).mono HB0.out.size)
            clear hb9
            go_wp2
            go_ret
            exact ⟨rfl, hb⟩
      · cases hs : smB x0 x1 x2 x3 y0 y1 y2 y3 0 with
        | false =>
          have hs1 : smB x0 x1 x2 x3 y0 y1 y2 y3 1 = false := by simp [smB] at hs ⊢; try omega
          go_wp2_with fail
          go_quiet (fail)
          have HPn := Lib.hid (HP.out.below gP gR (drewN_below wr nq))
          go_wp2_with fail
          go_roundw
          case rel => exact ⟨1, by omega, by go_num, by rw [hs1], HPn⟩
          case measure => simp [intOf]
        | true =>
          go_wp2_with fail
          go_quiet (fail)
          have HPn := Lib.hid (HP.out.below gP gR (drewN_below wr nq))
          go_wp2_with fail
          go_roundw
          case rel => exact ⟨1, by omega, by go_num, by rw [show smB x0 x1 x2 x3 y0 y1 y2 y3 1 = (smB x0 x1 x2 x3 y0 y1 y2 y3 0 && (x0 % 20 == y0 % 20)) from rfl, hs, Bool.true_and], HPn⟩
          case measure => simp [intOf]
      · cases hs : smB x0 x1 x2 x3 y0 y1 y2 y3 1 with
        | false =>
          have hs1 : smB x0 x1 x2 x3 y0 y1 y2 y3 2 = false := by simp [smB] at hs ⊢; try omega
          go_wp2_with fail
          go_quiet (fail)
          have HPn := Lib.hid (HP.out.below gP gR (drewN_below wr nq))
          go_wp2_with fail
          go_roundw
          case rel => exact ⟨2, by omega, by go_num, by rw [hs1], HPn⟩
          case measure => simp [intOf]
        | true =>
          go_wp2_with fail
          go_quiet (fail)
          have HPn := Lib.hid (HP.out.below gP gR (drewN_below wr nq))
          go_wp2_with fail
          go_roundw
          case rel => exact ⟨2, by omega, by go_num, by rw [show smB x0 x1 x2 x3 y0 y1 y2 y3 2 = (smB x0 x1 x2 x3 y0 y1 y2 y3 1 && (x1 % 20 == y1 % 20)) from rfl, hs, Bool.true_and], HPn⟩
          case measure => simp [intOf]
      · cases hs : smB x0 x1 x2 x3 y0 y1 y2 y3 2 with
        | false =>
          have hs1 : smB x0 x1 x2 x3 y0 y1 y2 y3 3 = false := by simp [smB] at hs ⊢; try omega
          go_wp2_with fail
          go_quiet (fail)
          have HPn := Lib.hid (HP.out.below gP gR (drewN_below wr nq))
          go_wp2_with fail
          go_roundw
          case rel => exact ⟨3, by omega, by go_num, by rw [hs1], HPn⟩
          case measure => simp [intOf]
        | true =>
          go_wp2_with fail
          go_quiet (fail)
          have HPn := Lib.hid (HP.out.below gP gR (drewN_below wr nq))
          go_wp2_with fail
          go_roundw
          case rel => exact ⟨3, by omega, by go_num, by rw [show smB x0 x1 x2 x3 y0 y1 y2 y3 3 = (smB x0 x1 x2 x3 y0 y1 y2 y3 2 && (x2 % 20 == y2 % 20)) from rfl, hs, Bool.true_and], HPn⟩
          case measure => simp [intOf]

set_option maxRecDepth 100000 in
theorem lifted (os : Os) (started : os.Started) (H : Type) (enc : TypeId × Value → H) :
    ReturnsInHanded {} Try.checked os 6 .any (Rows.aeadPutsSpec.pre6 enc Try.prog Try.f6 Rows.aeadPutsRow.domain false) (Rows.aeadPutsSpec.post enc Try.prog Try.f6 false true false false) := by
  refine returnsInHanded_of_change (C := Try.checked) own started (by kernel_rfl) Try.func6
    (ChangeSpec.witness6 (enc := enc) (C := Try.checked) false ⟨#[], #[.slice none 0 0, .agg #[.int .u8 0, .int .u8 0, .int .u8 0, .int .u8 0], .agg #[.int .u8 0, .int .u8 0, .int .u8 0, .int .u8 0]], []⟩ 8 (by kernel_rfl) (by kernel_rfl) (by kernel_rfl) (by kernel_rfl)) ?_
  intro W base args ds gs before hval0 hW hcnd _
  have hval : ∀ (j : Nat) t v, Try.f6.params[j]? = some t → args[j]? = some v → Value.okWide Try.prog W .any base t v := hval0
  have hW' := hW
  obtain ⟨p, q, hA0, hV, rfl, hfz, hnd⟩ := hW
  have hA : DataW.TrodAll enc Try.prog W 0 (fun _ => true) true Try.f6.params.toList args.toList ds p := hA0
  rw [Try.params6] at hA hval
  obtain ⟨v0, vs0, d0, ds0, p0, q0, hargs, rfl, rfl, h0, r0⟩ := trodAll_cons hA
  obtain ⟨v1, vs1, d1, ds1, p1, q1, rfl, rfl, rfl, h1, r1⟩ := trodAll_cons r0
  obtain ⟨v2, vs2, d2, ds2, p2, q2, rfl, rfl, rfl, h2, r2⟩ := trodAll_cons r1
  obtain ⟨rfl, rfl, rfl⟩ := trodAll_nil r2
  obtain rfl : args = #[v0, v1, v2] := by cases args; simp_all
  obtain ⟨rfl, rfl⟩ := trodVars_none hV
  obtain ⟨a0, len0, cap0, rfl⟩ := okWide_slice Try.underlying22 (hval 0 22 v0 rfl rfl)
  have k0 := h0
  have lt0 : ∀ x ∈ p0, x.block < W.heap.size := by obtain ⟨m, hm⟩ := k0; exact DataW.trod_lt m _ _ _ hm
  obtain ⟨T0, w0⟩ : ∃ T, Terms W a0 len0 cap0 T := by
    obtain ⟨fuel, hf⟩ := h0
    exact open_terms (by simpa [Value.cells] using hf)
  obtain ⟨cs1, rfl, hsz1⟩ : ∃ cs, v1 = .agg cs ∧ cs.size = Try.prog.cellsOf 43 := by
    have h := hval 1 43 v1 rfl rfl
    simp only [Value.okWide, Try.underlying43] at h
    obtain ⟨cs, e1, e2, _⟩ := h
    exact ⟨cs, e1, e2⟩
  have k1 := h1
  have lt1 : ∀ x ∈ p1, x.block < W.heap.size := by obtain ⟨m, hm⟩ := k1; exact DataW.trod_lt m _ _ _ hm
  obtain ⟨Z1, rfl, w1⟩ : ∃ Z : Nat → Int, cs1 = ((List.range 4).map fun j => Value.int .u8 (Z j)).toArray ∧ ∀ j, j < 4 → (Lit.int .u8 (Z j)).wf = true := by
    obtain ⟨fuel, hf⟩ := h1
    exact open_arrV Try.underlying43 Try.underlying5 (by kernel_rfl) (by kernel_rfl) hf
  obtain ⟨cs2, rfl, hsz2⟩ : ∃ cs, v2 = .agg cs ∧ cs.size = Try.prog.cellsOf 43 := by
    have h := hval 2 43 v2 rfl rfl
    simp only [Value.okWide, Try.underlying43] at h
    obtain ⟨cs, e1, e2, _⟩ := h
    exact ⟨cs, e1, e2⟩
  have k2 := h2
  have lt2 : ∀ x ∈ p2, x.block < W.heap.size := by obtain ⟨m, hm⟩ := k2; exact DataW.trod_lt m _ _ _ hm
  obtain ⟨Z2, rfl, w2⟩ : ∃ Z : Nat → Int, cs2 = ((List.range 4).map fun j => Value.int .u8 (Z j)).toArray ∧ ∀ j, j < 4 → (Lit.int .u8 (Z j)).wf = true := by
    obtain ⟨fuel, hf⟩ := h2
    exact open_arrV Try.underlying43 Try.underlying5 (by kernel_rfl) (by kernel_rfl) hf
  clear hA0 hval0
  refine (walk a0 len0 cap0 T0 (Z1 0) (Z1 1) (Z1 2) (Z1 3) (Z2 0) (Z2 1) (Z2 2) (Z2 3) W w0 (w1 0 (by omega)) (w1 1 (by omega)) (w1 2 (by omega)) (w1 3 (by omega)) (w2 0 (by omega)) (w2 1 (by omega)) (w2 2 (by omega)) (w2 3 (by omega))).mono fun e W' ⟨he, bel⟩ => ?_
  subst he
  exact ⟨_, rfl, _, _, _, [], _, [], hW', trodAll_mk1 (shut_bool Try.underlying4 _), (trodAll_cons_mk (Below.trod laidOut (by kernel_rfl) (of_decide_eq_true (by kernel_rfl)) k0 bel lt0) (trodAll_cons_mk (Below.trod laidOut (by kernel_rfl) (of_decide_eq_true (by kernel_rfl)) k1 bel lt1) (trodAll_cons_mk (Below.trod laidOut (by kernel_rfl) (of_decide_eq_true (by kernel_rfl)) k2 bel lt2) trodAll_mk0))), rfl, bel.frame _, fun h => by cases h⟩

theorem over : Rows.aeadPutsRow.holds Try.pinned (OpenSpec.ofChange Rows.aeadPutsSpec) :=
  OpenClaim.holds_of_wide 6 Try.f6 rfl rfl rfl rfl rfl rfl rfl ⟨rfl, rfl, rfl, rfl, rfl⟩ rfl rfl rfl rfl rfl (by kernel_rfl) Try.func6 (by kernel_rfl)
    (of_decide_eq_true (by kernel_rfl)) (by unfold Func.isWrapper; first | (rw [if_pos (by decide +kernel)]; kernel_rfl) | (rw [if_neg (by decide +kernel)]; exact ⟨rfl, rfl⟩))
    (fun os started H enc _ => lifted os started H enc)

theorem proved : Rows.AeadPutsSaid := over
#print axioms proved
end Go.Proofs.Ytgfnngpbngmalaa.aeadPuts
