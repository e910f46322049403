/- WindowTells: whether any number came, whether it can, and any window with it, is as the document says. No condition. -/
import Derived.Test.YtkdjlhnddnolaaaRows
import Derived.Test.YtkdjlhnddnolaaaWinU
import Derived.WalkKit
import Derived.ProofKit
import Derived.OpenShut
import Derived.ShutString
import Derived.ChangeOld
import Derived.Below
namespace Go.Proofs.Ytkdjlhnddnolaaa.windowTells
open Go.ChangeShapes Go.WideShapes Go.ChangeAt Go.RowKit
open Go.ChangeMaps (open_string shut_string)
open Go.Proofs.Ytkdjlhnddnolaaa
set_option linter.unusedVariables false
set_option linter.unusedSimpArgs false
set_option maxRecDepth 20000

theorem own : ownKnob Try.prog.godebug = none := by kernel_rfl
theorem laidOut : laidOutB Try.prog = true := by kernel_rfl
set_option maxHeartbeats 4000000 in
set_option maxRecDepth 100000 in
theorem walk (A D : Nat) (x1 : Int) (w : World) (w0 : A ≤ 18446744073709551615) (u0 : D ≤ 18446744073709551615) (w1 : (Lit.int .u64 x1).wf = true) :
    Calls Try.prog 3 #[.agg #[.int .u64 (A : Int), .int .u64 (D : Int)], .int .u64 x1] w fun e w' => e = .returned (.bool true) ∧ Below w.heap.size w w' := by
  obtain ⟨y0, y1⟩ := Go.bounds_u64 w1
  obtain ⟨n, rfl⟩ := Int.eq_ofNat_of_zero_le y0
  have Hn : Hid (n ≤ 18446744073709551615) := Lib.hid (by omega)
  have HA := Lib.hid w0
  have HD := Lib.hid u0
  have bA : (A : Int) ≤ 18446744073709551615 := by omega
  have bD : (D : Int) ≤ 18446744073709551615 := by omega
  obtain ⟨ua, hua⟩ : ∃ ua, ua = w.alloc (.cells #[.int .u64 (A : Int), .int .u64 (D : Int)] 24 : Obj) := ⟨_, rfl⟩
  obtain ⟨Bw, hBw⟩ : ∃ Bw, Bw = w.heap.size := ⟨_, rfl⟩
  have HLa : Hid (Below w.heap.size w ua) := Lib.hid (by rw [hua]; exact below_alloc _ _)
  have HBa : Hid (ua.heap[Bw]? = some (.cells #[.int .u64 (A : Int), .int .u64 (D : Int)] 24 (0, 0))) := Lib.hid (by rw [hua, hBw]; exact heap_alloc_new w _)
  have HBL : Hid (w.heap.size ≤ Bw) := Lib.hid (by omega)
  clear w0 w1 u0 y0 y1
  go_enter Try.func3, Try.ntmps3
  go_upto_region 1 with fail
  rw [← hua, ← hBw]
  clear hua hBw
  by_cases h64 : A < 64
  · have b64 : (A : Int) < 64 := by omega
    obtain ⟨P, hP⟩ : ∃ P, 2 ^ A = P := ⟨_, rfl⟩
    have hPl : P < 18446744073709551616 := by rw [← hP]; exact Nat.pow_lt_pow_right (a := 2) (n := 64) (by decide) (by omega)
    have hP0 : 0 < P := by rw [← hP]; exact Nat.pow_pos (by decide)
    have e5 : IntKind.u64.wrap ((2 : Int) ^ A) = (P : Int) := by
      have h9 : ((2 : Int) ^ A) = ((2 ^ A : Nat) : Int) := by simp
      rw [h9, hP]
      exact wrap_u64 (by omega) (by omega)
    have e6 : ((P : Int) == 0) = false := by simp; omega
    have e6a : ¬ (P : Int) = 0 := by omega
    have e6b : ¬ P = 0 := by omega
    obtain ⟨C, hC⟩ : ∃ C, D % P = C := ⟨_, rfl⟩
    have e7 : (D : Int) % (P : Int) = (C : Int) := by rw [← hC]; simp
    have e8 : (D : Int).tmod (P : Int) = (C : Int) := by rw [Int.tmod_eq_emod_of_nonneg (by omega)]; exact e7
    have HC : Hid (C ≤ 18446744073709551615) := Lib.hid (by have := Nat.mod_lt D hP0; omega)
    have bC : (C : Int) ≤ 18446744073709551615 := by have := HC.out; omega
    have bP : (P : Int) ≤ 18446744073709551615 := by omega
    have HCL : Hid ((⟨A, C⟩ : Wn).Clean) := Lib.hid (fun i hi => by
      have hCP := Nat.mod_lt D hP0
      rw [hC, ← hP] at hCP
      exact Nat.testBit_lt_two_pow (Nat.lt_of_lt_of_le hCP (Nat.pow_le_pow_right (by decide) hi)))
    clear h64 hP hPl hP0 hC
    obtain ⟨q0, q1, g0, g1⟩ := cells2 HBa.out
    go_upto_region 3 with fail
    obtain ⟨uz, huz⟩ : ∃ uz, uz = ua.setCell ⟨Bw, 1, none⟩ (.int .u64 (C : Int)) := ⟨_, rfl⟩
    have HBw : Hid (uz.heap[Bw]? = some (.cells #[.int .u64 (A : Int), .int .u64 (C : Int)] 24 (0, 0))) := Lib.hid (by
      have h9 := heap_setCell_same ua Bw 1 _ _ (.int .u64 (C : Int)) HBa.out
      rw [huz]
      simpa using h9)
    have HLz : Hid (Below w.heap.size w uz) := Lib.hid (by rw [huz]; exact HLa.out.trans ((Chg.setCell ua Bw 1 (.int .u64 (C : Int))).below (fun k e => by rw [e]; exact HBL.out) HLa.out.size))
    rw [← huz]
    have HS : Hid (St w Bw ⟨A, C⟩ uz) := Lib.hid ⟨HBL.out, HLz.out, HBw.out⟩
    clear huz q0 q1 g0 g1 e5 e6 e6a e6b e7 e8 bP HLa HBa HLz HBw HBL
    obtain ⟨a, b, er, hT⟩ : ∃ a b er, takeW ⟨A, C⟩ n = (⟨a, b⟩, er) := ⟨_, _, _, rfl⟩
    have HT := Lib.hid hT
    clear hT
    obtain ⟨r0, r1, _, _⟩ := cells2 HS.out.blk
    simp only at r0 r1
    go_wp2_with fail
    refine (takes_p A C n HA.out HC.out Hn.out a b er HT.out _).mono ?_
    rintro e wt ⟨rfl, hb⟩
    replace HS := Lib.hid (HS.out.below hb)
    clear hb r0 r1
    have hba := below_alloc wt (.cells #[.int .u64 (a : Int), .int .u64 (b : Int)] 24 : Obj)
    have HX : Hid (St w wt.heap.size ⟨a, b⟩ (wt.alloc (.cells #[.int .u64 (a : Int), .int .u64 (b : Int)] 24 : Obj))) := Lib.hid (St.new w wt HS.out.low a b)
    replace HS := Lib.hid (HS.out.below hba)
    clear hba
    obtain ⟨r0, r1, _, _⟩ := cells2 HS.out.blk
    simp only at r0 r1
    go_wp2_with fail
    refine (ref_k _ _ _).mono ?_
    rintro e wu ⟨rfl, hb⟩
    replace HS := Lib.hid (HS.out.below hb)
    replace HX := Lib.hid (HX.out.below hb)
    clear hb r0 r1
    go_wp2_with fail
    refine (takes_d A C n HA.out HC.out Hn.out HCL.out a b er HT.out _).mono ?_
    rintro e wv ⟨rfl, hb⟩
    have hba := below_alloc wv (.cells #[.int .u64 (a : Int), .int .u64 (b : Int)] 28 : Obj)
    have HY := Lib.hid (heap_alloc_new wv (.cells #[.int .u64 (a : Int), .int .u64 (b : Int)] 28 : Obj))
    replace HS := Lib.hid ((HS.out.below hb).below hba)
    replace HX := Lib.hid ((HX.out.below hb).below hba)
    clear hb hba
    obtain ⟨c1, hc1⟩ : ∃ c, canW ⟨A, C⟩ n = c := ⟨_, rfl⟩
    obtain ⟨h1, hh1⟩ : ∃ c, hasW ⟨A, C⟩ n = c := ⟨_, rfl⟩
    have HC1 := Lib.hid hc1
    have HH1 := Lib.hid hh1
    clear hc1 hh1
    have HCA : Hid (∀ W, Calls Try.prog 12 #[.agg #[.int .u64 (A : Int), .int .u64 (C : Int)], .int .u64 (n : Int)] W fun e w' => e = .returned (.bool c1) ∧ Below W.heap.size W w') := Lib.hid (fun W => can_p A C n HA.out HC.out Hn.out c1 HC1.out W)
    have HCB : Hid (∀ W, Calls Try.prog 13 #[.agg #[.int .u64 (A : Int), .int .u64 (C : Int)], .int .u64 (n : Int)] W fun e w' => e = .returned (.bool c1) ∧ Below W.heap.size W w') := Lib.hid (fun W => can_d A C n c1 HA.out HC.out Hn.out HC1.out W)
    have HHA : Hid (∀ W, Calls Try.prog 14 #[.agg #[.int .u64 (A : Int), .int .u64 (C : Int)], .int .u64 (n : Int)] W fun e w' => e = .returned (.bool h1) ∧ Below W.heap.size W w') := Lib.hid (fun W => has_p A C n HA.out HC.out Hn.out h1 HH1.out W)
    have HHB : Hid (∀ W, Calls Try.prog 15 #[.agg #[.int .u64 (A : Int), .int .u64 (C : Int)], .int .u64 (n : Int)] W fun e w' => e = .returned (.bool h1) ∧ Below W.heap.size W w') := Lib.hid (fun W => has_d A C n h1 HA.out HC.out Hn.out HH1.out W)
    have HSS : Hid (∀ u, St w Bw ⟨A, C⟩ u → St w wt.heap.size ⟨a, b⟩ u → u.heap[wv.heap.size]? = some (.cells #[.int .u64 (a : Int), .int .u64 (b : Int)] 28 (0, 0)) → u.cell? ⟨Bw, 0, none⟩ = some (.int .u64 (A : Int)) ∧ u.cell? ⟨Bw, 1, none⟩ = some (.int .u64 (C : Int)) ∧ u.cell? ⟨wt.heap.size, 0, none⟩ = some (.int .u64 (a : Int)) ∧ u.cell? ⟨wt.heap.size, 1, none⟩ = some (.int .u64 (b : Int)) ∧ u.cell? ⟨wv.heap.size, 0, none⟩ = some (.int .u64 (a : Int)) ∧ u.cell? ⟨wv.heap.size, 1, none⟩ = some (.int .u64 (b : Int))) := Lib.hid (fun u h k y => ⟨(cells2 h.blk).1, (cells2 h.blk).2.1, (cells2 k.blk).1, (cells2 k.blk).2.1, (cells2 y).1, (cells2 y).2.1⟩)
    have t1 : (c1 == c1) = true := by simp
    have t2 : (h1 == h1) = true := by simp
    have t3 : ((er : Int) == (er : Int)) = true := by simp
    have t4 := eqlV (a : Int) (b : Int)
    go_wp2_with fail
    replace HS := Lib.hid (HS.out.below ((Below.refl _ _).drew))
    replace HX := Lib.hid (HX.out.below ((Below.refl _ _).drew))
    replace HY := Lib.hid ((((Below.refl _ _).drew : Below _ _ (World.drew _)).block _ (blk_lt HY.out)).trans HY.out)
    have hS := HSS.out _ HS.out HX.out HY.out
    have hS' := hS
    go_region_held3 (fun w' => w'.cell? ⟨Bw, 0, none⟩ = some (.int .u64 (A : Int)) ∧ w'.cell? ⟨Bw, 1, none⟩ = some (.int .u64 (C : Int)) ∧ w'.cell? ⟨wt.heap.size, 0, none⟩ = some (.int .u64 (a : Int)) ∧ w'.cell? ⟨wt.heap.size, 1, none⟩ = some (.int .u64 (b : Int)) ∧ w'.cell? ⟨wv.heap.size, 0, none⟩ = some (.int .u64 (a : Int)) ∧ w'.cell? ⟨wv.heap.size, 1, none⟩ = some (.int .u64 (b : Int))) (first | assumption | go_keep) ((first | (go_at_call 12; refine (HCA.out _).mono ?_; rintro e w5 ⟨rfl, hb⟩; replace HS := Lib.hid (HS.out.below hb); replace HX := Lib.hid (HX.out.below hb); replace HY := Lib.hid ((hb.block _ (blk_lt HY.out)).trans HY.out); have hS5 := HSS.out _ HS.out HX.out HY.out; clear hb) | (go_at_call 11; refine (ref_k _ _ _).mono ?_; rintro e w5 ⟨rfl, hb⟩; replace HS := Lib.hid (HS.out.below hb); replace HX := Lib.hid (HX.out.below hb); replace HY := Lib.hid ((hb.block _ (blk_lt HY.out)).trans HY.out); have hS5 := HSS.out _ HS.out HX.out HY.out; clear hb) | (go_at_call 13; refine (HCB.out _).mono ?_; rintro e w5 ⟨rfl, hb⟩; replace HS := Lib.hid (HS.out.below hb); replace HX := Lib.hid (HX.out.below hb); replace HY := Lib.hid ((hb.block _ (blk_lt HY.out)).trans HY.out); have hS5 := HSS.out _ HS.out HX.out HY.out; clear hb) | (go_at_call 14; refine (HHA.out _).mono ?_; rintro e w5 ⟨rfl, hb⟩; replace HS := Lib.hid (HS.out.below hb); replace HX := Lib.hid (HX.out.below hb); replace HY := Lib.hid ((hb.block _ (blk_lt HY.out)).trans HY.out); have hS5 := HSS.out _ HS.out HX.out HY.out; clear hb) | (go_at_call 15; refine (HHB.out _).mono ?_; rintro e w5 ⟨rfl, hb⟩; replace HS := Lib.hid (HS.out.below hb); replace HX := Lib.hid (HX.out.below hb); replace HY := Lib.hid ((hb.block _ (blk_lt HY.out)).trans HY.out); have hS5 := HSS.out _ HS.out HX.out HY.out; clear hb) | (go_at_call 16; refine (fixed_any _).mono ?_; rintro e w5 ⟨rfl, hb⟩; replace HS := Lib.hid (HS.out.below hb); replace HX := Lib.hid (HX.out.below hb); replace HY := Lib.hid ((hb.block _ (blk_lt HY.out)).trans HY.out); have hS5 := HSS.out _ HS.out HX.out HY.out; clear hb)))
    go_wp2_with fail
    go_ret
    exact ⟨rfl, HS.out.low⟩
  · have b64 : decide ((A : Int) < 64) = false := decide_eq_false (by omega)
    obtain ⟨C, hC⟩ : ∃ C, C = D := ⟨_, rfl⟩
    subst hC
    have HC := HD
    have HCL : Hid ((⟨A, C⟩ : Wn).Clean) := Lib.hid (fun i hi => hi_digit (show C < 2 ^ 64 by have := HD.out; omega) (by simp only at hi; omega))
    have HS : Hid (St w Bw ⟨A, C⟩ ua) := Lib.hid ⟨HBL.out, HLa.out, HBa.out⟩
    clear h64 HLa HBa HBL
    obtain ⟨q0, q1, g0, g1⟩ := cells2 HS.out.blk
    simp only at q0 q1
    go_upto_region 3 with fail
    clear q0 q1 g0 g1
    obtain ⟨a, b, er, hT⟩ : ∃ a b er, takeW ⟨A, C⟩ n = (⟨a, b⟩, er) := ⟨_, _, _, rfl⟩
    have HT := Lib.hid hT
    clear hT
    obtain ⟨r0, r1, _, _⟩ := cells2 HS.out.blk
    simp only at r0 r1
    go_wp2_with fail
    refine (takes_p A C n HA.out HC.out Hn.out a b er HT.out _).mono ?_
    rintro e wt ⟨rfl, hb⟩
    replace HS := Lib.hid (HS.out.below hb)
    clear hb r0 r1
    have hba := below_alloc wt (.cells #[.int .u64 (a : Int), .int .u64 (b : Int)] 24 : Obj)
    have HX : Hid (St w wt.heap.size ⟨a, b⟩ (wt.alloc (.cells #[.int .u64 (a : Int), .int .u64 (b : Int)] 24 : Obj))) := Lib.hid (St.new w wt HS.out.low a b)
    replace HS := Lib.hid (HS.out.below hba)
    clear hba
    obtain ⟨r0, r1, _, _⟩ := cells2 HS.out.blk
    simp only at r0 r1
    go_wp2_with fail
    refine (ref_k _ _ _).mono ?_
    rintro e wu ⟨rfl, hb⟩
    replace HS := Lib.hid (HS.out.below hb)
    replace HX := Lib.hid (HX.out.below hb)
    clear hb r0 r1
    go_wp2_with fail
    refine (takes_d A C n HA.out HC.out Hn.out HCL.out a b er HT.out _).mono ?_
    rintro e wv ⟨rfl, hb⟩
    have hba := below_alloc wv (.cells #[.int .u64 (a : Int), .int .u64 (b : Int)] 28 : Obj)
    have HY := Lib.hid (heap_alloc_new wv (.cells #[.int .u64 (a : Int), .int .u64 (b : Int)] 28 : Obj))
    replace HS := Lib.hid ((HS.out.below hb).below hba)
    replace HX := Lib.hid ((HX.out.below hb).below hba)
    clear hb hba
    obtain ⟨c1, hc1⟩ : ∃ c, canW ⟨A, C⟩ n = c := ⟨_, rfl⟩
    obtain ⟨h1, hh1⟩ : ∃ c, hasW ⟨A, C⟩ n = c := ⟨_, rfl⟩
    have HC1 := Lib.hid hc1
    have HH1 := Lib.hid hh1
    clear hc1 hh1
    have HCA : Hid (∀ W, Calls Try.prog 12 #[.agg #[.int .u64 (A : Int), .int .u64 (C : Int)], .int .u64 (n : Int)] W fun e w' => e = .returned (.bool c1) ∧ Below W.heap.size W w') := Lib.hid (fun W => can_p A C n HA.out HC.out Hn.out c1 HC1.out W)
    have HCB : Hid (∀ W, Calls Try.prog 13 #[.agg #[.int .u64 (A : Int), .int .u64 (C : Int)], .int .u64 (n : Int)] W fun e w' => e = .returned (.bool c1) ∧ Below W.heap.size W w') := Lib.hid (fun W => can_d A C n c1 HA.out HC.out Hn.out HC1.out W)
    have HHA : Hid (∀ W, Calls Try.prog 14 #[.agg #[.int .u64 (A : Int), .int .u64 (C : Int)], .int .u64 (n : Int)] W fun e w' => e = .returned (.bool h1) ∧ Below W.heap.size W w') := Lib.hid (fun W => has_p A C n HA.out HC.out Hn.out h1 HH1.out W)
    have HHB : Hid (∀ W, Calls Try.prog 15 #[.agg #[.int .u64 (A : Int), .int .u64 (C : Int)], .int .u64 (n : Int)] W fun e w' => e = .returned (.bool h1) ∧ Below W.heap.size W w') := Lib.hid (fun W => has_d A C n h1 HA.out HC.out Hn.out HH1.out W)
    have HSS : Hid (∀ u, St w Bw ⟨A, C⟩ u → St w wt.heap.size ⟨a, b⟩ u → u.heap[wv.heap.size]? = some (.cells #[.int .u64 (a : Int), .int .u64 (b : Int)] 28 (0, 0)) → u.cell? ⟨Bw, 0, none⟩ = some (.int .u64 (A : Int)) ∧ u.cell? ⟨Bw, 1, none⟩ = some (.int .u64 (C : Int)) ∧ u.cell? ⟨wt.heap.size, 0, none⟩ = some (.int .u64 (a : Int)) ∧ u.cell? ⟨wt.heap.size, 1, none⟩ = some (.int .u64 (b : Int)) ∧ u.cell? ⟨wv.heap.size, 0, none⟩ = some (.int .u64 (a : Int)) ∧ u.cell? ⟨wv.heap.size, 1, none⟩ = some (.int .u64 (b : Int))) := Lib.hid (fun u h k y => ⟨(cells2 h.blk).1, (cells2 h.blk).2.1, (cells2 k.blk).1, (cells2 k.blk).2.1, (cells2 y).1, (cells2 y).2.1⟩)
    have t1 : (c1 == c1) = true := by simp
    have t2 : (h1 == h1) = true := by simp
    have t3 : ((er : Int) == (er : Int)) = true := by simp
    have t4 := eqlV (a : Int) (b : Int)
    go_wp2_with fail
    replace HS := Lib.hid (HS.out.below ((Below.refl _ _).drew))
    replace HX := Lib.hid (HX.out.below ((Below.refl _ _).drew))
    replace HY := Lib.hid ((((Below.refl _ _).drew : Below _ _ (World.drew _)).block _ (blk_lt HY.out)).trans HY.out)
    have hS := HSS.out _ HS.out HX.out HY.out
    have hS' := hS
    go_region_held3 (fun w' => w'.cell? ⟨Bw, 0, none⟩ = some (.int .u64 (A : Int)) ∧ w'.cell? ⟨Bw, 1, none⟩ = some (.int .u64 (C : Int)) ∧ w'.cell? ⟨wt.heap.size, 0, none⟩ = some (.int .u64 (a : Int)) ∧ w'.cell? ⟨wt.heap.size, 1, none⟩ = some (.int .u64 (b : Int)) ∧ w'.cell? ⟨wv.heap.size, 0, none⟩ = some (.int .u64 (a : Int)) ∧ w'.cell? ⟨wv.heap.size, 1, none⟩ = some (.int .u64 (b : Int))) (first | assumption | go_keep) ((first | (go_at_call 12; refine (HCA.out _).mono ?_; rintro e w5 ⟨rfl, hb⟩; replace HS := Lib.hid (HS.out.below hb); replace HX := Lib.hid (HX.out.below hb); replace HY := Lib.hid ((hb.block _ (blk_lt HY.out)).trans HY.out); have hS5 := HSS.out _ HS.out HX.out HY.out; clear hb) | (go_at_call 11; refine (ref_k _ _ _).mono ?_; rintro e w5 ⟨rfl, hb⟩; replace HS := Lib.hid (HS.out.below hb); replace HX := Lib.hid (HX.out.below hb); replace HY := Lib.hid ((hb.block _ (blk_lt HY.out)).trans HY.out); have hS5 := HSS.out _ HS.out HX.out HY.out; clear hb) | (go_at_call 13; refine (HCB.out _).mono ?_; rintro e w5 ⟨rfl, hb⟩; replace HS := Lib.hid (HS.out.below hb); replace HX := Lib.hid (HX.out.below hb); replace HY := Lib.hid ((hb.block _ (blk_lt HY.out)).trans HY.out); have hS5 := HSS.out _ HS.out HX.out HY.out; clear hb) | (go_at_call 14; refine (HHA.out _).mono ?_; rintro e w5 ⟨rfl, hb⟩; replace HS := Lib.hid (HS.out.below hb); replace HX := Lib.hid (HX.out.below hb); replace HY := Lib.hid ((hb.block _ (blk_lt HY.out)).trans HY.out); have hS5 := HSS.out _ HS.out HX.out HY.out; clear hb) | (go_at_call 15; refine (HHB.out _).mono ?_; rintro e w5 ⟨rfl, hb⟩; replace HS := Lib.hid (HS.out.below hb); replace HX := Lib.hid (HX.out.below hb); replace HY := Lib.hid ((hb.block _ (blk_lt HY.out)).trans HY.out); have hS5 := HSS.out _ HS.out HX.out HY.out; clear hb) | (go_at_call 16; refine (fixed_any _).mono ?_; rintro e w5 ⟨rfl, hb⟩; replace HS := Lib.hid (HS.out.below hb); replace HX := Lib.hid (HX.out.below hb); replace HY := Lib.hid ((hb.block _ (blk_lt HY.out)).trans HY.out); have hS5 := HSS.out _ HS.out HX.out HY.out; clear hb)))
    go_wp2_with fail
    go_ret
    exact ⟨rfl, HS.out.low⟩
set_option maxRecDepth 100000 in
theorem lifted (os : Os) (started : os.Started) (H : Type) (enc : TypeId × Value → H) :
    ReturnsInHanded {} Try.checked os 3 .any (Rows.windowTellsSpec.pre6 enc Try.prog Try.f3 Rows.windowTellsRow.domain false) (Rows.windowTellsSpec.post enc Try.prog Try.f3 false true false false) := by
  refine returnsInHanded_of_change (C := Try.checked) own started (by kernel_rfl) Try.func3
    (ChangeSpec.witness6 (enc := enc) (C := Try.checked) false ⟨#[], #[.agg #[.int .u64 0, .int .u64 0], .int .u64 0], []⟩ 8 (by kernel_rfl) (by kernel_rfl) (by kernel_rfl) (by kernel_rfl)) ?_
  intro W base args ds gs before hval0 hW hcnd _
  have hval : ∀ (j : Nat) t v, Try.f3.params[j]? = some t → args[j]? = some v → Value.okWide Try.prog W .any base t v := hval0
  have hW' := hW
  obtain ⟨p, q, hA0, hV, rfl, hfz, hnd⟩ := hW
  have hA : DataW.TrodAll enc Try.prog W 0 (fun _ => true) true Try.f3.params.toList args.toList ds p := hA0
  rw [Try.params3] at hA hval
  obtain ⟨v0, vs0, d0, ds0, p0, q0, hargs, rfl, rfl, h0, r0⟩ := trodAll_cons hA
  obtain ⟨v1, vs1, d1, ds1, p1, q1, rfl, rfl, rfl, h1, r1⟩ := trodAll_cons r0
  obtain ⟨rfl, rfl, rfl⟩ := trodAll_nil r1
  obtain rfl : args = #[v0, v1] := by cases args; simp_all
  obtain ⟨rfl, rfl⟩ := trodVars_none hV
  obtain ⟨cs0, rfl, hsz0⟩ : ∃ cs, v0 = .agg cs ∧ cs.size = Try.prog.cellsOf 24 := by
    have h := hval 0 24 v0 rfl rfl
    simp only [Value.okWide, Try.underlying24] at h
    obtain ⟨cs, e1, e2, _⟩ := h
    exact ⟨cs, e1, e2⟩
  have k0 := h0
  have lt0 : ∀ x ∈ p0, x.block < W.heap.size := by obtain ⟨m, hm⟩ := k0; exact DataW.trod_lt m _ _ _ hm
  obtain ⟨N0, B0, rfl, w0, u0⟩ : ∃ N B : Nat, cs0 = #[.int .u64 (N : Int), .int .u64 (B : Int)] ∧ N ≤ 18446744073709551615 ∧ B ≤ 18446744073709551615 := by
    obtain ⟨fuel, hf⟩ := h0
    exact open_win hf
  obtain ⟨a1, rfl, rfl, rfl, w1⟩ := open_int Try.underlying22 (hval 1 22 v1 rfl rfl) h1
  clear hA0 hval0
  refine (walk N0 B0 a1 W w0 u0 w1).mono fun e W' ⟨he, bel⟩ => ?_
  subst he
  exact ⟨_, rfl, _, _, _, [], _, [], hW', trodAll_mk1 (shut_bool Try.underlying4 _), (trodAll_cons_mk (Below.trod laidOut (by kernel_rfl) (of_decide_eq_true (by kernel_rfl)) k0 bel lt0) (trodAll_cons_mk (shut_int Try.underlying22 w1) trodAll_mk0)), rfl, bel.frame _, fun h => by cases h⟩

theorem over : Rows.windowTellsRow.holds Try.pinned (OpenSpec.ofChange Rows.windowTellsSpec) :=
  OpenClaim.holds_of_wide 3 Try.f3 rfl rfl rfl rfl rfl rfl rfl ⟨rfl, rfl, rfl, rfl, rfl⟩ rfl rfl rfl rfl rfl (by kernel_rfl) Try.func3 (by kernel_rfl)
    (of_decide_eq_true (by kernel_rfl)) (by unfold Func.isWrapper; first | (rw [if_pos (by decide +kernel)]; kernel_rfl) | (rw [if_neg (by decide +kernel)]; exact ⟨rfl, rfl⟩))
    (fun os started H enc _ => lifted os started H enc)

theorem proved : Rows.WindowTellsSaid := over
#print axioms proved
end Go.Proofs.Ytkdjlhnddnolaaa.windowTells
