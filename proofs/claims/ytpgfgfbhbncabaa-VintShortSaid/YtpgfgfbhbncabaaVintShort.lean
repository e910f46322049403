/- The law VintShort returns true for every number, cut and text, and its arguments read as they did. No conditions. -/
import Derived.Test.YtpgfgfbhbncabaaRows
import Derived.WalkKit
import Derived.ProofKit
import Derived.OpenShut
import Derived.ShutString
import Derived.Test.YtpgfgfbhbncabaaMathD
import Derived.Deep.QuietTactic
import Derived.BigQuiet
import Derived.Test.YtpgfgfbhbncabaaMathB
import Derived.Test.YtpgfgfbhbncabaaFixed
import Derived.ChangeOld
import Derived.Below
namespace Go.Proofs.Ytpgfgfbhbncabaa.vintShort
open Go.ChangeShapes Go.WideShapes Go.ChangeAt Go.RowKit
open Go.ChangeMaps (open_string shut_string)
set_option linter.unusedVariables false

theorem own : ownKnob Try.prog.godebug = none := by kernel_rfl

set_option maxHeartbeats 1000000 in
set_option maxRecDepth 100000 in
theorem s_ok (n c k N P : Nat) (s A : ByteArray) (HA : Hid (putS n = A)) (hn : (n : Int) ≤ 18446744073709551615) (ha1 : (1 : Int) ≤ A.size) (ha2 : (A.size : Int) ≤ 10) (hc : (c : Int) ≤ 255) (hk : (c : Int) % (A.size : Int) = (k : Int)) (hk2 : (k : Int) ≤ A.size) (HG0 : Hid (getA (A.extract 0 k).data.toList 0 = (0, 0, 2))) (HS0 : Hid ((A.extract 0 k).size ≤ 1000000)) (hs : s.size ≤ 100) (HG : Hid (getA s.data.toList 0 = (N, P, 0))) (hN : (N : Int) ≤ 18446744073709551615) (hP1 : (1 : Int) ≤ P) (hP2 : (P : Int) ≤ s.size) (HP : Hid (putS N = s.extract 0 P)) (w : World) :
    Calls Try.prog 7 #[.int .u64 n, .int .u8 c, .string s] w fun e w' => e = .returned (.bool true) ∧ Below w.heap.size w w' := by
  have hmin : min (s.size : Int) 100 = s.size := by omega
  have q0 : decide ((A.size : Int) < 1) = false := by simp; omega
  have q1 : ((A.size : Int) == 0) = false := beq_eq_false_iff_ne.2 (by omega)
  have r1 : decide ((P : Int) < 1) = false := by simp; omega
  have r2 : decide (s.size < P) = false := by simp; omega
  have HSZ := Lib.hid (show s.size ≤ 1000000 from by omega)
  go_enter Try.func7, Try.ntmps7
  go_wp2_with fail
  refine (put_is _ rfl hn HA.out).mono ?_
  rintro e w1 ⟨rfl, hb1⟩
  go_wp2_with fail
  refine (get_is (x := 0) (y := 0) (z := 2) _ HS0.out HG0.out rfl rfl rfl).mono ?_
  rintro e w' ⟨rfl, rfl⟩
  go_wp2_with fail
  refine (get_is _ HSZ.out HG.out rfl rfl rfl).mono ?_
  rintro e w' ⟨rfl, rfl⟩
  go_wp2_with fail
  have hb := hb1
  clear hb1
  have p0 : (0 : Int) ≤ P := by omega
  refine wp_region_any (by kernel_rfl) ?_
  change wpAny _ _ _ _ _ _ _ (World.drew _)
  refine wpAny_take (i := 0) (v := .int .i64 0) rfl (by kernel_rfl) (by kernel_rfl) (by kernel_rfl) (fun _ _ _ h => h) (Or.inl ⟨by kernel_rfl, fun _ => by go_simp⟩) ?_
  refine wpAny_take (i := 1) (v := .bool true) rfl (by kernel_rfl) (by kernel_rfl) (by kernel_rfl) (fun _ _ _ h => h) (Or.inl ⟨by kernel_rfl, fun _ => by go_simp⟩) ?_
  refine wpAny_take (i := 2) (v := .bool true) rfl (by kernel_rfl) (by kernel_rfl) (by kernel_rfl) (fun _ _ _ h => h) (Or.inl ⟨by kernel_rfl, fun _ => by go_simp⟩) ?_
  refine wpAny_take (i := 3) (v := .int .i64 P) rfl (by kernel_rfl) (by kernel_rfl) (by kernel_rfl) (fun _ _ _ h => h) (Or.inl ⟨by kernel_rfl, fun _ => by go_simp⟩) ?_
  refine wpAny_take (i := 4) (v := .bool false) rfl (by kernel_rfl) (by kernel_rfl) (by kernel_rfl) (fun _ _ _ h => h) (Or.inl ⟨by kernel_rfl, fun _ => by go_simp⟩) ?_
  refine wpAny_take (i := 5) (v := .bool false) rfl (by kernel_rfl) (by kernel_rfl) (by kernel_rfl) (fun _ _ _ h => h) (Or.inl ⟨by kernel_rfl, fun _ => by go_simp⟩) ?_
  refine wpAny_take (i := 6) (v := .int .i64 P) rfl (by kernel_rfl) (by kernel_rfl) (by kernel_rfl) (fun _ _ _ h => h) (Or.inl ⟨by kernel_rfl, fun _ => by go_simp⟩) ?_
  refine wpAny_take (i := 7) (v := .string s) rfl (by kernel_rfl) (by kernel_rfl) (by kernel_rfl) (fun _ _ _ h => h) (Or.inl ⟨by kernel_rfl, fun _ => by go_simp⟩) ?_
  refine wpAny_take (i := 8) (v := .int .i64 s.size) rfl (by kernel_rfl) (by kernel_rfl) (by kernel_rfl) (fun _ _ _ h => h) (Or.inl ⟨by kernel_rfl, fun _ => by go_simp⟩) ?_
  refine wpAny_take (i := 9) (v := .bool false) rfl (by kernel_rfl) (by kernel_rfl) (by kernel_rfl) (fun _ _ _ h => h) (Or.inl ⟨by kernel_rfl, fun _ => by go_simp⟩) ?_
  refine wpAny_take (i := 10) (v := .bool false) rfl (by kernel_rfl) (by kernel_rfl) (by kernel_rfl) (fun _ _ _ h => h) (Or.inl ⟨by kernel_rfl, fun _ => by go_simp⟩) ?_
  refine wpAny_take (i := 11) (v := .bool false) rfl (by kernel_rfl) (by kernel_rfl) (by kernel_rfl) (fun _ _ _ h => h) (Or.inl ⟨by kernel_rfl, fun _ => by go_simp⟩) ?_
  refine wpAny_take (i := 12) (v := .int .u64 N) rfl (by kernel_rfl) (by kernel_rfl) (by kernel_rfl) (fun _ _ _ h => h) (Or.inl ⟨by kernel_rfl, fun _ => by go_simp⟩) ?_
  refine wpAny_take (i := 14) (v := .string s) rfl (by kernel_rfl) (by kernel_rfl) (by kernel_rfl) (fun _ _ _ h => h) (Or.inl ⟨by kernel_rfl, fun _ => by go_simp⟩) ?_
  refine wpAny_take (i := 15) (v := .int .i64 P) rfl (by kernel_rfl) (by kernel_rfl) (by kernel_rfl) (fun _ _ _ h => h) (Or.inl ⟨by kernel_rfl, fun _ => by go_simp⟩) ?_
  refine wpAny_take (i := 16) (v := .string (s.extract 0 P)) rfl (by kernel_rfl) (by kernel_rfl) (by kernel_rfl) (fun _ _ _ h => h) (Or.inl ⟨by kernel_rfl, fun _ => by go_simp⟩) ?_
  refine wpAny_ready (rs := [13]) (by kernel_rfl) (by simp) ?_
  refine AllReady.cons rfl (fun K hK => ?_) AllReady.nil
  go_simp
  refine (put_is _ rfl hN HP.out).mono ?_
  rintro e w3 ⟨rfl, hb3⟩
  go_wp2_with fail
  refine wpAny_take (i := 17) (v := .bool false) rfl (by kernel_rfl) (by kernel_rfl) (by kernel_rfl) (fun _ _ _ h => h) (Or.inl ⟨by kernel_rfl, fun _ => by go_simp⟩) ?_
  refine wpAny_take (i := 18) (v := .bool false) rfl (by kernel_rfl) (by kernel_rfl) (by kernel_rfl) (fun _ _ _ h => h) (Or.inl ⟨by kernel_rfl, fun _ => by go_simp⟩) ?_
  refine wpAny_take (i := 19) (v := .bool false) rfl (by kernel_rfl) (by kernel_rfl) (by kernel_rfl) (fun _ _ _ h => h) (Or.inl ⟨by kernel_rfl, fun _ => by go_simp⟩) ?_
  refine wpAny_take (i := 20) (v := .bool false) rfl (by kernel_rfl) (by kernel_rfl) (by kernel_rfl) (fun _ _ _ h => h) (Or.inl ⟨by kernel_rfl, fun _ => by go_simp⟩) ?_
  refine wpAny_take (i := 21) (v := .int .i64 0) rfl (by kernel_rfl) (by kernel_rfl) (by kernel_rfl) (fun _ _ _ h => h) (Or.inl ⟨by kernel_rfl, fun _ => by go_simp⟩) ?_
  refine wpAny_take (i := 22) (v := .bool false) rfl (by kernel_rfl) (by kernel_rfl) (by kernel_rfl) (fun _ _ _ h => h) (Or.inl ⟨by kernel_rfl, fun _ => by go_simp⟩) ?_
  refine wpAny_take (i := 23) (v := .bool false) rfl (by kernel_rfl) (by kernel_rfl) (by kernel_rfl) (fun _ _ _ h => h) (Or.inl ⟨by kernel_rfl, fun _ => by go_simp⟩) ?_
  refine wpAny_take (i := 24) (v := undef) rfl (by kernel_rfl) (by kernel_rfl) (by kernel_rfl) (fun _ _ _ h => h) (Or.inr ⟨by kernel_rfl, rfl⟩) ?_
  refine wpAny_take (i := 25) (v := undef) rfl (by kernel_rfl) (by kernel_rfl) (by kernel_rfl) (fun _ _ _ h => h) (Or.inr ⟨by kernel_rfl, rfl⟩) ?_
  refine wpAny_take (i := 26) (v := undef) rfl (by kernel_rfl) (by kernel_rfl) (by kernel_rfl) (fun _ _ _ h => h) (Or.inr ⟨by kernel_rfl, rfl⟩) ?_
  refine wpAny_take (i := 27) (v := undef) rfl (by kernel_rfl) (by kernel_rfl) (by kernel_rfl) (fun _ _ _ h => h) (Or.inr ⟨by kernel_rfl, rfl⟩) ?_
  refine wpAny_take (i := 28) (v := undef) rfl (by kernel_rfl) (by kernel_rfl) (by kernel_rfl) (fun _ _ _ h => h) (Or.inr ⟨by kernel_rfl, rfl⟩) ?_
  refine wpAny_take (i := 29) (v := undef) rfl (by kernel_rfl) (by kernel_rfl) (by kernel_rfl) (fun _ _ _ h => h) (Or.inr ⟨by kernel_rfl, rfl⟩) ?_
  refine wpAny_take (i := 30) (v := .bool false) rfl (by kernel_rfl) (by kernel_rfl) (by kernel_rfl) (fun _ _ _ h => h) (Or.inl ⟨by kernel_rfl, fun _ => by go_simp⟩) ?_
  refine wpAny_take (i := 31) (v := .bool false) rfl (by kernel_rfl) (by kernel_rfl) (by kernel_rfl) (fun _ _ _ h => h) (Or.inl ⟨by kernel_rfl, fun _ => by go_simp⟩) ?_
  refine wpAny_done (by kernel_rfl) ?_ _
  go_simp
  have hb4 := hb.drew.trans (hb3.mono hb.size)
  clear hb hb3
  go_wp2_with fail
  refine (fixed_any _).mono ?_
  rintro e w4 ⟨rfl, hb5⟩
  have hb := hb4.trans (hb5.mono hb4.size)
  clear hb4 hb5
  go_wp2
  go_ret
  exact ⟨rfl, hb⟩

set_option maxHeartbeats 1000000 in
set_option maxRecDepth 100000 in
theorem s_err (n c k N P E : Nat) (s A : ByteArray) (HA : Hid (putS n = A)) (hn : (n : Int) ≤ 18446744073709551615) (ha1 : (1 : Int) ≤ A.size) (ha2 : (A.size : Int) ≤ 10) (hc : (c : Int) ≤ 255) (hk : (c : Int) % (A.size : Int) = (k : Int)) (hk2 : (k : Int) ≤ A.size) (HG0 : Hid (getA (A.extract 0 k).data.toList 0 = (0, 0, 2))) (HS0 : Hid ((A.extract 0 k).size ≤ 1000000)) (hs : s.size ≤ 100) (HG : Hid (getA s.data.toList 0 = (N, P, E))) (hE : ((E : Int) == 0) = false) (hE2 : ((E : Int) != 0) = true) (hN : N = 0) (hP : P = 0) (w : World) :
    Calls Try.prog 7 #[.int .u64 n, .int .u8 c, .string s] w fun e w' => e = .returned (.bool true) ∧ Below w.heap.size w w' := by
  have hmin : min (s.size : Int) 100 = s.size := by omega
  have q0 : decide ((A.size : Int) < 1) = false := by simp; omega
  have q1 : ((A.size : Int) == 0) = false := beq_eq_false_iff_ne.2 (by omega)
  subst hN hP
  have HSZ := Lib.hid (show s.size ≤ 1000000 from by omega)
  go_enter Try.func7, Try.ntmps7
  go_wp2_with fail
  refine (put_is _ rfl hn HA.out).mono ?_
  rintro e w1 ⟨rfl, hb1⟩
  go_wp2_with fail
  refine (get_is (x := 0) (y := 0) (z := 2) _ HS0.out HG0.out rfl rfl rfl).mono ?_
  rintro e w' ⟨rfl, rfl⟩
  go_wp2_with fail
  refine (get_is _ HSZ.out HG.out rfl rfl rfl).mono ?_
  rintro e w' ⟨rfl, rfl⟩
  go_wp2_with fail
  have hb := hb1
  clear hb1
  go_quiet (fail)
  go_wp2_with fail
  refine (fixed_any _).mono ?_
  rintro e w4 ⟨rfl, hb5⟩
  have hb4 : Below w.heap.size w (w1.drewN nq) := hb.trans ⟨rfl, rfl, rfl, Nat.le_refl _, fun _ _ => rfl⟩
  have hb6 := hb4.trans (hb5.mono hb4.size)
  clear hb hb4 hb5
  go_wp2
  go_ret
  exact ⟨rfl, hb6⟩

set_option maxHeartbeats 1000000 in
set_option maxRecDepth 100000 in
theorem t_ok (n c k N P : Nat) (s t A : ByteArray) (HA : Hid (putS n = A)) (hn : (n : Int) ≤ 18446744073709551615) (ha1 : (1 : Int) ≤ A.size) (ha2 : (A.size : Int) ≤ 10) (hc : (c : Int) ≤ 255) (hk : (c : Int) % (A.size : Int) = (k : Int)) (hk2 : (k : Int) ≤ A.size) (HG0 : Hid (getA (A.extract 0 k).data.toList 0 = (0, 0, 2))) (HS0 : Hid ((A.extract 0 k).size ≤ 1000000)) (hs : s.size ≤ maxLen) (hbig : ¬ s.size ≤ 100) (hsl : s.extract 0 100 = t) (ht : t.size ≤ 100) (HG : Hid (getA t.data.toList 0 = (N, P, 0))) (hN : (N : Int) ≤ 18446744073709551615) (hP1 : (1 : Int) ≤ P) (hP2 : (P : Int) ≤ t.size) (HP : Hid (putS N = t.extract 0 P)) (w : World) :
    Calls Try.prog 7 #[.int .u64 n, .int .u8 c, .string s] w fun e w' => e = .returned (.bool true) ∧ Below w.heap.size w w' := by
  unfold maxLen at hs
  have hmin : min (s.size : Int) 100 = 100 := by omega
  have h100 : (100 : Int) ≤ s.size := by omega
  have q0 : decide ((A.size : Int) < 1) = false := by simp; omega
  have q1 : ((A.size : Int) == 0) = false := beq_eq_false_iff_ne.2 (by omega)
  have r1 : decide ((P : Int) < 1) = false := by simp; omega
  have r2 : decide (t.size < P) = false := by simp; omega
  have HSZ := Lib.hid (show t.size ≤ 1000000 from by omega)
  go_enter Try.func7, Try.ntmps7
  go_wp2_with fail
  refine (put_is _ rfl hn HA.out).mono ?_
  rintro e w1 ⟨rfl, hb1⟩
  go_wp2_with fail
  refine (get_is (x := 0) (y := 0) (z := 2) _ HS0.out HG0.out rfl rfl rfl).mono ?_
  rintro e w' ⟨rfl, rfl⟩
  go_wp2_with fail
  refine (get_is _ HSZ.out HG.out rfl rfl rfl).mono ?_
  rintro e w' ⟨rfl, rfl⟩
  go_wp2_with fail
  have hb := hb1
  clear hb1
  have p0 : (0 : Int) ≤ P := by omega
  refine wp_region_any (by kernel_rfl) ?_
  change wpAny _ _ _ _ _ _ _ (World.drew _)
  refine wpAny_take (i := 0) (v := .int .i64 0) rfl (by kernel_rfl) (by kernel_rfl) (by kernel_rfl) (fun _ _ _ h => h) (Or.inl ⟨by kernel_rfl, fun _ => by go_simp⟩) ?_
  refine wpAny_take (i := 1) (v := .bool true) rfl (by kernel_rfl) (by kernel_rfl) (by kernel_rfl) (fun _ _ _ h => h) (Or.inl ⟨by kernel_rfl, fun _ => by go_simp⟩) ?_
  refine wpAny_take (i := 2) (v := .bool true) rfl (by kernel_rfl) (by kernel_rfl) (by kernel_rfl) (fun _ _ _ h => h) (Or.inl ⟨by kernel_rfl, fun _ => by go_simp⟩) ?_
  refine wpAny_take (i := 3) (v := .int .i64 P) rfl (by kernel_rfl) (by kernel_rfl) (by kernel_rfl) (fun _ _ _ h => h) (Or.inl ⟨by kernel_rfl, fun _ => by go_simp⟩) ?_
  refine wpAny_take (i := 4) (v := .bool false) rfl (by kernel_rfl) (by kernel_rfl) (by kernel_rfl) (fun _ _ _ h => h) (Or.inl ⟨by kernel_rfl, fun _ => by go_simp⟩) ?_
  refine wpAny_take (i := 5) (v := .bool false) rfl (by kernel_rfl) (by kernel_rfl) (by kernel_rfl) (fun _ _ _ h => h) (Or.inl ⟨by kernel_rfl, fun _ => by go_simp⟩) ?_
  refine wpAny_take (i := 6) (v := .int .i64 P) rfl (by kernel_rfl) (by kernel_rfl) (by kernel_rfl) (fun _ _ _ h => h) (Or.inl ⟨by kernel_rfl, fun _ => by go_simp⟩) ?_
  refine wpAny_take (i := 7) (v := .string t) rfl (by kernel_rfl) (by kernel_rfl) (by kernel_rfl) (fun _ _ _ h => h) (Or.inl ⟨by kernel_rfl, fun _ => by go_simp⟩) ?_
  refine wpAny_take (i := 8) (v := .int .i64 t.size) rfl (by kernel_rfl) (by kernel_rfl) (by kernel_rfl) (fun _ _ _ h => h) (Or.inl ⟨by kernel_rfl, fun _ => by go_simp⟩) ?_
  refine wpAny_take (i := 9) (v := .bool false) rfl (by kernel_rfl) (by kernel_rfl) (by kernel_rfl) (fun _ _ _ h => h) (Or.inl ⟨by kernel_rfl, fun _ => by go_simp⟩) ?_
  refine wpAny_take (i := 10) (v := .bool false) rfl (by kernel_rfl) (by kernel_rfl) (by kernel_rfl) (fun _ _ _ h => h) (Or.inl ⟨by kernel_rfl, fun _ => by go_simp⟩) ?_
  refine wpAny_take (i := 11) (v := .bool false) rfl (by kernel_rfl) (by kernel_rfl) (by kernel_rfl) (fun _ _ _ h => h) (Or.inl ⟨by kernel_rfl, fun _ => by go_simp⟩) ?_
  refine wpAny_take (i := 12) (v := .int .u64 N) rfl (by kernel_rfl) (by kernel_rfl) (by kernel_rfl) (fun _ _ _ h => h) (Or.inl ⟨by kernel_rfl, fun _ => by go_simp⟩) ?_
  refine wpAny_take (i := 14) (v := .string t) rfl (by kernel_rfl) (by kernel_rfl) (by kernel_rfl) (fun _ _ _ h => h) (Or.inl ⟨by kernel_rfl, fun _ => by go_simp⟩) ?_
  refine wpAny_take (i := 15) (v := .int .i64 P) rfl (by kernel_rfl) (by kernel_rfl) (by kernel_rfl) (fun _ _ _ h => h) (Or.inl ⟨by kernel_rfl, fun _ => by go_simp⟩) ?_
  refine wpAny_take (i := 16) (v := .string (t.extract 0 P)) rfl (by kernel_rfl) (by kernel_rfl) (by kernel_rfl) (fun _ _ _ h => h) (Or.inl ⟨by kernel_rfl, fun _ => by go_simp⟩) ?_
  refine wpAny_ready (rs := [13]) (by kernel_rfl) (by simp) ?_
  refine AllReady.cons rfl (fun K hK => ?_) AllReady.nil
  go_simp
  refine (put_is _ rfl hN HP.out).mono ?_
  rintro e w3 ⟨rfl, hb3⟩
  go_wp2_with fail
  refine wpAny_take (i := 17) (v := .bool false) rfl (by kernel_rfl) (by kernel_rfl) (by kernel_rfl) (fun _ _ _ h => h) (Or.inl ⟨by kernel_rfl, fun _ => by go_simp⟩) ?_
  refine wpAny_take (i := 18) (v := .bool false) rfl (by kernel_rfl) (by kernel_rfl) (by kernel_rfl) (fun _ _ _ h => h) (Or.inl ⟨by kernel_rfl, fun _ => by go_simp⟩) ?_
  refine wpAny_take (i := 19) (v := .bool false) rfl (by kernel_rfl) (by kernel_rfl) (by kernel_rfl) (fun _ _ _ h => h) (Or.inl ⟨by kernel_rfl, fun _ => by go_simp⟩) ?_
  refine wpAny_take (i := 20) (v := .bool false) rfl (by kernel_rfl) (by kernel_rfl) (by kernel_rfl) (fun _ _ _ h => h) (Or.inl ⟨by kernel_rfl, fun _ => by go_simp⟩) ?_
  refine wpAny_take (i := 21) (v := .int .i64 0) rfl (by kernel_rfl) (by kernel_rfl) (by kernel_rfl) (fun _ _ _ h => h) (Or.inl ⟨by kernel_rfl, fun _ => by go_simp⟩) ?_
  refine wpAny_take (i := 22) (v := .bool false) rfl (by kernel_rfl) (by kernel_rfl) (by kernel_rfl) (fun _ _ _ h => h) (Or.inl ⟨by kernel_rfl, fun _ => by go_simp⟩) ?_
  refine wpAny_take (i := 23) (v := .bool false) rfl (by kernel_rfl) (by kernel_rfl) (by kernel_rfl) (fun _ _ _ h => h) (Or.inl ⟨by kernel_rfl, fun _ => by go_simp⟩) ?_
  refine wpAny_take (i := 24) (v := undef) rfl (by kernel_rfl) (by kernel_rfl) (by kernel_rfl) (fun _ _ _ h => h) (Or.inr ⟨by kernel_rfl, rfl⟩) ?_
  refine wpAny_take (i := 25) (v := undef) rfl (by kernel_rfl) (by kernel_rfl) (by kernel_rfl) (fun _ _ _ h => h) (Or.inr ⟨by kernel_rfl, rfl⟩) ?_
  refine wpAny_take (i := 26) (v := undef) rfl (by kernel_rfl) (by kernel_rfl) (by kernel_rfl) (fun _ _ _ h => h) (Or.inr ⟨by kernel_rfl, rfl⟩) ?_
  refine wpAny_take (i := 27) (v := undef) rfl (by kernel_rfl) (by kernel_rfl) (by kernel_rfl) (fun _ _ _ h => h) (Or.inr ⟨by kernel_rfl, rfl⟩) ?_
  refine wpAny_take (i := 28) (v := undef) rfl (by kernel_rfl) (by kernel_rfl) (by kernel_rfl) (fun _ _ _ h => h) (Or.inr ⟨by kernel_rfl, rfl⟩) ?_
  refine wpAny_take (i := 29) (v := undef) rfl (by kernel_rfl) (by kernel_rfl) (by kernel_rfl) (fun _ _ _ h => h) (Or.inr ⟨by kernel_rfl, rfl⟩) ?_
  refine wpAny_take (i := 30) (v := .bool false) rfl (by kernel_rfl) (by kernel_rfl) (by kernel_rfl) (fun _ _ _ h => h) (Or.inl ⟨by kernel_rfl, fun _ => by go_simp⟩) ?_
  refine wpAny_take (i := 31) (v := .bool false) rfl (by kernel_rfl) (by kernel_rfl) (by kernel_rfl) (fun _ _ _ h => h) (Or.inl ⟨by kernel_rfl, fun _ => by go_simp⟩) ?_
  refine wpAny_done (by kernel_rfl) ?_ _
  go_simp
  have hb4 := hb.drew.trans (hb3.mono hb.size)
  clear hb hb3
  go_wp2_with fail
  refine (fixed_any _).mono ?_
  rintro e w4 ⟨rfl, hb5⟩
  have hb := hb4.trans (hb5.mono hb4.size)
  clear hb4 hb5
  go_wp2
  go_ret
  exact ⟨rfl, hb⟩

set_option maxHeartbeats 1000000 in
set_option maxRecDepth 100000 in
theorem t_err (n c k N P E : Nat) (s t A : ByteArray) (HA : Hid (putS n = A)) (hn : (n : Int) ≤ 18446744073709551615) (ha1 : (1 : Int) ≤ A.size) (ha2 : (A.size : Int) ≤ 10) (hc : (c : Int) ≤ 255) (hk : (c : Int) % (A.size : Int) = (k : Int)) (hk2 : (k : Int) ≤ A.size) (HG0 : Hid (getA (A.extract 0 k).data.toList 0 = (0, 0, 2))) (HS0 : Hid ((A.extract 0 k).size ≤ 1000000)) (hs : s.size ≤ maxLen) (hbig : ¬ s.size ≤ 100) (hsl : s.extract 0 100 = t) (ht : t.size ≤ 100) (HG : Hid (getA t.data.toList 0 = (N, P, E))) (hE : ((E : Int) == 0) = false) (hE2 : ((E : Int) != 0) = true) (hN : N = 0) (hP : P = 0) (w : World) :
    Calls Try.prog 7 #[.int .u64 n, .int .u8 c, .string s] w fun e w' => e = .returned (.bool true) ∧ Below w.heap.size w w' := by
  unfold maxLen at hs
  have hmin : min (s.size : Int) 100 = 100 := by omega
  have h100 : (100 : Int) ≤ s.size := by omega
  have q0 : decide ((A.size : Int) < 1) = false := by simp; omega
  have q1 : ((A.size : Int) == 0) = false := beq_eq_false_iff_ne.2 (by omega)
  subst hN hP
  have HSZ := Lib.hid (show t.size ≤ 1000000 from by omega)
  go_enter Try.func7, Try.ntmps7
  go_wp2_with fail
  refine (put_is _ rfl hn HA.out).mono ?_
  rintro e w1 ⟨rfl, hb1⟩
  go_wp2_with fail
  refine (get_is (x := 0) (y := 0) (z := 2) _ HS0.out HG0.out rfl rfl rfl).mono ?_
  rintro e w' ⟨rfl, rfl⟩
  go_wp2_with fail
  refine (get_is _ HSZ.out HG.out rfl rfl rfl).mono ?_
  rintro e w' ⟨rfl, rfl⟩
  go_wp2_with fail
  have hb := hb1
  clear hb1
  go_quiet (fail)
  go_wp2_with fail
  refine (fixed_any _).mono ?_
  rintro e w4 ⟨rfl, hb5⟩
  have hb4 : Below w.heap.size w (w1.drewN nq) := hb.trans ⟨rfl, rfl, rfl, Nat.le_refl _, fun _ _ => rfl⟩
  have hb6 := hb4.trans (hb5.mono hb4.size)
  clear hb hb4 hb5
  go_wp2
  go_ret
  exact ⟨rfl, hb6⟩

theorem walkN (n c : Nat) (s : ByteArray) (hn : (n : Int) ≤ 18446744073709551615) (hc : (c : Int) ≤ 255) (hs : s.size ≤ maxLen) (w : World) :
    Calls Try.prog 7 #[.int .u64 n, .int .u8 c, .string s] w fun e w' => e = .returned (.bool true) ∧ Below w.heap.size w w' := by
  obtain ⟨A, hA⟩ : ∃ A, putS n = A := ⟨_, rfl⟩
  have hsz : A.size = (put n).length := by rw [← hA]; show (put n).toArray.size = _; simp
  have ha1 := put_length_pos n
  have ha2 := put_le n hn
  have hk : (c : Int) % (A.size : Int) = ((c % A.size : Nat) : Int) := (Int.natCast_emod c A.size).symm
  have hk2 : c % A.size < A.size := Nat.mod_lt c (by omega)
  generalize c % A.size = k at hk hk2
  have hx : (A.extract 0 k).data.toList = (put n).take k := by rw [← hA]; simp [putS]
  have HG0 := Lib.hid (getA_cut n k (by omega) (by omega))
  rw [← hx] at HG0
  have HS0 := Lib.hid (show (A.extract 0 k).size ≤ 1000000 from by simp only [ByteArray.size_extract]; omega)
  obtain ⟨t, ht1, ht2, ht3⟩ : ∃ t : ByteArray, t.size ≤ 100 ∧ (s.size ≤ 100 → t = s) ∧ (¬ s.size ≤ 100 → s.extract 0 100 = t) := by
    by_cases h : s.size ≤ 100
    · exact ⟨s, h, fun _ => rfl, fun h' => absurd h h'⟩
    · exact ⟨s.extract 0 100, by simp only [ByteArray.size_extract]; omega, fun h' => absurd h' h, fun _ => rfl⟩
  obtain ⟨N, P, E, g⟩ : ∃ N P E, getA t.data.toList 0 = (N, P, E) := ⟨_, _, _, rfl⟩
  have hl : t.data.toList.length = t.size := by simp
  by_cases hE : E = 0
  · subst hE
    have hN := (getA_bounds t 0 g).1
    obtain ⟨p1, p2, p3⟩ := getA_zero_ok _ N P g
    rw [hl] at p2
    have HP : Hid (putS N = t.extract 0 P) := by
      refine Lib.hid ?_
      apply ByteArray.ext
      apply Array.ext'
      rw [putS, p3]; simp
    by_cases h : s.size ≤ 100
    · obtain rfl := ht2 h
      exact s_ok n c k N P t A (Lib.hid hA) hn (by omega) (by omega) hc hk (by omega) HG0 HS0 h (Lib.hid g) hN (by omega) (by omega) HP w
    · exact t_ok n c k N P s t A (Lib.hid hA) hn (by omega) (by omega) hc hk (by omega) HG0 HS0 hs h (ht3 h) ht1 (Lib.hid g) hN (by omega) (by omega) HP w
  · obtain ⟨hN, hP⟩ := getA_zero_err _ N P E g hE
    by_cases h : s.size ≤ 100
    · obtain rfl := ht2 h
      exact s_err n c k N P E t A (Lib.hid hA) hn (by omega) (by omega) hc hk (by omega) HG0 HS0 h (Lib.hid g) (beq_eq_false_iff_ne.2 (by omega)) (by simpa using hE) hN hP w
    · exact t_err n c k N P E s t A (Lib.hid hA) hn (by omega) (by omega) hc hk (by omega) HG0 HS0 hs h (ht3 h) ht1 (Lib.hid g) (beq_eq_false_iff_ne.2 (by omega)) (by simpa using hE) hN hP w

set_option maxHeartbeats 2000000 in
theorem walk (a0 : Int) (a1 : Int) (a2 : ByteArray) (w0 : (Lit.int .u64 a0).wf = true) (w1 : (Lit.int .u8 a1).wf = true) (w2 : a2.size ≤ maxLen) (w : World) :
    Calls Try.prog 7 #[.int .u64 a0, .int .u8 a1, .string a2] w fun e w' => e = .returned (.bool true) ∧ Below w.heap.size w w' := by
  obtain ⟨b1, b2⟩ := bounds_u64 w0
  obtain ⟨b3, b4⟩ := bounds_u8 w1
  obtain ⟨n, rfl⟩ := Int.eq_ofNat_of_zero_le b1
  obtain ⟨c, rfl⟩ := Int.eq_ofNat_of_zero_le b3
  exact walkN n c a2 b2 b4 w2 w

set_option maxRecDepth 100000 in
theorem lifted (os : Os) (started : os.Started) (H : Type) (enc : TypeId × Value → H) :
    ReturnsInHanded {} Try.checked os 7 .any (Rows.vintShortSpec.pre6 enc Try.prog Try.f7 Rows.vintShortRow.domain false) (Rows.vintShortSpec.post enc Try.prog Try.f7 false true false false) := by
  refine returnsInHanded_of_change (C := Try.checked) own started (by kernel_rfl) Try.func7
    (ChangeSpec.witness6 (enc := enc) (C := Try.checked) false ⟨#[], #[.int .u64 0, .int .u8 0, .string ByteArray.empty], []⟩ 8 (by kernel_rfl) (by kernel_rfl) (by kernel_rfl) (by kernel_rfl)) ?_
  intro W base args ds gs before hval0 hW hcnd _
  have hval : ∀ (j : Nat) t v, Try.f7.params[j]? = some t → args[j]? = some v → Value.okWide Try.prog W .any base t v := hval0
  have hW' := hW
  obtain ⟨p, q, hA0, hV, rfl, hfz, hnd⟩ := hW
  have hA : DataW.TrodAll enc Try.prog W 0 (fun _ => true) true Try.f7.params.toList args.toList ds p := hA0
  rw [Try.params7] at hA hval
  obtain ⟨v0, vs0, d0, ds0, p0, q0, hargs, rfl, rfl, h0, r0⟩ := trodAll_cons hA
  obtain ⟨v1, vs1, d1, ds1, p1, q1, rfl, rfl, rfl, h1, r1⟩ := trodAll_cons r0
  obtain ⟨v2, vs2, d2, ds2, p2, q2, rfl, rfl, rfl, h2, r2⟩ := trodAll_cons r1
  obtain ⟨rfl, rfl, rfl⟩ := trodAll_nil r2
  obtain rfl : args = #[v0, v1, v2] := by cases args; simp_all
  obtain ⟨rfl, rfl⟩ := trodVars_none hV
  obtain ⟨a0, rfl, rfl, rfl, w0⟩ := open_int Try.underlying22 (hval 0 22 v0 rfl rfl) h0
  obtain ⟨a1, rfl, rfl, rfl, w1⟩ := open_int Try.underlying5 (hval 1 5 v1 rfl rfl) h1
  obtain ⟨a2, rfl, rfl, rfl, w2⟩ := open_string Try.underlying9 (hval 2 9 v2 rfl rfl) h2
  clear hA0 hval0
  refine (walk a0 a1 a2 w0 w1 w2 W).mono fun e W' ⟨he, hg⟩ => ?_
  subst he
  exact ⟨_, rfl, _, _, _, [], _, [], hW', trodAll_mk1 (shut_bool Try.underlying4 _), (trodAll_cons_mk (shut_int Try.underlying22 w0) (trodAll_cons_mk (shut_int Try.underlying5 w1) (trodAll_cons_mk (shut_string Try.underlying9 w2) trodAll_mk0))), rfl, hg.frame _, fun h => by cases h⟩

theorem over : Rows.vintShortRow.holds Try.pinned (OpenSpec.ofChange Rows.vintShortSpec) :=
  OpenClaim.holds_of_wide 7 Try.f7 rfl rfl rfl rfl rfl rfl rfl ⟨rfl, rfl, rfl, rfl, rfl⟩ rfl rfl rfl rfl rfl (by kernel_rfl) Try.func7 (by kernel_rfl)
    (of_decide_eq_true (by kernel_rfl)) (by unfold Func.isWrapper; first | (rw [if_pos (by decide +kernel)]; kernel_rfl) | (rw [if_neg (by decide +kernel)]; exact ⟨rfl, rfl⟩))
    (fun os started H enc _ => lifted os started H enc)

theorem proved : Rows.VintShortSaid :=
  over
#print axioms proved
end Go.Proofs.Ytpgfgfbhbncabaa.vintShort
