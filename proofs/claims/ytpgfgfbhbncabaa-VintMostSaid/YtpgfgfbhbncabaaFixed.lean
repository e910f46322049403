/- The calls whose answers the document fixes: they are as it says, and nothing that was there turns. No conditions. -/
import Derived.Test.YtpgfgfbhbncabaaWalksD
namespace Go.Proofs.Ytpgfgfbhbncabaa
open Go.RowKit
set_option linter.unusedVariables false

theorem get_c {l : Array UInt8} {a : Int} {x y z : Int} {N P E : Nat} (w : World) (hs : l.size ≤ 100) (h : getA l.toList a = (N, P, E)) (hx : (N : Int) = x) (hy : (P : Int) = y) (hz : (E : Int) = z) :
    Calls Try.prog 11 #[.string ⟨l⟩, .int .i64 a] w fun e w' => e = .returned (.tuple #[.int .u64 x, .int .i64 y, .int .i64 z]) ∧ w = w' := by
  subst hx hy hz
  exact get_at w (by unfold maxLen; show l.size ≤ _; omega) h

theorem get_is {s : ByteArray} {a : Int} {x y z : Int} {N P E : Nat} (w : World) (hs : s.size ≤ 1000000) (h : getA s.data.toList a = (N, P, E)) (hx : (N : Int) = x) (hy : (P : Int) = y) (hz : (E : Int) = z) :
    Calls Try.prog 11 #[.string s, .int .i64 a] w fun e w' => e = .returned (.tuple #[.int .u64 x, .int .i64 y, .int .i64 z]) ∧ w = w' := by
  subst hx hy hz
  exact get_at w (by unfold maxLen; omega) h

theorem text_c {l : Array UInt8} {a m : Int} {r : Array UInt8} {y z : Int} {x : List UInt8} {P E : Nat} (w : World) (hs : l.size ≤ 100) (hm : 0 ≤ m ∧ m ≤ 100) (h : textA l.toList a m = (x, P, E)) (hx : x.toArray = r) (hy : (P : Int) = y) (hz : (E : Int) = z) :
    Calls Try.prog 16 #[.string ⟨l⟩, .int .i64 a, .int .i64 m] w fun e w' => e = .returned (.tuple #[.string ⟨r⟩, .int .i64 y, .int .i64 z]) ∧ Below w.heap.size w w' := by
  subst hx hy hz
  exact (text_any ⟨l⟩ a m w (by show l.size ≤ _; omega) (by omega) (by omega)).mono fun e w' ⟨he, hw⟩ => ⟨by rw [he]; simp [tS, tP, tE, h], hw⟩

theorem put_c {n : Nat} {x : Int} {r : Array UInt8} (w : World) (hn : n ≤ 1000) (hx : (n : Int) = x) (h : (put n).toArray = r) :
    Calls Try.prog 13 #[.int .u64 x] w fun e w' => e = .returned (.string ⟨r⟩) ∧ Below w.heap.size w w' := by
  subst hx h
  exact put_any n w (by omega)

theorem put_is {n : Nat} {x : Int} {X : ByteArray} (w : World) (hx : (n : Int) = x) (hn : (n : Int) ≤ 18446744073709551615) (h : putS n = X) :
    Calls Try.prog 13 #[.int .u64 x] w fun e w' => e = .returned (.string X) ∧ Below w.heap.size w w' := by
  subst hx h
  exact put_any n w hn

theorem put_0 : (put 0).toArray = #[0] := by simp [put, hi_zero]
theorem put_127 : (put 127).toArray = #[127] := by simp [put, hi_zero]
theorem put_128 : (put 128).toArray = #[129, 0] := by simp [put, hi_zero, hi_step 1]
theorem put_300 : (put 300).toArray = #[130, 44] := by simp [put, hi_zero, hi_step 2]
theorem ptS_ab : ptS ⟨#[97, 98]⟩ = ⟨#[2, 97, 98]⟩ := by
  have : putS 2 = ⟨#[2]⟩ := by simp [putS, put, hi_zero]
  show putS 2 ++ _ = _
  rw [this]; rfl
theorem ptxt_c (w : World) : Calls Try.prog 18 #[.string ⟨#[97, 98]⟩] w fun e w' => e = .returned (.string ⟨#[2, 97, 98]⟩) ∧ Below w.heap.size w w' := by
  have := putText_any ⟨#[97, 98]⟩ w (by decide)
  rwa [ptS_ab] at this

set_option maxHeartbeats 2000000 in
set_option maxRecDepth 100000 in
theorem fixed_any (w : World) : Calls Try.prog 15 #[] w fun e w' => e = .returned (.bool true) ∧ Below w.heap.size w w' := by
  go_enter Try.func15, Try.ntmps15
  go_wp2_with fail
  refine (get_c (x := 300) (y := 3) (z := 0) _ (by decide) (by rfl) rfl rfl rfl).mono ?_
  rintro e w' ⟨rfl, rfl⟩
  go_wp2_with fail
  refine (get_c (x := 0) (y := 0) (z := 3) _ (by decide) (by rfl) rfl rfl rfl).mono ?_
  rintro e w' ⟨rfl, rfl⟩
  go_wp2_with fail
  refine (get_c (x := 0) (y := 0) (z := 3) _ (by decide) (by rfl) rfl rfl rfl).mono ?_
  rintro e w' ⟨rfl, rfl⟩
  go_wp2_with fail
  refine (get_c (x := 0) (y := 0) (z := 2) _ (by decide) (by rfl) rfl rfl rfl).mono ?_
  rintro e w' ⟨rfl, rfl⟩
  go_wp2_with fail
  refine (get_c (x := 0) (y := 0) (z := 1) _ (by decide) (by rfl) rfl rfl rfl).mono ?_
  rintro e w' ⟨rfl, rfl⟩
  go_wp2_with fail
  refine (text_c (r := #[97, 98, 99]) (y := 4) (z := 0) _ (by decide) (by decide) (by rfl) rfl rfl rfl).mono ?_
  rintro e w1 ⟨rfl, hb1⟩
  go_wp2_with fail
  refine (text_c (r := #[]) (y := 0) (z := 4) _ (by decide) (by decide) (by rfl) rfl rfl rfl).mono ?_
  rintro e w2 ⟨rfl, hb2⟩
  have hb := hb1.trans (hb2.mono hb1.size)
  clear hb1 hb2
  go_wp2_with fail
  refine (text_c (r := #[]) (y := 0) (z := 2) _ (by decide) (by decide) (by rfl) rfl rfl rfl).mono ?_
  rintro e w3 ⟨rfl, hb3⟩
  have hb4 := hb.trans (hb3.mono hb.size)
  clear hb hb3
  go_wp2_with fail
  refine (put_c (x := 127) _ (by decide) rfl put_127).mono ?_
  rintro e w4 ⟨rfl, hb5⟩
  have hb := hb4.trans (hb5.mono hb4.size)
  clear hb4 hb5
  go_wp2_with fail
  refine (put_c (x := 128) _ (by decide) rfl put_128).mono ?_
  rintro e w5 ⟨rfl, hb5⟩
  have hb4 := hb.trans (hb5.mono hb.size)
  clear hb hb5
  go_wp2_with fail
  refine (put_c (x := 300) _ (by decide) rfl put_300).mono ?_
  rintro e w6 ⟨rfl, hb5⟩
  have hb := hb4.trans (hb5.mono hb4.size)
  clear hb4 hb5
  go_wp2_with fail
  refine (put_c (x := 0) _ (by decide) rfl put_0).mono ?_
  rintro e w7 ⟨rfl, hb5⟩
  have hb4 := hb.trans (hb5.mono hb.size)
  clear hb hb5
  go_wp2_with fail
  refine (ptxt_c _).mono ?_
  rintro e w8 ⟨rfl, hb5⟩
  have hb := hb4.trans (hb5.mono hb4.size)
  clear hb4 hb5
  go_wp2_with fail
  go_ret
  exact ⟨rfl, hb⟩
end Go.Proofs.Ytpgfgfbhbncabaa
