/- The program's pieces: what is handed out, one piece after another. -/
import Derived.Test.YtjcgckhheegonaaFragPw
import Derived.Test.YtjcgckhheegonaaRowC
import Derived.RangeFuncNested
import Derived.RangeFuncBound
import Derived.RangeFuncCalls
import Derived.RangeFuncLeaves
import Derived.RangeFuncBox
import Derived.Shelf.Abstract
import Derived.Shelf.RegionOpen
import Derived.WalkKit
import Derived.OwnWalkIn
import Derived.TacticsInMore
import Derived.LoopNIn
import Derived.LoopIn
namespace Go.Proofs.Ytjcgckhheegonaa
open Go.RowKit Go.Shelf
attribute [local go_sem] Oper.semAt_some
set_option linter.unusedVariables false
set_option linter.unusedSimpArgs false
set_option maxRecDepth 20000

set_option maxHeartbeats 1000000 in
theorem pieces_k (v : Value) (a : Option Addr) (n cap : Nat) (hv : v = .slice a n cap) (k : Int) (w : World) :
    Calls Try.prog 34 #[v, .int .i64 k] w fun e w' => e = .returned (.func (.func 40) #[] #[.pointer (some ⟨w.heap.size, 0, none⟩), .pointer (some ⟨w.heap.size + 1, 0, none⟩)]) ∧ w' = (w.alloc (.cells #[v] 50)).alloc (.cells #[.int .i64 k] 3) := by
  subst hv
  have hmf : ∀ fn first cap (w : World), (Instr.makeFunc fn first cap).run Try.prog w = .ok (.func fn first cap) w := fun _ _ _ _ => rfl
  go_enter Try.func34, Try.ntmps34
  go_wp2
  go_ret
  exact ⟨rfl, rfl⟩
/-- What a round keeps: what lay below, and the two boxes that the pieces are read off. -/
structure Kp2 (n₀ Bs Bk : Nat) (W W' : World) : Prop where
  low : Below n₀ W W'
  one : W'.heap[Bs]? = W.heap[Bs]?
  two : W'.heap[Bk]? = W.heap[Bk]?
theorem Kp2.refl (n₀ Bs Bk : Nat) (W : World) : Kp2 n₀ Bs Bk W W := ⟨Below.refl _ _, rfl, rfl⟩
theorem Kp2.trans {n₀ Bs Bk : Nat} {A B C : World} (h : Kp2 n₀ Bs Bk A B) (k : Kp2 n₀ Bs Bk B C) : Kp2 n₀ Bs Bk A C := ⟨h.low.trans k.low, k.one.trans h.one, k.two.trans h.two⟩
theorem Kp2.cell1 {n₀ Bs Bk : Nat} {W W' : World} (h : Kp2 n₀ Bs Bk W W') : W'.cell? ⟨Bs, 0, none⟩ = W.cell? ⟨Bs, 0, none⟩ := by simp [World.cell?, h.one]
theorem Kp2.cell2 {n₀ Bs Bk : Nat} {W W' : World} (h : Kp2 n₀ Bs Bk W W') : W'.cell? ⟨Bk, 0, none⟩ = W.cell? ⟨Bk, 0, none⟩ := by simp [World.cell?, h.two]
/-- The pieces ahead of the i-th one. -/
def upF (m i : Nat) : List (Fin m) := (List.finRange m).take i
theorem upF_succ {m i : Nat} (h : i < m) : upF m (i + 1) = upF m i ++ [⟨i, h⟩] := by
  unfold upF
  rw [List.take_succ_eq_append_getElem (by simpa using h)]
  simp
theorem upF_len {m i : Nat} (h : i ≤ m) : (upF m i).length = i := by simp [upF]; omega
theorem upF_all (m : Nat) : upF m m = List.finRange m := by unfold upF; rw [List.take_of_length_le (by simp)]
/-- The i-th piece of n bytes at block b, of k bytes each but the last one. -/
def pcV (b k n i : Nat) : Value := .slice (some ⟨b, i * k, none⟩) (min n (i * k + k) - i * k) (min n (i * k + k) - i * k)
set_option maxRecDepth 100000 in
set_option maxHeartbeats 2000000 in
theorem pieces1_in (F : Fence) (d : Nat) (h1 : F.fn 40) (hro : F.round = none) (hd : 1 ≤ d) (l Bs Bk n₀ b n cap k m : Nat) (hm : Hid (∀ i, i < m ↔ i * k < n)) (hk : Hid (1 ≤ k ∧ k ≤ 1000 ∧ n ≤ 4096 ∧ n ≤ cap)) (J Jx : List (Fin m) → World → Prop)
    (hY : ∀ pre x W, J pre W → pre.length < m → YieldAt F (d - 1) Try.prog l #[pcV b k n x.1] W fun e W' =>
      (e = .returned (.bool true) ∧ J (pre ++ [x]) W' ∧ Kp2 n₀ Bs Bk W W') ∨ (e = .returned (.bool false) ∧ Jx (pre ++ [x]) W'))
    (W : World) (hBs : W.cell? ⟨Bs, 0, none⟩ = some (.slice (some ⟨b, 0, none⟩) n cap)) (hBk : W.cell? ⟨Bk, 0, none⟩ = some (.int .i64 k)) (h0 : J [] W) :
    CallsIn F d Try.prog 40 #[.func (.yield l) #[] #[], .pointer (some ⟨Bs, 0, none⟩), .pointer (some ⟨Bk, 0, none⟩)] W fun e W' => (∃ v, e = .returned v) ∧
      ((∃ ys, ys = List.finRange m ∧ J ys W') ∨ (∃ pre, (∃ i, i ≤ m ∧ pre = upF m i) ∧ Jx pre W')) := by
  have HS := Lib.hid hBs
  have HK := Lib.hid hBk
  clear hBs hBk
  refine callsIn_of_wp Try.func40 rfl h1 ?_ hro
  simp only [Try.ntmps40, List.size_toArray, List.length_cons, List.length_nil, Nat.reduceAdd, Nat.reduceSub, Array.replicate_succ, Array.replicate_zero, List.push_toArray, List.append_toArray, List.nil_append, List.cons_append]
  gi_wp2
  gi_loopw [4] (fun fr wr => ∃ i p : Nat, i ≤ m ∧ fr = .int .i64 p ∧ Hid (p = i * k) ∧ Hid (J (upF m i) wr) ∧ Hid (Kp2 n₀ Bs Bk W wr))
    (fun fr _ => n - (intOf fr).toNat)
  case atStart => exact ⟨0, 0, Nat.zero_le _, rfl, Lib.hid (by simp), Lib.hid h0, Lib.hid (Kp2.refl _ _ _ _)⟩
  case round =>
    obtain ⟨i, p, hi, rfl, HP, HJ, HB⟩ := hrel
    have cs := HB.out.cell1.trans HS.out
    have ck := HB.out.cell2.trans HK.out
    have hn4 : (n : Int) ≤ 4096 := by have := hk.out; omega
    by_cases hlt : i < m
    · have h2 := (hm.out i).1 hlt
      rw [← HP.out] at h2
      have e1 : decide (p < n) = true := by simpa using h2
      have h2' : (p : Int) < (n : Int) := by omega
      obtain ⟨q, hq⟩ : ∃ q, min n (p + k) = q := ⟨_, rfl⟩
      have n0 : min ((p : Int) + (k : Int)) (n : Int) = (q : Int) := by omega
      have n1 : (if (n : Int) < (p : Int) + (k : Int) then (n : Int) else (p : Int) + (k : Int)) = (q : Int) := by split <;> omega
      have hq1 : (p : Int) < q := by have := hk.out; omega
      have hq3 : p < q := by have := hk.out; omega
      have hq2 : (q : Int) ≤ cap := by have := hk.out; omega
      have hk2 : (k : Int) ≤ 1000 := by have := hk.out; omega
      have HV : Hid (pcV b k n i = .slice (some ⟨b, p, none⟩) (q - p) (q - p)) := Lib.hid (by unfold pcV; rw [← HP.out, hq])
      have HI := Lib.hid hlt
      have HH := Lib.hid h2
      obtain ⟨fn, tmps, assign, body, hy, hR⟩ := hY _ ⟨i, hlt⟩ wr HJ.out (by rw [upF_len hi]; exact hlt)
      dsimp only at hy
      rw [HV.out] at hy
      clear hq h2 hi hY
      have HQ3 := Lib.hid hq3
      gi_wp2
      refine hR.mono ?_
      rintro e W3 (⟨rfl, hJ3, hk3⟩ | ⟨rfl, hJx3⟩)
      · have ck3 := hk3.cell2.trans ck
        have HJ3 := Lib.hid hJ3
        have HB3 := Lib.hid (HB.out.trans hk3)
        clear hJ3 hk3
        gi_wp2
        go_roundw
        case rel => exact ⟨i + 1, p + k, by have := HI.out; omega, by go_num, Lib.hid (by rw [HP.out, Nat.add_mul, Nat.one_mul]), Lib.hid (by rw [upF_succ HI.out]; exact HJ3.out), HB3⟩
        case measure => have := HH.out; have := hk.out; simp [intOf]; omega
      · gi_wp2
        refine bodyPost_ret (results_none rfl _ _ _) rfl ?_
        exact ⟨⟨_, rfl⟩, .inr ⟨_, ⟨i + 1, by have := HI.out; omega, (upF_succ HI.out).symm⟩, hJx3⟩⟩
    · obtain rfl : i = m := by omega
      have h2 : ¬ p < n := by rw [HP.out]; exact fun h => hlt ((hm.out i).2 h)
      have e1 : decide (p < n) = false := by simpa using h2
      clear hlt h2 hi hY
      gi_wp2
      go_end0
      exact ⟨⟨_, rfl⟩, .inl ⟨_, upF_all i, HJ.out⟩⟩
theorem pieces_stops (F : Fence) (d : Nat) (h1 : F.fn 40) (hro : F.round = none) (hd : 1 ≤ d) (Bs Bk n₀ b n cap k m : Nat) (hm : Hid (∀ i, i < m ↔ i * k < n)) (hk : Hid (1 ≤ k ∧ k ≤ 1000 ∧ n ≤ 4096 ∧ n ≤ cap)) (w : World) (hs0 : Bs < w.heap.size) (hk0 : Bk < w.heap.size)
    (hBs : w.cell? ⟨Bs, 0, none⟩ = some (.slice (some ⟨b, 0, none⟩) n cap)) (hBk : w.cell? ⟨Bk, 0, none⟩ = some (.int .i64 k)) :
    SeqStopsK F d Try.prog 40 #[.pointer (some ⟨Bs, 0, none⟩), .pointer (some ⟨Bk, 0, none⟩)] (fun x : Fin m => #[pcV b k n x.1]) (Kp2 n₀ Bs Bk) (fun ys => ys = List.finRange m) (fun pre => ∃ i, i ≤ m ∧ pre = upF m i) m w := fun l J Jx W hW _ _ hY h0 =>
  pieces1_in F d h1 hro hd l Bs Bk n₀ b n cap k m hm hk J Jx hY W ((hW.cell (p := ⟨Bs, 0, none⟩) hs0).trans hBs) ((hW.cell (p := ⟨Bk, 0, none⟩) hk0).trans hBk) h0
end Go.Proofs.Ytjcgckhheegonaa
