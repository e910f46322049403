/- The document's May: whether a term may be in a store of so many terms. -/
import Derived.Test.YtlnpfeecaiecaaaWalksA
import Derived.Deep.RegionHeld3
import Derived.Deep.QuietTactic
import Derived.BigQuiet
namespace Go.Proofs.Ytlnpfeecaiecaaa
open Go.RowKit
set_option linter.unusedVariables false
set_option maxRecDepth 20000

def prt (A B C : Int) (k : Nat) : Int := if k = 0 then A else if k = 1 then B else C
/-- A term's cells and its parts' row, as the call made them. -/
def Own (w : World) (K : Int) (S : ByteArray) (N A B C : Int) (wr : World) : Prop :=
  wr.heap[w.heap.size]? = some (.cells #[.int .i64 K, .string S, .int .u64 N, .int .i64 A, .int .i64 B, .int .i64 C] 74 (0, 0)) ∧
  wr.heap[w.heap.size + 1]? = some (.cells #[.int .i64 A, .int .i64 B, .int .i64 C] 3 (0, 0)) ∧ Below w.heap.size w wr
theorem Own.start (w : World) (K : Int) (S : ByteArray) (N A B C : Int) : Own w K S N A B C ((w.alloc (.cells #[.int .i64 K, .string S, .int .u64 N, .int .i64 A, .int .i64 B, .int .i64 C] 74)).alloc (.cells #[.int .i64 A, .int .i64 B, .int .i64 C] 3)).drew :=
  ⟨heap_alloc2_old w _ _, heap_alloc2_new w _ _, (((Below.refl _ _).alloc (Nat.le_refl _) _).alloc (by simp) _).drew⟩
theorem Own.drewN {w wr : World} {K : Int} {S : ByteArray} {N A B C : Int} (h : Own w K S N A B C wr) (q : Nat) : Own w K S N A B C (wr.drewN q) :=
  ⟨h.1, h.2.1, h.2.2.trans ⟨rfl, rfl, rfl, Nat.le_refl _, fun _ _ => rfl⟩⟩
theorem Own.part {w wr : World} {K : Int} {S : ByteArray} {N A B C : Int} (h : Own w K S N A B C wr) (k : Nat) (hk : k < 3) : wr.cell? ⟨w.heap.size + 1, k, none⟩ = some (.int .i64 (prt A B C k)) := by
  rw [cell_of_row wr _ k _ _ _ h.2.1]
  match k, hk with
  | 0, _ => rfl
  | 1, _ => rfl
  | 2, _ => rfl
theorem Own.field {w wr : World} {K : Int} {S : ByteArray} {N A B C : Int} (h : Own w K S N A B C wr) (k : Nat) : wr.cell? ⟨w.heap.size, k, none⟩ = #[Value.int .i64 K, .string S, .int .u64 N, .int .i64 A, .int .i64 B, .int .i64 C][k]? := cell_of_row wr _ k _ _ _ h.1
def MayPost (P : Prop) (w : World) (e : Ending) (w' : World) : Prop := ∃ b : Bool, e = .returned (.bool b) ∧ (b = true ↔ P) ∧ Below w.heap.size w w'
/-- A part that is none, or one too many. -/
def BadP (n m i : Nat) (p : Int) : Prop := (i < m ∧ (p < 1 ∨ (n : Int) < p)) ∨ (m ≤ i ∧ p ≠ 0)

set_option maxHeartbeats 1000000 in
set_option maxRecDepth 100000 in
theorem may_low (g n cap : Nat) (a : Option Addr) (K : Int) (S : ByteArray) (N A B C : Int) (w : World) (hg : w.cell? ⟨g, 0, none⟩ = some (.slice a n cap)) (hS : S.size ≤ maxLen) (h : K < 1) :
    Calls Try.prog 41 #[.pointer (some ⟨g, 0, none⟩), .agg #[.int .i64 K, .string S, .int .u64 N, .int .i64 A, .int .i64 B, .int .i64 C]] w fun e w' => e = .returned (.bool false) ∧ Below w.heap.size w w' := by
  unfold maxLen at hS
  have r1 : decide (K < 1) = true := by simp; omega
  go_enter Try.func41, Try.ntmps41
  go_wp2
  go_ret
  exact ⟨rfl, (Below.refl _ _).alloc (Nat.le_refl _) _⟩

set_option maxHeartbeats 1000000 in
set_option maxRecDepth 100000 in
theorem may_high (g n cap : Nat) (a : Option Addr) (K : Int) (S : ByteArray) (N A B C : Int) (w : World) (hg : w.cell? ⟨g, 0, none⟩ = some (.slice a n cap)) (hS : S.size ≤ maxLen) (h : 11 < K) :
    Calls Try.prog 41 #[.pointer (some ⟨g, 0, none⟩), .agg #[.int .i64 K, .string S, .int .u64 N, .int .i64 A, .int .i64 B, .int .i64 C]] w fun e w' => e = .returned (.bool false) ∧ Below w.heap.size w w' := by
  unfold maxLen at hS
  have r1 : decide (K < 1) = false := by simp; omega
  have r2 : decide ((11 : Int) < K) = true := by simp; omega
  go_enter Try.func41, Try.ntmps41
  go_wp2
  go_ret
  exact ⟨rfl, (Below.refl _ _).alloc (Nat.le_refl _) _⟩

set_option maxHeartbeats 1000000 in
set_option maxRecDepth 100000 in
theorem may_text (g n cap : Nat) (a : Option Addr) (K : Int) (S : ByteArray) (N A B C : Int) (w : World) (hg : w.cell? ⟨g, 0, none⟩ = some (.slice a n cap)) (hS : S.size ≤ maxLen) (h1 : 1 ≤ K) (h2 : K ≤ 11) (h : K ≠ 1) (hs0 : S.toList.isEmpty = false) (hs1 : (S.toList == []) = false) :
    Calls Try.prog 41 #[.pointer (some ⟨g, 0, none⟩), .agg #[.int .i64 K, .string S, .int .u64 N, .int .i64 A, .int .i64 B, .int .i64 C]] w fun e w' => e = .returned (.bool false) ∧ Below w.heap.size w w' := by
  unfold maxLen at hS
  have r1 : decide (K < 1) = false := by simp; omega
  have r2 : decide ((11 : Int) < K) = false := by simp; omega
  have ka1 : (K == 1) = false := beq_eq_false_iff_ne.2 (by omega)
  have kb1 : (K != 1) = true := by simp [bne, ka1]
  clear h
  go_enter Try.func41, Try.ntmps41
  go_wp2
  go_ret
  exact ⟨rfl, (Below.refl _ _).alloc (Nat.le_refl _) _⟩

set_option maxHeartbeats 1000000 in
set_option maxRecDepth 100000 in
theorem may_num1 (g n cap : Nat) (a : Option Addr) (K : Int) (S : ByteArray) (N A B C : Int) (w : World) (hg : w.cell? ⟨g, 0, none⟩ = some (.slice a n cap)) (hS : S.size ≤ maxLen) (hK : K = 1) (h : N ≠ 0) :
    Calls Try.prog 41 #[.pointer (some ⟨g, 0, none⟩), .agg #[.int .i64 K, .string S, .int .u64 N, .int .i64 A, .int .i64 B, .int .i64 C]] w fun e w' => e = .returned (.bool false) ∧ Below w.heap.size w w' := by
  unfold maxLen at hS
  subst hK
  have n1 : (N == 0) = false := beq_eq_false_iff_ne.2 h
  have n2 : (N != 0) = true := by simp [bne, n1]
  clear h
  go_enter Try.func41, Try.ntmps41
  go_wp2
  go_ret
  exact ⟨rfl, (Below.refl _ _).alloc (Nat.le_refl _) _⟩

set_option maxHeartbeats 1000000 in
set_option maxRecDepth 100000 in
theorem may_num2 (g n cap : Nat) (a : Option Addr) (K : Int) (S : ByteArray) (N A B C : Int) (w : World) (hg : w.cell? ⟨g, 0, none⟩ = some (.slice a n cap)) (hS : S.size ≤ maxLen) (h1 : 1 ≤ K) (h2 : K ≤ 11) (k1 : K ≠ 1) (k2 : K ≠ 2) (k9 : K ≠ 9) (k10 : K ≠ 10) (hs0 : S.toList = []) (h : N ≠ 0) :
    Calls Try.prog 41 #[.pointer (some ⟨g, 0, none⟩), .agg #[.int .i64 K, .string S, .int .u64 N, .int .i64 A, .int .i64 B, .int .i64 C]] w fun e w' => e = .returned (.bool false) ∧ Below w.heap.size w w' := by
  unfold maxLen at hS
  have r1 : decide (K < 1) = false := by simp; omega
  have r2 : decide ((11 : Int) < K) = false := by simp; omega
  have ka1 : (K == 1) = false := beq_eq_false_iff_ne.2 (by omega)
  have kb1 : (K != 1) = true := by simp [bne, ka1]
  have ka2 : (K == 2) = false := beq_eq_false_iff_ne.2 (by omega)
  have kb2 : (K != 2) = true := by simp [bne, ka2]
  have ka9 : (K == 9) = false := beq_eq_false_iff_ne.2 (by omega)
  have kb9 : (K != 9) = true := by simp [bne, ka9]
  have ka10 : (K == 10) = false := beq_eq_false_iff_ne.2 (by omega)
  have kb10 : (K != 10) = true := by simp [bne, ka10]
  have n1 : (N == 0) = false := beq_eq_false_iff_ne.2 h
  have n2 : (N != 0) = true := by simp [bne, n1]
  clear h k1 k2 k9 k10
  go_enter Try.func41, Try.ntmps41
  go_wp2
  go_ret
  exact ⟨rfl, (Below.refl _ _).alloc (Nat.le_refl _) _⟩

set_option maxHeartbeats 1000000 in
set_option maxRecDepth 100000 in
theorem may_long (g n cap : Nat) (a : Option Addr) (K : Int) (S : ByteArray) (N A B C : Int) (w : World) (hg : w.cell? ⟨g, 0, none⟩ = some (.slice a n cap)) (hS : S.size ≤ maxLen) (hK : K = 1) (h0 : N = 0) (h : 1000 < S.size) :
    Calls Try.prog 41 #[.pointer (some ⟨g, 0, none⟩), .agg #[.int .i64 K, .string S, .int .u64 N, .int .i64 A, .int .i64 B, .int .i64 C]] w fun e w' => e = .returned (.bool false) ∧ Below w.heap.size w w' := by
  unfold maxLen at hS
  subst hK
  subst h0
  have l1 : decide ((1000 : Int) < S.size) = true := by simp; omega
  go_enter Try.func41, Try.ntmps41
  go_wp2
  go_ret
  exact ⟨rfl, (Below.refl _ _).alloc (Nat.le_refl _) _⟩

set_option maxHeartbeats 4000000 in
set_option maxRecDepth 100000 in
theorem may_one (g n cap : Nat) (a : Option Addr) (K : Int) (S : ByteArray) (N A B C : Int) (w : World) (hg : w.cell? ⟨g, 0, none⟩ = some (.slice a n cap)) (hS : S.size ≤ maxLen) (hK : K = 1) (h0 : N = 0) (h : S.size ≤ 1000) :
    Calls Try.prog 41 #[.pointer (some ⟨g, 0, none⟩), .agg #[.int .i64 K, .string S, .int .u64 N, .int .i64 A, .int .i64 B, .int .i64 C]] w (MayPost ((∀ j, j < 3 → ¬ BadP n (many K) j (prt A B C j)) ∧ (K = 4 → A ≤ B)) w) := by
  unfold maxLen at hS
  subst hK
  subst h0
  have l1 : decide ((1000 : Int) < S.size) = false := by simp; omega
  have hgb := Lib.hid (block_lt_of_cell hg)
  have HG := Lib.hid hg
  clear hg
  go_enter Try.func41, Try.ntmps41
  go_wp2
  go_region_held3 (fun w' => w'.cell? ⟨w.heap.size, 0, none⟩ = some (.int .i64 1) ∧ w'.cell? ⟨w.heap.size, 3, none⟩ = some (.int .i64 A) ∧ w'.cell? ⟨w.heap.size, 4, none⟩ = some (.int .i64 B) ∧ w'.cell? ⟨w.heap.size, 5, none⟩ = some (.int .i64 C)) (go_keep) (first | (go_at_call 56; refine (many_any _ _).mono ?_; rintro e w' ⟨rfl, rfl⟩))
  all_goals
    have HO0 := Lib.hid (Own.start w 1 S 0 A B C)
    go_wp2
    go_loopw [7] (fun i wr => ∃ k : Nat, k ≤ 3 ∧ i = .int .i64 k ∧ Hid (∀ j, j < k → ¬ BadP n (many 1) j (prt A B C j)) ∧ Hid (Own w 1 S 0 A B C wr)) (fun i _ => 3 - (intOf i).toNat)
    case atStart => exact ⟨0, Nat.zero_le _, rfl, Lib.hid (fun j h => absurd h (Nat.not_lt_zero _)), HO0⟩
    case round =>
      obtain ⟨k, hk, rfl, HJ, HO⟩ := hrel
      clear HO0
      by_cases hlt0 : k < 3
      · have hlt := Lib.hid hlt0
        have hlt1 : (k : Int) < 3 := by omega
        have hk0 : (0 : Int) ≤ (k : Int) := by omega
        have hc := HO.out.part k hlt0
        have hgc : wr.cell? ⟨g, 0, none⟩ = some (.slice a n cap) := by rw [HO.out.2.2.cell hgb.out]; exact HG.out
        clear hlt0
        obtain ⟨p, hp⟩ : ∃ p, p = prt A B C k := ⟨_, rfl⟩
        rw [← hp] at hc
        by_cases hm : k < many 1
        · have t1 : decide (k < many 1) = true := by simpa using hm
          have t2 : decide (many 1 ≤ k) = false := by simp; omega
          by_cases hp1 : p < 1
          · have HBAD : Hid (BadP n (many 1) k (prt A B C k)) := Lib.hid (.inl ⟨hm, .inl (by omega)⟩)
            have t3 : decide (p < 1) = true := by simpa using hp1
            clear hm hp
            go_wp2
            go_quiet (fail)
            go_wp2
            go_ret
            exact ⟨false, rfl, ⟨fun h => by simp at h, fun h => absurd (h.1 k hlt.out) (not_not_intro HBAD.out)⟩, (HO.out.drewN _).2.2⟩
          · by_cases hp2 : (n : Int) < p
            · have HBAD : Hid (BadP n (many 1) k (prt A B C k)) := Lib.hid (.inl ⟨hm, .inr (by omega)⟩)
              have t3 : decide (p < 1) = false := by simpa using hp1
              have t4 : decide ((n : Int) < p) = true := by simpa using hp2
              clear hm hp
              go_wp2
              go_quiet (fail)
              go_wp2
              go_ret
              exact ⟨false, rfl, ⟨fun h => by simp at h, fun h => absurd (h.1 k hlt.out) (not_not_intro HBAD.out)⟩, (HO.out.drewN _).2.2⟩
            · have HOK : Hid (¬ BadP n (many 1) k (prt A B C k)) := Lib.hid (by unfold BadP; omega)
              have t3 : decide (p < 1) = false := by simpa using hp1
              have t4 : decide ((n : Int) < p) = false := by simpa using hp2
              clear hm hp
              go_wp2
              go_quiet (fail)
              go_wp2
              go_roundw
              case rel => exact ⟨k + 1, by have := hlt.out; omega, by go_num, Lib.hid (fun j hj => by rcases Nat.lt_succ_iff_lt_or_eq.1 hj with h | rfl; exact HJ.out j h; exact HOK.out), Lib.hid (HO.out.drewN _)⟩
              case measure => have := hlt.out; simp [intOf]; omega
        · have t1 : decide (k < many 1) = false := by simpa using hm
          have t2 : decide (many 1 ≤ k) = true := by simp; omega
          by_cases hp1 : p = 0
          · have HOK : Hid (¬ BadP n (many 1) k (prt A B C k)) := Lib.hid (by unfold BadP; omega)
            have t3 : (p == 0) = true := by simpa using hp1
            have t4 : (p != 0) = false := by simpa using hp1
            clear hm hp hp1
            go_wp2
            go_quiet (fail)
            go_wp2
            go_roundw
            case rel => exact ⟨k + 1, by have := hlt.out; omega, by go_num, Lib.hid (fun j hj => by rcases Nat.lt_succ_iff_lt_or_eq.1 hj with h | rfl; exact HJ.out j h; exact HOK.out), Lib.hid (HO.out.drewN _)⟩
            case measure => have := hlt.out; simp [intOf]; omega
          · have HBAD : Hid (BadP n (many 1) k (prt A B C k)) := Lib.hid (.inr ⟨by omega, by omega⟩)
            have t3 : (p == 0) = false := by simpa using hp1
            have t4 : (p != 0) = true := by simpa using hp1
            clear hm hp hp1
            go_wp2
            go_quiet (fail)
            go_wp2
            go_ret
            exact ⟨false, rfl, ⟨fun h => by simp at h, fun h => absurd (h.1 k hlt.out) (not_not_intro HBAD.out)⟩, (HO.out.drewN _).2.2⟩
      · obtain rfl : k = 3 := by omega
        have f0 := HO.out.field 0
        have f3 := HO.out.field 3
        have f4 := HO.out.field 4
        simp at f0 f3 f4
        go_wp2
        go_ret
        exact ⟨true, rfl, ⟨fun _ => ⟨HJ.out, fun h => by omega⟩, fun _ => rfl⟩, HO.out.2.2⟩

set_option maxHeartbeats 4000000 in
set_option maxRecDepth 100000 in
theorem may_two (g n cap : Nat) (a : Option Addr) (K : Int) (S : ByteArray) (N A B C : Int) (w : World) (hg : w.cell? ⟨g, 0, none⟩ = some (.slice a n cap)) (hS : S.size ≤ maxLen) (hK : K = 2) (hs0 : S.toList = []) (h : S.size ≤ 1000) :
    Calls Try.prog 41 #[.pointer (some ⟨g, 0, none⟩), .agg #[.int .i64 K, .string S, .int .u64 N, .int .i64 A, .int .i64 B, .int .i64 C]] w (MayPost ((∀ j, j < 3 → ¬ BadP n (many K) j (prt A B C j)) ∧ (K = 4 → A ≤ B)) w) := by
  unfold maxLen at hS
  subst hK
  have l1 : decide ((1000 : Int) < S.size) = false := by simp; omega
  have hgb := Lib.hid (block_lt_of_cell hg)
  have HG := Lib.hid hg
  clear hg
  go_enter Try.func41, Try.ntmps41
  go_wp2
  go_region_held3 (fun w' => w'.cell? ⟨w.heap.size, 0, none⟩ = some (.int .i64 2) ∧ w'.cell? ⟨w.heap.size, 3, none⟩ = some (.int .i64 A) ∧ w'.cell? ⟨w.heap.size, 4, none⟩ = some (.int .i64 B) ∧ w'.cell? ⟨w.heap.size, 5, none⟩ = some (.int .i64 C)) (go_keep) (first | (go_at_call 56; refine (many_any _ _).mono ?_; rintro e w' ⟨rfl, rfl⟩))
  all_goals
    have HO0 := Lib.hid (Own.start w 2 S N A B C)
    go_wp2
    go_loopw [7] (fun i wr => ∃ k : Nat, k ≤ 3 ∧ i = .int .i64 k ∧ Hid (∀ j, j < k → ¬ BadP n (many 2) j (prt A B C j)) ∧ Hid (Own w 2 S N A B C wr)) (fun i _ => 3 - (intOf i).toNat)
    case atStart => exact ⟨0, Nat.zero_le _, rfl, Lib.hid (fun j h => absurd h (Nat.not_lt_zero _)), HO0⟩
    case round =>
      obtain ⟨k, hk, rfl, HJ, HO⟩ := hrel
      clear HO0
      by_cases hlt0 : k < 3
      · have hlt := Lib.hid hlt0
        have hlt1 : (k : Int) < 3 := by omega
        have hk0 : (0 : Int) ≤ (k : Int) := by omega
        have hc := HO.out.part k hlt0
        have hgc : wr.cell? ⟨g, 0, none⟩ = some (.slice a n cap) := by rw [HO.out.2.2.cell hgb.out]; exact HG.out
        clear hlt0
        obtain ⟨p, hp⟩ : ∃ p, p = prt A B C k := ⟨_, rfl⟩
        rw [← hp] at hc
        by_cases hm : k < many 2
        · have t1 : decide (k < many 2) = true := by simpa using hm
          have t2 : decide (many 2 ≤ k) = false := by simp; omega
          by_cases hp1 : p < 1
          · have HBAD : Hid (BadP n (many 2) k (prt A B C k)) := Lib.hid (.inl ⟨hm, .inl (by omega)⟩)
            have t3 : decide (p < 1) = true := by simpa using hp1
            clear hm hp
            go_wp2
            go_quiet (fail)
            go_wp2
            go_ret
            exact ⟨false, rfl, ⟨fun h => by simp at h, fun h => absurd (h.1 k hlt.out) (not_not_intro HBAD.out)⟩, (HO.out.drewN _).2.2⟩
          · by_cases hp2 : (n : Int) < p
            · have HBAD : Hid (BadP n (many 2) k (prt A B C k)) := Lib.hid (.inl ⟨hm, .inr (by omega)⟩)
              have t3 : decide (p < 1) = false := by simpa using hp1
              have t4 : decide ((n : Int) < p) = true := by simpa using hp2
              clear hm hp
              go_wp2
              go_quiet (fail)
              go_wp2
              go_ret
              exact ⟨false, rfl, ⟨fun h => by simp at h, fun h => absurd (h.1 k hlt.out) (not_not_intro HBAD.out)⟩, (HO.out.drewN _).2.2⟩
            · have HOK : Hid (¬ BadP n (many 2) k (prt A B C k)) := Lib.hid (by unfold BadP; omega)
              have t3 : decide (p < 1) = false := by simpa using hp1
              have t4 : decide ((n : Int) < p) = false := by simpa using hp2
              clear hm hp
              go_wp2
              go_quiet (fail)
              go_wp2
              go_roundw
              case rel => exact ⟨k + 1, by have := hlt.out; omega, by go_num, Lib.hid (fun j hj => by rcases Nat.lt_succ_iff_lt_or_eq.1 hj with h | rfl; exact HJ.out j h; exact HOK.out), Lib.hid (HO.out.drewN _)⟩
              case measure => have := hlt.out; simp [intOf]; omega
        · have t1 : decide (k < many 2) = false := by simpa using hm
          have t2 : decide (many 2 ≤ k) = true := by simp; omega
          by_cases hp1 : p = 0
          · have HOK : Hid (¬ BadP n (many 2) k (prt A B C k)) := Lib.hid (by unfold BadP; omega)
            have t3 : (p == 0) = true := by simpa using hp1
            have t4 : (p != 0) = false := by simpa using hp1
            clear hm hp hp1
            go_wp2
            go_quiet (fail)
            go_wp2
            go_roundw
            case rel => exact ⟨k + 1, by have := hlt.out; omega, by go_num, Lib.hid (fun j hj => by rcases Nat.lt_succ_iff_lt_or_eq.1 hj with h | rfl; exact HJ.out j h; exact HOK.out), Lib.hid (HO.out.drewN _)⟩
            case measure => have := hlt.out; simp [intOf]; omega
          · have HBAD : Hid (BadP n (many 2) k (prt A B C k)) := Lib.hid (.inr ⟨by omega, by omega⟩)
            have t3 : (p == 0) = false := by simpa using hp1
            have t4 : (p != 0) = true := by simpa using hp1
            clear hm hp hp1
            go_wp2
            go_quiet (fail)
            go_wp2
            go_ret
            exact ⟨false, rfl, ⟨fun h => by simp at h, fun h => absurd (h.1 k hlt.out) (not_not_intro HBAD.out)⟩, (HO.out.drewN _).2.2⟩
      · obtain rfl : k = 3 := by omega
        have f0 := HO.out.field 0
        have f3 := HO.out.field 3
        have f4 := HO.out.field 4
        simp at f0 f3 f4
        go_wp2
        go_ret
        exact ⟨true, rfl, ⟨fun _ => ⟨HJ.out, fun h => by omega⟩, fun _ => rfl⟩, HO.out.2.2⟩

set_option maxHeartbeats 4000000 in
set_option maxRecDepth 100000 in
theorem may_nine (g n cap : Nat) (a : Option Addr) (K : Int) (S : ByteArray) (N A B C : Int) (w : World) (hg : w.cell? ⟨g, 0, none⟩ = some (.slice a n cap)) (hS : S.size ≤ maxLen) (hK : K = 9) (hs0 : S.toList = []) (h : S.size ≤ 1000) :
    Calls Try.prog 41 #[.pointer (some ⟨g, 0, none⟩), .agg #[.int .i64 K, .string S, .int .u64 N, .int .i64 A, .int .i64 B, .int .i64 C]] w (MayPost ((∀ j, j < 3 → ¬ BadP n (many K) j (prt A B C j)) ∧ (K = 4 → A ≤ B)) w) := by
  unfold maxLen at hS
  subst hK
  have l1 : decide ((1000 : Int) < S.size) = false := by simp; omega
  have hgb := Lib.hid (block_lt_of_cell hg)
  have HG := Lib.hid hg
  clear hg
  go_enter Try.func41, Try.ntmps41
  go_wp2
  go_region_held3 (fun w' => w'.cell? ⟨w.heap.size, 0, none⟩ = some (.int .i64 9) ∧ w'.cell? ⟨w.heap.size, 3, none⟩ = some (.int .i64 A) ∧ w'.cell? ⟨w.heap.size, 4, none⟩ = some (.int .i64 B) ∧ w'.cell? ⟨w.heap.size, 5, none⟩ = some (.int .i64 C)) (go_keep) (first | (go_at_call 56; refine (many_any _ _).mono ?_; rintro e w' ⟨rfl, rfl⟩))
  all_goals
    have HO0 := Lib.hid (Own.start w 9 S N A B C)
    go_wp2
    go_loopw [7] (fun i wr => ∃ k : Nat, k ≤ 3 ∧ i = .int .i64 k ∧ Hid (∀ j, j < k → ¬ BadP n (many 9) j (prt A B C j)) ∧ Hid (Own w 9 S N A B C wr)) (fun i _ => 3 - (intOf i).toNat)
    case atStart => exact ⟨0, Nat.zero_le _, rfl, Lib.hid (fun j h => absurd h (Nat.not_lt_zero _)), HO0⟩
    case round =>
      obtain ⟨k, hk, rfl, HJ, HO⟩ := hrel
      clear HO0
      by_cases hlt0 : k < 3
      · have hlt := Lib.hid hlt0
        have hlt1 : (k : Int) < 3 := by omega
        have hk0 : (0 : Int) ≤ (k : Int) := by omega
        have hc := HO.out.part k hlt0
        have hgc : wr.cell? ⟨g, 0, none⟩ = some (.slice a n cap) := by rw [HO.out.2.2.cell hgb.out]; exact HG.out
        clear hlt0
        obtain ⟨p, hp⟩ : ∃ p, p = prt A B C k := ⟨_, rfl⟩
        rw [← hp] at hc
        by_cases hm : k < many 9
        · have t1 : decide (k < many 9) = true := by simpa using hm
          have t2 : decide (many 9 ≤ k) = false := by simp; omega
          by_cases hp1 : p < 1
          · have HBAD : Hid (BadP n (many 9) k (prt A B C k)) := Lib.hid (.inl ⟨hm, .inl (by omega)⟩)
            have t3 : decide (p < 1) = true := by simpa using hp1
            clear hm hp
            go_wp2
            go_quiet (fail)
            go_wp2
            go_ret
            exact ⟨false, rfl, ⟨fun h => by simp at h, fun h => absurd (h.1 k hlt.out) (not_not_intro HBAD.out)⟩, (HO.out.drewN _).2.2⟩
          · by_cases hp2 : (n : Int) < p
            · have HBAD : Hid (BadP n (many 9) k (prt A B C k)) := Lib.hid (.inl ⟨hm, .inr (by omega)⟩)
              have t3 : decide (p < 1) = false := by simpa using hp1
              have t4 : decide ((n : Int) < p) = true := by simpa using hp2
              clear hm hp
              go_wp2
              go_quiet (fail)
              go_wp2
              go_ret
              exact ⟨false, rfl, ⟨fun h => by simp at h, fun h => absurd (h.1 k hlt.out) (not_not_intro HBAD.out)⟩, (HO.out.drewN _).2.2⟩
            · have HOK : Hid (¬ BadP n (many 9) k (prt A B C k)) := Lib.hid (by unfold BadP; omega)
              have t3 : decide (p < 1) = false := by simpa using hp1
              have t4 : decide ((n : Int) < p) = false := by simpa using hp2
              clear hm hp
              go_wp2
              go_quiet (fail)
              go_wp2
              go_roundw
              case rel => exact ⟨k + 1, by have := hlt.out; omega, by go_num, Lib.hid (fun j hj => by rcases Nat.lt_succ_iff_lt_or_eq.1 hj with h | rfl; exact HJ.out j h; exact HOK.out), Lib.hid (HO.out.drewN _)⟩
              case measure => have := hlt.out; simp [intOf]; omega
        · have t1 : decide (k < many 9) = false := by simpa using hm
          have t2 : decide (many 9 ≤ k) = true := by simp; omega
          by_cases hp1 : p = 0
          · have HOK : Hid (¬ BadP n (many 9) k (prt A B C k)) := Lib.hid (by unfold BadP; omega)
            have t3 : (p == 0) = true := by simpa using hp1
            have t4 : (p != 0) = false := by simpa using hp1
            clear hm hp hp1
            go_wp2
            go_quiet (fail)
            go_wp2
            go_roundw
            case rel => exact ⟨k + 1, by have := hlt.out; omega, by go_num, Lib.hid (fun j hj => by rcases Nat.lt_succ_iff_lt_or_eq.1 hj with h | rfl; exact HJ.out j h; exact HOK.out), Lib.hid (HO.out.drewN _)⟩
            case measure => have := hlt.out; simp [intOf]; omega
          · have HBAD : Hid (BadP n (many 9) k (prt A B C k)) := Lib.hid (.inr ⟨by omega, by omega⟩)
            have t3 : (p == 0) = false := by simpa using hp1
            have t4 : (p != 0) = true := by simpa using hp1
            clear hm hp hp1
            go_wp2
            go_quiet (fail)
            go_wp2
            go_ret
            exact ⟨false, rfl, ⟨fun h => by simp at h, fun h => absurd (h.1 k hlt.out) (not_not_intro HBAD.out)⟩, (HO.out.drewN _).2.2⟩
      · obtain rfl : k = 3 := by omega
        have f0 := HO.out.field 0
        have f3 := HO.out.field 3
        have f4 := HO.out.field 4
        simp at f0 f3 f4
        go_wp2
        go_ret
        exact ⟨true, rfl, ⟨fun _ => ⟨HJ.out, fun h => by omega⟩, fun _ => rfl⟩, HO.out.2.2⟩

set_option maxHeartbeats 4000000 in
set_option maxRecDepth 100000 in
theorem may_ten (g n cap : Nat) (a : Option Addr) (K : Int) (S : ByteArray) (N A B C : Int) (w : World) (hg : w.cell? ⟨g, 0, none⟩ = some (.slice a n cap)) (hS : S.size ≤ maxLen) (hK : K = 10) (hs0 : S.toList = []) (h : S.size ≤ 1000) :
    Calls Try.prog 41 #[.pointer (some ⟨g, 0, none⟩), .agg #[.int .i64 K, .string S, .int .u64 N, .int .i64 A, .int .i64 B, .int .i64 C]] w (MayPost ((∀ j, j < 3 → ¬ BadP n (many K) j (prt A B C j)) ∧ (K = 4 → A ≤ B)) w) := by
  unfold maxLen at hS
  subst hK
  have l1 : decide ((1000 : Int) < S.size) = false := by simp; omega
  have hgb := Lib.hid (block_lt_of_cell hg)
  have HG := Lib.hid hg
  clear hg
  go_enter Try.func41, Try.ntmps41
  go_wp2
  go_region_held3 (fun w' => w'.cell? ⟨w.heap.size, 0, none⟩ = some (.int .i64 10) ∧ w'.cell? ⟨w.heap.size, 3, none⟩ = some (.int .i64 A) ∧ w'.cell? ⟨w.heap.size, 4, none⟩ = some (.int .i64 B) ∧ w'.cell? ⟨w.heap.size, 5, none⟩ = some (.int .i64 C)) (go_keep) (first | (go_at_call 56; refine (many_any _ _).mono ?_; rintro e w' ⟨rfl, rfl⟩))
  all_goals
    have HO0 := Lib.hid (Own.start w 10 S N A B C)
    go_wp2
    go_loopw [7] (fun i wr => ∃ k : Nat, k ≤ 3 ∧ i = .int .i64 k ∧ Hid (∀ j, j < k → ¬ BadP n (many 10) j (prt A B C j)) ∧ Hid (Own w 10 S N A B C wr)) (fun i _ => 3 - (intOf i).toNat)
    case atStart => exact ⟨0, Nat.zero_le _, rfl, Lib.hid (fun j h => absurd h (Nat.not_lt_zero _)), HO0⟩
    case round =>
      obtain ⟨k, hk, rfl, HJ, HO⟩ := hrel
      clear HO0
      by_cases hlt0 : k < 3
      · have hlt := Lib.hid hlt0
        have hlt1 : (k : Int) < 3 := by omega
        have hk0 : (0 : Int) ≤ (k : Int) := by omega
        have hc := HO.out.part k hlt0
        have hgc : wr.cell? ⟨g, 0, none⟩ = some (.slice a n cap) := by rw [HO.out.2.2.cell hgb.out]; exact HG.out
        clear hlt0
        obtain ⟨p, hp⟩ : ∃ p, p = prt A B C k := ⟨_, rfl⟩
        rw [← hp] at hc
        by_cases hm : k < many 10
        · have t1 : decide (k < many 10) = true := by simpa using hm
          have t2 : decide (many 10 ≤ k) = false := by simp; omega
          by_cases hp1 : p < 1
          · have HBAD : Hid (BadP n (many 10) k (prt A B C k)) := Lib.hid (.inl ⟨hm, .inl (by omega)⟩)
            have t3 : decide (p < 1) = true := by simpa using hp1
            clear hm hp
            go_wp2
            go_quiet (fail)
            go_wp2
            go_ret
            exact ⟨false, rfl, ⟨fun h => by simp at h, fun h => absurd (h.1 k hlt.out) (not_not_intro HBAD.out)⟩, (HO.out.drewN _).2.2⟩
          · by_cases hp2 : (n : Int) < p
            · have HBAD : Hid (BadP n (many 10) k (prt A B C k)) := Lib.hid (.inl ⟨hm, .inr (by omega)⟩)
              have t3 : decide (p < 1) = false := by simpa using hp1
              have t4 : decide ((n : Int) < p) = true := by simpa using hp2
              clear hm hp
              go_wp2
              go_quiet (fail)
              go_wp2
              go_ret
              exact ⟨false, rfl, ⟨fun h => by simp at h, fun h => absurd (h.1 k hlt.out) (not_not_intro HBAD.out)⟩, (HO.out.drewN _).2.2⟩
            · have HOK : Hid (¬ BadP n (many 10) k (prt A B C k)) := Lib.hid (by unfold BadP; omega)
              have t3 : decide (p < 1) = false := by simpa using hp1
              have t4 : decide ((n : Int) < p) = false := by simpa using hp2
              clear hm hp
              go_wp2
              go_quiet (fail)
              go_wp2
              go_roundw
              case rel => exact ⟨k + 1, by have := hlt.out; omega, by go_num, Lib.hid (fun j hj => by rcases Nat.lt_succ_iff_lt_or_eq.1 hj with h | rfl; exact HJ.out j h; exact HOK.out), Lib.hid (HO.out.drewN _)⟩
              case measure => have := hlt.out; simp [intOf]; omega
        · have t1 : decide (k < many 10) = false := by simpa using hm
          have t2 : decide (many 10 ≤ k) = true := by simp; omega
          by_cases hp1 : p = 0
          · have HOK : Hid (¬ BadP n (many 10) k (prt A B C k)) := Lib.hid (by unfold BadP; omega)
            have t3 : (p == 0) = true := by simpa using hp1
            have t4 : (p != 0) = false := by simpa using hp1
            clear hm hp hp1
            go_wp2
            go_quiet (fail)
            go_wp2
            go_roundw
            case rel => exact ⟨k + 1, by have := hlt.out; omega, by go_num, Lib.hid (fun j hj => by rcases Nat.lt_succ_iff_lt_or_eq.1 hj with h | rfl; exact HJ.out j h; exact HOK.out), Lib.hid (HO.out.drewN _)⟩
            case measure => have := hlt.out; simp [intOf]; omega
          · have HBAD : Hid (BadP n (many 10) k (prt A B C k)) := Lib.hid (.inr ⟨by omega, by omega⟩)
            have t3 : (p == 0) = false := by simpa using hp1
            have t4 : (p != 0) = true := by simpa using hp1
            clear hm hp hp1
            go_wp2
            go_quiet (fail)
            go_wp2
            go_ret
            exact ⟨false, rfl, ⟨fun h => by simp at h, fun h => absurd (h.1 k hlt.out) (not_not_intro HBAD.out)⟩, (HO.out.drewN _).2.2⟩
      · obtain rfl : k = 3 := by omega
        have f0 := HO.out.field 0
        have f3 := HO.out.field 3
        have f4 := HO.out.field 4
        simp at f0 f3 f4
        go_wp2
        go_ret
        exact ⟨true, rfl, ⟨fun _ => ⟨HJ.out, fun h => by omega⟩, fun _ => rfl⟩, HO.out.2.2⟩

set_option maxHeartbeats 4000000 in
set_option maxRecDepth 100000 in
theorem may_other (g n cap : Nat) (a : Option Addr) (K : Int) (S : ByteArray) (N A B C : Int) (w : World) (hg : w.cell? ⟨g, 0, none⟩ = some (.slice a n cap)) (hS : S.size ≤ maxLen) (h1 : 1 ≤ K) (h2 : K ≤ 11) (k1 : K ≠ 1) (k2 : K ≠ 2) (k9 : K ≠ 9) (k10 : K ≠ 10) (hs0 : S.toList = []) (h0 : N = 0) (h : S.size ≤ 1000) :
    Calls Try.prog 41 #[.pointer (some ⟨g, 0, none⟩), .agg #[.int .i64 K, .string S, .int .u64 N, .int .i64 A, .int .i64 B, .int .i64 C]] w (MayPost ((∀ j, j < 3 → ¬ BadP n (many K) j (prt A B C j)) ∧ (K = 4 → A ≤ B)) w) := by
  unfold maxLen at hS
  have r1 : decide (K < 1) = false := by simp; omega
  have r2 : decide ((11 : Int) < K) = false := by simp; omega
  have ka1 : (K == 1) = false := beq_eq_false_iff_ne.2 (by omega)
  have kb1 : (K != 1) = true := by simp [bne, ka1]
  have ka2 : (K == 2) = false := beq_eq_false_iff_ne.2 (by omega)
  have kb2 : (K != 2) = true := by simp [bne, ka2]
  have ka9 : (K == 9) = false := beq_eq_false_iff_ne.2 (by omega)
  have kb9 : (K != 9) = true := by simp [bne, ka9]
  have ka10 : (K == 10) = false := beq_eq_false_iff_ne.2 (by omega)
  have kb10 : (K != 10) = true := by simp [bne, ka10]
  subst h0
  have l1 : decide ((1000 : Int) < S.size) = false := by simp; omega
  clear k1 k2 k9 k10
  have hgb := Lib.hid (block_lt_of_cell hg)
  have HG := Lib.hid hg
  clear hg
  go_enter Try.func41, Try.ntmps41
  go_wp2
  go_region_held3 (fun w' => w'.cell? ⟨w.heap.size, 0, none⟩ = some (.int .i64 K) ∧ w'.cell? ⟨w.heap.size, 3, none⟩ = some (.int .i64 A) ∧ w'.cell? ⟨w.heap.size, 4, none⟩ = some (.int .i64 B) ∧ w'.cell? ⟨w.heap.size, 5, none⟩ = some (.int .i64 C)) (go_keep) (first | (go_at_call 56; refine (many_any _ _).mono ?_; rintro e w' ⟨rfl, rfl⟩))
  all_goals
    have HO0 := Lib.hid (Own.start w K S 0 A B C)
    go_wp2
    go_loopw [7] (fun i wr => ∃ k : Nat, k ≤ 3 ∧ i = .int .i64 k ∧ Hid (∀ j, j < k → ¬ BadP n (many K) j (prt A B C j)) ∧ Hid (Own w K S 0 A B C wr)) (fun i _ => 3 - (intOf i).toNat)
    case atStart => exact ⟨0, Nat.zero_le _, rfl, Lib.hid (fun j h => absurd h (Nat.not_lt_zero _)), HO0⟩
    case round =>
      obtain ⟨k, hk, rfl, HJ, HO⟩ := hrel
      clear HO0
      by_cases hlt0 : k < 3
      · have hlt := Lib.hid hlt0
        have hlt1 : (k : Int) < 3 := by omega
        have hk0 : (0 : Int) ≤ (k : Int) := by omega
        have hc := HO.out.part k hlt0
        have hgc : wr.cell? ⟨g, 0, none⟩ = some (.slice a n cap) := by rw [HO.out.2.2.cell hgb.out]; exact HG.out
        clear hlt0
        obtain ⟨p, hp⟩ : ∃ p, p = prt A B C k := ⟨_, rfl⟩
        rw [← hp] at hc
        by_cases hm : k < many K
        · have t1 : decide (k < many K) = true := by simpa using hm
          have t2 : decide (many K ≤ k) = false := by simp; omega
          by_cases hp1 : p < 1
          · have HBAD : Hid (BadP n (many K) k (prt A B C k)) := Lib.hid (.inl ⟨hm, .inl (by omega)⟩)
            have t3 : decide (p < 1) = true := by simpa using hp1
            clear hm hp
            go_wp2
            go_quiet (fail)
            go_wp2
            go_ret
            exact ⟨false, rfl, ⟨fun h => by simp at h, fun h => absurd (h.1 k hlt.out) (not_not_intro HBAD.out)⟩, (HO.out.drewN _).2.2⟩
          · by_cases hp2 : (n : Int) < p
            · have HBAD : Hid (BadP n (many K) k (prt A B C k)) := Lib.hid (.inl ⟨hm, .inr (by omega)⟩)
              have t3 : decide (p < 1) = false := by simpa using hp1
              have t4 : decide ((n : Int) < p) = true := by simpa using hp2
              clear hm hp
              go_wp2
              go_quiet (fail)
              go_wp2
              go_ret
              exact ⟨false, rfl, ⟨fun h => by simp at h, fun h => absurd (h.1 k hlt.out) (not_not_intro HBAD.out)⟩, (HO.out.drewN _).2.2⟩
            · have HOK : Hid (¬ BadP n (many K) k (prt A B C k)) := Lib.hid (by unfold BadP; omega)
              have t3 : decide (p < 1) = false := by simpa using hp1
              have t4 : decide ((n : Int) < p) = false := by simpa using hp2
              clear hm hp
              go_wp2
              go_quiet (fail)
              go_wp2
              go_roundw
              case rel => exact ⟨k + 1, by have := hlt.out; omega, by go_num, Lib.hid (fun j hj => by rcases Nat.lt_succ_iff_lt_or_eq.1 hj with h | rfl; exact HJ.out j h; exact HOK.out), Lib.hid (HO.out.drewN _)⟩
              case measure => have := hlt.out; simp [intOf]; omega
        · have t1 : decide (k < many K) = false := by simpa using hm
          have t2 : decide (many K ≤ k) = true := by simp; omega
          by_cases hp1 : p = 0
          · have HOK : Hid (¬ BadP n (many K) k (prt A B C k)) := Lib.hid (by unfold BadP; omega)
            have t3 : (p == 0) = true := by simpa using hp1
            have t4 : (p != 0) = false := by simpa using hp1
            clear hm hp hp1
            go_wp2
            go_quiet (fail)
            go_wp2
            go_roundw
            case rel => exact ⟨k + 1, by have := hlt.out; omega, by go_num, Lib.hid (fun j hj => by rcases Nat.lt_succ_iff_lt_or_eq.1 hj with h | rfl; exact HJ.out j h; exact HOK.out), Lib.hid (HO.out.drewN _)⟩
            case measure => have := hlt.out; simp [intOf]; omega
          · have HBAD : Hid (BadP n (many K) k (prt A B C k)) := Lib.hid (.inr ⟨by omega, by omega⟩)
            have t3 : (p == 0) = false := by simpa using hp1
            have t4 : (p != 0) = true := by simpa using hp1
            clear hm hp hp1
            go_wp2
            go_quiet (fail)
            go_wp2
            go_ret
            exact ⟨false, rfl, ⟨fun h => by simp at h, fun h => absurd (h.1 k hlt.out) (not_not_intro HBAD.out)⟩, (HO.out.drewN _).2.2⟩
      · obtain rfl : k = 3 := by omega
        have f0 := HO.out.field 0
        have f3 := HO.out.field 3
        have f4 := HO.out.field 4
        simp at f0 f3 f4
        by_cases h4 : K = 4
        · have q1 : (K == 4) = true := by simpa using h4
          have q2 : (K != 4) = false := by simpa using h4
          by_cases hab : A ≤ B
          · have q3 : decide (A ≤ B) = true := by simpa using hab
            have HH := Lib.hid hab
            clear h4 hab
            go_wp2
            go_ret
            exact ⟨true, rfl, ⟨fun _ => ⟨HJ.out, fun h => HH.out⟩, fun _ => rfl⟩, HO.out.2.2⟩
          · have q3 : decide (A ≤ B) = false := by simpa using hab
            have HH := Lib.hid hab
            have H4 := Lib.hid h4
            clear h4 hab
            go_wp2
            go_ret
            exact ⟨false, rfl, ⟨fun h => by simp at h, fun h => absurd (h.2 H4.out) (Int.not_le.2 HH.out)⟩, HO.out.2.2⟩
        · have q1 : (K == 4) = false := by simpa using h4
          have q2 : (K != 4) = true := by simpa using h4
          have H4 := Lib.hid h4
          clear h4
          go_wp2
          go_ret
          exact ⟨true, rfl, ⟨fun _ => ⟨HJ.out, fun h => absurd h H4.out⟩, fun _ => rfl⟩, HO.out.2.2⟩

end Go.Proofs.Ytlnpfeecaiecaaa
