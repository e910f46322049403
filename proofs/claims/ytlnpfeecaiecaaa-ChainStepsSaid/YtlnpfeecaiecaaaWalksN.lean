/- The document's May, for every term and store: it tells whether the term may be, and nothing that was there turns. Condition: the text's length is one of a text. -/
import Derived.Test.YtlnpfeecaiecaaaWalksM
namespace Go.Proofs.Ytlnpfeecaiecaaa
open Go.RowKit
set_option linter.unusedVariables false
set_option maxRecDepth 20000

/-- Whether a term may be in a store of n terms. -/
def May (n : Nat) (K : Int) (S : ByteArray) (N A B C : Int) : Prop :=
  1 ≤ K ∧ K ≤ 11 ∧ (K ≠ 1 → S.toList = []) ∧ (K ≠ 2 → K ≠ 9 → K ≠ 10 → N = 0) ∧ S.size ≤ 1000 ∧ (∀ j, j < 3 → ¬ BadP n (many K) j (prt A B C j)) ∧ (K = 4 → A ≤ B)

theorem mayPost_no {P : Prop} (hP : ¬ P) {f : FuncId} {args : Array Value} {w : World} (h : Calls Try.prog f args w fun e w' => e = .returned (.bool false) ∧ Below w.heap.size w w') :
    Calls Try.prog f args w (MayPost P w) :=
  h.mono fun e w' ⟨he, hb⟩ => ⟨false, he, ⟨fun h => by simp at h, fun h => absurd h hP⟩, hb⟩
theorem mayPost_iff {P Q : Prop} (hPQ : P ↔ Q) {f : FuncId} {args : Array Value} {w : World} (h : Calls Try.prog f args w (MayPost P w)) :
    Calls Try.prog f args w (MayPost Q w) :=
  h.mono fun e w' ⟨b, he, hb, hw⟩ => ⟨b, he, hb.trans hPQ, hw⟩

theorem may_any (g n cap : Nat) (a : Option Addr) (K : Int) (S : ByteArray) (N A B C : Int) (w : World) (hg : w.cell? ⟨g, 0, none⟩ = some (.slice a n cap)) (hS : S.size ≤ maxLen) :
    Calls Try.prog 41 #[.pointer (some ⟨g, 0, none⟩), .agg #[.int .i64 K, .string S, .int .u64 N, .int .i64 A, .int .i64 B, .int .i64 C]] w (MayPost (May n K S N A B C) w) := by
  have hlen : S.toList = [] → S.size = 0 := fun h => by
    rw [ByteArray.toList_eq] at h
    have : S.data.toList.length = S.size := by simp
    rw [h] at this; simpa using this.symm
  by_cases c1 : K < 1
  · exact mayPost_no (fun h => by have := h.1; omega) (may_low g n cap a K S N A B C w hg hS c1)
  by_cases c2 : 11 < K
  · exact mayPost_no (fun h => by have := h.2.1; omega) (may_high g n cap a K S N A B C w hg hS c2)
  by_cases k1 : K = 1
  · by_cases h0 : N = 0
    · by_cases hl : 1000 < S.size
      · exact mayPost_no (fun h => by have := h.2.2.2.2.1; omega) (may_long g n cap a K S N A B C w hg hS k1 h0 hl)
      · exact mayPost_iff ⟨fun h => ⟨by omega, by omega, fun h => absurd k1 h, fun _ _ _ => h0, by omega, h.1, h.2⟩, fun h => ⟨h.2.2.2.2.2.1, h.2.2.2.2.2.2⟩⟩ (may_one g n cap a K S N A B C w hg hS k1 h0 (by omega))
    · exact mayPost_no (fun h => h0 (h.2.2.2.1 (by omega) (by omega) (by omega))) (may_num1 g n cap a K S N A B C w hg hS k1 h0)
  · by_cases hs : S.toList = []
    · have hl : S.size ≤ 1000 := by have := hlen hs; omega
      by_cases k2 : K = 2
      · exact mayPost_iff ⟨fun h => ⟨by omega, by omega, fun _ => hs, fun h => absurd k2 h, hl, h.1, h.2⟩, fun h => ⟨h.2.2.2.2.2.1, h.2.2.2.2.2.2⟩⟩ (may_two g n cap a K S N A B C w hg hS k2 hs hl)
      by_cases k9 : K = 9
      · exact mayPost_iff ⟨fun h => ⟨by omega, by omega, fun _ => hs, fun _ h => absurd k9 h, hl, h.1, h.2⟩, fun h => ⟨h.2.2.2.2.2.1, h.2.2.2.2.2.2⟩⟩ (may_nine g n cap a K S N A B C w hg hS k9 hs hl)
      by_cases k10 : K = 10
      · exact mayPost_iff ⟨fun h => ⟨by omega, by omega, fun _ => hs, fun _ _ h => absurd k10 h, hl, h.1, h.2⟩, fun h => ⟨h.2.2.2.2.2.1, h.2.2.2.2.2.2⟩⟩ (may_ten g n cap a K S N A B C w hg hS k10 hs hl)
      by_cases h0 : N = 0
      · exact mayPost_iff ⟨fun h => ⟨by omega, by omega, fun _ => hs, fun _ _ _ => h0, hl, h.1, h.2⟩, fun h => ⟨h.2.2.2.2.2.1, h.2.2.2.2.2.2⟩⟩ (may_other g n cap a K S N A B C w hg hS (by omega) (by omega) k1 k2 k9 k10 hs h0 hl)
      · exact mayPost_no (fun h => h0 (h.2.2.2.1 k2 k9 k10)) (may_num2 g n cap a K S N A B C w hg hS (by omega) (by omega) k1 k2 k9 k10 hs h0)
    · exact mayPost_no (fun h => hs (h.2.2.1 k1)) (may_text g n cap a K S N A B C w hg hS (by omega) (by omega) k1 (by simpa using hs) (by simpa using hs))
end Go.Proofs.Ytlnpfeecaiecaaa
