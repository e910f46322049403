/- The document's calls: has, Right, Both, Best, Make. -/
import Derived.Test.YtifpahjlmnimnaaOffP
namespace Go.Proofs.Ytifpahjlmnimnaa
open Go.RowKit
set_option linter.unusedVariables false
set_option linter.unusedSimpArgs false
set_option maxRecDepth 100000

/-- Is a number one of a text's bytes? -/
def hasI (l : List UInt8) (v : Int) : Bool := l.any fun c => decide ((c.toNat : Int) = v)
theorem hasI_inB (l : List UInt8) (j : Nat) : hasI l (j : Int) = inB l j := by
  unfold hasI inB
  congr 1
  funext c
  rw [Bool.eq_iff_iff]; simp; omega
theorem hasI_take (s : ByteArray) (k : Nat) (h : k < s.size) (v : Int) : hasI (s.data.toList.take (k + 1)) v = (hasI (s.data.toList.take k) v || decide ((s[k].toNat : Int) = v)) := by
  rw [take_snocB s k h]; simp [hasI]
theorem hasI_at (s : ByteArray) (k : Nat) (h : k < s.size) (v : Int) (e : (s[k].toNat : Int) = v) : hasI s.data.toList v = true := by
  unfold hasI
  rw [List.any_eq_true]
  exact ⟨s[k], by simp [ByteArray.getElem_eq_getElem_data], by simpa using e⟩


theorem drewN_below2 {B : Nat} {w : World} (h : B ≤ w.heap.size) (n : Nat) : Below B w (w.drewN n) := ⟨rfl, rfl, rfl, Nat.le_refl _, fun _ _ => rfl⟩
/-- Each byte is below the one ahead of it, up to a place. -/
def Adj (s : ByteArray) (k : Nat) : Prop := ∀ i (h : i + 1 < s.size), i + 1 < k → s[i + 1].toNat < s[i].toNat
theorem adj_falls {s : ByteArray} (h : Adj s s.size) : Falls s.data.toList := by
  have key : ∀ j i (hj : j < s.size) (hi : i < j), s[j].toNat < (s[i]'(by omega)).toNat := by
    intro j
    induction j with
    | zero => intro i _ hi; omega
    | succ j ih =>
      intro i hj hi
      have h1 := h j hj hj
      rcases Nat.lt_or_ge i j with q | q
      · have h2 := ih i (by omega) q
        omega
      · obtain rfl : i = j := by omega
        exact h1
  unfold Falls
  rw [List.pairwise_iff_getElem]
  intro i j hi hj hij
  exact key j i (by simpa using hj) hij
theorem falls_adj {s : ByteArray} (h : Falls s.data.toList) (k : Nat) : Adj s k := by
  intro i hi _
  unfold Falls at h
  rw [List.pairwise_iff_getElem] at h
  exact h i (i + 1) (by simp; omega) (by simpa using hi) (by omega)
theorem falls_last {s : ByteArray} (h : Falls s.data.toList) (h0 : 0 < s.size) (hl : s[s.size - 1].toNat ≠ 0) : ∀ c, c ∈ s.data.toList → 1 ≤ c.toNat := by
  intro c hc
  obtain ⟨i, hi, rfl⟩ := List.getElem_of_mem hc
  unfold Falls at h
  rw [List.pairwise_iff_getElem] at h
  have hi' : i < s.size := by simpa using hi
  rcases Nat.lt_or_ge i (s.size - 1) with q | q
  · have h1 := h i (s.size - 1) hi (by simp; omega) q
    omega
  · obtain rfl : i = s.size - 1 := by omega
    have h1 : s[s.size - 1].toNat ≠ 0 := hl
    have h2 : s.data.toList[s.size - 1] = s[s.size - 1] := rfl
    rw [h2]; omega

set_option maxHeartbeats 1000000 in
theorem rright_any (s : ByteArray) (w : World) (hs : s.size ≤ maxLen) (b : Bool) (hb : Hid (rightB s.data.toList = b)) :
    Calls Try.prog 27 #[.string s] w fun e w' => e = .returned (.bool b) ∧ Below w.heap.size w w' := by
  unfold maxLen at hs
  by_cases h1 : s.size < 1
  · have h1' : (s.size : Int) < 1 := by omega
    have e : rightB s.data.toList = false := by
      rw [Bool.eq_false_iff]; intro h
      have := (right_iff.1 h).1
      rw [text_size] at this; omega
    have HE : Hid (b = false) := Lib.hid (by rw [← hb.out, e])
    clear e h1
    go_enter Try.func27, Try.ntmps27
    go_wp2
    go_ret
    exact ⟨retB HE.out.symm, Below.refl _ _⟩
  · by_cases h8 : 8 < s.size
    · have h1' : decide ((s.size : Int) < 1) = false := by simp; omega
      have h8' : (8 : Int) < s.size := by omega
      have e : rightB s.data.toList = false := by
        rw [Bool.eq_false_iff]; intro h
        have := (right_iff.1 h).2.1
        rw [text_size] at this; omega
      have HE : Hid (b = false) := Lib.hid (by rw [← hb.out, e])
      clear e h1 h8
      go_enter Try.func27, Try.ntmps27
      go_wp2
      go_ret
      exact ⟨retB HE.out.symm, Below.refl _ _⟩
    · have h8' : decide ((8 : Int) < s.size) = false := by simp; omega
      have h1' : decide ((s.size : Int) < 1) = false := by simp; omega
      have h1n : 0 < s.size := by omega
      have HL : Hid (1 ≤ s.size ∧ s.size ≤ 8) := Lib.hid (by omega)
      obtain ⟨m, hm⟩ : ∃ m, m + 1 = s.size := ⟨s.size - 1, by omega⟩
      have hsub : (s.size : Int) - 1 = (m : Int) := by omega
      have hml : m < s.size := by omega
      have hmi : (m : Int) < (s.size : Int) := by omega
      have HM := Lib.hid hm
      clear hm h1 h8
      by_cases hz : s[m].toNat = 0
      · have hq : ((s[m].toNat : Int) == 0) = true := by simp [hz]
        have HE : Hid (b = false) := Lib.hid (by
          rw [← hb.out, Bool.eq_false_iff]; intro h
          have := (right_iff.1 h).2.2.2 s[m] (by simp [ByteArray.getElem_eq_getElem_data])
          omega)
        clear hz
        go_enter Try.func27, Try.ntmps27
        go_wp2
        go_ret
        exact ⟨retB HE.out.symm, Below.refl _ _⟩
      · have hq : ((s[m].toNat : Int) == 0) = false := by simpa using hz
        have HZ := Lib.hid hz
        clear hz
        go_enter Try.func27, Try.ntmps27
        go_wp2
        clear hsub hq
        go_loopw [3] (fun i wr => ∃ k : Nat, 1 ≤ k ∧ k ≤ s.size ∧ i = .int .i64 k ∧ Hid (Adj s k) ∧ Hid (Below w.heap.size w wr)) (fun i _ => s.size - (intOf i).toNat)
        case atStart => exact ⟨1, Nat.le_refl _, HL.out.1, rfl, Lib.hid (fun i _ h => by omega), Lib.hid (Below.refl _ _)⟩
        case round =>
          obtain ⟨k, hk1, hk, rfl, HA, HB⟩ := hrel
          by_cases hlt : k < s.size
          · have hlt' : (k : Int) < (s.size : Int) := by omega
            obtain ⟨p, hp⟩ : ∃ p, k = p + 1 := ⟨k - 1, by omega⟩
            have hsub : (k : Int) - 1 = (p : Int) := by omega
            have hpl : p < s.size := by omega
            have hpi : (p : Int) < (s.size : Int) := by omega
            have hb1 := UInt8.toNat_lt s[k]
            have hb2 := UInt8.toNat_lt s[p]
            have HP := Lib.hid hp
            clear hp
            by_cases hge : s[p].toNat ≤ s[k].toNat
            · have hge' : (s[p].toNat : Int) ≤ s[k].toNat := by omega
              have HE : Hid (b = false) := Lib.hid (by
                rw [← hb.out, Bool.eq_false_iff]; intro h
                have h1 := falls_adj (right_iff.1 h).2.2.1 (k + 1) p (by rw [← HP.out]; exact hlt) (by have := HP.out; omega)
                have e : p + 1 = k := HP.out.symm
                simp only [e] at h1
                omega)
              clear hge
              go_wp2
              go_quiet (fail)
              go_wp2
              go_ret
              exact ⟨retB HE.out.symm, HB.out.trans (drewN_below2 HB.out.size _)⟩
            · have hge' : decide (s[p].toNat ≤ s[k].toNat) = false := by simp; omega
              have HN : Hid (Adj s (k + 1)) := Lib.hid (by
                intro i hi hik
                by_cases e : i + 1 < k
                · exact HA.out i hi e
                · obtain rfl : i = p := by have := HP.out; omega
                  have e : i + 1 = k := HP.out.symm
                  simp only [e]
                  omega)
              clear hge
              go_wp2
              go_quiet (fail)
              go_wp2
              go_roundw
              case rel => exact ⟨k + 1, by omega, by omega, by go_num, HN, Lib.hid (HB.out.trans (drewN_below2 HB.out.size _))⟩
              case measure => simp [intOf]; omega
          · obtain rfl : k = s.size := by omega
            have HE : Hid (b = true) := Lib.hid (by
              rw [← hb.out]
              have hf := adj_falls HA.out
              refine right_iff.2 ⟨by rw [text_size]; exact HL.out.1, by rw [text_size]; exact HL.out.2, hf, falls_last hf h1n ?_⟩
              have e : s.size - 1 = m := by have := HM.out; omega
              simp only [e]; exact HZ.out)
            clear hlt
            go_wp2
            go_ret
            exact ⟨retB HE.out.symm, HB.out⟩
end Go.Proofs.Ytifpahjlmnimnaa
