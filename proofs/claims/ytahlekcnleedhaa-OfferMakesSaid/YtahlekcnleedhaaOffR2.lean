/- The document's calls: Both and Best. -/
import Derived.Test.YtahlekcnleedhaaOffR
namespace Go.Proofs.Ytahlekcnleedhaa
open Go.RowKit
set_option linter.unusedVariables false
set_option linter.unusedSimpArgs false
set_option maxRecDepth 100000

/-- What of a text's first bytes is in another one. -/
def common (a b : List UInt8) (k : Nat) : List UInt8 := (a.take k).filter fun c => inB b c.toNat
theorem common_yes (a : ByteArray) (b : List UInt8) (k : Nat) (h : k < a.size) (e : inB b a[k].toNat = true) : common a.data.toList b (k + 1) = common a.data.toList b k ++ [a[k]] := by
  rw [common, take_snocB a k h, List.filter_append, common]; simp [e]
theorem common_no (a : ByteArray) (b : List UInt8) (k : Nat) (h : k < a.size) (e : inB b a[k].toNat = false) : common a.data.toList b (k + 1) = common a.data.toList b k := by
  rw [common, take_snocB a k h, List.filter_append, common]; simp [e]
theorem common_len (a b : List UInt8) (k : Nat) : (common a b k).length ≤ k := by
  have h1 := List.length_filter_le (fun c : UInt8 => inB b c.toNat) (a.take k)
  have h2 := List.length_take_le k a
  unfold common; omega
theorem common_all {a b : List UInt8} (h : rightB a = true) : common a b a.length = fall (capB a b) := by
  have h := right_iff.1 h
  rw [common, List.take_length]
  refine (falls_ext (fall_falls _) (h.2.2.1.sublist List.filter_sublist) fun c => ?_).symm
  rw [mem_fall, List.mem_filter]
  unfold capB
  simp only [Bool.and_eq_true, inB_self]
  exact ⟨fun q => q.1, fun q => ⟨q, h.2.2.2 c q.1⟩⟩

set_option maxHeartbeats 2000000 in
theorem rboth_any (a b : ByteArray) (w : World) (ha : a.size ≤ maxLen) (hb : b.size ≤ maxLen) (t : ByteArray) (ht : Hid (t.data.toList = bothS a.data.toList b.data.toList)) :
    Calls Try.prog 16 #[.string a, .string b] w fun e w' => e = .returned (.string t) ∧ Below w.heap.size w w' := by
  have HA := Lib.hid ha
  have HB := Lib.hid hb
  unfold maxLen at ha
  clear hb
  obtain ⟨b1, h1⟩ : ∃ b1, rightB a.data.toList = b1 := ⟨_, rfl⟩
  obtain ⟨b2, h2⟩ : ∃ b2, rightB b.data.toList = b2 := ⟨_, rfl⟩
  have H1 := Lib.hid h1
  have H2 := Lib.hid h2
  clear h1 h2
  go_enter Try.func16, Try.ntmps16
  go_wp2
  go_loopw [5, 6] (fun o i wr => ∃ (k : Nat) (u : ByteArray), k ≤ a.size ∧ i = .int .i64 k ∧ o = .string u ∧ Hid (u.data.toList = common a.data.toList b.data.toList k) ∧ Hid (k = 0 ∨ (b1 = true ∧ b2 = true)) ∧ Hid (Below w.heap.size w wr)) (fun _ i _ => a.size - (intOf i).toNat)
  case atStart => exact ⟨0, ⟨#[]⟩, Nat.zero_le _, rfl, rfl, Lib.hid rfl, Lib.hid (.inl rfl), Lib.hid (Below.refl _ _)⟩
  case round =>
    obtain ⟨k, u, hk, rfl, rfl, HU, HF, HW⟩ := hrel
    by_cases hlt : k < a.size
    · have hlt' : (k : Int) < (a.size : Int) := by omega
      have hlt2 : decide (k < a.size) = true := by simpa using hlt
      cases hb1 : b1
      · have HE : Hid (u = t) := Lib.hid (text_ext (by
          rw [HU.out, ht.out, bothS, formB, H1.out, hb1]
          rcases HF.out with q | q
          · rw [q]; rfl
          · rw [hb1] at q; cases q.1))
        subst hb1
        go_wp2_with fail
        refine (rright_any a _ HA.out _ H1).mono ?_
        rintro e w1 ⟨rfl, hbw⟩
        go_wp2_with fail
        go_ret
        exact ⟨retS HE.out, HW.out.trans (hbw.mono HW.out.size)⟩
      · cases hb2 : b2
        · have HE : Hid (u = t) := Lib.hid (text_ext (by
            rw [HU.out, ht.out, bothS, formB, H1.out, H2.out, hb1, hb2]
            rcases HF.out with q | q
            · rw [q]; rfl
            · rw [hb2] at q; cases q.2))
          subst hb1
          subst hb2
          go_wp2_with fail
          refine (rright_any a _ HA.out _ H1).mono ?_
          rintro e w1 ⟨rfl, hbw⟩
          have HW1 := Lib.hid (HW.out.trans (hbw.mono HW.out.size))
          clear hbw
          go_wp2_with fail
          refine (rright_any b _ HB.out _ H2).mono ?_
          rintro e w2 ⟨rfl, hbw⟩
          go_wp2_with fail
          go_ret
          exact ⟨retS HE.out, HW1.out.trans (hbw.mono HW1.out.size)⟩
        · subst hb1
          subst hb2
          have hcb := UInt8.toNat_lt a[k]
          have HL : Hid (u.size ≤ 255) := Lib.hid (by
            rw [← text_size, HU.out]
            have := common_len a.data.toList b.data.toList k
            have := (right_iff.1 H1.out).2.1
            rw [text_size] at this
            omega)
          cases hh : inB b.data.toList a[k].toNat
          · have HH : Hid (hasI b.data.toList (a[k].toNat : Int) = false) := Lib.hid (by rw [hasI_inB]; exact hh)
            have HC : Hid (u.data.toList = common a.data.toList b.data.toList (k + 1)) := Lib.hid (by rw [common_no a _ k hlt hh]; exact HU.out)
            clear hh
            go_wp2_with fail
            refine (rright_any a _ HA.out _ H1).mono ?_
            rintro e w1 ⟨rfl, hbw⟩
            have HW1 := Lib.hid (HW.out.trans (hbw.mono HW.out.size))
            clear hbw
            go_wp2_with fail
            refine (rright_any b _ HB.out _ H2).mono ?_
            rintro e w2 ⟨rfl, hbw⟩
            have HW2 := Lib.hid (HW1.out.trans (hbw.mono HW1.out.size))
            clear hbw
            go_wp2_with fail
            refine (has_any b _ _ HB.out _ HH).mono ?_
            rintro e w3 ⟨rfl, rfl⟩
            go_wp2_with fail
            go_roundw
            case rel => exact ⟨k + 1, u, by omega, by go_num, rfl, HC, Lib.hid (.inr (by simp)), HW2⟩
            case measure => simp [intOf]; omega
          · have HH : Hid (hasI b.data.toList (a[k].toNat : Int) = true) := Lib.hid (by rw [hasI_inB]; exact hh)
            have HC : Hid ((u ++ ⟨#[a[k]]⟩).data.toList = common a.data.toList b.data.toList (k + 1)) := Lib.hid (by
              rw [common_yes a _ k hlt hh, ← HU.out]
              simp [ByteArray.data_append])
            have hcv := fun (w : World) => conv_one w (a[k].toNat : Int) (by omega) (by omega)
            have hl := HL.out
            clear hh
            go_wp2_with fail
            refine (rright_any a _ HA.out _ H1).mono ?_
            rintro e w1 ⟨rfl, hbw⟩
            have HW1 := Lib.hid (HW.out.trans (hbw.mono HW.out.size))
            clear hbw
            go_wp2_with fail
            refine (rright_any b _ HB.out _ H2).mono ?_
            rintro e w2 ⟨rfl, hbw⟩
            have HW2 := Lib.hid (HW1.out.trans (hbw.mono HW1.out.size))
            clear hbw
            go_wp2_with fail
            refine (has_any b _ _ HB.out _ HH).mono ?_
            rintro e w3 ⟨rfl, rfl⟩
            go_wp2_with fail
            go_roundw
            case rel => exact ⟨k + 1, _, by omega, by go_num, rfl, HC, Lib.hid (.inr (by simp)), Lib.hid (HW2.out.alloc HW2.out.size _)⟩
            case measure => simp [intOf]; omega
    · obtain rfl : k = a.size := by omega
      have HE : Hid (u = t) := Lib.hid (text_ext (by
        rw [HU.out, ht.out, bothS, formB, H1.out, H2.out]
        rcases HF.out with q | ⟨q1, q2⟩
        · rw [q]
          have : b1 = false := by
            rw [← H1.out, Bool.eq_false_iff]; intro h
            have := (right_iff.1 h).1
            rw [text_size] at this; omega
          rw [this]; rfl
        · rw [q1, q2, ← common_all (by rw [H1.out, q1]), text_size]; rfl))
      clear hlt
      go_wp2
      go_ret
      exact ⟨retS HE.out, HW.out⟩

theorem best_none {a b : List UInt8} (hf : formB a b = true) (h : ∀ j, 0 < j → j ≤ 255 → capB a b j = false) : bestV a b = 0 ∧ bestE a b = 11 := by
  have e : bothS a b = [] := by
    rw [bothS, if_pos hf]
    cases hc : fall (capB a b) with
    | nil => rfl
    | cons c r =>
      have hm : c ∈ fall (capB a b) := by rw [hc]; simp
      have h1 := mem_fall.1 hm
      have h2 := UInt8.toNat_lt c
      rw [h c.toNat (by omega) (by omega)] at h1
      cases h1.1
  rw [bestV, bestE, if_pos hf, e]
  exact ⟨rfl, rfl⟩
theorem best_at {a b : List UInt8} {m : Nat} (hf : formB a b = true) (hm : capB a b m = true) (h1 : 1 ≤ m) (h2 : m ≤ 255) (h : ∀ j, m < j → j ≤ 255 → capB a b j = false) : bestV a b = m ∧ bestE a b = 0 := by
  have hi : UInt8.ofNat m ∈ fall (capB a b) := mem_fall.2 ⟨by rw [toNat_ofNat (by omega)]; exact hm, by rw [toNat_ofNat (by omega)]; exact h1⟩
  cases hc : fall (capB a b) with
  | nil => rw [hc] at hi; simp at hi
  | cons c r =>
    have hb : bothS a b = c :: r := by rw [bothS, if_pos hf, hc]
    have hcm : c ∈ fall (capB a b) := by rw [hc]; simp
    have q1 := mem_fall.1 hcm
    have q2 := UInt8.toNat_lt c
    have q3 : c.toNat ≤ m := by
      rcases Nat.lt_or_ge m c.toNat with q | q
      · rw [h _ q (by omega)] at q1; cases q1.1
      · exact q
    have q4 : m ≤ c.toNat := by
      have hfl := fall_falls (capB a b)
      rw [hc] at hfl hi
      rcases List.mem_cons.1 hi with q | q
      · rw [← q, toNat_ofNat (by omega)]; exact Nat.le_refl _
      · have := (List.pairwise_cons.1 hfl).1 _ q
        rw [toNat_ofNat (by omega)] at this
        omega
    rw [bestV, bestE, if_pos hf, hb]
    exact ⟨by simp only; omega, rfl⟩

set_option maxHeartbeats 2000000 in
theorem rbest_any (a b : ByteArray) (w : World) (ha : a.size ≤ maxLen) (hb : b.size ≤ maxLen) (v er : Int) (ht : Hid (BestIs a b v er)) :
    Calls Try.prog 12 #[.string a, .string b] w fun e w' => e = .returned (.tuple #[.int .i64 v, .int .i64 er]) ∧ Below w.heap.size w w' := by
  have HA := Lib.hid ha
  have HB := Lib.hid hb
  clear ha hb
  cases h1 : rightB a.data.toList
  · have HE : Hid (v = 0 ∧ er = 3) := Lib.hid (by rw [← ht.out.1, ← ht.out.2, bestV, bestE, bothS, formB, h1]; exact ⟨rfl, rfl⟩)
    have H1 := Lib.hid h1
    clear h1
    go_enter Try.func12, Try.ntmps12
    go_wp2_with fail
    refine (rright_any a _ HA.out _ H1).mono ?_
    rintro e w1 ⟨rfl, hb1⟩
    go_wp2_with fail
    go_ret2
    exact ⟨retT HE.out.1.symm HE.out.2.symm, hb1⟩
  · cases h2 : rightB b.data.toList
    · have HE : Hid (v = 0 ∧ er = 3) := Lib.hid (by rw [← ht.out.1, ← ht.out.2, bestV, bestE, bothS, formB, h1, h2]; exact ⟨rfl, rfl⟩)
      have H1 := Lib.hid h1
      have H2 := Lib.hid h2
      clear h1 h2
      go_enter Try.func12, Try.ntmps12
      go_wp2_with fail
      refine (rright_any a _ HA.out _ H1).mono ?_
      rintro e w1 ⟨rfl, hb1⟩
      go_wp2_with fail
      refine (rright_any b _ HB.out _ H2).mono ?_
      rintro e w2 ⟨rfl, hb2⟩
      go_wp2_with fail
      go_ret2
      exact ⟨retT HE.out.1.symm HE.out.2.symm, hb1.trans (hb2.mono hb1.size)⟩
    · have HFm := Lib.hid (show formB a.data.toList b.data.toList = true by rw [formB, h1, h2]; rfl)
      have H1 := Lib.hid h1
      have H2 := Lib.hid h2
      clear h1 h2
      go_enter Try.func12, Try.ntmps12
      go_wp2_with fail
      refine (rright_any a _ HA.out _ H1).mono ?_
      rintro e w1 ⟨rfl, hb1⟩
      go_wp2_with fail
      refine (rright_any b _ HB.out _ H2).mono ?_
      rintro e w2 ⟨rfl, hb2⟩
      have HW := Lib.hid (hb1.trans (hb2.mono hb1.size))
      clear hb1 hb2
      go_wp2_with fail
      go_loop [6] (fun i => ∃ m : Nat, m ≤ 255 ∧ i = .int .i64 m ∧ Hid (∀ j, m < j → j ≤ 255 → capB a.data.toList b.data.toList j = false)) (fun i => (intOf i).toNat)
      case atStart => exact ⟨255, by omega, rfl, Lib.hid (fun j h1 h2 => by omega)⟩
      case round =>
        obtain ⟨m, hm, rfl, HN⟩ := hrel
        by_cases hz : m = 0
        · subst hz
          have HE : Hid (v = 0 ∧ er = 11) := Lib.hid (by
            have := best_none HFm.out HN.out
            rw [← ht.out.1, ← ht.out.2]; exact this)
          go_wp2
          go_ret2
          exact ⟨retT HE.out.1.symm HE.out.2.symm, HW.out⟩
        · have hm1 : (1 : Int) ≤ m := by omega
          obtain ⟨p, hp⟩ : ∃ p, m = p + 1 := ⟨m - 1, by omega⟩
          have hsub : (m : Int) - 1 = (p : Int) := by omega
          have HP := Lib.hid hp
          clear hp hz
          obtain ⟨c1, hc1⟩ : ∃ c, inB a.data.toList m = c := ⟨_, rfl⟩
          obtain ⟨c2, hc2⟩ : ∃ c, inB b.data.toList m = c := ⟨_, rfl⟩
          have G1 : Hid (hasI a.data.toList (m : Int) = c1) := Lib.hid (by rw [hasI_inB]; exact hc1)
          have G2 : Hid (hasI b.data.toList (m : Int) = c2) := Lib.hid (by rw [hasI_inB]; exact hc2)
          have GC : Hid (capB a.data.toList b.data.toList m = (c1 && c2)) := Lib.hid (by rw [capB, hc1, hc2])
          have GN : Hid (∀ j, p < j → j ≤ 255 → (c1 && c2) = false → capB a.data.toList b.data.toList j = false) := Lib.hid (fun j q1 q2 q3 => by
            rcases (by have := HP.out; omega : m < j ∨ j = m) with q | q
            · exact HN.out j q q2
            · rw [q, GC.out, q3])
          clear hc1 hc2
          cases hc1 : c1
          · subst hc1
            go_wp2_with fail
            refine (has_any a _ _ HA.out _ G1).mono ?_
            rintro e w3 ⟨rfl, rfl⟩
            go_wp2_with fail
            go_round
            case rel => exact ⟨p, by have := HP.out; omega, rfl, Lib.hid (fun j q1 q2 => GN.out j q1 q2 rfl)⟩
            case measure => have := HP.out; simp [intOf]; omega
          · cases hc2 : c2
            · subst hc1
              subst hc2
              go_wp2_with fail
              refine (has_any a _ _ HA.out _ G1).mono ?_
              rintro e w3 ⟨rfl, rfl⟩
              go_wp2_with fail
              refine (has_any b _ _ HB.out _ G2).mono ?_
              rintro e w4 ⟨rfl, rfl⟩
              go_wp2_with fail
              go_round
              case rel => exact ⟨p, by have := HP.out; omega, rfl, Lib.hid (fun j q1 q2 => GN.out j q1 q2 rfl)⟩
              case measure => have := HP.out; simp [intOf]; omega
            · subst hc1
              subst hc2
              have HE : Hid (v = m ∧ er = 0) := Lib.hid (by
                have := best_at HFm.out GC.out (by omega) hm HN.out
                rw [← ht.out.1, ← ht.out.2]; exact this)
              go_wp2_with fail
              refine (has_any a _ _ HA.out _ G1).mono ?_
              rintro e w3 ⟨rfl, rfl⟩
              go_wp2_with fail
              refine (has_any b _ _ HB.out _ G2).mono ?_
              rintro e w4 ⟨rfl, rfl⟩
              go_wp2_with fail
              go_ret2
              exact ⟨retT HE.out.1.symm HE.out.2.symm, HW.out⟩
end Go.Proofs.Ytahlekcnleedhaa
