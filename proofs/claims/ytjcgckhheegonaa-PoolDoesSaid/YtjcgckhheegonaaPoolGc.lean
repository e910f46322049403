/- The document's pool: parts joined by their places. -/
import Derived.Test.YtjcgckhheegonaaPoolG
namespace Go.Proofs.Ytjcgckhheegonaa
open Go.RowKit
set_option linter.unusedVariables false
set_option linter.unusedSimpArgs false
set_option maxRecDepth 20000
def pickK (fs : List Fr) (i k : Nat) : ByteArray := pick (fs.take k) i
def joinK (fs : List Fr) (i : Nat) : ByteArray := (List.range i).foldl (fun s i => s ++ pick fs i) ⟨#[]⟩
theorem joinK_succ (fs : List Fr) (i : Nat) : joinK fs (i + 1) = joinK fs i ++ pick fs i := by
  unfold joinK
  rw [List.range_succ, List.foldl_append]; rfl
theorem pickK_succ {fs : List Fr} {i k : Nat} (hk : k < fs.length) : pickK fs i (k + 1) = if (fs.getD k zeroF).ix == (i : Int) then pickK fs i k ++ (fs.getD k zeroF).s else pickK fs i k := by
  unfold pickK pick
  rw [List.take_succ_eq_append_getElem hk, List.foldl_append, List.getD_eq_getElem?_getD, List.getElem?_eq_getElem hk]
  rfl
theorem pick_sizeG (fs : List Fr) (i : Nat) : (pick fs i).size ≤ sumS fs := by
  unfold pick
  have key : ∀ (l : List Fr) (s : ByteArray), (l.foldl (fun s f => if f.ix == (i : Int) then s ++ f.s else s) s).size ≤ s.size + sumS l := by
    intro l
    induction l with
    | nil => intro s; simp [sumS]
    | cons f r ih =>
      intro s
      rw [List.foldl_cons]
      have := ih (if f.ix == (i : Int) then s ++ f.s else s)
      have e : sumS (f :: r) = f.s.size + sumS r := rfl
      rw [e]
      split at this
      · rw [if_pos (by assumption)]
        rw [ByteArray.size_append] at this
        omega
      · rw [if_neg (by assumption)]
        omega
  have := key fs ⟨#[]⟩
  have e0 : (⟨#[]⟩ : ByteArray).size = 0 := rfl
  omega
theorem pickK_size (fs : List Fr) (i k : Nat) : (pickK fs i k).size ≤ sumS fs := Nat.le_trans (pick_sizeG _ _) (sumS_le _ _)
theorem joinK_size (fs : List Fr) (i : Nat) : (joinK fs i).size ≤ i * sumS fs := by
  induction i with
  | zero =>
    have : joinK fs 0 = ⟨#[]⟩ := rfl
    rw [this]; exact Nat.zero_le _
  | succ i ih =>
    rw [joinK_succ, ByteArray.size_append, Nat.succ_mul]
    have := pick_sizeG fs i
    omega
set_option maxHeartbeats 4000000 in
theorem rjoin_k (fs : List Fr) (v : Value) (w : World) (h : OwnF 40 0 v fs w) (hn : fs.length ≤ 100) (hs : sumS fs ≤ 1000000) :
    Calls Try.prog 31 #[v] w fun e w' => e = .returned (.string (joinM fs)) ∧ w' = w := by
  obtain ⟨a, cap, rfl, hr⟩ := h.at
  obtain ⟨hc1, hc2, b, off, hr⟩ := hr
  have HRW := Lib.hid hr
  have HSZ := Lib.hid hs
  obtain ⟨n, hnn⟩ : ∃ n, fs.length = n := ⟨_, rfl⟩
  have HN := Lib.hid hnn
  rw [hnn] at hc1 hn ⊢
  have HJ : Hid (joinM fs = joinK fs n) := Lib.hid (by unfold joinM joinK; rw [hnn])
  clear h hr hs hnn
  go_enter Try.func31, Try.ntmps31
  go_wp2_with fail
  go_loopw [3, 4] (fun x3 x4 wr => ∃ (i : Nat) (s : ByteArray), i ≤ n ∧ x3 = .string s ∧ x4 = .int .i64 i ∧ Hid (s = joinK fs i) ∧ wr = w) (fun _ x4 _ => n - (intG x4).toNat)
  case atStart => exact ⟨0, _, Nat.zero_le _, rfl, rfl, Lib.hid rfl, rfl⟩
  case round =>
    obtain ⟨i, s, hi, rfl, rfl, HS, rfl⟩ := hrel
    by_cases hin : i < n
    · have i1 : (i : Int) < (n : Int) := by omega
      have HI := Lib.hid hin
      have HJS : Hid (joinK fs (i + 1) = s ++ pickK fs i n) := Lib.hid (by rw [joinK_succ, HS.out]; unfold pickK; rw [List.take_of_length_le (by rw [HN.out]; exact Nat.le_refl _)])
      have HSS : Hid (s.size ≤ 100 * 1000000) := Lib.hid (by rw [HS.out]; exact Nat.le_trans (joinK_size fs i) (Nat.mul_le_mul (by omega) HSZ.out))
      clear hi hin
      go_wp2_with fail
      go_loopw [3, 5] (fun x3 x5 wq => ∃ (k : Nat) (t : ByteArray), k ≤ n ∧ x3 = .string t ∧ x5 = .int .i64 k ∧ Hid (t = s ++ pickK fs i k) ∧ wq = wr) (fun _ x5 _ => n - (intG x5).toNat)
      case atStart => exact ⟨0, s, Nat.zero_le _, rfl, rfl, Lib.hid (by
        have : pickK fs i 0 = ⟨#[]⟩ := rfl
        rw [this]; exact (ByteArray.append_empty).symm), rfl⟩
      case round =>
        obtain ⟨k, t, hk, rfl, rfl, HT, rfl⟩ := hrel
        by_cases hkn : k < n
        · have k1 : (k : Int) < (n : Int) := by omega
          have HK := Lib.hid hkn
          obtain ⟨rfl, _, e1, _, e3⟩ := HRW.out k (by rw [HN.out]; exact hkn)
          obtain ⟨kx, hkx⟩ : ∃ kx, (fs.getD k zeroF).ix = kx := ⟨_, rfl⟩
          obtain ⟨ks, hks⟩ : ∃ ks, (fs.getD k zeroF).s = ks := ⟨_, rfl⟩
          rw [hkx] at e1
          rw [hks] at e3
          have HPK : Hid (pickK fs i (k + 1) = if kx == (i : Int) then pickK fs i k ++ ks else pickK fs i k) := Lib.hid (by rw [pickK_succ (by rw [HN.out]; exact hkn), hkx, hks])
          have hksz : ks.size ≤ 1000000 := by
            have h1 := sumS_take (fs := fs) (k := k) (by rw [HN.out]; exact hkn)
            have h2 := sumS_le fs (k + 1)
            have := HSZ.out
            rw [hks] at h1
            omega
          have htsz : t.size ≤ 102000000 := by
            rw [HT.out, ByteArray.size_append]
            have := HSS.out; have := pickK_size fs i k; have := HSZ.out
            omega
          have hbig : (9223372036854775807 < t.size + ks.size) = False := by simp; omega
          have hbig2 : ((9223372036854775807 : Int) < (t.size : Int) + (ks.size : Int)) = False := by simp; omega
          clear hkx hks hkn hk hksz htsz
          by_cases hx : kx = (i : Int)
          · have HPX : Hid (pickK fs i (k + 1) = pickK fs i k ++ ks) := Lib.hid (by rw [HPK.out, if_pos (beq_iff_eq.2 hx)])
            go_wp2_with fail
            go_roundw
            case rel => exact ⟨k + 1, _, HK.out, rfl, by go_num, Lib.hid (by rw [HPX.out, HT.out, ByteArray.append_assoc]), by trivial⟩
            case measure => have := HK.out; simp [intG]; omega
          · have HPX : Hid (pickK fs i (k + 1) = pickK fs i k) := Lib.hid (by rw [HPK.out, if_neg (fun q => hx (beq_iff_eq.1 q))])
            go_wp2_with fail
            go_roundw
            case rel => exact ⟨k + 1, t, HK.out, rfl, by go_num, Lib.hid (by rw [HPX.out, HT.out]), by trivial⟩
            case measure => have := HK.out; simp [intG]; omega
        · obtain rfl : k = n := by omega
          have t0 : decide (k < k) = false := decide_eq_false (Nat.lt_irrefl _)
          clear hk hkn
          go_wp2_with fail
          go_roundw
          case rel => exact ⟨i + 1, t, HI.out, rfl, by go_num, Lib.hid (by rw [HJS.out, HT.out]), by trivial⟩
          case measure => have := HI.out; simp [intG]; omega
    · obtain rfl : i = n := by omega
      have t0 : decide (i < i) = false := decide_eq_false (Nat.lt_irrefl _)
      clear hi hin
      go_wp2_with fail
      go_ret
      exact ⟨by rw [HJ.out, HS.out]; rfl, by trivial⟩
end Go.Proofs.Ytjcgckhheegonaa
