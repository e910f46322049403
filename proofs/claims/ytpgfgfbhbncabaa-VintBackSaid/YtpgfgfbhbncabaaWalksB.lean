/- The walks of Put, and the document's Put, for every number of 64 bits. -/
import Derived.Test.YtpgfgfbhbncabaaWalksA
namespace Go.Proofs.Ytpgfgfbhbncabaa
open Go.RowKit
set_option linter.unusedVariables false

theorem foldl_push (l : List UInt8) : ∀ (r : ByteArray), (l.map fun c => (c.toNat : Int)).foldl (fun r n => r.push (UInt8.ofNat n.toNat)) r = ⟨r.data ++ l.toArray⟩ := by
  induction l with
  | nil => intro r; simp
  | cons c l ih =>
    intro r
    rw [List.map_cons, List.foldl_cons, ih]
    apply ByteArray.ext
    simp [ByteArray.push]

theorem conv_row {w : World} {g n : Nat} (cap : Nat) (l : List UInt8) (hn : l.length = n) (h : ∀ j, j < l.length → w.cell? ⟨g, j, none⟩ = some (.int .u8 ((l.getD j 0).toNat : Int))) :
    (convert 42 9 (.slice (some ⟨g, 0, none⟩) n cap)).run Try.prog w = .ok (.string ⟨l.toArray⟩) w := by
  subst hn
  rw [run_convert_bytes_string w 42 9 5 _ _ _ Try.underlying42 Try.underlying5 Try.underlying9]
  rw [run_bytesToString w ⟨g, 0, none⟩ l.length cap (l.map fun c => (c.toNat : Int))]
  · rw [foldl_push]; simp
  · have := run_loadCells_list (P := Try.prog) (w := w) ⟨g, 0, none⟩ ((l.map fun c => (c.toNat : Int)).map (Value.int .u8)) (by
      intro j v hv
      simp only [List.map_map, List.getElem?_map, Option.map_eq_some_iff] at hv
      obtain ⟨c, hc, rfl⟩ := hv
      have hj : j < l.length := by
        rcases Nat.lt_or_ge j l.length with q | q
        · exact q
        · simp [List.getElem?_eq_none q] at hc
      have := h j hj
      have e : (⟨g, 0, none⟩ : Addr).add j = ⟨g, j, none⟩ := by unfold Addr.add; simp; omega
      rw [e]
      simpa [List.getD, hc] using this)
    simpa using this

theorem conv_one (w : World) (z : Int) (h0 : 0 ≤ z) (h1 : z < 256) : (convert 42 9 (.slice (some ⟨w.heap.size, 0, none⟩) 1 1)).run Try.prog (w.alloc (.cells #[.int .u8 z] 5)) = .ok (.string ⟨[UInt8.ofNat z.toNat].toArray⟩) (w.alloc (.cells #[.int .u8 z] 5)) := by
  refine conv_row 1 [UInt8.ofNat z.toNat] rfl ?_
  intro j hj
  obtain rfl : j = 0 := by simpa using hj
  have : z.toNat % 256 = z.toNat := Nat.mod_eq_of_lt (by omega)
  simp [World.cell?_alloc_at, this, Int.toNat_of_nonneg h0]

theorem hi_le (k : Nat) : ∀ n, n < 128 ^ k → (hi n).length ≤ k := by
  induction k with
  | zero => intro n h; obtain rfl : n = 0 := by simpa using h
            simp [hi_zero]
  | succ k ih =>
    intro n h
    by_cases h0 : n = 0
    · subst h0; simp [hi_zero]
    · rw [hi_step n h0]
      have := ih (n / 128) (by rw [Nat.pow_succ] at h; omega)
      simp; omega
theorem put_le (n : Nat) (h : (n : Int) ≤ 18446744073709551615) : (put n).length ≤ 10 := by
  have := hi_le 9 (n / 128) (by omega)
  simp [put]; omega

theorem one_append (c : UInt8) (l : List UInt8) : (⟨#[c]⟩ : ByteArray) ++ ⟨l.toArray⟩ = ⟨(c :: l).toArray⟩ := by
  have := ByteArray.mk_append_mk [c] l
  simpa using this
theorem retS {a b : ByteArray} (h : a = b) : Ending.returned (.string a) = .returned (.string b) := by rw [h]
theorem valS {a b : ByteArray} (h : a = b) : Value.string a = .string b := by rw [h]

set_option maxHeartbeats 1000000 in
theorem rput_any (n : Nat) (w : World) (h : (n : Int) ≤ 18446744073709551615) :
    Calls Try.prog 14 #[.int .u64 n] w fun e w' => e = .returned (.string (putS n)) ∧ Below w.heap.size w w' := by
  have hc := fun (w : World) => conv_one w ((n : Int) % 128) (by omega) (by omega)
  have H0 := Lib.hid (put_le n h)
  go_enter Try.func14, Try.ntmps14
  go_wp2
  clear hc
  go_loopw [0, 3] (fun x t wr => ∃ (m : Nat) (l : List UInt8), x = .int .u64 m ∧ t = .string ⟨l.toArray⟩ ∧ (m : Int) ≤ 144115188075855871 ∧ l.length ≤ 10 ∧ Hid (put n = hi m ++ l) ∧ Below w.heap.size w wr) (fun x _ _ => (intOf x).toNat)
  case atStart =>
    exact ⟨n / 128, [UInt8.ofNat (n % 128)], by go_num, by simp, by omega, by simp, rfl, (Below.refl _ _).alloc (Nat.le_refl _) _⟩
  case round =>
    obtain ⟨m, l, rfl, rfl, hmb, hlb, HR, hb⟩ := hrel
    by_cases hm : m = 0
    · subst hm
      go_wp2
      go_ret
      exact ⟨retS (by have := HR.out; rw [hi_zero] at this; rw [putS, this]; rfl), hb⟩
    · have hc := fun (w : World) => conv_one w (128 + (m : Int) % 128) (by omega) (by omega)
      have hm' : (0 : Int) < m := by omega
      have hl1 : l.length + 1 ≤ 10 := by
        have h1 := HR.out
        have h2 := H0.out
        rw [h1, hi_step m hm] at h2; simp at h2; omega
      have HN := Lib.hid hm
      clear hm
      go_wp2
      go_roundw
      case rel =>
        exact ⟨m / 128, UInt8.ofNat (128 + m % 128) :: l, by go_num, valS (by rw [one_append]; simp), by omega, by simpa using hl1, by
          have h1 := HR.out
          rw [hi_step m HN.out] at h1
          exact Lib.hid (by simpa using h1), hb.alloc hb.size _⟩
      case measure => simp [intOf]; omega
end Go.Proofs.Ytpgfgfbhbncabaa
