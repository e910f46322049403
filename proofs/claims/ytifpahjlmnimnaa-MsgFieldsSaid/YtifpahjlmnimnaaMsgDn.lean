/- The document's row of numbers as bytes; Same of two rows. -/
import Derived.Test.YtifpahjlmnimnaaMsgDq
import Derived.Test.YtifpahjlmnimnaaMsgCn
namespace Go.Proofs.Ytifpahjlmnimnaa
open Go.RowKit
set_option linter.unusedVariables false
set_option linter.unusedSimpArgs false
set_option maxRecDepth 20000

def numS : List Int → ByteArray → ByteArray
  | [], s => s
  | x :: r, s => numS r (s ++ putS (u64 x))
theorem numS_app (l : List Int) : ∀ a b : ByteArray, numS l (a ++ b) = a ++ numS l b := by
  induction l with
  | nil => intro a b; rfl
  | cons x r ih => intro a b; simp only [numS, ByteArray.append_assoc, ih]
theorem row_cell {k : IntKind} {w : World} {a : Option Addr} {cap : Nat} {zs : List Int} (h : RowAt k w a cap zs) {j : Nat} (hj : j < zs.length) : ∃ b off, a = some ⟨b, off, none⟩ ∧ w.cell? ⟨b, off + j, none⟩ = some (.int k (zs.getD j 0)) := by
  obtain ⟨h1, h2, b, off, h3⟩ := h
  obtain ⟨e, h4⟩ := h3 j hj
  exact ⟨b, off, e, h4⟩
theorem num_len (l : List Int) : ∀ s : ByteArray, (numS l s).size ≤ s.size + 10 * l.length := by
  induction l with
  | nil => intro s; exact Nat.le_refl _
  | cons x r ih =>
    intro s
    have h1 := ih (s ++ putS (u64 x))
    have h2 := putS_size (u64 x) (wrap_u x).2
    rw [ByteArray.size_append] at h1
    simp only [numS, List.length_cons]
    omega
set_option maxHeartbeats 2000000 in
set_option maxRecDepth 100000 in
theorem numbers_k (a : Option Addr) (n cap : Nat) (zs : List Int) (w : World) (hn : n = zs.length) (h : RowAt .i64 w a cap zs) (hsm : n ≤ 10) (t : ByteArray) (ht : Hid (numS zs ⟨#[]⟩ = t)) :
    Calls Try.prog 30 #[.slice a n cap] w fun e w' => e = .returned (.string t) ∧ Below w.heap.size w w' := by
  have HR := Lib.hid h
  have HN := Lib.hid hn
  clear h hn
  go_enter Try.func30, Try.ntmps30
  go_wp2_with fail
  go_loopw [3, 4] (fun s i wr => ∃ (k : Nat) (g : ByteArray), k ≤ n ∧ i = .int .i64 k ∧ s = .string g ∧ Hid (g.size ≤ 10 * k) ∧ Hid (numS (zs.drop k) g = t) ∧ Hid (Below w.heap.size w wr)) (fun _ i _ => n - (intOf i).toNat)
  case atStart => exact ⟨0, ⟨#[]⟩, Nat.zero_le _, rfl, rfl, Lib.hid (Nat.le_refl _), Lib.hid (by rw [List.drop_zero]; exact ht.out), Lib.hid (Below.refl _ _)⟩
  case round =>
    obtain ⟨k, g, hk, rfl, rfl, HG, HE, HB⟩ := hrel
    by_cases hlt : k < n
    · have hlt' : (k : Int) < (n : Int) := by omega
      obtain ⟨bk, off, rfl, hc⟩ := row_cell HR.out (j := k) (by rw [← HN.out]; exact hlt)
      have hc2 : wr.cell? ⟨bk, off + k, none⟩ = some (.int .i64 (zs.getD k 0)) := (HB.out.cell (block_lt_of_cell hc)).trans hc
      have hdr : zs.drop k = zs.getD k 0 :: zs.drop (k + 1) := by
        rw [List.drop_eq_getElem_cons (by rw [← HN.out]; exact hlt)]
        simp [List.getD, List.getElem?_eq_getElem (show k < zs.length by rw [← HN.out]; exact hlt)]
      have HE2 : Hid (numS (zs.drop (k + 1)) (g ++ putS (u64 (zs.getD k 0))) = t) := Lib.hid (by have h1 := HE.out; rw [hdr] at h1; exact h1)
      generalize zs.getD k 0 = z at hc2 HE2
      have hwr := (wrap_u z).1
      have HPU := Lib.hid (fun u => rput_any (u64 z) u (wrap_u _).2)
      have HPS := Lib.hid (putS_size (u64 z) (wrap_u _).2)
      clear hc hdr HE
      go_wp2_with fail
      refine (HPU.out _).mono ?_
      rintro e w1 ⟨rfl, hb1⟩
      have HB1 := Lib.hid (HB.out.trans (hb1.mono HB.out.size))
      clear hb1 HPU hc2 HB hwr
      generalize putS (u64 z) = p at HE2 HPS
      have hga : g.size + p.size ≤ 1000 := by have := HG.out; have := HPS.out; omega
      go_wp2_with fail
      go_roundw
      case rel => exact ⟨k + 1, g ++ p, by omega, by go_num, rfl, Lib.hid (by have := HG.out; have := HPS.out; rw [ByteArray.size_append]; omega), HE2, HB1⟩
      case measure => simp [intOf]; omega
    · obtain rfl : k = n := by omega
      have HT : Hid (g = t) := Lib.hid (by have h1 := HE.out; rw [HN.out, List.drop_length] at h1; exact h1)
      clear hlt HE
      go_wp2
      go_ret
      exact ⟨retS HT.out, HB.out⟩
set_option maxHeartbeats 2000000 in
set_option maxRecDepth 100000 in
theorem same_true (a1 a2 : Option Addr) (n c1 c2 : Nat) (zs : List Int) (w : World) (hn : n = zs.length) (h1 : RowAt .i64 w a1 c1 zs) (h2 : RowAt .i64 w a2 c2 zs) :
    Calls Try.prog 17 #[.slice a1 n c1, .slice a2 n c2] w fun e w' => e = .returned (.bool true) ∧ Below w.heap.size w w' := by
  have hlen := h1.len
  rw [← hn] at hlen
  have HR1 := Lib.hid h1
  have HR2 := Lib.hid h2
  have HN := Lib.hid hn
  clear h1 h2 hn
  go_enter Try.func17, Try.ntmps17
  go_wp2_with fail
  go_loopw [5] (fun i wr => ∃ (k : Nat), k ≤ n ∧ i = .int .i64 k ∧ Hid (Below w.heap.size w wr)) (fun i _ => n - (intOf i).toNat)
  case atStart => exact ⟨0, Nat.zero_le _, rfl, Lib.hid (Below.refl _ _)⟩
  case round =>
    obtain ⟨k, hk, rfl, HB⟩ := hrel
    by_cases hlt : k < n
    · have hlt' : (k : Int) < (n : Int) := by omega
      obtain ⟨b1, f1, rfl, hc1⟩ := row_cell HR1.out (j := k) (by rw [← HN.out]; exact hlt)
      obtain ⟨b2, f2, rfl, hc2⟩ := row_cell HR2.out (j := k) (by rw [← HN.out]; exact hlt)
      have hd1 : wr.cell? ⟨b1, f1 + k, none⟩ = some (.int .i64 (zs.getD k 0)) := (HB.out.cell (block_lt_of_cell hc1)).trans hc1
      have hd2 : wr.cell? ⟨b2, f2 + k, none⟩ = some (.int .i64 (zs.getD k 0)) := (HB.out.cell (block_lt_of_cell hc2)).trans hc2
      generalize zs.getD k 0 = z at hd1 hd2
      clear hc1 hc2
      have hzz : (z != z) = false := by simp
      go_wp2
      go_quiet (fail)
      go_wp2
      go_roundw
      case rel => exact ⟨k + 1, by omega, by go_num, Lib.hid (HB.out.trans (drewN_below2 HB.out.size _))⟩
      case measure => simp [intOf]; omega
    · obtain rfl : k = n := by omega
      clear hlt
      go_wp2
      go_ret
      exact ⟨rfl, HB.out⟩
end Go.Proofs.Ytifpahjlmnimnaa
