/- The document's Decode, of what is no message at once. -/
import Derived.Test.YtifpahjlmnimnaaMsgDd
namespace Go.Proofs.Ytifpahjlmnimnaa
open Go.RowKit
set_option linter.unusedVariables false
set_option linter.unusedSimpArgs false
set_option maxRecDepth 20000

theorem RdAt.drewn {w : World} {r : Nat} {s : ByteArray} {p e : Nat} (h : RdAt w r s p e) : RdAt w.drew r s p e := h
theorem below_drewn {B : Nat} {w w' : World} (h : Below B w w') : Below B w w'.drew := ⟨h.os, h.tape, h.output, h.size, h.block⟩
theorem RAt.chg {w w' : World} {q r : Nat} {M : Ms} (h : RAt w q M) (hc : Chg (fun k => k = r) w w') (hne : q ≠ r) : RAt w' q M := hc.blk h hne
theorem ZAt.chg {w w' : World} {b r : Nat} {t : TypeId} (h : ZAt w b t) (hc : Chg (fun k => k = r) w w') (hne : b ≠ r) : ZAt w' b t := hc.blk h hne
theorem RdAt.chg {w w' : World} {r q : Nat} {s : ByteArray} {p e : Nat} (h : RdAt w r s p e) (hc : Chg (fun k => k = q) w w') (hne : r ≠ q) : RdAt w' r s p e := hc.blk h hne
theorem RAt.set {w : World} {q j : Nat} {M : Ms} {k : IntKind} (h : RAt w q M) (hj : nCell j = true) (hk : k = kCell j) (x : Int) : RAt (w.setCell ⟨q, j, none⟩ (.int k x)) q (M.set j x) := by
  have := row_set j (.int k x) h
  subst hk
  rw [M.cl_set x hj] at this
  exact this
theorem RAt.setS {w : World} {q : Nat} {M : Ms} (h : RAt w q M) (t : ByteArray) : RAt (w.setCell ⟨q, 3, none⟩ (.string t)) q (M.setS t) := row_set 3 (.string t) h
theorem RAt.any {w : World} {q j : Nat} {M : Ms} (h : RAt w q M) (hj : j < 13) : ∃ v, w.cell? ⟨q, j, none⟩ = some v ∧ w.frozen? ⟨q, j, none⟩ = false := by
  have h1 := cell_at j h
  have hs : M.cl.size = 13 := rfl
  rw [Array.getElem?_eq_getElem (by rw [hs]; exact hj)] at h1
  exact ⟨_, h1, frz_of_row j h⟩
theorem wf_num {j : Nat} {n : Nat} (h : n ≤ 4294967296) : (Lit.int (kCell j) (n : Int)).wf = true := by
  unfold kCell; split
  · rw [wf_u64]; omega
  · rw [wf_i64]; omega
theorem rdO_size (s : ByteArray) (p e : Nat) : (rdO s p e).1.size ≤ s.size := by
  unfold rdO; split
  · exact tS_size s p 8
  · exact Nat.zero_le _
theorem rdO_place (s : ByteArray) (p e : Nat) (hp : p ≤ s.size) : (rdO s p e).2.1 ≤ s.size := by
  unfold rdO; split
  · exact textA_to s p 8
  · exact hp
theorem wrap_i64_u {x : Int} (h0 : 0 ≤ x) (h1 : x ≤ 18446744073709551615) : IntKind.i64.wrap x = if x < 9223372036854775808 then x else x - 18446744073709551616 := by
  have e1 : x % 2 ^ 64 = x := by omega
  simp only [IntKind.wrap, IntKind.bits, IntKind.signed, e1]
  by_cases hx : x < 9223372036854775808
  · rw [if_pos hx, if_neg (by simp; omega)]
  · rw [if_neg hx, if_pos (by simp; omega)]
    omega
set_option maxHeartbeats 2000000 in
set_option maxRecDepth 100000 in
theorem rdecode_big (s : ByteArray) (w : World) (hs : s.size ≤ 1000000) (h : 4096 < s.size) (M : Ms) (E : Nat) (hd : Hid (decM s = (M, E))) :
    Calls Try.prog 11 #[.string s] w fun e w' => e = .returned (.tuple #[M.v, .int .i64 E]) ∧ Below w.heap.size w w' := by
  have h1 := hd.out
  rw [dec_big h] at h1
  injection h1 with h1 h2
  subst h1 h2
  have hd1 : decide (4096 < (s.size : Int)) = true := by simp; omega
  have HZ0 := Lib.hid (show ZAt (w.alloc (.cells #[.int .i64 0, .int .u64 0, .int .u64 0, .string ⟨#[]⟩, .int .i64 0, .int .i64 0, .int .i64 0, .int .i64 0, .int .i64 0, .int .i64 0, .int .i64 0, .int .u64 0, .int .u64 0] 29)) w.heap.size 29 from heap_alloc_new w _)
  have HBB := Lib.hid (below_alloc w (.cells #[.int .i64 0, .int .u64 0, .int .u64 0, .string ⟨#[]⟩, .int .i64 0, .int .i64 0, .int .i64 0, .int .i64 0, .int .i64 0, .int .i64 0, .int .i64 0, .int .u64 0, .int .u64 0] 29))
  go_enter Try.func11, Try.ntmps11
  go_wp2_with fail
  obtain ⟨c0, c1, c2, c3, c4, c5, c6, c7, c8, c9, c10, c11, c12⟩ := HZ0.out.cells
  exact bodyPost_ret (v := .tuple #[.agg #[.int .i64 0, .int .u64 0, .int .u64 0, .string ⟨#[]⟩, .int .i64 0, .int .i64 0, .int .i64 0, .int .i64 0, .int .i64 0, .int .i64 0, .int .i64 0, .int .u64 0, .int .u64 0], .int .i64 4]) (by simp [results, Try.results11, go_sem, c0, c1, c2, c3, c4, c5, c6, c7, c8, c9, c10, c11, c12]) rfl ⟨rfl, HBB.out⟩
set_option maxHeartbeats 2000000 in
set_option maxRecDepth 100000 in
theorem rdecode_err (s : ByteArray) (w : World) (hs : s.size ≤ 1000000) (h : ¬ 4096 < s.size) {n p e : Nat} (hg : Hid (getA s.data.toList 0 = (n, p, e))) (he : e ≠ 0) (M : Ms) (E : Nat) (hd : Hid (decM s = (M, E))) :
    Calls Try.prog 11 #[.string s] w fun e w' => e = .returned (.tuple #[M.v, .int .i64 E]) ∧ Below w.heap.size w w' := by
  have h1 := hd.out
  rw [dec_err h hg.out he] at h1
  injection h1 with h1 h2
  subst h1 h2
  have hd1 : decide (4096 < (s.size : Int)) = false := by simp; omega
  have hne : ((e : Int) != 0) = true := by simp [he]
  have hm : s.size ≤ maxLen := by unfold maxLen; omega
  have HG := Lib.hid (fun u => rget_at u hm hg.out)
  clear hd he hm hg
  have HZ0 := Lib.hid (show ZAt (w.alloc (.cells #[.int .i64 0, .int .u64 0, .int .u64 0, .string ⟨#[]⟩, .int .i64 0, .int .i64 0, .int .i64 0, .int .i64 0, .int .i64 0, .int .i64 0, .int .i64 0, .int .u64 0, .int .u64 0] 29)) w.heap.size 29 from heap_alloc_new w _)
  have HBB := Lib.hid (below_alloc w (.cells #[.int .i64 0, .int .u64 0, .int .u64 0, .string ⟨#[]⟩, .int .i64 0, .int .i64 0, .int .i64 0, .int .i64 0, .int .i64 0, .int .i64 0, .int .i64 0, .int .u64 0, .int .u64 0] 29))
  go_enter Try.func11, Try.ntmps11
  go_wp2_with fail
  refine (HG.out _).mono ?_
  rintro e' w1 ⟨rfl, rfl⟩
  go_wp2
  obtain ⟨c0, c1, c2, c3, c4, c5, c6, c7, c8, c9, c10, c11, c12⟩ := HZ0.out.cells
  exact bodyPost_ret (v := .tuple #[.agg #[.int .i64 0, .int .u64 0, .int .u64 0, .string ⟨#[]⟩, .int .i64 0, .int .i64 0, .int .i64 0, .int .i64 0, .int .i64 0, .int .i64 0, .int .i64 0, .int .u64 0, .int .u64 0], .int .i64 e]) (by simp [results, Try.results11, go_sem, c0, c1, c2, c3, c4, c5, c6, c7, c8, c9, c10, c11, c12]) rfl ⟨rfl, HBB.out⟩
set_option maxHeartbeats 2000000 in
set_option maxRecDepth 100000 in
theorem rdecode_lo (s : ByteArray) (w : World) (hs : s.size ≤ 1000000) (h : ¬ 4096 < s.size) {n p : Nat} (hg : Hid (getA s.data.toList 0 = (n, p, 0))) (hn : n < 1) (M : Ms) (E : Nat) (hd : Hid (decM s = (M, E))) :
    Calls Try.prog 11 #[.string s] w fun e w' => e = .returned (.tuple #[M.v, .int .i64 E]) ∧ Below w.heap.size w w' := by
  have h1 := hd.out
  rw [dec_ok h hg.out] at h1
  have hb := (getA_bounds s 0 hg.out).1
  have hw : (IntKind.i64.wrap (n : Int)) ≠ 1 ∧ (IntKind.i64.wrap (n : Int)) ≠ 2 ∧ (IntKind.i64.wrap (n : Int)) ≠ 3 ∧ (IntKind.i64.wrap (n : Int)) ≠ 4 := by
    have e : IntKind.i64.wrap (n : Int) = (if (n : Int) < 9223372036854775808 then (n : Int) else (n : Int) - 18446744073709551616) := wrap_i64_u (by omega) (by omega)
    rw [e]; split <;> omega
  rw [fds_none hw.1 hw.2.1 hw.2.2.1 hw.2.2.2] at h1
  have hr : rightM (zeroM (IntKind.i64.wrap (n : Int))) = false := right_nofds (fds_none hw.1 hw.2.1 hw.2.2.1 hw.2.2.2)
  simp only [rdL, decEnd, hr, Bool.not_false, Bool.or_true, if_true] at h1
  injection h1 with h1 h2
  subst h1 h2
  have hd1 : decide (4096 < (s.size : Int)) = false := by simp; omega
  have hn1 : decide ((n : Int) < 1) = true := by simp; omega
  have hm : s.size ≤ maxLen := by unfold maxLen; omega
  have HG := Lib.hid (fun u => rget_at u hm hg.out)
  clear hd hm hg hw hr hb
  have HZ0 := Lib.hid (show ZAt (w.alloc (.cells #[.int .i64 0, .int .u64 0, .int .u64 0, .string ⟨#[]⟩, .int .i64 0, .int .i64 0, .int .i64 0, .int .i64 0, .int .i64 0, .int .i64 0, .int .i64 0, .int .u64 0, .int .u64 0] 29)) w.heap.size 29 from heap_alloc_new w _)
  have HBB := Lib.hid (below_alloc w (.cells #[.int .i64 0, .int .u64 0, .int .u64 0, .string ⟨#[]⟩, .int .i64 0, .int .i64 0, .int .i64 0, .int .i64 0, .int .i64 0, .int .i64 0, .int .i64 0, .int .u64 0, .int .u64 0] 29))
  go_enter Try.func11, Try.ntmps11
  go_wp2_with fail
  refine (HG.out _).mono ?_
  rintro e' w1 ⟨rfl, rfl⟩
  go_wp2
  obtain ⟨c0, c1, c2, c3, c4, c5, c6, c7, c8, c9, c10, c11, c12⟩ := HZ0.out.cells
  exact bodyPost_ret (v := .tuple #[.agg #[.int .i64 0, .int .u64 0, .int .u64 0, .string ⟨#[]⟩, .int .i64 0, .int .i64 0, .int .i64 0, .int .i64 0, .int .i64 0, .int .i64 0, .int .i64 0, .int .u64 0, .int .u64 0], .int .i64 3]) (by simp [results, Try.results11, go_sem, c0, c1, c2, c3, c4, c5, c6, c7, c8, c9, c10, c11, c12]) rfl ⟨rfl, HBB.out⟩
set_option maxHeartbeats 2000000 in
set_option maxRecDepth 100000 in
theorem rdecode_hi (s : ByteArray) (w : World) (hs : s.size ≤ 1000000) (h : ¬ 4096 < s.size) {n p : Nat} (hg : Hid (getA s.data.toList 0 = (n, p, 0))) (hn : 4 < n) (M : Ms) (E : Nat) (hd : Hid (decM s = (M, E))) :
    Calls Try.prog 11 #[.string s] w fun e w' => e = .returned (.tuple #[M.v, .int .i64 E]) ∧ Below w.heap.size w w' := by
  have h1 := hd.out
  rw [dec_ok h hg.out] at h1
  have hb := (getA_bounds s 0 hg.out).1
  have hw : (IntKind.i64.wrap (n : Int)) ≠ 1 ∧ (IntKind.i64.wrap (n : Int)) ≠ 2 ∧ (IntKind.i64.wrap (n : Int)) ≠ 3 ∧ (IntKind.i64.wrap (n : Int)) ≠ 4 := by
    have e : IntKind.i64.wrap (n : Int) = (if (n : Int) < 9223372036854775808 then (n : Int) else (n : Int) - 18446744073709551616) := wrap_i64_u (by omega) (by omega)
    rw [e]; split <;> omega
  rw [fds_none hw.1 hw.2.1 hw.2.2.1 hw.2.2.2] at h1
  have hr : rightM (zeroM (IntKind.i64.wrap (n : Int))) = false := right_nofds (fds_none hw.1 hw.2.1 hw.2.2.1 hw.2.2.2)
  simp only [rdL, decEnd, hr, Bool.not_false, Bool.or_true, if_true] at h1
  injection h1 with h1 h2
  subst h1 h2
  have hd1 : decide (4096 < (s.size : Int)) = false := by simp; omega
  have hn1 : decide ((n : Int) < 1) = false := by simp; omega
  have hn2 : decide ((4 : Int) < (n : Int)) = true := by simp; omega
  have hm : s.size ≤ maxLen := by unfold maxLen; omega
  have HG := Lib.hid (fun u => rget_at u hm hg.out)
  clear hd hm hg hw hr hb
  have HZ0 := Lib.hid (show ZAt (w.alloc (.cells #[.int .i64 0, .int .u64 0, .int .u64 0, .string ⟨#[]⟩, .int .i64 0, .int .i64 0, .int .i64 0, .int .i64 0, .int .i64 0, .int .i64 0, .int .i64 0, .int .u64 0, .int .u64 0] 29)) w.heap.size 29 from heap_alloc_new w _)
  have HBB := Lib.hid (below_alloc w (.cells #[.int .i64 0, .int .u64 0, .int .u64 0, .string ⟨#[]⟩, .int .i64 0, .int .i64 0, .int .i64 0, .int .i64 0, .int .i64 0, .int .i64 0, .int .i64 0, .int .u64 0, .int .u64 0] 29))
  go_enter Try.func11, Try.ntmps11
  go_wp2_with fail
  refine (HG.out _).mono ?_
  rintro e' w1 ⟨rfl, rfl⟩
  go_wp2
  obtain ⟨c0, c1, c2, c3, c4, c5, c6, c7, c8, c9, c10, c11, c12⟩ := HZ0.out.cells
  exact bodyPost_ret (v := .tuple #[.agg #[.int .i64 0, .int .u64 0, .int .u64 0, .string ⟨#[]⟩, .int .i64 0, .int .i64 0, .int .i64 0, .int .i64 0, .int .i64 0, .int .i64 0, .int .i64 0, .int .u64 0, .int .u64 0], .int .i64 3]) (by simp [results, Try.results11, go_sem, c0, c1, c2, c3, c4, c5, c6, c7, c8, c9, c10, c11, c12]) rfl ⟨rfl, HBB.out⟩
end Go.Proofs.Ytifpahjlmnimnaa
