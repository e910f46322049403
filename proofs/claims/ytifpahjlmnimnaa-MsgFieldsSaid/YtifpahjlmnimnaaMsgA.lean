/- The parts that fieldsIn hands out, one by one; what each tells of its place. -/
import Derived.Test.YtifpahjlmnimnaaMsgM
import Derived.Deep.RegionHeld3
namespace Go.Proofs.Ytifpahjlmnimnaa
open Go.RowKit
set_option linter.unusedVariables false
set_option linter.unusedSimpArgs false
set_option maxRecDepth 20000

theorem sessionIn_any (p : Addr) (w : World) :
    Calls Try.prog 34 #[.pointer (some p)] w fun e w' => e = .returned (.agg #[.pointer (some p), .int .u64 1, .int .u64 4294967296]) ∧ Below w.heap.size w w' := by
  go_enter Try.func34, Try.ntmps34
  go_wp2
  exact bodyPost_ret (v := .agg #[.pointer (some p), .int .u64 1, .int .u64 4294967296]) (by simp [results, Try.results34, go_sem]) rfl ⟨rfl, below_alloc _ _⟩
theorem nameIn_any (p : Addr) (w : World) :
    Calls Try.prog 35 #[.pointer (some p)] w fun e w' => e = .returned (.agg #[.pointer (some p), .int .u64 1, .int .u64 1048576]) ∧ Below w.heap.size w w' := by
  go_enter Try.func35, Try.ntmps35
  go_wp2
  exact bodyPost_ret (v := .agg #[.pointer (some p), .int .u64 1, .int .u64 1048576]) (by simp [results, Try.results35, go_sem]) rfl ⟨rfl, below_alloc _ _⟩

/-! What a place tells. -/
theorem cell_al {w : World} {p : Addr} {v : Value} (h : w.cell? p = some v) (o : Obj) : (w.alloc o).cell? p = some v := ((below_alloc w o).cell (block_lt_of_cell h)).trans h
theorem frz_al {w : World} {p : Addr} {b : Bool} (h : w.frozen? p = b) (hp : p.block < w.heap.size) (o : Obj) : (w.alloc o).frozen? p = b := ((below_alloc w o).frozen hp).trans h
theorem iv_yes {lo hi u : Int} (h : lo ≤ u) : inIv lo hi u = decide (u ≤ hi) := by simp [inIv, h]
theorem iv_no {lo hi u : Int} (h : ¬ lo ≤ u) : inIv lo hi u = false := by simp [inIv, h]
theorem rightI_any (p : Addr) (lo hi x : Int) (w : World) (hc : w.cell? p = some (.int .i64 x)) (u : Int) (hu : IntKind.u64.wrap x = u) (b : Bool) (hb : Hid (inIv lo hi u = b)) :
    Calls Try.prog 59 #[.agg #[.pointer (some p), .int .u64 lo, .int .u64 hi]] w fun e w' => e = .returned (.bool b) ∧ Below w.heap.size w w' := by
  have hc1 := cell_al hc (.cells #[.pointer (some p), .int .u64 lo, .int .u64 hi] 75)
  clear hc
  by_cases hlo : lo ≤ u
  · have hd : decide (lo ≤ u) = true := by simpa using hlo
    have HE : Hid (decide (u ≤ hi) = b) := Lib.hid (by rw [← hb.out, iv_yes hlo])
    go_enter Try.func59, Try.ntmps59
    go_wp2
    go_ret
    exact ⟨retB HE.out, below_alloc _ _⟩
  · have hd : decide (lo ≤ u) = false := by simpa using hlo
    have hd2 : u < lo := by omega
    have HE : Hid (false = b) := Lib.hid (by rw [← hb.out, iv_no hlo])
    go_enter Try.func59, Try.ntmps59
    go_wp2
    go_ret
    exact ⟨retB HE.out, below_alloc _ _⟩
theorem bytesI_any (p : Addr) (lo hi x : Int) (w : World) (hc : w.cell? p = some (.int .i64 x)) (u : Nat) (hu : IntKind.u64.wrap x = (u : Int)) (hm : (u : Int) ≤ 18446744073709551615) :
    Calls Try.prog 56 #[.agg #[.pointer (some p), .int .u64 lo, .int .u64 hi]] w fun e w' => e = .returned (.string (putS u)) ∧ Below w.heap.size w w' := by
  have hc1 := cell_al hc (.cells #[.pointer (some p), .int .u64 lo, .int .u64 hi] 75)
  clear hc
  go_enter Try.func56, Try.ntmps56
  go_wp2_with fail
  refine (put_any u _ hm).mono ?_
  rintro e w1 ⟨rfl, hb1⟩
  go_wp2_with fail
  go_ret
  exact ⟨rfl, (below_alloc _ _).trans (hb1.mono (below_alloc _ _).size)⟩
theorem emptyI_any (p : Addr) (lo hi x : Int) (w : World) (hc : w.cell? p = some (.int .i64 x)) (hf : w.frozen? p = false) :
    Calls Try.prog 57 #[.agg #[.pointer (some p), .int .u64 lo, .int .u64 hi]] w fun e w' => e = .returned (.tuple #[]) ∧ ∃ w1, Below w.heap.size w w1 ∧ w' = w1.setCell p (.int .i64 0) := by
  have hc1 := cell_al hc (.cells #[.pointer (some p), .int .u64 lo, .int .u64 hi] 75)
  have hf1 := frz_al hf (block_lt_of_cell hc) (.cells #[.pointer (some p), .int .u64 lo, .int .u64 hi] 75)
  clear hc hf
  go_enter Try.func57, Try.ntmps57
  go_wp2
  go_end0
  exact ⟨rfl, _, below_alloc _ _, rfl⟩
theorem rightU_any (p : Addr) (lo hi x : Int) (w : World) (hc : w.cell? p = some (.int .u64 x)) (b : Bool) (hb : Hid (inIv lo hi x = b)) :
    Calls Try.prog 63 #[.agg #[.pointer (some p), .int .u64 lo, .int .u64 hi]] w fun e w' => e = .returned (.bool b) ∧ Below w.heap.size w w' := by
  have hc1 := cell_al hc (.cells #[.pointer (some p), .int .u64 lo, .int .u64 hi] 81)
  clear hc
  by_cases hlo : lo ≤ x
  · have hd : decide (lo ≤ x) = true := by simpa using hlo
    have HE : Hid (decide (x ≤ hi) = b) := Lib.hid (by rw [← hb.out, iv_yes hlo])
    go_enter Try.func63, Try.ntmps63
    go_wp2
    go_ret
    exact ⟨retB HE.out, below_alloc _ _⟩
  · have hd : decide (lo ≤ x) = false := by simpa using hlo
    have hd2 : x < lo := by omega
    have HE : Hid (false = b) := Lib.hid (by rw [← hb.out, iv_no hlo])
    go_enter Try.func63, Try.ntmps63
    go_wp2
    go_ret
    exact ⟨retB HE.out, below_alloc _ _⟩
theorem bytesU_any (p : Addr) (lo hi x : Int) (w : World) (hc : w.cell? p = some (.int .u64 x)) (u : Nat) (hu : x = (u : Int)) (hm : (u : Int) ≤ 18446744073709551615) :
    Calls Try.prog 60 #[.agg #[.pointer (some p), .int .u64 lo, .int .u64 hi]] w fun e w' => e = .returned (.string (putS u)) ∧ Below w.heap.size w w' := by
  have hc1 := cell_al hc (.cells #[.pointer (some p), .int .u64 lo, .int .u64 hi] 81)
  clear hc
  subst hu
  go_enter Try.func60, Try.ntmps60
  go_wp2_with fail
  refine (put_any u _ hm).mono ?_
  rintro e w1 ⟨rfl, hb1⟩
  go_wp2_with fail
  go_ret
  exact ⟨rfl, (below_alloc _ _).trans (hb1.mono (below_alloc _ _).size)⟩
theorem emptyU_any (p : Addr) (lo hi x : Int) (w : World) (hc : w.cell? p = some (.int .u64 x)) (hf : w.frozen? p = false) :
    Calls Try.prog 61 #[.agg #[.pointer (some p), .int .u64 lo, .int .u64 hi]] w fun e w' => e = .returned (.tuple #[]) ∧ ∃ w1, Below w.heap.size w w1 ∧ w' = w1.setCell p (.int .u64 0) := by
  have hc1 := cell_al hc (.cells #[.pointer (some p), .int .u64 lo, .int .u64 hi] 81)
  have hf1 := frz_al hf (block_lt_of_cell hc) (.cells #[.pointer (some p), .int .u64 lo, .int .u64 hi] 81)
  clear hc hf
  go_enter Try.func61, Try.ntmps61
  go_wp2
  go_end0
  exact ⟨rfl, _, below_alloc _ _, rfl⟩
theorem numA_err {l : List UInt8} {a : Int} {N P E : Nat} (h : getA l a = (N, P, E)) (hE : E ≠ 0) : numA l a = (0, 0, E) := by
  unfold numA; rw [h]; split
  · rename_i q; simp at q; exact absurd q.2.2 hE
  · rename_i q; simp at q; simp [q.2.2]
theorem numA_big {l : List UInt8} {a : Int} {N P : Nat} (h : getA l a = (N, P, 0)) (hN : 4294967296 < N) : numA l a = (0, 0, 3) := by
  unfold numA; rw [h]; simp [hN]
theorem numA_ok {l : List UInt8} {a : Int} {N P : Nat} (h : getA l a = (N, P, 0)) (hN : N ≤ 4294967296) : numA l a = (N, P, 0) := by
  unfold numA; rw [h]; simp; omega
theorem retT2 {a b c d : Int} (h : a = c) (k : b = d) : Ending.returned (.tuple #[.int .i64 a, .int .i64 b]) = .returned (.tuple #[.int .i64 c, .int .i64 d]) := by rw [h, k]
theorem readI_err (p : Addr) (lo hi : Int) (s : ByteArray) (a : Int) (w : World) (hs : s.size ≤ maxLen) (E : Nat) (hn : Hid (numA s.data.toList a = (0, 0, E))) (hE : Hid (E ≠ 0)) :
    Calls Try.prog 58 #[.agg #[.pointer (some p), .int .u64 lo, .int .u64 hi], .string s, .int .i64 a] w fun e w' => e = .returned (.tuple #[.int .i64 0, .int .i64 E]) ∧ Below w.heap.size w w' := by
  obtain ⟨n, q, e0, h⟩ : ∃ n q e0, getA s.data.toList a = (n, q, e0) := ⟨_, _, _, rfl⟩
  have HS := Lib.hid hs
  have HG := Lib.hid h
  by_cases he : e0 = 0
  · by_cases hb : 4294967296 < n
    · have HE : Hid (E = 3) := Lib.hid (by
        have h1 := hn.out; rw [numA_big (he ▸ h) hb] at h1; simp at h1; exact h1.symm)
      have hd : decide ((4294967296 : Int) < (n : Int)) = true := by simp; omega
      have hne : ((e0 : Int) != 0) = false := by simp [he]
      clear hs h he hb hn hE
      go_enter Try.func58, Try.ntmps58
      go_wp2_with fail
      refine (get_at _ HS.out HG.out).mono ?_
      rintro e w1 ⟨rfl, rfl⟩
      go_wp2_with fail
      go_ret2
      exact ⟨retT2 rfl (by rw [HE.out]; rfl), below_alloc _ _⟩
    · exact absurd (by have h1 := hn.out; rw [numA_ok (he ▸ h) (by omega)] at h1; simp at h1; exact h1.2.2.symm) hE.out
  · have HE : Hid (E = e0) := Lib.hid (by
      have h1 := hn.out; rw [numA_err h he] at h1; simp at h1; exact h1.symm)
    have hne : ((e0 : Int) != 0) = true := by simp [he]
    clear hs h he hn hE
    go_enter Try.func58, Try.ntmps58
    go_wp2_with fail
    refine (get_at _ HS.out HG.out).mono ?_
    rintro e w1 ⟨rfl, rfl⟩
    go_wp2_with fail
    go_ret2
    exact ⟨retT2 rfl (by rw [HE.out]), below_alloc _ _⟩
theorem readI_ok (p : Addr) (lo hi x : Int) (s : ByteArray) (a : Int) (w : World) (hs : s.size ≤ maxLen) (hc : w.cell? p = some (.int .i64 x)) (hf : w.frozen? p = false) (n q : Nat) (hn : Hid (numA s.data.toList a = (n, q, 0))) :
    Calls Try.prog 58 #[.agg #[.pointer (some p), .int .u64 lo, .int .u64 hi], .string s, .int .i64 a] w fun e w' => e = .returned (.tuple #[.int .i64 q, .int .i64 0]) ∧ ∃ w1, Below w.heap.size w w1 ∧ w' = w1.setCell p (.int .i64 n) := by
  obtain ⟨n', q', e0, h⟩ : ∃ n q e0, getA s.data.toList a = (n, q, e0) := ⟨_, _, _, rfl⟩
  obtain ⟨rfl, hb, rfl, rfl⟩ : e0 = 0 ∧ n' ≤ 4294967296 ∧ n' = n ∧ q' = q := by
    have h1 := hn.out
    by_cases he : e0 = 0
    · subst he
      by_cases hb : 4294967296 < n'
      · rw [numA_big h hb] at h1; simp at h1
      · rw [numA_ok h (by omega)] at h1; simp at h1; exact ⟨rfl, by omega, h1.1, h1.2⟩
    · rw [numA_err h he] at h1; simp at h1; exact absurd h1.2.2 he
  have HS := Lib.hid hs
  have HG := Lib.hid h
  have hc1 := cell_al hc (.cells #[.pointer (some p), .int .u64 lo, .int .u64 hi] 75)
  have hf1 := frz_al hf (block_lt_of_cell hc) (.cells #[.pointer (some p), .int .u64 lo, .int .u64 hi] 75)
  have hd : decide ((4294967296 : Int) < (n' : Int)) = false := by simp; omega
  have hwr : IntKind.i64.wrap (n' : Int) = n' := by simp [IntKind.wrap, IntKind.bits, IntKind.signed]; omega
  clear hs h hn hc hf hb
  go_enter Try.func58, Try.ntmps58
  go_wp2_with fail
  refine (get_at _ HS.out HG.out).mono ?_
  rintro e w1 ⟨rfl, rfl⟩
  go_wp2_with fail
  go_ret2
  exact ⟨rfl, _, below_alloc _ _, rfl⟩
theorem readU_err (p : Addr) (lo hi : Int) (s : ByteArray) (a : Int) (w : World) (hs : s.size ≤ maxLen) (E : Nat) (hn : Hid (numA s.data.toList a = (0, 0, E))) (hE : Hid (E ≠ 0)) :
    Calls Try.prog 62 #[.agg #[.pointer (some p), .int .u64 lo, .int .u64 hi], .string s, .int .i64 a] w fun e w' => e = .returned (.tuple #[.int .i64 0, .int .i64 E]) ∧ Below w.heap.size w w' := by
  obtain ⟨n, q, e0, h⟩ : ∃ n q e0, getA s.data.toList a = (n, q, e0) := ⟨_, _, _, rfl⟩
  have HS := Lib.hid hs
  have HG := Lib.hid h
  by_cases he : e0 = 0
  · by_cases hb : 4294967296 < n
    · have HE : Hid (E = 3) := Lib.hid (by
        have h1 := hn.out; rw [numA_big (he ▸ h) hb] at h1; simp at h1; exact h1.symm)
      have hd : decide ((4294967296 : Int) < (n : Int)) = true := by simp; omega
      have hne : ((e0 : Int) != 0) = false := by simp [he]
      clear hs h he hb hn hE
      go_enter Try.func62, Try.ntmps62
      go_wp2_with fail
      refine (get_at _ HS.out HG.out).mono ?_
      rintro e w1 ⟨rfl, rfl⟩
      go_wp2_with fail
      go_ret2
      exact ⟨retT2 rfl (by rw [HE.out]; rfl), below_alloc _ _⟩
    · exact absurd (by have h1 := hn.out; rw [numA_ok (he ▸ h) (by omega)] at h1; simp at h1; exact h1.2.2.symm) hE.out
  · have HE : Hid (E = e0) := Lib.hid (by
      have h1 := hn.out; rw [numA_err h he] at h1; simp at h1; exact h1.symm)
    have hne : ((e0 : Int) != 0) = true := by simp [he]
    clear hs h he hn hE
    go_enter Try.func62, Try.ntmps62
    go_wp2_with fail
    refine (get_at _ HS.out HG.out).mono ?_
    rintro e w1 ⟨rfl, rfl⟩
    go_wp2_with fail
    go_ret2
    exact ⟨retT2 rfl (by rw [HE.out]), below_alloc _ _⟩
theorem readU_ok (p : Addr) (lo hi x : Int) (s : ByteArray) (a : Int) (w : World) (hs : s.size ≤ maxLen) (hc : w.cell? p = some (.int .u64 x)) (hf : w.frozen? p = false) (n q : Nat) (hn : Hid (numA s.data.toList a = (n, q, 0))) :
    Calls Try.prog 62 #[.agg #[.pointer (some p), .int .u64 lo, .int .u64 hi], .string s, .int .i64 a] w fun e w' => e = .returned (.tuple #[.int .i64 q, .int .i64 0]) ∧ ∃ w1, Below w.heap.size w w1 ∧ w' = w1.setCell p (.int .u64 n) := by
  obtain ⟨n', q', e0, h⟩ : ∃ n q e0, getA s.data.toList a = (n, q, e0) := ⟨_, _, _, rfl⟩
  obtain ⟨rfl, hb, rfl, rfl⟩ : e0 = 0 ∧ n' ≤ 4294967296 ∧ n' = n ∧ q' = q := by
    have h1 := hn.out
    by_cases he : e0 = 0
    · subst he
      by_cases hb : 4294967296 < n'
      · rw [numA_big h hb] at h1; simp at h1
      · rw [numA_ok h (by omega)] at h1; simp at h1; exact ⟨rfl, by omega, h1.1, h1.2⟩
    · rw [numA_err h he] at h1; simp at h1; exact absurd h1.2.2 he
  have HS := Lib.hid hs
  have HG := Lib.hid h
  have hc1 := cell_al hc (.cells #[.pointer (some p), .int .u64 lo, .int .u64 hi] 81)
  have hf1 := frz_al hf (block_lt_of_cell hc) (.cells #[.pointer (some p), .int .u64 lo, .int .u64 hi] 81)
  have hd : decide ((4294967296 : Int) < (n' : Int)) = false := by simp; omega
  have hwr : IntKind.i64.wrap (n' : Int) = n' := by simp [IntKind.wrap, IntKind.bits, IntKind.signed]; omega
  clear hs h hn hc hf hb
  go_enter Try.func62, Try.ntmps62
  go_wp2_with fail
  refine (get_at _ HS.out HG.out).mono ?_
  rintro e w1 ⟨rfl, rfl⟩
  go_wp2_with fail
  go_ret2
  exact ⟨rfl, _, below_alloc _ _, rfl⟩
theorem rightV_any (p : Addr) (x : ByteArray) (w : World) (hx : x.size ≤ maxLen) (hc : w.cell? p = some (.string x)) (b : Bool) (hb : Hid (rightB x.data.toList = b)) :
    Calls Try.prog 67 #[.agg #[.pointer (some p)]] w fun e w' => e = .returned (.bool b) ∧ Below w.heap.size w w' := by
  have hc1 := cell_al hc (.cells #[.pointer (some p)] 86)
  have HX := Lib.hid hx
  clear hc hx
  go_enter Try.func67, Try.ntmps67
  go_wp2_with fail
  refine (right_any x _ HX.out b hb).mono ?_
  rintro e w1 ⟨rfl, hb1⟩
  go_wp2_with fail
  go_ret
  exact ⟨rfl, (below_alloc _ _).trans (hb1.mono (below_alloc _ _).size)⟩
theorem bytesV_any (p : Addr) (x : ByteArray) (w : World) (hx : x.size ≤ 1000000) (hc : w.cell? p = some (.string x)) :
    Calls Try.prog 64 #[.agg #[.pointer (some p)]] w fun e w' => e = .returned (.string (ptS x)) ∧ Below w.heap.size w w' := by
  have hc1 := cell_al hc (.cells #[.pointer (some p)] 86)
  have HX := Lib.hid hx
  clear hc hx
  go_enter Try.func64, Try.ntmps64
  go_wp2_with fail
  refine (putText_any x _ HX.out).mono ?_
  rintro e w1 ⟨rfl, hb1⟩
  go_wp2_with fail
  go_ret
  exact ⟨rfl, (below_alloc _ _).trans (hb1.mono (below_alloc _ _).size)⟩
theorem emptyV_any (p : Addr) (x : ByteArray) (w : World) (hc : w.cell? p = some (.string x)) (hf : w.frozen? p = false) :
    Calls Try.prog 65 #[.agg #[.pointer (some p)]] w fun e w' => e = .returned (.tuple #[]) ∧ ∃ w1, Below w.heap.size w w1 ∧ w' = w1.setCell p (.string ByteArray.empty) := by
  have hc1 := cell_al hc (.cells #[.pointer (some p)] 86)
  have hf1 := frz_al hf (block_lt_of_cell hc) (.cells #[.pointer (some p)] 86)
  clear hc hf
  go_enter Try.func65, Try.ntmps65
  go_wp2
  go_end0
  exact ⟨rfl, _, below_alloc _ _, rfl⟩
theorem readV_err (p : Addr) (s : ByteArray) (a : Int) (w : World) (hs : s.size ≤ 1000000) (E : Nat) (hn : Hid ((textA s.data.toList a 8).2.2 = E)) (hE : Hid (E ≠ 0)) :
    Calls Try.prog 66 #[.agg #[.pointer (some p)], .string s, .int .i64 a] w fun e w' => e = .returned (.tuple #[.int .i64 0, .int .i64 E]) ∧ Below w.heap.size w w' := by
  have hne : ((E : Int) != 0) = true := by simp [hE.out]
  have hq : tE s a 8 = (E : Int) := by simp [tE, hn.out]
  have HT := Lib.hid (text_any s a 8 · hs (by omega) (by omega))
  clear hs hn hE
  go_enter Try.func66, Try.ntmps66
  go_wp2_with fail
  refine (HT.out _).mono ?_
  rintro e w1 ⟨rfl, hb1⟩
  rw [hq]
  clear hq
  go_wp2_with fail
  go_ret2
  exact ⟨rfl, (below_alloc _ _).trans (hb1.mono (below_alloc _ _).size)⟩
theorem readV_ok (p : Addr) (x : ByteArray) (s : ByteArray) (a : Int) (w : World) (hs : s.size ≤ 1000000) (hc : w.cell? p = some (.string x)) (hf : w.frozen? p = false) (t : ByteArray) (q : Nat) (hn : Hid ((textA s.data.toList a 8).2.2 = 0)) (ht : Hid (tS s a 8 = t)) (hq : Hid ((textA s.data.toList a 8).2.1 = q)) :
    Calls Try.prog 66 #[.agg #[.pointer (some p)], .string s, .int .i64 a] w fun e w' => e = .returned (.tuple #[.int .i64 q, .int .i64 0]) ∧ ∃ w1, Below w.heap.size w w1 ∧ w' = w1.setCell p (.string t) := by
  have hlt := block_lt_of_cell hc
  have hc1 := cell_al hc (.cells #[.pointer (some p)] 86)
  have hf1 := frz_al hf hlt (.cells #[.pointer (some p)] 86)
  have hlt1 : p.block < (w.alloc (.cells #[.pointer (some p)] 86)).heap.size := Nat.lt_of_lt_of_le hlt (below_alloc _ _).size
  have e1 : tE s a 8 = 0 := by simp [tE, hn.out]
  have e2 : tP s a 8 = (q : Int) := by simp [tP, hq.out]
  have HT := Lib.hid (text_any s a 8 · hs (by omega) (by omega))
  have HC := Lib.hid (And.intro hc1 (And.intro hf1 hlt1))
  clear hs hn hq hc hf hc1 hf1 hlt hlt1
  go_enter Try.func66, Try.ntmps66
  go_wp2_with fail
  refine (HT.out _).mono ?_
  rintro e w1 ⟨rfl, hb1⟩
  have hc2 := (hb1.cell HC.out.2.2).trans HC.out.1
  have hf2 := (hb1.frozen HC.out.2.2).trans HC.out.2.1
  have hb2 := (below_alloc _ _).trans (hb1.mono (below_alloc _ _).size)
  have hz : (#[Value.pointer (some p)])[0]? = some (.pointer (some p)) := rfl
  have hc0 : w1.cell? ⟨w.heap.size, 0, none⟩ = some (.pointer (some p)) := (hb1.cell (by simp)).trans (by rw [cell_at 0 (heap_alloc_new w _)]; rfl)
  rw [e1, e2, ht.out]
  clear e1 e2 hz
  go_wp2_with fail
  go_ret2
  exact ⟨rfl, _, hb2, rfl⟩
end Go.Proofs.Ytifpahjlmnimnaa
