/- Rows of parts: the document's Cut. -/
import Derived.Test.YtjimkkakcgdgfaaRowR
namespace Go.Proofs.Ytjimkkakcgdgfaa
open Go.RowKit
set_option linter.unusedVariables false
set_option linter.unusedSimpArgs false
set_option maxRecDepth 20000

/-- The parts of a text, each of k bytes but the last one; how many there are stands in each as m. -/
def partAt (s : ByteArray) (id : Int) (k : Nat) (m : Int) (i : Nat) : Fr := ⟨id, i, m, s.extract (i * k) (min s.size (i * k + k))⟩
def many (n k : Nat) : Nat := (n + k - 1) / k
def parts (s : ByteArray) (id : Int) (k : Nat) (m : Nat) : List Fr := (List.range m).map (partAt s id k m)
def cutF (s : ByteArray) (id size : Int) : List Fr × Nat :=
  if id < 1 ∨ 4294967296 < id ∨ size < 1 ∨ 1000 < size ∨ s.size < 1 ∨ 4096 < s.size then ([], 1)
  else if 16 < many s.size size.toNat then ([], 4) else (parts s id size.toNat (many s.size size.toNat), 0)
theorem many_iff {n k i : Nat} (hk : 1 ≤ k) : i < many n k ↔ i * k < n := by
  unfold many
  rw [Nat.lt_div_iff_mul_lt (by omega)]
  constructor
  · intro h; omega
  · intro h; omega
/-- The parts, of which the first i have their number. -/
def some1 (s : ByteArray) (id : Int) (k m i : Nat) : List Fr := (List.range m).map fun j => partAt s id k (if j < i then (m : Int) else 0) j
theorem some1_all (s : ByteArray) (id : Int) (k m : Nat) : some1 s id k m m = parts s id k m := by
  unfold some1 parts
  apply List.map_congr_left
  intro j hj
  rw [if_pos (List.mem_range.1 hj)]
theorem some1_none (s : ByteArray) (id : Int) (k m : Nat) : some1 s id k m 0 = (List.range m).map (partAt s id k 0) := by
  unfold some1
  apply List.map_congr_left
  intro j hj
  rw [if_neg (by omega)]
theorem some1_len (s : ByteArray) (id : Int) (k m i : Nat) : (some1 s id k m i).length = m := by simp [some1]
theorem some1_next (s : ByteArray) (id : Int) (k m i : Nat) (hi : i < m) : some1 s id k m (i + 1) = (some1 s id k m i).set i { (some1 s id k m i).getD i zeroF with ct := m } := by
  have hg : (some1 s id k m i).getD i zeroF = partAt s id k 0 i := by simp [some1, List.getD, hi]
  rw [hg]
  apply List.ext_getElem?
  intro j
  rw [List.getElem?_set]
  by_cases hj : i = j
  · subst hj
    simp [some1, hi, partAt]
  · rw [if_neg hj]
    simp only [some1, List.getElem?_map]
    rcases Nat.lt_or_ge j m with q | q
    · rw [List.getElem?_range q]
      simp only [Option.map_some]
      have : (if j < i + 1 then (m : Int) else 0) = if j < i then (m : Int) else 0 := by
        by_cases h1 : j < i
        · rw [if_pos h1, if_pos (by omega)]
        · rw [if_neg h1, if_neg (by omega)]
      rw [this]
    · rw [List.getElem?_eq_none (by simpa using q)]; rfl
theorem cellsF_setCt (L : List Fr) : ∀ (i : Nat) (c : Int), i < L.length → cellsF (L.set i { L.getD i zeroF with ct := c }) = (cellsF L).set (i * 4 + 2) (.int .i64 c) := by
  induction L with
  | nil => intro i c h; simp at h
  | cons f r ih =>
    intro i c h
    cases i with
    | zero => rfl
    | succ i =>
      rw [List.set_cons_succ, cellsF, cellsF, List.set_append_right _ _ (by rw [cl_len]; omega), cl_len, show (i + 1) * 4 + 2 - 4 = i * 4 + 2 by omega, ← ih i c (by simpa using h)]
      simp
theorem OwnF.setAt {t : TypeId} {base g n cap : Nat} {fs gs : List Fr} {w : World} (h : OwnF t base (.slice (some ⟨g, 0, none⟩) n cap) fs w) (j : Nat) (u : Value) (hgs : cellsF gs = (cellsF fs).set j u) (hl : gs.length = fs.length) : OwnF t base (.slice (some ⟨g, 0, none⟩) n cap) gs (w.setCell ⟨g, j, none⟩ u) := by
  have h' : w.ownsRow base t 4 (.slice (some ⟨g, 0, none⟩) n cap) fs.length (cellsF fs) := h
  unfold OwnF
  rw [hl, hgs]
  rcases h'.2 with ⟨hv, _⟩ | ⟨g', cap', cur, hv, hg, hh, h1, h2, h3, h4⟩
  · cases hv
  · injection hv with e1 e2 e3
    injection e1 with e1
    injection e1 with e1
    subst e1; subst e3
    refine ⟨by rw [List.length_set]; exact h'.1, .inr ⟨g, cap, cur.setIfInBounds j u, by rw [e2], hg, heap_setCell_same w g j cur _ _ hh, h1, h2, by simpa using h3, ?_⟩⟩
    rw [Array.toList_setIfInBounds, List.take_set, h4]
theorem OwnF.ctAt {t : TypeId} {base g n cap : Nat} {fs : List Fr} {w : World} (h : OwnF t base (.slice (some ⟨g, 0, none⟩) n cap) fs w) {i : Nat} (hi : i < fs.length) : n = fs.length ∧ w.cell? ⟨g, i * 4 + 2, none⟩ = some (.int .i64 (fs.getD i zeroF).ct) ∧ w.frozen? ⟨g, i * 4 + 2, none⟩ = false := by
  obtain ⟨a, c, e, hr⟩ := h.at
  injection e with e1 e2 e3
  obtain ⟨b, off, q, _, _, c2, _⟩ := frow_cell hr hi
  have h' : w.ownsRow base t 4 (.slice (some ⟨g, 0, none⟩) n cap) fs.length (cellsF fs) := h
  rcases h'.2 with ⟨hv, _⟩ | ⟨g', cap', cur, hv, hg, hh, h1, h2, h3, h4⟩
  · cases hv
  · injection hv with f1 f2 f3
    injection f1 with f1
    injection f1 with f1
    subst f1
    refine ⟨e2, ?_, frz_of_row _ hh⟩
    have := h'.cells (g := g) rfl (i * 4 + 2) (.int .i64 (fs.getD i zeroF).ct) (by rw [cellsF_at fs i 2 (by omega) hi]; rfl)
    rw [addr_add] at this
    exact this
set_option maxHeartbeats 8000000 in
set_option maxRecDepth 100000 in
theorem rcut_good (s : ByteArray) (id : Int) (k : Nat) (w : World) (p0 : 1 ≤ id) (p1 : id ≤ 4294967296) (p2 : (1 : Int) ≤ k) (p3 : (k : Int) ≤ 1000) (p4 : (1 : Int) ≤ s.size) (p5 : (s.size : Int) ≤ 4096) :
    Calls Try.prog 11 #[.string s, .int .u64 id, .int .i64 k] w fun e w' => ∃ v, e = .returned (.tuple #[v, .int .i64 (cutF s id k).2]) ∧ OwnF 43 w.heap.size v (cutF s id k).1 w' ∧ Below w.heap.size w w' := by
  have d0 : decide (id < 1) = false := by simp; omega
  have d1 : decide (4294967296 < id) = false := by simp; omega
  have d2 : decide ((k : Int) < 1) = false := by simp; omega
  have d3 : decide ((1000 : Int) < (k : Int)) = false := by simp; omega
  have d4 : decide ((s.size : Int) < 1) = false := by simp; omega
  have d5 : decide ((4096 : Int) < (s.size : Int)) = false := by simp; omega
  have hcut : cutF s id k = if 16 < many s.size k then ([], 4) else (parts s id k (many s.size k), 0) := by
    unfold cutF; rw [if_neg (by omega), Int.toNat_natCast]
  obtain ⟨m, hm⟩ : ∃ m, many s.size k = m := ⟨_, rfl⟩
  rw [hm] at hcut
  have HCUT := Lib.hid hcut
  have HM : Hid (∀ i, i < m ↔ i * k < s.size) := Lib.hid (fun i => by rw [← hm]; exact many_iff (by omega))
  have HMM : Hid (m ≤ 4096) := Lib.hid (by
    have := (many_iff (n := s.size) (k := k) (i := 4096) (by omega))
    rw [hm] at this
    have h2 : ¬ 4096 * k < s.size := by have : 4096 * 1 ≤ 4096 * k := Nat.mul_le_mul_left _ (by omega); omega
    omega)
  have HP : Hid (1 ≤ k ∧ k ≤ 1000 ∧ s.size ≤ 4096 ∧ 1 ≤ s.size) := Lib.hid ⟨by omega, by omega, by omega, by omega⟩
  have HO0 : Hid (OwnF 43 w.heap.size (.slice (some ⟨w.heap.size, 0, none⟩) 0 0) ((List.range 0).map (partAt s id k 0)) (w.alloc (.cells #[] 43))) := Lib.hid (OwnF.new _ _ (Nat.le_refl _))
  have HB0 : Hid (Below w.heap.size w (w.alloc (.cells #[] 43))) := Lib.hid (below_alloc _ _)
  clear p0 p1 p2 p3 p4 hm hcut
  go_enter Try.func11, Try.ntmps11
  go_wp2_with fail
  clear d0 d1 d2 d3 d4 d5
  go_loopw [8, 9] (fun v at_ wr => ∃ (i p : Nat), i ≤ m ∧ at_ = .int .i64 p ∧ Hid (p = i * k) ∧ Hid (OwnF 43 w.heap.size v ((List.range i).map (partAt s id k 0)) wr) ∧ Hid (Below w.heap.size w wr)) (fun _ a _ => s.size - (intOf a).toNat)
  case atStart => exact ⟨0, 0, Nat.zero_le _, rfl, Lib.hid (by simp), HO0, HB0⟩
  case round =>
    clear HO0 HB0
    obtain ⟨i, p, hi, rfl, HPI, HO, HB⟩ := hrel
    by_cases hlt : i < m
    · have h1 := (HM.out i).1 hlt
      rw [← HPI.out] at h1
      have e1 : decide (p < s.size) = true := by simpa using h1
      have h2 : (p : Int) < (s.size : Int) := by omega
      obtain ⟨q, hq⟩ : ∃ q, min s.size (p + k) = q := ⟨_, rfl⟩
      have n0 : min (s.size : Int) ((p : Int) + (k : Int)) = (q : Int) := by omega
      have n1 : (if (p : Int) + (k : Int) < (s.size : Int) then (p : Int) + (k : Int) else (s.size : Int)) = (q : Int) := by split <;> omega
      have hq1 : (p : Int) ≤ q := by have := HP.out; omega
      have hq2 : (q : Int) ≤ s.size := by omega
      have hk2 : (k : Int) ≤ 1000 := by have := HP.out; omega
      have HQ : Hid (partAt s id k 0 i = ⟨id, i, 0, s.extract p q⟩) := Lib.hid (by unfold partAt; rw [← HPI.out, hq])
      have HI := Lib.hid hlt
      have HH1 := Lib.hid h1
      obtain ⟨a0, c0, rfl, _⟩ := HO.out.at
      have HL : Hid (((List.range i).map (partAt s id k 0)).length = i) := Lib.hid (by simp)
      rw [HL.out] at HO ⊢
      clear hlt hq h1 hi
      go_wp2_with (at_builtin; refine wpList_appF rfl (.tmp 43) (.tmp 57) 31 43 Try.underlying31 infoR rfl w.heap.size _ ((List.range i).map (partAt s id k 0)) ⟨id, i, 0, s.extract p q⟩ _ rfl (HO.out.below (below_alloc _ _)) wr.heap.size 1 rfl (heap_alloc_new wr _) (by have := HMM.out; have := HI.out; rw [HL.out]; omega) (by have := HB.out.size; simp; omega) ?_; intro v' w2 hA; have HA := Lib.hid hA; clear hA)
      go_roundw
      case rel => exact ⟨i + 1, p + k, by have := HI.out; omega, by go_num, Lib.hid (by rw [HPI.out, Nat.add_mul, Nat.one_mul]), Lib.hid (by rw [List.range_succ, List.map_append, List.map_cons, List.map_nil, HQ.out]; exact HA.out.own), Lib.hid (HB.out.trans ((below_alloc wr (.cells #[.int .u64 id, .int .i64 i, .int .i64 0, .string (s.extract p q)] 43)).mono HB.out.size |>.trans HA.out.low))⟩
      case measure => have := HH1.out; have := HP.out; simp [intOf]; omega
    · obtain rfl : i = m := by omega
      have h1 : ¬ p < s.size := by rw [HPI.out]; exact fun h => hlt ((HM.out i).2 h)
      have e1 : decide (p < s.size) = false := by simpa using h1
      have HL : Hid (((List.range i).map (partAt s id k 0)).length = i) := Lib.hid (by simp)
      have h0m : 0 < i := (HM.out 0).2 (by rw [Nat.zero_mul]; exact HP.out.2.2.2)
      have HI0 := Lib.hid h0m
      obtain ⟨g, c0, rfl⟩ := HO.out.form (by intro h; have := HL.out; rw [h] at this; simp at this; omega)
      rw [HL.out] at HO ⊢
      have HGB : Hid (w.heap.size ≤ g) := Lib.hid (World.ownsRow.lt HO.out g rfl).1
      clear hlt h1 hi h0m
      by_cases h16 : 16 < i
      · have e2 : decide ((16 : Int) < (i : Int)) = true := by simp; omega
        have HC2 : Hid (cutF s id k = ([], 4)) := Lib.hid (by rw [HCUT.out, if_pos h16])
        clear h16
        go_wp2
        go_ret2
        rw [HC2.out]
        exact ⟨_, rfl, OwnF.nil _ _ _, HB.out⟩
      · have e2 : decide ((16 : Int) < (i : Int)) = false := by simp; omega
        have HC2 : Hid (cutF s id k = (parts s id k i, 0)) := Lib.hid (by rw [HCUT.out, if_neg h16])
        have h17 : (i : Int) ≤ 16 := by omega
        clear h16
        have HO1 : Hid (OwnF 43 w.heap.size (.slice (some ⟨g, 0, none⟩) i c0) (some1 s id k i 0) wr) := Lib.hid (by rw [some1_none]; exact HO.out)
        clear HO
        go_wp2_with fail
        go_loopw [10] (fun x wq => ∃ (j : Nat), j ≤ i ∧ x = .int .i64 j ∧ Hid (OwnF 43 w.heap.size (.slice (some ⟨g, 0, none⟩) i c0) (some1 s id k i j) wq) ∧ Hid (Below w.heap.size w wq)) (fun x _ => i - (intOf x).toNat)
        case atStart => exact ⟨0, Nat.zero_le _, rfl, HO1, HB⟩
        case round =>
          clear HO1 HB
          obtain ⟨j, hj, rfl, HO, HB⟩ := hrel
          by_cases hlt : j < i
          · have hlt' : (j : Int) < (i : Int) := by omega
            have f1 : decide (j < i) = true := by simpa using hlt
            obtain ⟨hbad, cc, cf⟩ := HO.out.ctAt (i := j) (by rw [some1_len]; exact hlt)
            clear hbad
            obtain ⟨ct0, hct⟩ : ∃ x, ((some1 s id k i j).getD j zeroF).ct = x := ⟨_, rfl⟩
            rw [hct] at cc
            clear hct
            have HNX : Hid (cellsF (some1 s id k i (j + 1)) = (cellsF (some1 s id k i j)).set (j * 4 + 2) (.int .i64 i)) := Lib.hid (by rw [some1_next s id k i j hlt]; exact cellsF_setCt _ j i (by rw [some1_len]; exact hlt))
            have HJ := Lib.hid hlt
            clear hj
            go_wp2_with fail
            go_roundw
            case rel => exact ⟨j + 1, by have := HJ.out; omega, by go_num, Lib.hid (HO.out.setAt (j * 4 + 2) (.int .i64 i) HNX.out (by rw [some1_len, some1_len])), Lib.hid (Chg.out HB.out (Chg.setCell _ _ _ _) HGB.out HB.out.size)⟩
            case measure => have := HJ.out; simp [intOf]; omega
          · obtain rfl : j = i := by omega
            have f1 : decide (j < j) = false := decide_eq_false (Nat.lt_irrefl _)
            have HE : Hid (OwnF 43 w.heap.size (.slice (some ⟨g, 0, none⟩) j c0) (parts s id k j) wr) := Lib.hid (by have := HO.out; rw [some1_all] at this; exact this)
            clear hlt
            go_wp2
            go_ret2
            rw [HC2.out]
            exact ⟨_, rfl, HE.out, HB.out⟩
set_option maxHeartbeats 4000000 in
theorem rcut_f (s : ByteArray) (id sz : Int) (w : World) (hs : s.size ≤ maxLen) :
    Calls Try.prog 11 #[.string s, .int .u64 id, .int .i64 sz] w fun e w' => ∃ v, e = .returned (.tuple #[v, .int .i64 (cutF s id sz).2]) ∧ OwnF 43 w.heap.size v (cutF s id sz).1 w' ∧ Below w.heap.size w w' := by
  unfold maxLen at hs
  by_cases p0 : 1 ≤ id
  · skip
    have d0 : decide (id < 1) = false := by simp; omega
    by_cases p1 : id ≤ 4294967296
    · skip
      have d1 : decide (4294967296 < id) = false := by simp; omega
      by_cases p2 : 1 ≤ sz
      · skip
        have d2 : decide (sz < 1) = false := by simp; omega
        by_cases p3 : sz ≤ 1000
        · skip
          have d3 : decide (1000 < sz) = false := by simp; omega
          by_cases p4 : (1 : Int) ≤ s.size
          · skip
            have d4 : decide ((s.size : Int) < 1) = false := by simp; omega
            by_cases p5 : (s.size : Int) ≤ 4096
            · skip
              have d5 : decide ((4096 : Int) < (s.size : Int)) = false := by simp; omega
              obtain ⟨k, rfl⟩ := Int.eq_ofNat_of_zero_le (show 0 ≤ sz by omega)
              exact rcut_good s id k w (by omega) (by omega) (by omega) (by omega) (by omega) (by omega)
            · skip
              have d5 : decide ((4096 : Int) < (s.size : Int)) = true := by simp; omega
              have HE : Hid (cutF s id sz = ([], 1)) := Lib.hid (by unfold cutF; rw [if_pos (by omega)])
              clear p0 p1 p2 p3 p4 p5
              go_enter Try.func11, Try.ntmps11
              go_wp2
              go_ret2
              rw [HE.out]
              exact ⟨_, rfl, OwnF.nil _ _ _, Below.refl _ _⟩
          · skip
            have d4 : decide ((s.size : Int) < 1) = true := by simp; omega
            have HE : Hid (cutF s id sz = ([], 1)) := Lib.hid (by unfold cutF; rw [if_pos (by omega)])
            clear p0 p1 p2 p3 p4
            go_enter Try.func11, Try.ntmps11
            go_wp2
            go_ret2
            rw [HE.out]
            exact ⟨_, rfl, OwnF.nil _ _ _, Below.refl _ _⟩
        · skip
          have d3 : decide (1000 < sz) = true := by simp; omega
          have HE : Hid (cutF s id sz = ([], 1)) := Lib.hid (by unfold cutF; rw [if_pos (by omega)])
          clear p0 p1 p2 p3
          go_enter Try.func11, Try.ntmps11
          go_wp2
          go_ret2
          rw [HE.out]
          exact ⟨_, rfl, OwnF.nil _ _ _, Below.refl _ _⟩
      · skip
        have d2 : decide (sz < 1) = true := by simp; omega
        have HE : Hid (cutF s id sz = ([], 1)) := Lib.hid (by unfold cutF; rw [if_pos (by omega)])
        clear p0 p1 p2
        go_enter Try.func11, Try.ntmps11
        go_wp2
        go_ret2
        rw [HE.out]
        exact ⟨_, rfl, OwnF.nil _ _ _, Below.refl _ _⟩
    · skip
      have d1 : decide (4294967296 < id) = true := by simp; omega
      have HE : Hid (cutF s id sz = ([], 1)) := Lib.hid (by unfold cutF; rw [if_pos (by omega)])
      clear p0 p1
      go_enter Try.func11, Try.ntmps11
      go_wp2
      go_ret2
      rw [HE.out]
      exact ⟨_, rfl, OwnF.nil _ _ _, Below.refl _ _⟩
  · skip
    have d0 : decide (id < 1) = true := by simp; omega
    have HE : Hid (cutF s id sz = ([], 1)) := Lib.hid (by unfold cutF; rw [if_pos (by omega)])
    clear p0
    go_enter Try.func11, Try.ntmps11
    go_wp2
    go_ret2
    rw [HE.out]
    exact ⟨_, rfl, OwnF.nil _ _ _, Below.refl _ _⟩
end Go.Proofs.Ytjimkkakcgdgfaa
