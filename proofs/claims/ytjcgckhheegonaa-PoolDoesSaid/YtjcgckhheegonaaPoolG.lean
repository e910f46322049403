/- The document's pool in memory: a row of messages, each with a row of parts; made, and what it holds. -/
import Derived.Test.YtjcgckhheegonaaPoolN
import Derived.Test.YtjcgckhheegonaaFragO
namespace Go.Proofs.Ytjcgckhheegonaa
open Go.RowKit
set_option linter.unusedVariables false
set_option linter.unusedSimpArgs false
set_option maxRecDepth 20000
/-- A message beside the value of its row of parts. -/
abbrev Mv := Ms × Value
def zeroG : Mv := (⟨[], 0⟩, .slice none 0 0)
def cellsG : List Mv → List Value
  | [] => []
  | x :: r => x.2 :: .int .u64 x.1.since :: cellsG r
theorem cellsG_len (L : List Mv) : (cellsG L).length = L.length * 2 := by
  induction L with
  | nil => rfl
  | cons x r ih => rw [cellsG, List.length_cons, List.length_cons, ih, List.length_cons]; omega
theorem cellsG_app (L M : List Mv) : cellsG (L ++ M) = cellsG L ++ cellsG M := by
  induction L with
  | nil => rfl
  | cons x r ih => rw [List.cons_append, cellsG, cellsG, ih]; rfl
theorem cellsG_0 (L : List Mv) : ∀ k, k < L.length → (cellsG L)[k * 2]? = some (L.getD k zeroG).2 := by
  induction L with
  | nil => intro k hk; simp at hk
  | cons x r ih =>
    intro k hk
    cases k with
    | zero => rfl
    | succ k =>
      rw [cellsG, show (k + 1) * 2 = k * 2 + 1 + 1 by omega, List.getElem?_cons_succ, List.getElem?_cons_succ, ih k (by simpa using hk)]
      simp
theorem cellsG_1 (L : List Mv) : ∀ k, k < L.length → (cellsG L)[k * 2 + 1]? = some (.int .u64 (L.getD k zeroG).1.since) := by
  induction L with
  | nil => intro k hk; simp at hk
  | cons x r ih =>
    intro k hk
    cases k with
    | zero => rfl
    | succ k =>
      rw [cellsG, show (k + 1) * 2 + 1 = k * 2 + 1 + 1 + 1 by omega, List.getElem?_cons_succ, List.getElem?_cons_succ, ih k (by simpa using hk)]
      simp
theorem cellsG_set (u : Value) (m : Ms) : ∀ (L : List Mv) (i : Nat), i < L.length → m.since = (L.getD i zeroG).1.since → cellsG (L.set i (m, u)) = (cellsG L).set (i * 2) u
  | [], i, h, _ => by simp at h
  | x :: r, 0, _, e => by
    have e' : m.since = x.1.since := e
    rw [List.set_cons_zero, cellsG, cellsG, e']
    rfl
  | x :: r, i + 1, h, e => by
    have ih := cellsG_set u m r i (by simpa using h) (by simpa using e)
    rw [List.set_cons_succ, cellsG, cellsG, ih, show (i + 1) * 2 = i * 2 + 1 + 1 by omega, List.set_cons_succ, List.set_cons_succ]
/-- Values that lie in one cell. -/
def OneC (L : List Mv) : Prop := ∀ x, x ∈ L → x.2.oneCell' = true
theorem cellsG_one (L : List Mv) (h : OneC L) : ∀ u ∈ cellsG L, u.oneCell' = true := by
  induction L with
  | nil => intro u hu; simp [cellsG] at hu
  | cons x r ih =>
    intro u hu
    rw [cellsG, List.mem_cons, List.mem_cons] at hu
    rcases hu with q | q | q
    · rw [q]; exact h x (by simp)
    · rw [q]; rfl
    · exact ih (fun y hy => h y (by simp [hy])) u q
theorem OwnF.oneC {t : TypeId} {base : Nat} {v : Value} {fs : List Fr} {w : World} (h : OwnF t base v fs w) : v.oneCell' = true := by
  obtain ⟨a, c, e, _⟩ := h.at
  rw [e]; rfl
/-- The document's pool at block q: v its row, xs the messages. -/
structure RPl (w : World) (q : Nat) (P : Pl) (v : Value) (xs : List Mv) : Prop where
  blk : w.heap[q]? = some (.cells #[v, .int .i64 P.slots, .int .i64 P.bytes] 64 (0, 0))
  row : w.ownsRow 0 71 2 v xs.length (cellsG xs)
  fst : xs.map Prod.fst = P.l
  each : ∀ x, x ∈ xs → OwnF 40 0 x.2 x.1.parts w
/-- Blocks of the document's pools. -/
def RK (w : World) (k : Nat) : Prop := ∃ cs T fr, w.heap[k]? = some (.cells cs T fr) ∧ (T = 64 ∨ T = 71)
section
variable {w w' : World} {q : Nat} {P : Pl} {v : Value} {xs : List Mv}
theorem RPl.len (h : RPl w q P v xs) : xs.length = P.l.length := by rw [← h.fst, List.length_map]
theorem RPl.rowK (h : RPl w q P v xs) : ∀ k, v.ownBlock = some k → ∃ cs, w.heap[k]? = some (.cells cs 71 (0, 0)) := fun k hk => by
  rcases h.row.2 with ⟨hv, _⟩ | ⟨g, cap, cur, hv, _, hg, _⟩
  · rw [hv] at hk; cases hk
  · rw [hv] at hk
    simp only [Value.ownBlock, Option.some.injEq] at hk
    exact ⟨cur, hk ▸ hg⟩
theorem RPl.partK (h : RPl w q P v xs) {x : Mv} (hx : x ∈ xs) : ∀ k, x.2.ownBlock = some k → ∃ cs, w.heap[k]? = some (.cells cs 40 (0, 0)) := fun k hk => by
  have h' : w.ownsRow 0 40 4 x.2 x.1.parts.length (cellsF x.1.parts) := h.each x hx
  rcases h'.2 with ⟨hv, _⟩ | ⟨g, cap, cur, hv, _, hg, _⟩
  · rw [hv] at hk; cases hk
  · rw [hv] at hk
    simp only [Value.ownBlock, Option.some.injEq] at hk
    exact ⟨cur, hk ▸ hg⟩
theorem RPl.chg {S : Nat → Prop} (h : RPl w q P v xs) (hc : Chg S w w') (hq : ¬ S q) (hv : ∀ k, v.ownBlock = some k → ¬ S k) (hp : ∀ x, x ∈ xs → ∀ k, x.2.ownBlock = some k → ¬ S k) : RPl w' q P v xs :=
  ⟨hc.blk h.blk hq, hc.row h.row hv, h.fst, fun x hx => (h.each x hx).chg hc (hp x hx)⟩
theorem RPl.below (h : RPl w q P v xs) (hb : Below w.heap.size w w') : RPl w' q P v xs := h.chg (Chg.of_below (S := fun _ => False) hb) (fun e => e) (fun _ _ e => e) (fun _ _ _ _ e => e)
/-- What is read of it. -/
theorem RPl.cells (h : RPl w q P v xs) : ∃ a cap g, v = .slice a xs.length cap ∧ w.cell? ⟨q, 0, none⟩ = some (.slice a xs.length cap) ∧ w.cell? ⟨q, 1, none⟩ = some (.int .i64 P.slots) ∧ w.cell? ⟨q, 2, none⟩ = some (.int .i64 P.bytes) ∧ w.frozen? ⟨q, 0, none⟩ = false ∧ xs.length ≤ cap ∧ cap ≤ maxLen ∧
    ∀ j, j < xs.length → a = some ⟨g, 0, none⟩ ∧ w.cell? ⟨g, j * 2, none⟩ = some (xs.getD j zeroG).2 ∧ w.cell? ⟨g, j * 2 + 1, none⟩ = some (.int .u64 (xs.getD j zeroG).1.since) ∧ w.frozen? ⟨g, j * 2, none⟩ = false := by
  have hb := h.blk
  rcases h.row.2 with ⟨hv, hn⟩ | ⟨g, cap, cur, hv, _, hg, hc, hm, _⟩
  · have e : xs.length = 0 := hn
    rw [hv] at hb
    rw [e]
    exact ⟨none, 0, 0, hv, by rw [cell_atA 0 hb]; rfl, by rw [cell_atA 1 hb]; rfl, by rw [cell_atA 2 hb]; rfl, frz_atA 0 hb, Nat.le_refl _, Nat.zero_le _, fun j hj => absurd hj (Nat.not_lt_zero _)⟩
  · have hr := h.row
    rw [hv] at hb hr
    refine ⟨_, cap, g, hv, by rw [cell_atA 0 hb]; rfl, by rw [cell_atA 1 hb]; rfl, by rw [cell_atA 2 hb]; rfl, frz_atA 0 hb, hc, hm, fun j hj => ⟨rfl, ?_, ?_, frz_atA _ hg⟩⟩
    · rw [World.ownsRow.cellAt hr (j * 2) (by omega), cellsG_0 xs j hj]
    · rw [World.ownsRow.cellAt hr (j * 2 + 1) (by omega), cellsG_1 xs j hj]
theorem RPl.at (h : RPl w q P v xs) {j : Nat} (hj : j < xs.length) : xs.getD j zeroG ∈ xs := by
  rw [List.getD_eq_getElem?_getD, List.getElem?_eq_getElem hj]
  exact List.getElem_mem hj
/-- One message's parts, read. -/
theorem RPl.parts (h : RPl w q P v xs) {j : Nat} (hj : j < xs.length) : ∃ a cap g, (xs.getD j zeroG).2 = .slice a (xs.getD j zeroG).1.parts.length cap ∧ (xs.getD j zeroG).1.parts.length ≤ cap ∧ cap ≤ maxLen ∧ ∀ k, k < (xs.getD j zeroG).1.parts.length → a = some ⟨g, 0, none⟩ ∧ w.cell? ⟨g, k * 4, none⟩ = some (.int .u64 ((xs.getD j zeroG).1.parts.getD k zeroF).id) ∧ w.cell? ⟨g, k * 4 + 1, none⟩ = some (.int .i64 ((xs.getD j zeroG).1.parts.getD k zeroF).ix) ∧ w.cell? ⟨g, k * 4 + 2, none⟩ = some (.int .i64 ((xs.getD j zeroG).1.parts.getD k zeroF).ct) ∧ w.cell? ⟨g, k * 4 + 3, none⟩ = some (.string ((xs.getD j zeroG).1.parts.getD k zeroF).s) := by
  have ho := h.each _ (h.at hj)
  have ho' : w.ownsRow 0 40 4 (xs.getD j zeroG).2 (xs.getD j zeroG).1.parts.length (cellsF (xs.getD j zeroG).1.parts) := ho
  obtain ⟨a, cap, e, hr⟩ := ho.at
  rcases ho'.2 with ⟨hv, hn⟩ | ⟨g, cap', cur, hv, _⟩
  · refine ⟨a, cap, 0, e, hr.1, hr.2.1, fun k hk => ?_⟩
    rw [hn] at hk
    exact absurd hk (Nat.not_lt_zero _)
  · refine ⟨a, cap, g, e, hr.1, hr.2.1, fun k hk => ?_⟩
    have hv2 := hv
    rw [e] at hv2
    injection hv2 with e1 _ e3
    rw [hv] at ho
    have := (OwnF.four ho hk).1
    exact ⟨e1, this⟩
end
theorem i64_mill {x : Int} (h0 : 0 ≤ x) (h1 : x ≤ 10000000) : IntKind.i64.wrap x = x := by
  first | (simp only [IntKind.wrap]; omega) | (simp [IntKind.wrap, IntKind.bits, IntKind.signed]; omega)
theorem heldM_take {l : List Ms} {xs : List Mv} (e : xs.map Prod.fst = l) {i : Nat} (hi : i < xs.length) : heldM (l.take (i + 1)) = heldM (l.take i) + sumS (xs.getD i zeroG).1.parts := by
  have hi2 : i < l.length := by rw [← e, List.length_map]; exact hi
  rw [List.take_succ_eq_append_getElem hi2, heldM_app]
  have : l[i] = (xs.getD i zeroG).1 := by
    simp only [List.getD_eq_getElem?_getD, List.getElem?_eq_getElem hi, Option.getD_some, ← e, List.getElem_map]
  rw [this]
  simp [heldM]
theorem heldM_le (l : List Ms) (i : Nat) : heldM (l.take i) ≤ heldM l := by
  have := heldM_app (l.take i) (l.drop i)
  rw [List.take_append_drop] at this
  omega
theorem sumS_take {fs : List Fr} {k : Nat} (hk : k < fs.length) : sumS (fs.take (k + 1)) = sumS (fs.take k) + (fs.getD k zeroF).s.size := by
  rw [List.take_succ_eq_append_getElem hk, sumS_app]
  simp [sumS, List.getD_eq_getElem?_getD, List.getElem?_eq_getElem hk]
theorem sumS_le (fs : List Fr) (j : Nat) : sumS (fs.take j) ≤ sumS fs := by
  have := sumS_app (fs.take j) (fs.drop j)
  rw [List.take_append_drop] at this
  omega
def intG (v : Value) : Int := match v with | .int _ x => x | _ => 0
set_option maxHeartbeats 4000000 in
theorem rheld_k {w : World} {q : Nat} {P : Pl} {v : Value} {xs : List Mv} (h : RPl w q P v xs) (hB : heldM P.l ≤ 65536) (hl : P.l.length ≤ 1000) (hps : ∀ m, m ∈ P.l → m.parts.length ≤ 1000) :
    Calls Try.prog 18 #[.pointer (some ⟨q, 0, none⟩)] w fun e w' => e = .returned (.tuple #[.int .i64 P.l.length, .int .i64 (heldM P.l)]) ∧ w' = w := by
  obtain ⟨a, cap, g, hv, c0, _, _, _, hc1, hc2, hr⟩ := h.cells
  have HH := Lib.hid h
  have HB := Lib.hid hB
  have HRW := Lib.hid hr
  have HLN := Lib.hid h.len
  obtain ⟨n, hn⟩ : ∃ n, xs.length = n := ⟨_, rfl⟩
  rw [hn] at c0 hc1
  have HN := Lib.hid hn
  have hn1 : n ≤ 1000 := by rw [← hn, h.len]; exact hl
  have HPS : Hid (∀ j, j < n → (xs.getD j zeroG).1.parts.length ≤ 1000) := Lib.hid (fun j hj => hps _ (by rw [← h.fst]; exact List.mem_map.2 ⟨_, h.at (by rw [hn]; exact hj), rfl⟩))
  clear h hB hr hn hl hps
  go_enter Try.func18, Try.ntmps18
  go_wp2_with fail
  go_loopw [4, 5] (fun x4 x5 wr => ∃ i acc : Nat, i ≤ n ∧ x4 = .int .i64 acc ∧ x5 = .int .i64 i ∧ Hid (acc = heldM (P.l.take i)) ∧ wr = w) (fun x4 x5 _ => n - (intG x5).toNat)
  case atStart => exact ⟨0, 0, Nat.zero_le _, rfl, rfl, Lib.hid rfl, rfl⟩
  case round =>
    obtain ⟨i, acc, hi, rfl, rfl, HA, rfl⟩ := hrel
    by_cases hin : i < n
    · have i1 : (i : Int) < (n : Int) := by omega
      have HI := Lib.hid hin
      obtain ⟨rfl, d0, _, _⟩ := HRW.out i (by rw [HN.out]; exact hin)
      obtain ⟨b, cb, gb, hvb, hb1, hb2, hrb⟩ := HH.out.parts (j := i) (by rw [HN.out]; exact hin)
      rw [hvb] at d0
      obtain ⟨nb, hnb⟩ : ∃ nb, (xs.getD i zeroG).1.parts.length = nb := ⟨_, rfl⟩
      rw [hnb] at d0 hb1 hrb
      have HRB := Lib.hid hrb
      have HNB := Lib.hid hnb
      have hnb1 : nb ≤ 1000 := by rw [← hnb]; exact HPS.out i hin
      have HSUM : Hid (heldM (P.l.take (i + 1)) = heldM (P.l.take i) + sumS (xs.getD i zeroG).1.parts) := Lib.hid (heldM_take HH.out.fst (by rw [HN.out]; exact hin))
      have HBI : Hid (heldM (P.l.take (i + 1)) ≤ 65536) := Lib.hid (Nat.le_trans (heldM_le _ _) HB.out)
      clear hvb hrb hnb hi hin
      go_wp2_with fail
      go_loopw [4, 6] (fun x4 x6 wq => ∃ k a2 : Nat, k ≤ nb ∧ x4 = .int .i64 a2 ∧ x6 = .int .i64 k ∧ Hid (a2 = acc + sumS ((xs.getD i zeroG).1.parts.take k)) ∧ wq = wr) (fun x4 x6 _ => nb - (intG x6).toNat)
      case atStart => exact ⟨0, acc, Nat.zero_le _, rfl, rfl, Lib.hid rfl, rfl⟩
      case round =>
        obtain ⟨k, a2, hk, rfl, rfl, HA2, rfl⟩ := hrel
        by_cases hkn : k < nb
        · have k1 : (k : Int) < (nb : Int) := by omega
          have HK := Lib.hid hkn
          obtain ⟨rfl, e0, e1, e2, e3⟩ := HRB.out k hkn
          obtain ⟨ks, hks⟩ : ∃ ks, ((xs.getD i zeroG).1.parts.getD k zeroF).s = ks := ⟨_, rfl⟩
          rw [hks] at e3
          have HST : Hid (sumS ((xs.getD i zeroG).1.parts.take (k + 1)) = sumS ((xs.getD i zeroG).1.parts.take k) + ks.size) := Lib.hid (by rw [← hks]; exact sumS_take (by rw [HNB.out]; exact hkn))
          have hbig : a2 + ks.size ≤ 65536 := by
            have := HA2.out; have := HST.out; have := HSUM.out; have := HBI.out; have := HA.out
            have := sumS_le (xs.getD i zeroG).1.parts (k + 1)
            omega
          have hwr : IntKind.i64.wrap ((a2 : Int) + (ks.size : Int)) = ((a2 + ks.size : Nat) : Int) := by rw [i64_mill (by omega) (by omega)]; omega
          clear hks hk hkn hbig e0 e1 e2
          go_wp2_with fail
          go_roundw
          case rel => exact ⟨k + 1, a2 + ks.size, HK.out, rfl, by go_num, Lib.hid (by rw [HA2.out, HST.out]; omega), by trivial⟩
          case measure => have := HK.out; simp [intG]; omega
        · obtain rfl : k = nb := by omega
          have t0 : decide (k < k) = false := decide_eq_false (Nat.lt_irrefl _)
          clear hk hkn
          go_wp2_with fail
          go_roundw
          case rel => exact ⟨i + 1, a2, HI.out, rfl, by go_num, Lib.hid (by have h9 := HA2.out; rw [List.take_of_length_le (by rw [HNB.out]; exact Nat.le_refl _)] at h9; rw [h9, HSUM.out, HA.out]), by trivial⟩
          case measure => have := HI.out; simp [intG]; omega
    · obtain rfl : i = n := by omega
      have t0 : decide (i < i) = false := decide_eq_false (Nat.lt_irrefl _)
      clear hi hin
      go_wp2_with fail
      refine bodyPost_ret (v := .tuple #[.int .i64 i, .int .i64 acc]) (by simp [results, Try.results18, go_sem]) rfl ?_
      refine ⟨?_, by trivial⟩
      have e1 : (P.l.length : Nat) = i := by rw [← HLN.out, HN.out]
      rw [e1, HA.out, List.take_of_length_le (by omega)]
end Go.Proofs.Ytjcgckhheegonaa
