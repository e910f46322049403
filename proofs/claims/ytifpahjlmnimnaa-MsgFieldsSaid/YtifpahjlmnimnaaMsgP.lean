/- What is encoded is decoded; what is decoded is encoded; what is cut off is too short. No program is named here. -/
import Derived.Test.YtifpahjlmnimnaaMsgR
import Derived.Test.YtifpahjlmnimnaaVintP
namespace Go.Proofs.Ytifpahjlmnimnaa
open Go.RowKit
set_option linter.unusedVariables false
set_option linter.unusedSimpArgs false
set_option maxRecDepth 20000

/-- The bytes of fields. -/
def byL : List Fd → Ms → List UInt8
  | [], _ => []
  | f :: r, M => (f.by M).data.toList ++ byL r M
theorem app_list (a b : ByteArray) : (a ++ b).data.toList = a.data.toList ++ b.data.toList := by simp
theorem list_len (a : ByteArray) : a.data.toList.length = a.size := by simp
theorem list_ext {a b : ByteArray} (h : a.data.toList = b.data.toList) : a = b := by
  apply ByteArray.ext; apply Array.ext'; exact h
theorem encL_list (l : List Fd) (M : Ms) : ∀ s, (encL l M s).data.toList = s.data.toList ++ byL l M := by
  induction l with
  | nil => intro s; simp [encL, byL]
  | cons f r ih => intro s; rw [encL, ih, app_list, byL, List.append_assoc]
theorem putS_list (n : Nat) : (putS n).data.toList = put n := by simp [putS]
theorem ptS_list (s : ByteArray) : (ptS s).data.toList = put s.size ++ s.data.toList := by rw [ptS, app_list, putS_list]

/-- A field put from one message into another. -/
def Fd.copy (M N : Ms) : Fd → Ms
  | .int j _ _ => N.set j (M.i j)
  | .ses j _ _ => N.set j (M.i j)
  | .nam j => N.set j (M.i j)
  | .ver => N.setS M.s
def copyL : List Fd → Ms → Ms → Ms
  | [], _, N => N
  | f :: r, M, N => copyL r M (f.copy M N)

theorem num_at (pre r : List UInt8) (n : Nat) (hn : n ≤ 4294967296) : numA (pre ++ (put n ++ r)) pre.length = (n, pre.length + (put n).length, 0) :=
  numA_ok (getA_at pre r n (by omega)) hn
theorem iv_le {lo hi x : Int} (h : inIv lo hi x = true) : lo ≤ x ∧ x ≤ hi := by simpa [inIv] using h
theorem step_at (f : Fd) (hf : f.Fit) {M : Ms} (ho : f.ok M = true) (N : Ms) (s : ByteArray) (pre r : List UInt8) (hs : s.data.toList = pre ++ ((f.by M).data.toList ++ r)) :
    f.er s pre.length = 0 ∧ f.to s pre.length = pre.length + (f.by M).data.toList.length ∧ f.put s pre.length N = f.copy M N := by
  have num : ∀ (j : Nat) (lo hi : Int), 0 ≤ lo → hi ≤ 4294967296 → inIv lo hi (M.i j) = true → s.data.toList = pre ++ ((putS (u64 (M.i j))).data.toList ++ r) → numA s.data.toList pre.length = (u64 (M.i j), pre.length + (put (u64 (M.i j))).length, 0) ∧ ((u64 (M.i j) : Nat) : Int) = M.i j := by
    intro j lo hi h0 h1 hv hs
    have hv' := iv_le hv
    have hu := u64_pos (x := M.i j) (by omega) (by omega)
    refine ⟨?_, hu⟩
    rw [hs, putS_list]
    exact num_at _ _ _ (by omega)
  cases f with
  | int j lo hi =>
    obtain ⟨hj, h0, h1, h2, h3⟩ := hf
    obtain ⟨e, u⟩ := num j lo hi h0 (by omega) ho hs
    refine ⟨by simp only [Fd.er]; rw [e], by simp only [Fd.to, Fd.by, putS_list]; rw [e], by simp only [Fd.put, Fd.copy]; rw [e]; simp only []; rw [u]⟩
  | ses j lo hi =>
    obtain ⟨hj, h0, h1, h2, h3⟩ := hf
    obtain ⟨e, u⟩ := num j lo hi h0 (by omega) ho hs
    refine ⟨by simp only [Fd.er]; rw [e], by simp only [Fd.to, Fd.by, putS_list]; rw [e], by simp only [Fd.put, Fd.copy]; rw [e]; simp only []; rw [u]⟩
  | nam j =>
    obtain ⟨e, u⟩ := num j 1 1048576 (by omega) (by omega) ho hs
    refine ⟨by simp only [Fd.er]; rw [e], by simp only [Fd.to, Fd.by, putS_list]; rw [e], by simp only [Fd.put, Fd.copy]; rw [e]; simp only []; rw [u]⟩
  | ver =>
    have hr := (right_iff.1 (show rightB M.s.data.toList = true from ho)).2.1
    have hl := list_len M.s
    have e := textA_at pre M.s.data.toList r 8 (by omega) (by omega)
    rw [hl] at e
    have hs' : s.data.toList = pre ++ (put M.s.size ++ (M.s.data.toList ++ r)) := by rw [hs]; simp only [Fd.by, ptS_list, List.append_assoc]
    rw [← hs'] at e
    refine ⟨by simp only [Fd.er]; rw [e], by simp only [Fd.to, Fd.by, ptS_list, List.length_append]; rw [e]; simp only []; omega, ?_⟩
    simp only [Fd.put, Fd.copy, tS]; rw [e]
theorem rd_at (l : List Fd) (M : Ms) : ∀ (hl : ∀ f, f ∈ l → f.Fit) (ho : ∀ f, f ∈ l → f.ok M = true) (N : Ms) (s : ByteArray) (pre r : List UInt8) (hs : s.data.toList = pre ++ (byL l M ++ r)), rdL s l pre.length N = (pre.length + (byL l M).length, copyL l M N, 0) := by
  induction l with
  | nil => intro _ _ N s pre r _; simp [rdL, byL, copyL]
  | cons f t ih =>
    intro hl ho N s pre r hs
    obtain ⟨e1, e2, e3⟩ := step_at f (hl f List.mem_cons_self) (ho f List.mem_cons_self) N s pre (byL t M ++ r) (by rw [hs, byL, List.append_assoc])
    rw [rdL, if_pos e1, e2, e3]
    have := ih (fun g hg => hl g (List.mem_cons_of_mem _ hg)) (fun g hg => ho g (List.mem_cons_of_mem _ hg)) (f.copy M N) s (pre ++ (f.by M).data.toList) r (by rw [hs, byL]; simp only [List.append_assoc])
    rw [List.length_append] at this
    rw [this, copyL, byL, List.length_append, Nat.add_assoc]

/-! ### Cut off -/
theorem num_cut (pre : List UInt8) (n c : Nat) (hn : n ≤ 18446744073709551615) (hc : c < (put n).length) : getA (pre ++ (put n).take c) pre.length = (0, 0, 2) := by
  unfold getA
  rw [if_neg (by simp; omega)]
  simp only [Int.toNat_natCast, List.drop_left]
  have := look_put n hn [] pre.length
  rw [List.append_nil] at this
  exact look_cut (put n) c true 0 _ n this hc
theorem text_cut (pre t : List UInt8) (c : Nat) (m : Int) (hn : t.length ≤ 18446744073709551615) (hm : (t.length : Int) ≤ m) (hc : c < (put t.length ++ t).length) : (textA (pre ++ (put t.length ++ t).take c) pre.length m).2.2 = 2 := by
  unfold textA
  by_cases h : c < (put t.length).length
  · rw [List.take_append_of_le_length (by omega), num_cut _ _ _ hn h]
    rfl
  · have e : (put t.length ++ t).take c = put t.length ++ t.take (c - (put t.length).length) := by
      rw [List.take_append]
      congr 1
      exact List.take_of_length_le (by omega)
    rw [e]
    simp only [getA_at pre _ t.length hn]
    rw [if_neg (by simp), if_neg (by omega), if_pos]
    simp only [List.length_append, List.length_take] at hc ⊢
    omega
theorem step_cut (f : Fd) (hf : f.Fit) {M : Ms} (ho : f.ok M = true) (s : ByteArray) (pre : List UInt8) (c : Nat) (hc : c < (f.by M).data.toList.length) (hs : s.data.toList = pre ++ (f.by M).data.toList.take c) : f.er s pre.length = 2 := by
  have num : ∀ (j : Nat), c < (putS (u64 (M.i j))).data.toList.length → s.data.toList = pre ++ (putS (u64 (M.i j))).data.toList.take c → (numA s.data.toList pre.length).2.2 = 2 := by
    intro j hc hs
    rw [putS_list] at hc hs
    rw [hs, numA_err (num_cut pre _ c (by have := (wrap_u (M.i j)).2; omega) hc) (by omega)]
  cases f with
  | int j lo hi => exact num j hc hs
  | ses j lo hi => exact num j hc hs
  | nam j => exact num j hc hs
  | ver =>
    have hr := (right_iff.1 (show rightB M.s.data.toList = true from ho)).2.1
    have hl := list_len M.s
    simp only [Fd.by, ptS_list] at hc hs
    rw [← hl] at hc hs
    simp only [Fd.er]
    rw [hs]
    exact text_cut pre _ c 8 (by omega) (by omega) hc
theorem rd_cut (l : List Fd) (M : Ms) : ∀ (hl : ∀ f, f ∈ l → f.Fit) (ho : ∀ f, f ∈ l → f.ok M = true) (N : Ms) (s : ByteArray) (pre : List UInt8) (c : Nat) (hc : c < (byL l M).length) (hs : s.data.toList = pre ++ (byL l M).take c), (rdL s l pre.length N).2.2 = 2 := by
  induction l with
  | nil => intro _ _ N s pre c hc _; simp [byL] at hc
  | cons f t ih =>
    intro hl ho N s pre c hc hs
    by_cases h : c < (f.by M).data.toList.length
    · have e := step_cut f (hl f List.mem_cons_self) (ho f List.mem_cons_self) s pre c h (by rw [hs, byL, List.take_append_of_le_length (by omega)])
      rw [rdL, if_neg (by omega)]
      exact e
    · have hs' : s.data.toList = pre ++ ((f.by M).data.toList ++ (byL t M).take (c - (f.by M).data.toList.length)) := by
        rw [hs, byL, List.take_append, List.take_of_length_le (by omega)]
      obtain ⟨e1, e2, e3⟩ := step_at f (hl f List.mem_cons_self) (ho f List.mem_cons_self) N s pre _ hs'
      rw [rdL, if_pos e1, e2, e3, ← List.length_append]
      rw [byL, List.length_append] at hc
      exact ih (fun g hg => hl g (List.mem_cons_of_mem _ hg)) (fun g hg => ho g (List.mem_cons_of_mem _ hg)) _ s _ (c - (f.by M).data.toList.length) (by omega) (by rw [hs', List.append_assoc])

/-! ### Back -/
theorem get_back {L : List UInt8} {p n q : Nat} (hp : p ≤ L.length) (h : getA L p = (n, q, 0)) : p ≤ q ∧ q ≤ L.length ∧ L.drop p = put n ++ L.drop q := by
  unfold getA at h
  rw [if_neg (by omega)] at h
  simp only [Int.toNat_natCast] at h
  obtain ⟨h1, h2, h3⟩ := look_ok _ true 0 p n q h (by simp) (by simp)
  rw [List.length_drop] at h2
  refine ⟨by omega, by omega, ?_⟩
  rw [hi_zero, List.nil_append] at h3
  rw [h3]
  have := (List.take_append_drop (q - p) (L.drop p)).symm
  rw [List.drop_drop, show p + (q - p) = q by omega] at this
  exact this
theorem num_back {L : List UInt8} {p : Nat} (hp : p ≤ L.length) (h : (numA L p).2.2 = 0) : p ≤ (numA L p).2.1 ∧ (numA L p).2.1 ≤ L.length ∧ L.drop p = put (numA L p).1 ++ L.drop (numA L p).2.1 ∧ (numA L p).1 ≤ 4294967296 := by
  obtain ⟨n, q, e, h0⟩ : ∃ n q e, getA L p = (n, q, e) := ⟨_, _, _, rfl⟩
  by_cases he : e = 0
  · subst he
    by_cases hbig : 4294967296 < n
    · rw [numA_big h0 hbig] at h; simp at h
    · rw [numA_ok h0 (by omega)]
      obtain ⟨a, b, c⟩ := get_back hp h0
      exact ⟨a, b, c, by dsimp only; omega⟩
  · rw [numA_err h0 he] at h; exact absurd h he
theorem text_back {L : List UInt8} {p : Nat} {m : Int} (hp : p ≤ L.length) (h : (textA L p m).2.2 = 0) : p ≤ (textA L p m).2.1 ∧ (textA L p m).2.1 ≤ L.length ∧ L.drop p = put (textA L p m).1.length ++ ((textA L p m).1 ++ L.drop (textA L p m).2.1) := by
  obtain ⟨N, P, E, h0⟩ : ∃ n q e, getA L p = (n, q, e) := ⟨_, _, _, rfl⟩
  by_cases hE : E = 0
  · subst hE
    by_cases h1 : 0 < N ∧ m < (N : Int)
    · rw [textA_big h0 h1] at h; simp at h
    · by_cases h2 : L.length - P < N
      · rw [textA_short h0 h1 h2] at h; simp at h
      · rw [textA_ok h0 h1 h2]
        obtain ⟨a, b, c⟩ := get_back hp h0
        refine ⟨by dsimp only; omega, by dsimp only; omega, ?_⟩
        have hl : ((L.drop P).take N).length = N := by simp; omega
        dsimp only
        rw [hl, c]
        congr 1
        have := (List.take_append_drop N (L.drop P)).symm
        rw [List.drop_drop] at this
        exact this
  · rw [textA_err h0 hE] at h; exact absurd h hE
/-- At a cell two messages have the same. -/
def Agree (j : Nat) (A B : Ms) : Prop := A.i j = B.i j ∧ (j = 3 → A.s = B.s)
theorem by_agree (f : Fd) {A B : Ms} (h : Agree f.cellOf A B) : f.by A = f.by B := by
  cases f with
  | ver => simp only [Fd.by]; rw [h.2 rfl]
  | int j lo hi => simp only [Fd.by]; rw [show A.i j = B.i j from h.1]
  | ses j lo hi => simp only [Fd.by]; rw [show A.i j = B.i j from h.1]
  | nam j => simp only [Fd.by]; rw [show A.i j = B.i j from h.1]
theorem put_agree (f : Fd) (s : ByteArray) (p : Int) (N : Ms) {j : Nat} (h : j ≠ f.cellOf) : Agree j N (f.put s p N) := by
  cases f with
  | ver => exact ⟨rfl, fun e => absurd e h⟩
  | int k lo hi => exact ⟨by show _ = if j = k then _ else _; rw [if_neg (show ¬ j = k from h)], fun _ => rfl⟩
  | ses k lo hi => exact ⟨by show _ = if j = k then _ else _; rw [if_neg (show ¬ j = k from h)], fun _ => rfl⟩
  | nam k => exact ⟨by show _ = if j = k then _ else _; rw [if_neg (show ¬ j = k from h)], fun _ => rfl⟩
theorem step_back (f : Fd) (s : ByteArray) (p : Nat) (N : Ms) (hp : p ≤ s.size) (he : f.er s p = 0) : p ≤ f.to s p ∧ f.to s p ≤ s.size ∧ s.data.toList.drop p = (f.by (f.put s p N)).data.toList ++ s.data.toList.drop (f.to s p) := by
  have num : ∀ (j : Nat), (numA s.data.toList p).2.2 = 0 → p ≤ (numA s.data.toList p).2.1 ∧ (numA s.data.toList p).2.1 ≤ s.size ∧ s.data.toList.drop p = (putS (u64 ((N.set j (numA s.data.toList p).1).i j))).data.toList ++ s.data.toList.drop (numA s.data.toList p).2.1 := by
    intro j h
    obtain ⟨a, b, c, d⟩ := num_back (L := s.data.toList) (by rw [list_len]; exact hp) h
    refine ⟨a, by rw [list_len] at b; exact b, ?_⟩
    have e1 : (N.set j (numA s.data.toList p).1).i j = (numA s.data.toList p).1 := by simp [Ms.set]
    have e2 : u64 ((numA s.data.toList p).1 : Int) = (numA s.data.toList p).1 := by
      have := u64_pos (x := ((numA s.data.toList p).1 : Int)) (by omega) (by omega)
      omega
    rw [e1, e2, putS_list]
    exact c
  cases f with
  | int j lo hi => exact num j he
  | ses j lo hi => exact num j he
  | nam j => exact num j he
  | ver =>
    obtain ⟨a, b, c⟩ := text_back (L := s.data.toList) (m := 8) (by rw [list_len]; exact hp) he
    refine ⟨a, by rw [list_len] at b; exact b, ?_⟩
    simp only [Fd.by, Fd.put, Ms.setS, ptS_list, Fd.to]
    have e1 : (tS s p 8).data.toList = (textA s.data.toList p 8).1 := by simp [tS]
    have e2 : (tS s p 8).size = (textA s.data.toList p 8).1.length := by rw [← list_len, e1]
    rw [e1, e2, List.append_assoc]
    exact c
theorem rd_back (l : List Fd) : (l.map Fd.cellOf).Nodup → ∀ (s : ByteArray) (p : Nat) (N : Ms) (p' : Nat) (N' : Ms), p ≤ s.size → rdL s l p N = (p', N', 0) →
    p ≤ p' ∧ p' ≤ s.size ∧ s.data.toList.drop p = byL l N' ++ s.data.toList.drop p' ∧ ∀ j, j ∉ l.map Fd.cellOf → Agree j N N' := by
  induction l with
  | nil =>
    intro _ s p N p' N' hp h
    simp only [rdL, Prod.mk.injEq] at h
    obtain ⟨rfl, rfl, _⟩ := h
    exact ⟨Nat.le_refl _, hp, by simp [byL], fun j _ => ⟨rfl, fun _ => rfl⟩⟩
  | cons f t ih =>
    intro hnd s p N p' N' hp h
    rw [List.map_cons, List.nodup_cons] at hnd
    by_cases he : f.er s p = 0
    · rw [rdL, if_pos he] at h
      obtain ⟨a, b, c⟩ := step_back f s p N hp he
      obtain ⟨a2, b2, c2, d2⟩ := ih hnd.2 s _ _ p' N' b h
      refine ⟨Nat.le_trans a a2, b2, ?_, fun j hj => ?_⟩
      · rw [c, byL, c2, List.append_assoc, by_agree f (d2 _ hnd.1)]
      · rw [List.map_cons, List.mem_cons] at hj
        have h1 := put_agree f s p N (fun e => hj (.inl e))
        have h2 := d2 j (fun e => hj (.inr e))
        exact ⟨h1.1.trans h2.1, fun e => (h1.2 e).trans (h2.2 e)⟩
    · rw [rdL, if_neg he] at h
      simp only [Prod.mk.injEq] at h
      exact absurd h.2.2 he
end Go.Proofs.Ytifpahjlmnimnaa
