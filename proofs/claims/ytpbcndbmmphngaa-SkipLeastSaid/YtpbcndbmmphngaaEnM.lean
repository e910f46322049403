/- Epochs that are kept: as lists. No program is named here. -/
import Derived.Lib.Hide
namespace Go.Proofs.Ytpbcndbmmphngaa
set_option linter.unusedVariables false
set_option linter.unusedSimpArgs false
/-- An entry: its epoch, its key, its window's two numbers. -/
@[ext] structure En where
  ep : Int
  key : Int
  nx : Int
  bt : Int
  deriving DecidableEq
def zeroE : En := ⟨0, 0, 0, 0⟩
def dropE (l : List En) (k : Int) : List En := l.filter (fun x => x.ep != k)
def underE (l : List En) (k : Int) : List En := l.takeWhile (fun x => decide (x.ep < k))
def overE (l : List En) (k : Int) : List En := l.dropWhile (fun x => decide (x.ep < k))
/-- With one more, whatever there is. -/
def withE (l : List En) (e : En) : List En := underE (dropE l e.ep) e.ep ++ e :: overE (dropE l e.ep) e.ep
def putE (l : List En) (e : En) : List En × En × Bool := if 4 < (withE l e).length then ((withE l e).tail, (withE l e).headD zeroE, true) else (withE l e, zeroE, false)
def getE (l : List En) (k : Int) : En × Bool := match l.find? (fun x => x.ep == k) with
  | some x => (x, true)
  | none => (zeroE, false)
def keysE (l : List En) : List Int := l.map (·.key)
/-- They rise, none twice. -/
def RiseE (l : List En) : Prop := l.Pairwise (fun x y => x.ep < y.ep)
def OkE (l : List En) : Prop := RiseE l ∧ l.length ≤ 4
theorem OkE.nil : OkE [] := ⟨List.Pairwise.nil, by simp⟩
theorem mem_dropE {l : List En} {k : Int} {x : En} : x ∈ dropE l k ↔ x ∈ l ∧ x.ep ≠ k := by simp [dropE]
theorem RiseE.drop {l : List En} (h : RiseE l) (k : Int) : RiseE (dropE l k) := h.filter _
theorem OkE.drop {l : List En} (h : OkE l) (k : Int) : OkE (dropE l k) := ⟨h.1.drop k, Nat.le_trans (List.length_filter_le _ _) h.2⟩
theorem under_over (l : List En) (k : Int) : underE l k ++ overE l k = l := List.takeWhile_append_dropWhile
theorem under_lt : ∀ {l : List En} {k : Int} {x : En}, x ∈ underE l k → x.ep < k
  | [], _, _, h => by simp [underE] at h
  | y :: r, k, x, h => by
    unfold underE at h
    by_cases hy : y.ep < k
    · rw [List.takeWhile_cons_of_pos (by simpa using hy)] at h
      rcases List.mem_cons.1 h with e | e
      · rw [e]; exact hy
      · exact under_lt (l := r) e
    · rw [List.takeWhile_cons_of_neg (by simpa using hy)] at h
      simp at h
theorem over_ge : ∀ {l : List En} {k : Int} {x : En}, RiseE l → x ∈ overE l k → k ≤ x.ep
  | [], _, _, _, h => by simp [overE] at h
  | y :: r, k, x, hr, h => by
    unfold overE at h
    by_cases hy : y.ep < k
    · rw [List.dropWhile_cons_of_pos (by simpa using hy)] at h
      exact over_ge (List.Pairwise.of_cons hr) h
    · rw [List.dropWhile_cons_of_neg (by simpa using hy)] at h
      rcases List.mem_cons.1 h with e | e
      · rw [e]; omega
      · have := List.rel_of_pairwise_cons hr e
        omega
theorem mem_withE {l : List En} {e x : En} : x ∈ withE l e ↔ x = e ∨ (x ∈ l ∧ x.ep ≠ e.ep) := by
  have h := under_over (dropE l e.ep) e.ep
  have h2 : x ∈ dropE l e.ep ↔ x ∈ underE (dropE l e.ep) e.ep ∨ x ∈ overE (dropE l e.ep) e.ep := by
    conv => lhs; rw [← h]
    exact List.mem_append
  rw [← mem_dropE, h2, withE, List.mem_append, List.mem_cons]
  constructor
  · rintro (a | a | a)
    · exact .inr (.inl a)
    · exact .inl a
    · exact .inr (.inr a)
  · rintro (a | a | a)
    · exact .inr (.inl a)
    · exact .inl a
    · exact .inr (.inr a)
theorem RiseE.with {l : List En} (h : RiseE l) (e : En) : RiseE (withE l e) := by
  have hd := h.drop e.ep
  have hs := under_over (dropE l e.ep) e.ep
  have hp : RiseE (underE (dropE l e.ep) e.ep ++ overE (dropE l e.ep) e.ep) := by rw [hs]; exact hd
  obtain ⟨h1, h2, h3⟩ := List.pairwise_append.1 hp
  refine List.pairwise_append.2 ⟨h1, List.pairwise_cons.2 ⟨fun x hx => ?_, h2⟩, fun x hx y hy => ?_⟩
  · have a := over_ge hd hx
    have b : x ∈ dropE l e.ep := by rw [← hs]; exact List.mem_append.2 (.inr hx)
    have c := (mem_dropE.1 b).2
    omega
  · have a := under_lt hx
    rcases List.mem_cons.1 hy with q | q
    · rw [q]; exact a
    · have b := over_ge hd q
      omega
theorem with_len (l : List En) (e : En) : (withE l e).length = (dropE l e.ep).length + 1 := by
  have h := congrArg List.length (under_over (dropE l e.ep) e.ep)
  rw [List.length_append] at h
  simp [withE]
  omega
theorem drop_len {l : List En} (k : Int) : (dropE l k).length ≤ l.length := List.length_filter_le _ _
theorem OkE.put {l : List En} (h : OkE l) (e : En) : OkE (putE l e).1 := by
  have hr := h.1.with e
  have hl := with_len l e
  have hd := drop_len (l := l) e.ep
  have h4 := h.2
  unfold putE
  split
  · refine ⟨hr.tail, ?_⟩
    rw [List.length_tail]
    omega
  · exact ⟨hr, by show (withE l e).length ≤ 4; omega⟩
/-- Of a list that rises: what is found is the one that is there. -/
theorem getE_mem {l : List En} (h : RiseE l) {x : En} : getE l x.ep = (x, true) ↔ x ∈ l := by
  unfold getE
  constructor
  · intro hq
    split at hq
    · rename_i y hy
      injection hq with h1 _
      rw [← h1]
      exact List.mem_of_find?_eq_some hy
    · cases hq
  · intro hx
    have hs : (l.find? (fun y => y.ep == x.ep)).isSome := List.find?_isSome.2 ⟨x, hx, by simp⟩
    obtain ⟨y, hy⟩ := Option.isSome_iff_exists.1 hs
    rw [hy]
    have h1 := List.mem_of_find?_eq_some hy
    have h2 : y.ep = x.ep := by simpa using List.find?_some hy
    have : y = x := by
      rcases List.mem_iff_getElem.1 h1 with ⟨i, hi, rfl⟩
      rcases List.mem_iff_getElem.1 hx with ⟨j, hj, rfl⟩
      rcases Nat.lt_trichotomy i j with q | q | q
      · have := List.pairwise_iff_getElem.1 h i j hi hj q
        omega
      · subst q; rfl
      · have := List.pairwise_iff_getElem.1 h j i hj hi q
        omega
    rw [this]
theorem getE_has {l : List En} {k : Int} : (getE l k).2 = true ↔ ∃ x, x ∈ l ∧ x.ep = k := by
  unfold getE
  split
  · rename_i y hy
    exact ⟨fun _ => ⟨y, List.mem_of_find?_eq_some hy, by simpa using List.find?_some hy⟩, fun _ => rfl⟩
  · rename_i hn
    constructor
    · intro h; cases h
    · rintro ⟨x, h1, h2⟩
      have := List.find?_eq_none.1 hn x h1
      simp [h2] at this
theorem getE_no {l : List En} {k : Int} (h : (getE l k).2 = false) : getE l k = (zeroE, false) := by
  unfold getE at h ⊢
  split at h
  · cases h
  · rfl
theorem getE_yes {l : List En} {k : Int} (h : (getE l k).2 = true) : (getE l k).1 ∈ l ∧ (getE l k).1.ep = k := by
  unfold getE at h ⊢
  split at h
  · rename_i y hy
    exact ⟨List.mem_of_find?_eq_some hy, by simpa using List.find?_some hy⟩
  · cases h
/-- Lists that rise are told by what is in them. -/
theorem getE_eq {a b : List En} {k : Int} (ha : RiseE a) (hb : RiseE b) (h : ∀ x, x.ep = k → (x ∈ a ↔ x ∈ b)) : getE a k = getE b k := by
  cases hq : (getE b k).2 with
  | false =>
    have hn : (getE a k).2 = false := by
      rw [Bool.eq_false_iff]
      intro q
      obtain ⟨x, h1, h2⟩ := getE_has.1 q
      have := getE_has.2 ⟨x, (h x h2).1 h1, h2⟩
      rw [hq] at this
      cases this
    rw [getE_no hn, getE_no hq]
  | true =>
    obtain ⟨h1, h2⟩ := getE_yes hq
    have h3 := (getE_mem ha).2 ((h _ h2).2 h1)
    rw [h2] at h3
    rw [h3]
    exact Prod.ext rfl hq.symm
theorem getE_is {a : List En} (ha : RiseE a) {x : En} (h : x ∈ a) : getE a x.ep = (x, true) := (getE_mem ha).2 h
theorem getE_not {a : List En} {k : Int} (h : ∀ x, x ∈ a → x.ep ≠ k) : getE a k = (zeroE, false) := by
  apply getE_no
  rw [Bool.eq_false_iff]
  intro q
  obtain ⟨x, h1, h2⟩ := getE_has.1 q
  exact h x h1 h2
theorem rise_ext : ∀ {a b : List En}, RiseE a → RiseE b → (∀ x, x ∈ a ↔ x ∈ b) → a = b
  | [], [], _, _, _ => rfl
  | [], y :: b, _, _, h => by have := (h y).2 (by simp); simp at this
  | x :: a, [], _, _, h => by have := (h x).1 (by simp); simp at this
  | x :: a, y :: b, ha, hb, h => by
    have hx := fun z (hz : z ∈ a) => List.rel_of_pairwise_cons ha hz
    have hy := fun z (hz : z ∈ b) => List.rel_of_pairwise_cons hb hz
    have e : x = y := by
      rcases List.mem_cons.1 ((h x).1 (by simp)) with q | q
      · exact q
      · rcases List.mem_cons.1 ((h y).2 (by simp)) with r | r
        · exact r.symm
        · have := hx y r
          have := hy x q
          omega
    subst e
    congr 1
    refine rise_ext (List.Pairwise.of_cons ha) (List.Pairwise.of_cons hb) (fun z => ?_)
    have := h z
    simp only [List.mem_cons] at this
    constructor
    · intro q
      rcases this.1 (.inr q) with r | r
      · subst r
        have := hx z q
        omega
      · exact r
    · intro q
      rcases this.2 (.inr q) with r | r
      · subst r
        have := hy z q
        omega
      · exact r
/-- What a Put says. -/
theorem put_few {l : List En} {e : En} (h : (withE l e).length ≤ 4) : putE l e = (withE l e, zeroE, false) := by unfold putE; rw [if_neg (by omega)]
theorem put_many {l : List En} {e : En} (h : 4 < (withE l e).length) : ∃ g t, withE l e = g :: t ∧ putE l e = (t, g, true) := by
  cases hw : withE l e with
  | nil => rw [hw] at h; simp at h
  | cons g t =>
    refine ⟨g, t, rfl, ?_⟩
    unfold putE
    rw [if_pos h, hw]
    rfl
theorem bounds_math {l : List En} (h : OkE l) (e : En) :
    (putE l e).1.length ≤ 4 ∧ ((putE l e).2.2 = true → (putE l e).2.1.ep ≤ e.ep ∧ (putE l e).1.length = 4) ∧ ((putE l e).2.2 = false → (putE l e).2.1 = zeroE) ∧
      (∀ k, k ≠ e.ep → (getE (putE l e).1 k).2 = ((getE l k).2 && !((putE l e).2.2 && (putE l e).2.1.ep == k)) ∧ ((getE (putE l e).1 k).2 = true → (getE l k).1 = (getE (putE l e).1 k).1)) ∧
      (getE (putE l e).1 e.ep).2 = !((putE l e).2.2 && decide ((putE l e).2.1 = e)) ∧ ((getE (putE l e).1 e.ep).2 = true → (getE (putE l e).1 e.ep).1 = e) := by
  have hw := h.1.with e
  have hlen := with_len l e
  have hd := drop_len (l := l) e.ep
  have h4 := h.2
  have hme : e ∈ withE l e := mem_withE.2 (.inl rfl)
  have hmk : ∀ k, k ≠ e.ep → ∀ x, x.ep = k → (x ∈ withE l e ↔ x ∈ l) := fun k hk x hx => by
    rw [mem_withE]
    constructor
    · rintro (q | q)
      · exact absurd (by rw [← hx, q]) hk
      · exact q.1
    · intro q
      exact .inr ⟨q, by omega⟩
  by_cases hf : (withE l e).length ≤ 4
  · rw [put_few hf]
    refine ⟨hf, fun q => (by cases q), fun _ => rfl, fun k hk => ?_, ?_, ?_⟩
    · have := getE_eq hw h.1 (hmk k hk)
      simp [this]
    · rw [getE_is hw hme]; rfl
    · intro _; rw [getE_is hw hme]
  · obtain ⟨g, t, hgt, hp⟩ := put_many (by omega : 4 < (withE l e).length)
    rw [hp]
    rw [hgt] at hw hme hmk hlen hf
    have hrt : RiseE t := List.Pairwise.of_cons hw
    have hlow := fun z (hz : z ∈ t) => List.rel_of_pairwise_cons hw hz
    simp only [List.length_cons] at hlen hf
    refine ⟨by show t.length ≤ 4; omega, fun _ => ⟨?_, by show t.length = 4; omega⟩, fun q => (by cases q), fun k hk => ?_, ?_, ?_⟩
    · show g.ep ≤ e.ep
      rcases List.mem_cons.1 hme with q | q
      · rw [q]; exact Int.le_refl _
      · have := hlow e q; omega
    · dsimp only
      by_cases hgk : g.ep = k
      · have hn : getE t k = (zeroE, false) := getE_not (fun x hx => by have := hlow x hx; omega)
        rw [hn]
        simp [hgk]
      · have hq := getE_eq hrt h.1 (k := k) (fun x hx => by
          rw [← hmk k hk x hx, List.mem_cons]
          constructor
          · intro q; exact .inr q
          · rintro (q | q)
            · exact absurd (by rw [← q]; exact hx) hgk
            · exact q)
        have hb : (g.ep == k) = false := by simpa using hgk
        rw [hq, hb]
        simp
    · dsimp only
      rcases List.mem_cons.1 hme with q | q
      · have hn : getE t e.ep = (zeroE, false) := getE_not (fun x hx => by have := hlow x hx; rw [q]; omega)
        rw [hn]
        simp [q.symm]
      · have hne : g ≠ e := fun q2 => by have := hlow e q; rw [q2] at this; omega
        rw [getE_is hrt q]
        simp [hne]
    · dsimp only
      intro q
      rcases List.mem_cons.1 hme with r | r
      · have hn : getE t e.ep = (zeroE, false) := getE_not (fun x hx => by have := hlow x hx; rw [r]; omega)
        rw [hn] at q
        cases q
      · rw [getE_is hrt r]
/-- The epochs of a row, each put with one key and no window. -/
def mk7 (k : Int) : En := ⟨k, 7, 0, 0⟩
structure Of7 (a : List En) (ks : List Int) : Prop where
  rise : RiseE a
  len : a.length ≤ ks.length
  mem : ∀ x, x ∈ a ↔ ∃ k, k ∈ ks ∧ x = mk7 k
theorem Of7.nil : Of7 [] [] := ⟨List.Pairwise.nil, Nat.le_refl _, fun x => by simp⟩
theorem Of7.put {a : List En} {ks : List Int} (h : Of7 a ks) (k : Int) (h4 : ks.length < 4) : putE a (mk7 k) = (withE a (mk7 k), zeroE, false) ∧ Of7 (withE a (mk7 k)) (ks ++ [k]) := by
  have hl := with_len a (mk7 k)
  have hd := drop_len (l := a) (mk7 k).ep
  have h1 := h.len
  refine ⟨put_few (by omega), h.rise.with _, by simp; omega, fun x => ?_⟩
  rw [mem_withE, h.mem]
  constructor
  · rintro (q | ⟨⟨m, q1, q2⟩, _⟩)
    · exact ⟨k, by simp, q⟩
    · exact ⟨m, by simp [q1], q2⟩
  · rintro ⟨m, q1, q2⟩
    rcases List.mem_append.1 q1 with r | r
    · by_cases e : m = k
      · exact .inl (by rw [q2, e])
      · exact .inr ⟨⟨m, r, q2⟩, by rw [q2]; exact e⟩
    · rw [List.mem_singleton] at r
      exact .inl (by rw [q2, r])
theorem Of7.same {a b : List En} {ks ms : List Int} (h : Of7 a ks) (g : Of7 b ms) (e : ∀ k, k ∈ ks ↔ k ∈ ms) : a = b :=
  rise_ext h.rise g.rise (fun x => by
    rw [h.mem, g.mem]
    constructor
    · rintro ⟨k, q, r⟩; exact ⟨k, (e k).1 q, r⟩
    · rintro ⟨k, q, r⟩; exact ⟨k, (e k).2 q, r⟩)
theorem Of7.get {a : List En} {ks : List Int} (h : Of7 a ks) {k : Int} (hk : k ∈ ks) : getE a k = (mk7 k, true) := getE_is (x := mk7 k) h.rise ((h.mem _).2 ⟨k, hk, rfl⟩)
theorem drop_no {b : List En} {k : Int} : getE (dropE b k) k = (zeroE, false) := getE_not (fun x hx => (mem_dropE.1 hx).2)
theorem drop_len_yes {b : List En} {k : Int} (hr : RiseE b) (h : (getE b k).2 = true) : (dropE b k).length + 1 = b.length := by
  obtain ⟨h1, h2⟩ := getE_yes h
  obtain ⟨x, hx⟩ : ∃ x, x = (getE b k).1 := ⟨_, rfl⟩
  rw [← hx] at h1 h2
  have h3 : withE b x = b := rise_ext (hr.with x) hr (fun y => by
    rw [mem_withE]
    constructor
    · rintro (q | q)
      · rw [q]; exact h1
      · exact q.1
    · intro q
      by_cases e : y.ep = x.ep
      · have hy := getE_is hr q
        have hz := getE_is hr h1
        rw [e, hz] at hy
        injection hy with hy _
        exact .inl hy.symm
      · exact .inr ⟨q, e⟩)
  have h4 := with_len b x
  rw [h3, h2] at h4
  exact h4.symm
theorem drop_len_no {b : List En} {k : Int} (h : (getE b k).2 = false) : dropE b k = b := by
  unfold dropE
  rw [List.filter_eq_self]
  intro x hx
  simp only [bne_iff_ne, ne_eq]
  intro e
  have := getE_has.2 ⟨x, hx, e⟩
  rw [h] at this
  cases this
/-- The last four of epochs that rise by one. -/
def epE (j : Nat) : En := ⟨100 + (j : Int), (j : Int), 0, 0⟩
def lastE (i : Nat) : List En := (List.range (min i 4)).map (fun j => epE (i - min i 4 + j + 1))
theorem dropE_id {l : List En} {k : Int} (h : ∀ x, x ∈ l → x.ep ≠ k) : dropE l k = l := by
  unfold dropE
  rw [List.filter_eq_self]
  intro x hx
  simpa using h x hx
theorem tw_self {p : En → Bool} : ∀ {l : List En}, (∀ x, x ∈ l → p x = true) → l.takeWhile p = l
  | [], _ => rfl
  | y :: r, h => by rw [List.takeWhile_cons_of_pos (h y (by simp)), tw_self (fun x hx => h x (by simp [hx]))]
theorem with_top {l : List En} {e : En} (h : ∀ x, x ∈ l → x.ep < e.ep) : withE l e = l ++ [e] := by
  have hd : dropE l e.ep = l := dropE_id (fun x hx => by have := h x hx; omega)
  have hu : underE l e.ep = l := by
    exact tw_self (fun x hx => by simpa using h x hx)
  have ho := under_over l e.ep
  rw [hu] at ho
  have ho2 : overE l e.ep = [] := by simpa using ho
  rw [withE, hd, hu, ho2]
theorem with_low {l : List En} {e : En} (h : ∀ x, x ∈ l → e.ep < x.ep) : withE l e = e :: l := by
  have hd : dropE l e.ep = l := dropE_id (fun x hx => by have := h x hx; omega)
  have hu : underE l e.ep = [] := by
    cases l with
    | nil => rfl
    | cons y r =>
      unfold underE
      rw [List.takeWhile_cons_of_neg]
      have := h y (by simp)
      simp
      omega
  have ho := under_over l e.ep
  rw [hu] at ho
  have ho2 : overE l e.ep = l := by simpa using ho
  rw [withE, hd, hu, ho2]
  rfl
theorem last_len (i : Nat) : (lastE i).length = min i 4 := by simp [lastE]
theorem last_mem {i : Nat} {x : En} (h : x ∈ lastE i) : 101 ≤ x.ep ∧ x.ep ≤ 100 + (i : Int) := by
  simp only [lastE, List.mem_map, List.mem_range] at h
  obtain ⟨j, h1, rfl⟩ := h
  simp only [epE]
  omega
theorem last_form (k : Nat) : lastE (k + 4) = [epE (k + 1), epE (k + 2), epE (k + 3), epE (k + 4)] := by
  unfold lastE
  rw [show min (k + 4) 4 = 4 by omega]
  rfl
theorem last_step (i : Nat) : putE (lastE i) (epE (i + 1)) = (lastE (i + 1), if 4 ≤ i then (epE (i - 3), true) else (zeroE, false)) := by
  have hw : withE (lastE i) (epE (i + 1)) = lastE i ++ [epE (i + 1)] := with_top (fun x hx => by have := last_mem hx; simp only [epE]; omega)
  have hl := last_len i
  by_cases h4 : 4 ≤ i
  · obtain ⟨k, rfl⟩ : ∃ k, i = k + 4 := ⟨i - 4, by omega⟩
    unfold putE
    rw [hw, if_pos (by rw [List.length_append, hl]; simp), if_pos h4, last_form, show k + 4 + 1 = (k + 1) + 4 by omega, last_form]
    rfl
  · have h : i = 0 ∨ i = 1 ∨ i = 2 ∨ i = 3 := by omega
    have e0 : lastE (i + 1) = lastE i ++ [epE (i + 1)] := by
      rcases h with e | e | e | e <;> subst e <;> rfl
    unfold putE
    rw [hw, if_neg (by rw [List.length_append, hl]; simp; omega), if_neg h4, e0]
theorem last_low {i : Nat} (h : 4 ≤ i) {e : En} (he : e.ep ≤ 100) : putE (lastE i) e = (lastE i, e, true) := by
  have hw : withE (lastE i) e = e :: lastE i := with_low (fun x hx => by have := last_mem hx; omega)
  unfold putE
  rw [hw, if_pos (by rw [List.length_cons, last_len]; omega)]
  rfl
theorem last_keys (k : Nat) : keysE (lastE (k + 4)) = [(k : Int) + 1, (k : Int) + 2, (k : Int) + 3, (k : Int) + 4] := by
  rw [last_form]
  simp only [keysE, List.map_cons, List.map_nil, epE, List.cons.injEq, and_true]
  omega
end Go.Proofs.Ytpbcndbmmphngaa
