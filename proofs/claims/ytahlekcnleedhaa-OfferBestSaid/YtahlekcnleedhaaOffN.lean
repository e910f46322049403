/- What the laws of offers say, in plain words: the best version is the greatest in both, offers of the same versions are one. -/
import Derived.Test.YtahlekcnleedhaaOffL
namespace Go.Proofs.Ytahlekcnleedhaa
set_option linter.unusedVariables false
set_option linter.unusedSimpArgs false
set_option maxRecDepth 20000

/-! ### The greatest number of a set -/
def IsBest (C : Nat → Bool) (m : Int) : Prop :=
  (m = 0 ∧ ∀ j, 1 ≤ j → j ≤ 255 → C j = false) ∨ ∃ k : Nat, m = k ∧ 1 ≤ k ∧ k ≤ 255 ∧ C k = true ∧ ∀ j, k < j → j ≤ 255 → C j = false
theorem IsBest.uniq {C : Nat → Bool} {m n : Int} (h : IsBest C m) (g : IsBest C n) : m = n := by
  rcases h with ⟨h1, h2⟩ | ⟨k, h1, h2, h3, h4, h5⟩
  · rcases g with ⟨g1, _⟩ | ⟨l, g1, g2, g3, g4, _⟩
    · rw [h1, g1]
    · rw [h2 l g2 g3] at g4; cases g4
  · rcases g with ⟨g1, g2⟩ | ⟨l, g1, g2, g3, g4, g5⟩
    · rw [g2 k h2 h3] at h4; cases h4
    · rcases (by omega : k < l ∨ k = l ∨ l < k) with q | q | q
      · rw [h5 l q g3] at g4; cases g4
      · rw [h1, g1, q]
      · rw [g5 k q h3] at h4; cases h4
theorem isBest_ex (C : Nat → Bool) : ∃ m, IsBest C m := by
  suffices h : ∀ n, n ≤ 255 → (∃ k : Nat, 1 ≤ k ∧ k ≤ 255 ∧ C k = true ∧ ∀ j, k < j → j ≤ 255 → C j = false) ∨ ∀ j, 255 - n < j → j ≤ 255 → C j = false by
    rcases h 255 (Nat.le_refl _) with ⟨k, h1, h2, h3, h4⟩ | h
    · exact ⟨k, .inr ⟨k, rfl, h1, h2, h3, h4⟩⟩
    · exact ⟨0, .inl ⟨rfl, fun j h1 h2 => h j (by omega) h2⟩⟩
  intro n
  induction n with
  | zero => exact fun _ => .inr fun j h1 h2 => by omega
  | succ n ih =>
    intro hn
    rcases ih (by omega) with q | q
    · exact .inl q
    · cases hc : C (255 - n)
      · refine .inr fun j h1 h2 => ?_
        rcases (by omega : j = 255 - n ∨ 255 - n < j) with r | r
        · rw [r]; exact hc
        · exact q j r h2
      · exact .inl ⟨255 - n, by omega, by omega, hc, q⟩
/-- Both offers: the best is the greatest that is in both. -/
theorem best_is {a b : List UInt8} (hf : formB a b = true) {m : Int} (h : IsBest (capB a b) m) : bestV a b = m ∧ bestE a b = if m = 0 then 11 else 0 := by
  rcases h with ⟨h1, h2⟩ | ⟨k, h1, h2, h3, h4, h5⟩
  · have := best_none hf h2
    rw [h1]; simpa using this
  · have := best_at hf h4 h2 h3 h5
    rw [h1, if_neg (by omega)]; exact this
theorem formB_iff {a b : List UInt8} : formB a b = true ↔ rightB a = true ∧ rightB b = true := by simp [formB]

/-- What Best tells, by cases. -/
theorem best_cases {a b : List UInt8} {v er : Int} (h : bestV a b = v ∧ bestE a b = er) :
    (formB a b = false ∧ v = 0 ∧ er = 3 ∧ bothS a b = []) ∨
    (formB a b = true ∧ v = 0 ∧ er = 11 ∧ bothS a b = [] ∧ hasI a 0 = false ∧ hasI b 0 = false ∧ ∀ j, capB a b j = false) ∨
    (formB a b = true ∧ 1 ≤ v ∧ v ≤ 255 ∧ er = 0 ∧ bothS a b ≠ [] ∧ hasI a v = true ∧ hasI b v = true ∧ ∀ j : Nat, capB a b j = true → (j : Int) ≤ v) := by
  obtain ⟨h1, h2⟩ := h
  cases hf : formB a b
  · refine .inl ⟨rfl, ?_⟩
    rw [← h1, ← h2, bestV, bestE, bothS, hf]
    exact ⟨rfl, rfl, rfl⟩
  · refine .inr ?_
    have ⟨ra, rb⟩ := formB_iff.1 hf
    have za : inB a 0 = false := by
      rw [Bool.eq_false_iff]; intro q
      obtain ⟨c, hc, e⟩ := inB_iff.1 q
      have := (right_iff.1 ra).2.2.2 c hc; omega
    have zb : inB b 0 = false := by
      rw [Bool.eq_false_iff]; intro q
      obtain ⟨c, hc, e⟩ := inB_iff.1 q
      have := (right_iff.1 rb).2.2.2 c hc; omega
    obtain ⟨m, hm⟩ := isBest_ex (capB a b)
    obtain ⟨e1, e2⟩ := best_is hf hm
    rcases hm with ⟨g1, g2⟩ | ⟨k, g1, g2, g3, g4, g5⟩
    · refine .inl ⟨rfl, by omega, by rw [← h2, e2, if_pos g1], ?_, ?_, ?_, fun j => ?_⟩
      · rw [bothS, if_pos hf]
        cases hc : fall (capB a b) with
        | nil => rfl
        | cons c r =>
          have hm : c ∈ fall (capB a b) := by rw [hc]; simp
          have h1 := mem_fall.1 hm
          have h2 := UInt8.toNat_lt c
          rw [g2 c.toNat (by omega) (by omega)] at h1
          cases h1.1
      · have := hasI_inB a 0; rw [za] at this; exact this
      · have := hasI_inB b 0; rw [zb] at this; exact this
      · rcases (by omega : j = 0 ∨ (1 ≤ j ∧ j ≤ 255) ∨ 256 ≤ j) with q | q | q
        · rw [q, capB, za]; rfl
        · exact g2 j q.1 q.2
        · rw [capB, inB_big q]; rfl
    · have hk : inB a k = true ∧ inB b k = true := by simpa [capB] using g4
      have e3 : v = k := by rw [← h1, e1, g1]
      refine .inr ⟨rfl, by omega, by omega, by rw [← h2, e2, if_neg (by omega)], ?_, ?_, ?_, fun j hj => ?_⟩
      · intro hn
        rw [bothS, if_pos hf] at hn
        have : UInt8.ofNat k ∈ fall (capB a b) := mem_fall.2 ⟨by rw [toNat_ofNat (by omega)]; exact g4, by rw [toNat_ofNat (by omega)]; exact g2⟩
        rw [hn] at this; simp at this
      · rw [e3, hasI_inB]; exact hk.1
      · rw [e3, hasI_inB]; exact hk.2
      · rcases (by omega : j ≤ k ∨ (k < j ∧ j ≤ 255) ∨ 256 ≤ j) with q | q | q
        · omega
        · rw [g5 j q.1 q.2] at hj; cases hj
        · rw [capB, inB_big q] at hj; cases hj

/-! ### Offers that are made -/
theorem make_congr {l m : List Int} (h : ∀ x, x ∈ l ↔ x ∈ m) : makeB l = makeB m ∧ makeS l = makeS m ∧ makeE l = makeE m := by
  have h1 : okV l = okV m := by
    rw [Bool.eq_iff_iff, okV_iff, okV_iff]
    exact ⟨fun q x hx => q x ((h x).2 hx), fun q x hx => q x ((h x).1 hx)⟩
  have h2 : vers l = vers m := by
    funext j
    rw [Bool.eq_iff_iff, vers_iff, vers_iff, h]
  have h3 : makeB l = makeB m := by rw [makeB, makeB, h1, h2]
  exact ⟨h3, by rw [makeS, makeS, h3, h2], by rw [makeE, makeE, h3]⟩
theorem fall_vers_len (l : List Int) : (fall (vers l)).length ≤ l.length := by
  have hnd : ((fall (vers l)).map fun c => (c.toNat : Int)).Nodup := by
    unfold List.Nodup
    rw [List.pairwise_map]
    refine (fall_falls (vers l)).imp fun {a b} h => ?_
    omega
  have hsub : ∀ x, x ∈ ((fall (vers l)).map fun c => (c.toNat : Int)) → x ∈ l := by
    intro x hx
    obtain ⟨c, hc, rfl⟩ := List.mem_map.1 hx
    exact vers_iff.1 (mem_fall.1 hc).1
  have key : ∀ (s : List Int) (l : List Int), s.Nodup → (∀ x, x ∈ s → x ∈ l) → s.length ≤ l.length := by
    intro s
    induction s with
    | nil => intro l _ _; simp
    | cons a s ih =>
      intro l hn hs
      rw [List.nodup_cons] at hn
      have ha := hs a (by simp)
      have h1 := ih (l.erase a) hn.2 (fun x hx => (List.mem_erase_of_ne (fun e => hn.1 (by rw [← e]; exact hx))).2 (hs x (List.mem_cons_of_mem _ hx)))
      have h2 := List.length_erase_of_mem ha
      have h3 := List.length_pos_of_mem ha
      simp only [List.length_cons]
      omega
  have := key _ l hnd hsub
  simpa using this
theorem make_good {l : List Int} (hk : okV l = true) (h1 : l ≠ []) (h8 : l.length ≤ 8) : makeB l = true ∧ makeS l = fall (vers l) ∧ makeE l = 0 ∧ rightB (makeS l) = true := by
  have hlen := fall_vers_len l
  have hpos : 1 ≤ (fall (vers l)).length := by
    cases l with
    | nil => exact absurd rfl h1
    | cons x l =>
      have hx := okV_iff.1 hk x (by simp)
      obtain ⟨n, rfl⟩ : ∃ n : Nat, x = n := ⟨x.toNat, by omega⟩
      have : UInt8.ofNat n ∈ fall (vers ((n : Int) :: l)) := mem_fall.2 (by rw [toNat_ofNat (by omega)]; exact ⟨vers_iff.2 (by simp), by omega⟩)
      exact List.length_pos_of_mem this
  have hr : rightB (fall (vers l)) = true := by
    rw [right_fall]
    simp; omega
  have hm : makeB l = true := by rw [makeB, hk, hr]; rfl
  have hs : makeS l = fall (vers l) := by rw [makeS, if_pos hm]
  exact ⟨hm, hs, by rw [makeE, if_pos hm], by rw [hs]; exact hr⟩
theorem make_nil : makeS [] = [] ∧ makeE [] = 1 := ⟨rfl, rfl⟩
/-- The versions that a byte stands for. -/
def pick (x : Int) : Int := 1 + x % 255
def picks (l : List Int) : List Int := l.map pick
theorem pick_in {x : Int} : 1 ≤ pick x ∧ pick x ≤ 255 := by unfold pick; omega
theorem picks_ok (l : List Int) : okV (picks l) = true := by
  rw [okV_iff]; intro x hx
  obtain ⟨y, _, rfl⟩ := List.mem_map.1 hx
  exact pick_in
theorem picks_len (l : List Int) : (picks l).length = l.length := by simp [picks]
theorem picks_snoc (l : List Int) (x : Int) : picks (l ++ [x]) = picks l ++ [pick x] := by simp [picks]
theorem okV_cons (x : Int) (l : List Int) (h : 1 ≤ x ∧ x ≤ 255) (hl : okV l = true) : okV (x :: l) = true := by
  rw [okV_iff] at hl ⊢
  intro y hy
  rcases List.mem_cons.1 hy with q | q
  · rw [q]; exact h
  · exact hl y q
theorem both_comm (a b : List UInt8) : bothS a b = bothS b a := by
  have h1 : formB a b = formB b a := by rw [formB, formB, Bool.and_comm]
  have h2 : capB a b = capB b a := by funext j; rw [capB, capB, Bool.and_comm]
  rw [bothS, bothS, h1, h2]
theorem best_comm (a b : List UInt8) : bestV a b = bestV b a ∧ bestE a b = bestE b a := by
  have h1 : formB a b = formB b a := by rw [formB, formB, Bool.and_comm]
  rw [bestV, bestV, bestE, bestE, both_comm a b, h1]
  exact ⟨rfl, rfl⟩
theorem both_self {a : List UInt8} (h : rightB a = true) : bothS a a = a := by
  have hf : formB a a = true := formB_iff.2 ⟨h, h⟩
  have hc : capB a a = inB a := by funext j; simp [capB]
  have hr := right_iff.1 h
  rw [bothS, if_pos hf, hc, fall_inB hr.2.2.1 hr.2.2.2]
theorem both_right {a b : List UInt8} (hf : formB a b = true) (hn : bothS a b ≠ []) : rightB (bothS a b) = true := by
  have ⟨ra, _⟩ := formB_iff.1 hf
  have hb : bothS a b = fall (capB a b) := by rw [bothS, if_pos hf]
  have hl : (fall (capB a b)).length ≤ a.length := by rw [← common_all ra]; exact common_len _ _ _
  have h8 := (right_iff.1 ra).2.1
  rw [hb] at hn ⊢
  rw [right_fall]
  have : 1 ≤ (fall (capB a b)).length := List.length_pos_iff.2 hn
  simp; omega
theorem both_head {a b : List UInt8} {c : UInt8} {r : List UInt8} (h : bothS a b = c :: r) : bestV a b = c.toNat := by rw [bestV, h]

theorem ok_wf {l : List Int} (h : okV l = true) : ∀ x, x ∈ l → (Lit.int .i64 x).wf = true := fun x hx => by
  have := okV_iff.1 h x hx
  have e1 : IntKind.i64.min = -9223372036854775808 := by decide
  have e2 : IntKind.i64.max = 9223372036854775807 := by decide
  simp only [Lit.wf, e1, e2, Bool.and_eq_true, decide_eq_true_eq]
  omega
/-- An offer's versions, from a place on, round and round. -/
def rot (l : List UInt8) (f k : Nat) : List Int := (List.range k).map fun i => ((l.getD ((i + f) % l.length) 0).toNat : Int)
theorem rot_len (l : List UInt8) (f k : Nat) : (rot l f k).length = k := by simp [rot]
theorem rot_snoc (l : List UInt8) (f k : Nat) : rot l f (k + 1) = rot l f k ++ [((l.getD ((k + f) % l.length) 0).toNat : Int)] := by
  simp [rot, List.range_succ]
theorem rot_mem {l : List UInt8} (hl : 0 < l.length) (f : Nat) (x : Int) : x ∈ rot l f (2 * l.length) ↔ ∃ c, c ∈ l ∧ x = (c.toNat : Int) := by
  unfold rot
  simp only [List.mem_map, List.mem_range]
  constructor
  · rintro ⟨i, _, rfl⟩
    have hq : (i + f) % l.length < l.length := Nat.mod_lt _ hl
    refine ⟨_, ?_, rfl⟩
    simp [List.getD, hq]
  · rintro ⟨c, hc, rfl⟩
    obtain ⟨q, hq, rfl⟩ := List.getElem_of_mem hc
    have hf : f % l.length < l.length := Nat.mod_lt _ hl
    refine ⟨q + (l.length - f % l.length), by omega, ?_⟩
    have e : (q + (l.length - f % l.length) + f) % l.length = q := by
      have h1 : q + (l.length - f % l.length) + f = q + l.length * (f / l.length + 1) := by
        have := Nat.div_add_mod f l.length
        rw [Nat.mul_add, Nat.mul_one]
        omega
      rw [h1, Nat.add_mul_mod_self_left, Nat.mod_eq_of_lt hq]
    rw [e]
    simp [List.getD, hq]
theorem make_rot {l : List UInt8} (h : rightB l = true) (f : Nat) : makeS (rot l f (2 * l.length)) = l ∧ makeE (rot l f (2 * l.length)) = 0 ∧ okV (rot l f (2 * l.length)) = true := by
  have hr := right_iff.1 h
  have hm := rot_mem (l := l) (by omega) f
  have hok : okV (rot l f (2 * l.length)) = true := okV_iff.2 fun x hx => by
    obtain ⟨c, hc, rfl⟩ := (hm x).1 hx
    have := hr.2.2.2 c hc
    have := UInt8.toNat_lt c
    omega
  have hv : fall (vers (rot l f (2 * l.length))) = l := by
    rw [← fall_inB hr.2.2.1 hr.2.2.2]
    refine fall_congr fun j _ _ => ?_
    rw [fall_inB hr.2.2.1 hr.2.2.2, Bool.eq_iff_iff, vers_iff, hm, inB_iff]
    constructor
    · rintro ⟨c, h1, h2⟩; exact ⟨c, h1, by omega⟩
    · rintro ⟨c, h1, h2⟩; exact ⟨c, h1, by omega⟩
  have hb : makeB (rot l f (2 * l.length)) = true := by rw [makeB, hok, hv, h]; rfl
  exact ⟨by rw [makeS, if_pos hb, hv], by rw [makeE, if_pos hb], hok⟩

/-! ### A version more in both -/
theorem IsBest.congr {C D : Nat → Bool} {m : Int} (h : IsBest C m) (he : ∀ j, 1 ≤ j → j ≤ 255 → C j = D j) : IsBest D m := by
  rcases h with ⟨h1, h2⟩ | ⟨k, h1, h2, h3, h4, h5⟩
  · exact .inl ⟨h1, fun j a b => by rw [← he j a b]; exact h2 j a b⟩
  · exact .inr ⟨k, h1, h2, h3, by rw [← he k h2 h3]; exact h4, fun j a b => by rw [← he j (by omega) b]; exact h5 j a b⟩
theorem capB_fall (V W : Nat → Bool) (j : Nat) (h1 : 1 ≤ j) (h2 : j ≤ 255) : capB (fall V) (fall W) j = (V j && W j) := by
  rw [capB, inB_fall h1 (by omega), inB_fall h1 (by omega)]
theorem best_made {X Y : List Int} (hx : okV X = true) (hy : okV Y = true) (lx : X.length ≤ 8) (ly : Y.length ≤ 8) : IsBest (fun j => vers X j && vers Y j) (bestV (makeS X) (makeS Y)) := by
  by_cases ex : X = []
  · subst ex
    exact .inl ⟨rfl, fun j _ _ => by simp [vers]⟩
  · by_cases ey : Y = []
    · subst ey
      have : formB (makeS X) (makeS []) = false := by
        have : rightB (makeS []) = false := rfl
        rw [formB, this, Bool.and_false]
      exact .inl ⟨by rw [bestV, bothS, this]; rfl, fun j _ _ => by simp [vers]⟩
    · have gx := make_good hx ex lx
      have gy := make_good hy ey ly
      have hf : formB (makeS X) (makeS Y) = true := formB_iff.2 ⟨gx.2.2.2, gy.2.2.2⟩
      obtain ⟨m, hm⟩ := isBest_ex (capB (makeS X) (makeS Y))
      rw [(best_is hf hm).1]
      refine hm.congr fun j a b => ?_
      rw [gx.2.1, gy.2.1, capB_fall _ _ j a b]
theorem vers_cons (v : Int) (X : List Int) (j : Nat) : vers (v :: X) j = (decide ((j : Int) = v) || vers X j) := by
  rw [Bool.eq_iff_iff, vers_iff]
  simp only [List.mem_cons, Bool.or_eq_true, decide_eq_true_eq, vers_iff]
theorem more_math {X Y : List Int} {v : Int} (hx : okV X = true) (hy : okV Y = true) (lx : X.length ≤ 7) (ly : Y.length ≤ 7) (h1 : 1 ≤ v) (h2 : v ≤ 255) :
    makeE (v :: X) = 0 ∧ makeE (v :: Y) = 0 ∧ makeE [v] = 0 ∧ okV (v :: X) = true ∧ okV (v :: Y) = true ∧ okV [v] = true ∧
    bestV (makeS (v :: X)) (makeS (v :: Y)) = max (bestV (makeS X) (makeS Y)) v ∧ bestE (makeS (v :: X)) (makeS (v :: Y)) = 0 ∧ bothS (makeS (v :: X)) (makeS [v]) = makeS [v] := by
  have ox := okV_cons v X ⟨h1, h2⟩ hx
  have oy := okV_cons v Y ⟨h1, h2⟩ hy
  have o1 := okV_cons v [] ⟨h1, h2⟩ rfl
  have gx := make_good ox (by simp) (by simp; omega)
  have gy := make_good oy (by simp) (by simp; omega)
  have g1 := make_good o1 (by simp) (by simp)
  have hf : formB (makeS (v :: X)) (makeS (v :: Y)) = true := formB_iff.2 ⟨gx.2.2.2, gy.2.2.2⟩
  have hf1 : formB (makeS (v :: X)) (makeS [v]) = true := formB_iff.2 ⟨gx.2.2.2, g1.2.2.2⟩
  have hwas := best_made hx hy (by omega) (by omega)
  generalize bestV (makeS X) (makeS Y) = was at hwas
  have hnow : IsBest (fun j => vers (v :: X) j && vers (v :: Y) j) (max was v) := by
    obtain ⟨n, rfl⟩ : ∃ n : Nat, v = n := ⟨v.toNat, by omega⟩
    rcases hwas with ⟨w1, w2⟩ | ⟨k, w1, w2, w3, w4, w5⟩
    · refine .inr ⟨n, by omega, by omega, by omega, by simp only [vers_cons]; simp, fun j a b => ?_⟩
      have hj : decide ((j : Int) = n) = false := by simp; omega
      simp only [vers_cons, hj, Bool.false_or]
      exact w2 j (by omega) b
    · rcases Nat.lt_or_ge n k with q | q
      · refine .inr ⟨k, by omega, w2, w3, ?_, fun j a b => ?_⟩
        · simp only [vers_cons, Bool.and_eq_true] at w4 ⊢
          rw [w4.1, w4.2]; simp
        · have hj : decide ((j : Int) = n) = false := by simp; omega
          simp only [vers_cons, hj, Bool.false_or]
          exact w5 j a b
      · refine .inr ⟨n, by omega, by omega, by omega, by simp only [vers_cons]; simp, fun j a b => ?_⟩
        have hj : decide ((j : Int) = n) = false := by simp; omega
        simp only [vers_cons, hj, Bool.false_or]
        exact w5 j (by omega) b
  have hb := best_is hf (hnow.congr fun j a b => by rw [gx.2.1, gy.2.1, capB_fall _ _ j a b])
  refine ⟨gx.2.2.1, gy.2.2.1, g1.2.2.1, ox, oy, o1, hb.1, by rw [hb.2, if_neg (by omega)], ?_⟩
  rw [bothS, if_pos hf1, g1.2.1]
  refine fall_congr fun j a b => ?_
  rw [gx.2.1, capB_fall _ _ j a (by omega), vers_cons, vers_cons]
  cases decide ((j : Int) = v) <;> simp [vers]

/-! ### An offer has just the versions of which it was made -/
theorem made_cases (l : List Int) : (makeE l = 1 ∧ makeS l = []) ∨ (makeE l = 0 ∧ rightB (makeS l) = true ∧ ∀ m : Nat, m < 256 → hasI (makeS l) (m : Int) = l.contains (m : Int)) := by
  cases h : makeB l
  · exact .inl (by rw [makeE, makeS, h]; exact ⟨rfl, rfl⟩)
  · refine .inr ?_
    have hb := h
    rw [makeB, Bool.and_eq_true] at hb
    rw [makeE, makeS, if_pos h, if_pos h]
    refine ⟨rfl, hb.2, fun m hm => ?_⟩
    rw [hasI_inB]
    rcases Nat.eq_zero_or_pos m with e | e
    · subst e
      rw [inB_fall0]
      symm
      rw [Bool.eq_false_iff]
      intro hc
      have := okV_iff.1 hb.1 _ (by simpa using hc)
      omega
    · rw [inB_fall e hm]; rfl
theorem make_rev (l : List Int) : makeS l.reverse = makeS l ∧ makeE l.reverse = makeE l := (make_congr (l := l.reverse) (m := l) fun x => by simp).2
theorem contains_take {zs : List Int} {k : Nat} (h : k < zs.length) (v : Int) : (zs.take (k + 1)).contains v = ((zs.take k).contains v || decide (zs.getD k 0 = v)) := by
  rw [take_getD h, Bool.eq_iff_iff]
  simp only [List.contains_iff_mem, List.mem_append, List.mem_singleton, Bool.or_eq_true, decide_eq_true_eq]
  exact ⟨fun q => q.imp id Eq.symm, fun q => q.imp id Eq.symm⟩
end Go.Proofs.Ytahlekcnleedhaa
