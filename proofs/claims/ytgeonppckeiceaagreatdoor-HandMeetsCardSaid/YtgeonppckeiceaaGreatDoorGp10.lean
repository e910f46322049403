/- A region that draws its order, with operations of which many make memory: whatever order is drawn, by ONE invariant that every operation keeps. -/
/- A store beside a row of integers that the call owns and appends to: as one thing that the other store's calls leave alone. -/
import Derived.Test.YtgeonppckeiceaaGreatDoorGp09
import Derived.Deep.RegionHeld3
import Derived.StillTail
import Derived.Test.YtgeonppckeiceaaGreatDoorGp05
namespace Go.Proofs.YtgeonppckeiceaaGreatDoor.Ms
open Go.RowKit
set_option linter.unusedVariables false
set_option linter.unusedSimpArgs false

/-- Every operation waits for earlier ones alone. -/
def downB (md : Region.Mode) (ops : Array Oper) : Bool := (List.range ops.size).all fun i => match ops[i]? with
  | some o => o.after.all fun e => !Region.binds md e || decide (e.on < i)
  | none => true
theorem ready_none {md : Region.Mode} {ops : Array Oper} {listed : Array Bool} (hd : downB md ops = true) (hr : Region.ready md ops listed = []) :
    ∀ n i, i < n → i < ops.size → listed.getD i true = true := by
  intro n
  induction n with
  | zero => intro i h; omega
  | succ n ih =>
    intro i hin hi
    by_cases hlt : i < n
    · exact ih i hlt hi
    · obtain rfl : i = n := by omega
      cases hl : listed.getD i true with
      | true => rfl
      | false =>
        exfalso
        have hmem : i ∈ Region.ready md ops listed := by
          rw [mem_ready]
          refine ⟨hl, ops[i], Array.getElem?_eq_getElem hi, fun e he hb => ?_⟩
          have h1 := List.all_eq_true.1 hd i (List.mem_range.2 hi)
          simp only [Array.getElem?_eq_getElem hi] at h1
          have h2 := Array.all_eq_true'.1 h1 e he
          simp [hb] at h2
          have h3 := ih e.on h2 (by omega)
          rcases Nat.lt_or_ge e.on listed.size with q | q
          · simp [q] at h3 ⊢; exact h3
          · exfalso
            have : listed.size ≤ i := by omega
            simp [Array.getElem?_eq_none this] at hl
        rw [hr] at hmem
        cases hmem
/-- How many have not come up. -/
def left (listed : Array Bool) : Nat := listed.toList.countP fun b => !b
theorem countP_set (l : List Bool) : ∀ i, l[i]? = some false → (l.set i true).countP (fun b => !b) + 1 = l.countP fun b => !b := by
  induction l with
  | nil => intro i h; simp at h
  | cons b l ih =>
    intro i h
    cases i with
    | zero => simp at h; subst h; simp
    | succ i =>
      have := ih i (by simpa using h)
      cases b <;> simp [List.countP_cons] <;> omega
theorem left_set {listed : Array Bool} {i : Nat} (h : listed.getD i true = false) : left (listed.setIfInBounds i true) + 1 = left listed := by
  have hi : listed.toList[i]? = some false := by
    rcases Nat.lt_or_ge i listed.size with q | q
    · simp [q] at h ⊢; exact h
    · simp [Array.getElem?_eq_none q] at h
  have := countP_set _ i hi
  unfold left
  simpa using this
theorem left_zero {listed : Array Bool} (h : left listed = 0) (i : Nat) : listed.getD i true = true := by
  unfold left at h
  rw [List.countP_eq_zero] at h
  rcases Nat.lt_or_ge i listed.size with q | q
  · have := h listed[i] (by simp)
    simp [q]; simpa using this
  · simp [Array.getElem?_eq_none q]
/-- The values of the operations R put, over a frame. -/
def putAll (ops : Array Oper) (a : Act) (vs : Nat → Value) : List Nat → Act
  | [] => a
  | i :: R => (putAll ops a vs R).put ((ops[i]?).bind (·.dst)) (vs i)
def upd {α : Type} (f : Nat → α) (i : Nat) (v : α) : Nat → α := fun j => if j = i then v else f j
theorem upd_same {α : Type} (f : Nat → α) (i : Nat) (v : α) : upd f i v i = v := by simp [upd]
theorem upd_ne {α : Type} (f : Nat → α) {i j : Nat} (v : α) (h : j ≠ i) : upd f i v j = f j := by simp [upd, h]

section
variable {P : Program} {ops : Array Oper} {Q : Exit → Act → World → Prop} {md : Region.Mode} {S : World → Prop}
/-- One step: behind it S, and the invariant for one more. -/
def Steps (P : Program) (md : Region.Mode) (ops : Array Oper) (Q : Exit → Act → World → Prop) (S : World → Prop) (F : (Nat → Value) → Act) (R : List Nat) (I : (Nat → Bool) → (Nat → Value) → World → Prop) : Prop :=
  ∀ (l : Nat → Bool) (vs : Nat → Value) (w : World) (i : Nat) (o : Oper), i ∈ R → ops[i]? = some o → l i = false → (∀ j, Region.waitsFor md ops i j = true → l j = true) → (∀ j k, Region.waitsFor md ops j k = true → l j = true → l k = true) → I l vs w → S w →
    ∀ K' : Act → World → Prop, Shut (∀ v w', S w' → I (upd l i true) (upd vs i v) w' → K' ((F vs).put o.dst v) w') →
      if Region.wanted o (yielded ops (F vs).tmps) = true then Oper.wp P o (F vs) w K' Q else K' ((F vs).put o.dst undef) w
theorem wpAnyH_bag (R : List Nat) (I : (Nat → Bool) → (Nat → Value) → World → Prop) (a0 : Act) (hdown : downB md ops = true) (hR : ∀ i, i ∈ R → i < ops.size)
    (hput : ∀ i, i ∈ R → ∀ vs v, (putAll ops a0 vs R).put ((ops[i]?).bind (·.dst)) v = putAll ops a0 (upd vs i v) R)
    (step : Steps P md ops Q S (fun vs => putAll ops a0 vs R) R I)
    (done : ∀ l vs w, (∀ i, i ∈ R → l i = true) → I l vs w → S w → Q .normal (putAll ops a0 vs R) w) :
    ∀ (fuel : Nat) (listed : Array Bool) (vs : Nat → Value) (w : World), listed.size = ops.size → left listed ≤ fuel → (∀ i, i < ops.size → i ∉ R → listed.getD i true = true) → (∀ j k, Region.waitsFor md ops j k = true → listed.getD j false = true → listed.getD k false = true) →
      I (fun j => listed.getD j false) vs w → S w → wpAnyH P md ops Q S fuel listed (putAll ops a0 vs R) w := by
  intro fuel
  induction fuel with
  | zero =>
    intro listed vs w hsz hl hr hcl hI hS
    refine ⟨?_, done _ vs w (fun i hi => ?_) hI hS⟩
    · cases hc : Region.ready md ops listed with
      | nil => rfl
      | cons j js =>
        have : j ∈ Region.ready md ops listed := by rw [hc]; simp
        have h1 := (mem_ready.1 this).1
        rw [left_zero (by omega) j] at h1; cases h1
    · have := left_zero (by omega : left listed = 0) i
      have hlt : i < listed.size := by rw [hsz]; exact hR i hi
      simp [hlt] at this ⊢; exact this
  | succ fuel ih =>
    intro listed vs w hsz hl hr hcl hI hS
    refine ⟨fun h0 => done _ vs w (fun i hi => ?_) hI hS, fun i hi => ?_⟩
    · have := ready_none hdown h0 (i + 1) i (by omega) (hR i hi)
      have hlt : i < listed.size := by rw [hsz]; exact hR i hi
      simp [hlt] at this ⊢; exact this
    · obtain ⟨h1, o, ho, h2⟩ := mem_ready.1 hi
      have hlt : i < ops.size := (Array.getElem?_eq_some_iff.1 ho).1
      have hiR : i ∈ R := by
        apply Classical.byContradiction
        intro hn
        rw [hr i hlt hn] at h1; cases h1
      have hls : i < listed.size := by rw [hsz]; exact hlt
      have hwt : ∀ j, Region.waitsFor md ops i j = true → listed.getD j false = true := fun j hj => by
        obtain ⟨o', ho', e, he, hb, hon⟩ := Region.waitsFor_spec hj
        rw [ho] at ho'
        injection ho' with ho'
        subst ho'
        rw [← hon]; exact h2 e he hb
      refine wpOp_step ho (fun K' hK => ?_)
      refine step (fun j => listed.getD j false) vs w i o hiR ho (by simp [hls] at h1 ⊢; exact h1) hwt hcl hI hS K' (fun v w' hS' hI' => hK _ _ ⟨hS', ?_⟩)
      have hp := hput i hiR vs v
      rw [ho] at hp
      simp only [Option.bind_some] at hp
      rw [hp]
      have hll := left_set h1
      refine ih (listed.setIfInBounds i true) (upd vs i v) w' (by simpa using hsz) (by omega) (fun j hj hjR => ?_) ?_ ?_ hS'
      · have := hr j hj hjR
        by_cases hij : i = j
        · subst hij; simp [hls]
        · rw [getD_set_ne true hij]; exact this
      · intro j k hjk hj
        by_cases hij : i = j
        · subst hij; exact getD_set_true (hwt k hjk)
        · rw [getD_set_ne false hij] at hj; exact getD_set_true (hcl j k hjk hj)
      · have e : (fun j => (listed.setIfInBounds i true).getD j false) = upd (fun j => listed.getD j false) i true := by
          funext j
          by_cases hij : i = j
          · subst hij; simp [upd, hls]
          · rw [getD_set_ne false hij, upd_ne _ _ (fun e => hij e.symm)]
        rw [e]; exact hI'
end
section
variable {P : Program} {ops : Array Oper} {Q : Exit → Act → World → Prop} {md : Region.Mode} {S : World → Prop}
def vsOf (ops : Array Oper) (a : Act) (i : Nat) : Value := (((ops[i]?).bind (·.dst)).bind (fun d => a.tmps[d]?)).getD undef
/-- From a frame on: the operations R are left. -/
theorem wpAnyH_from (R : List Nat) (I : (Nat → Bool) → (Nat → Value) → World → Prop) {a0 : Act} {fuel : Nat} {given : Array Bool} {w : World} (listed : Array Bool) (hgiven : given = listed) (hdown : downB md ops = true) (hR : R.all (fun i => decide (i < ops.size)) = true)
    (hl : ((List.range ops.size).all fun i => R.contains i || listed.getD i true) = true) (hsz : listed.size = ops.size) (hf : decide (left listed ≤ fuel) = true)
    (hcl : ((List.range ops.size).all fun j => !listed.getD j false || (List.range ops.size).all fun k => !Region.waitsFor md ops j k || listed.getD k false) = true)
    {F : (Nat → Value) → Act} (hF : ∀ vs, putAll ops a0 vs R = F vs)
    (hput : ∀ i, i ∈ R → ∀ vs v, (F vs).put ((ops[i]?).bind (·.dst)) v = F (upd vs i v))
    (h0 : F (vsOf ops a0) = a0) (hS : S w) (hI : I (fun j => listed.getD j false) (vsOf ops a0) w)
    (step : Steps P md ops Q S F R I)
    (done : ∀ l vs w, (∀ i, i ∈ R → l i = true) → I l vs w → S w → Q .normal (F vs) w) : wpAnyH P md ops Q S fuel given a0 w := by
  subst hgiven
  obtain rfl : F = fun vs => putAll ops a0 vs R := funext fun vs => (hF vs).symm
  have := wpAnyH_bag (P := P) (Q := Q) (S := S) (md := md) R I a0 hdown (fun i hi => by simpa using List.all_eq_true.1 hR i hi) hput step done fuel given (vsOf ops a0) w hsz (by simpa using hf) (fun i hi hn => by
    have h1 := List.all_eq_true.1 hl i (List.mem_range.2 hi)
    simp only [Bool.or_eq_true] at h1
    rcases h1 with h1 | h1
    · exact absurd (by simpa using h1) hn
    · exact h1) (fun j k hjk hj => by
      have hjl : j < ops.size := by
        rcases Nat.lt_or_ge j given.size with q | q
        · omega
        · simp [Array.getElem?_eq_none q] at hj
      have hkl : k < ops.size := by
        obtain ⟨o', ho', e, he, hb, hon⟩ := Region.waitsFor_spec hjk
        have h1 := List.all_eq_true.1 hdown j (List.mem_range.2 hjl)
        simp only [ho'] at h1
        have h2 := Array.all_eq_true'.1 h1 e he
        simp [hb] at h2
        omega
      have h1 := List.all_eq_true.1 hcl j (List.mem_range.2 hjl)
      simp only [hj, Bool.not_true, Bool.false_or] at h1
      have h2 := List.all_eq_true.1 h1 k (List.mem_range.2 hkl)
      simpa [hjk] using h2) hI hS
  exact h0 ▸ this
end

/-- The blocks that a region's operations have made so far: which they are, and what each holds. -/
structure Bag (w0 w : World) (L : Nat → Bool) (b : Nat → Nat) (ob : Nat → Obj) : Prop where
  below : Below w0.heap.size w0 w
  at_ : ∀ i, L i = true → w0.heap.size ≤ b i ∧ w.heap[b i]? = some (ob i)
  inj : ∀ i j, L i = true → L j = true → b i = b j → i = j
section
variable {w0 w w' : World} {L : Nat → Bool} {b : Nat → Nat} {ob : Nat → Obj}
theorem Bag.none (h : Below w0.heap.size w0 w) (hL : ∀ i, L i = false) : Bag w0 w L b ob := { below := h, at_ := fun i hi => (by rw [hL i] at hi; cases hi), inj := fun i j hi => (by rw [hL i] at hi; cases hi) }
theorem Bag.next (h : Bag w0 w L b ob) (hb : Below w.heap.size w w') : Bag w0 w' L b ob :=
  ⟨h.below.trans (hb.mono h.below.size), fun i hi => ⟨(h.at_ i hi).1, (hb.block _ (blk_lt (h.at_ i hi).2)).trans (h.at_ i hi).2⟩, h.inj⟩
theorem Bag.alloc (h : Bag w0 w L b ob) {i : Nat} (hi : L i = false) (o : Obj) : Bag w0 (w.alloc o) (upd L i true) (upd b i w.heap.size) (upd ob i o) := by
  have hb := below_alloc w o
  refine ⟨h.below.trans (hb.mono h.below.size), fun j hj => ?_, fun j k hj hk e => ?_⟩
  · by_cases e : j = i
    · subst e; simp only [upd_same]; exact ⟨h.below.size, heap_alloc_new w o⟩
    · rw [upd_ne _ _ e] at hj ⊢; rw [upd_ne _ _ e]
      exact ⟨(h.at_ j hj).1, (hb.block _ (blk_lt (h.at_ j hj).2)).trans (h.at_ j hj).2⟩
  · by_cases e1 : j = i
    · by_cases e2 : k = i
      · rw [e1, e2]
      · subst e1
        rw [upd_same, upd_ne _ _ e2] at e
        rw [upd_ne _ _ e2] at hk
        have := blk_lt (h.at_ k hk).2
        omega
    · rw [upd_ne _ _ e1] at hj e
      by_cases e2 : k = i
      · subst e2
        rw [upd_same] at e
        have := blk_lt (h.at_ j hj).2
        omega
      · rw [upd_ne _ _ e2] at hk e
        exact h.inj j k hj hk e
/-- One of them is turned. -/
theorem Bag.turn (h : Bag w0 w L b ob) {i : Nat} (hi : L i = true) {o : Obj} (hc : Chg (fun k => k = b i) w w') (ho : w'.heap[b i]? = some o) : Bag w0 w' L b (upd ob i o) := by
  refine ⟨h.below.trans (hc.below (fun k e => by rw [e]; exact (h.at_ i hi).1) h.below.size), fun j hj => ?_, h.inj⟩
  by_cases e : j = i
  · subst e; rw [upd_same]; exact ⟨(h.at_ j hj).1, ho⟩
  · rw [upd_ne _ _ e]; exact ⟨(h.at_ j hj).1, hc.blk (h.at_ j hj).2 (fun q => e (h.inj j i hj hi q))⟩
theorem Bag.congr {L' : Nat → Bool} (h : Bag w0 w L b ob) (e : ∀ i, L i = L' i) : Bag w0 w L' b ob := by
  obtain rfl : L = L' := funext e
  exact h
theorem three_cells {cs : Array Value} (h : cs.size = 3) : ∃ a b c, cs = #[a, b, c] := by
  obtain ⟨l⟩ := cs
  match l, h with
  | [a, b, c], _ => exact ⟨a, b, c, rfl⟩
end
/-- What holds within a region: the constants that came up, the blocks that were made, what each of them holds. -/
def BagI (W : World) (A : List Nat) (C : Nat → (Nat → Nat) → Option Value) (mk : Nat → Nat → Value) (OB : Nat → (Nat → Bool) → (Nat → Nat) → Obj → Prop) (l : Nat → Bool) (vs : Nat → Value) (w : World) : Prop :=
  ∃ b ob, Bag W w (fun i => A.contains i && l i) b ob ∧ (∀ i v, C i b = some v → l i = true → vs i = v) ∧ (∀ i, A.contains i = true → l i = true → vs i = mk i (b i)) ∧
    (∀ i, A.contains i = true → l i = true → OB i l b (ob i))
section
variable {W w w' : World} {A : List Nat} {C : Nat → (Nat → Nat) → Option Value} {mk : Nat → Nat → Value} {OB : Nat → (Nat → Bool) → (Nat → Nat) → Obj → Prop} {l : Nat → Bool} {vs : Nat → Value}
theorem BagI.start (hb : Below W.heap.size W w) (h : ∀ i, A.contains i = true → l i = false) (hC : ∀ i b v, C i b = some v → l i = false) : BagI W A C mk OB l vs w :=
  ⟨fun _ => 0, fun _ => .cells #[] 0 (0, 0), Bag.none hb (fun i => by
    cases e : A.contains i with
    | false => rfl
    | true => simp [h i e]), fun i v e q => by (rw [hC i _ v e] at q; cases q), fun i e q => (by rw [h i e] at q; cases q), fun i e q => (by rw [h i e] at q; cases q)⟩
theorem BagI.below (h : BagI W A C mk OB l vs w) : Below W.heap.size W w := by
  obtain ⟨b, ob, hb, _⟩ := h
  exact hb.below
theorem BagI.const {i : Nat} (h : BagI W A C mk OB l vs w) (hA : A.contains i = false) (hb : Below w.heap.size w w') {v : Value} (hC : ∀ b, (∀ j, A.contains j = true → l j = true → vs j = mk j (b j)) → C i b = some v)
    (hO : ∀ j b o, A.contains j = true → l j = true → OB j l b o → OB j (upd l i true) b o) : BagI W A C mk OB (upd l i true) (upd vs i v) w' := by
  obtain ⟨b, ob, hB, h1, h2, h3⟩ := h
  have ne : ∀ j, A.contains j = true → j ≠ i := fun j hj e => by rw [e, hA] at hj; cases hj
  refine ⟨b, ob, (hB.next hb).congr (fun j => ?_), fun j u hu hl => ?_, fun j hj hl => ?_, fun j hj hl => ?_⟩
  · by_cases e : j = i
    · rw [e, hA]; rfl
    · rw [upd_ne _ _ e]
  · by_cases e : j = i
    · subst e; rw [upd_same]; exact Option.some.inj ((hC b h2).symm.trans hu)
    · rw [upd_ne _ _ e] at hl ⊢; exact h1 j u hu hl
  · rw [upd_ne _ _ (ne j hj)] at hl ⊢; exact h2 j hj hl
  · rw [upd_ne _ _ (ne j hj)] at hl; exact hO j b _ hj hl (h3 j hj hl)
theorem BagI.alloc {i : Nat} (h : BagI W A C mk OB l vs w) (hA : A.contains i = true) (hl0 : l i = false) (o : Obj) (hC : ∀ b, C i b = none) (hCb : ∀ j b n, l j = true → C j (upd b i n) = C j b) {v : Value} (hv : v = mk i w.heap.size)
    (hO : ∀ j b o, A.contains j = true → j ≠ i → l j = true → OB j l b o → OB j (upd l i true) (upd b i w.heap.size) o) (hN : ∀ b, OB i (upd l i true) (upd b i w.heap.size) o) :
    BagI W A C mk OB (upd l i true) (upd vs i v) (w.alloc o) := by
  obtain ⟨b, ob, hB, h1, h2, h3⟩ := h
  refine ⟨_, _, (hB.alloc (i := i) (by rw [hA, hl0]; rfl) o).congr (fun j => ?_), fun j u hu hl => ?_, fun j hj hl => ?_, fun j hj hl => ?_⟩
  · by_cases e : j = i
    · subst e; simp only [upd_same, hA, Bool.and_self]
    · simp only [upd_ne _ _ e]
  · by_cases e : j = i
    · subst e; rw [hC] at hu; cases hu
    · rw [upd_ne _ _ e] at hl ⊢; exact h1 j u (by rw [← hu, hCb j b _ hl]) hl
  · by_cases e : j = i
    · subst e; simp only [upd_same]; exact hv
    · rw [upd_ne _ _ e] at hl; rw [upd_ne _ _ e, upd_ne _ _ e]; exact h2 j hj hl
  · by_cases e : j = i
    · subst e; simp only [upd_same]; exact hN b
    · rw [upd_ne _ _ e] at hl; rw [upd_ne ob _ e]; exact hO j b _ hj e hl (h3 j hj hl)
theorem BagI.turn {i k : Nat} (h : BagI W A C mk OB l vs w) (hA : A.contains i = false) (hk : A.contains k = true) (hl : l k = true) {v : Value} (hC : ∀ b, C i b = none)
    (hw : ∀ b ob, vs k = mk k (b k) → OB k l b ob → w.heap[b k]? = some ob → W.heap.size ≤ b k → (∀ j, A.contains j = true → l j = true → vs j = mk j (b j)) → ∃ o', Chg (fun q => q = b k) w w' ∧ w'.heap[b k]? = some o' ∧ OB k (upd l i true) b o')
    (hO : ∀ j b o, A.contains j = true → j ≠ k → l j = true → OB j l b o → OB j (upd l i true) b o) : BagI W A C mk OB (upd l i true) (upd vs i v) w' := by
  obtain ⟨b, ob, hB, h1, h2, h3⟩ := h
  have ne : ∀ j, A.contains j = true → j ≠ i := fun j hj e => by rw [e, hA] at hj; cases hj
  have hat := hB.at_ k (by rw [hk, hl]; rfl)
  obtain ⟨o', hc, hh, ho⟩ := hw b (ob k) (h2 k hk hl) (h3 k hk hl) hat.2 hat.1 h2
  refine ⟨b, _, (hB.turn (i := k) (by rw [hk, hl]; rfl) hc hh).congr (fun j => ?_), fun j u hu hl => ?_, fun j hj hl => ?_, fun j hj hl => ?_⟩
  · by_cases e : j = i
    · rw [e, hA]; rfl
    · rw [upd_ne _ _ e]
  · by_cases e : j = i
    · subst e; rw [hC] at hu; cases hu
    · rw [upd_ne _ _ e] at hl ⊢; exact h1 j u hu hl
  · rw [upd_ne _ _ (ne j hj)] at hl ⊢; exact h2 j hj hl
  · rw [upd_ne _ _ (ne j hj)] at hl
    by_cases e : j = k
    · subst e; rw [upd_same]; exact ho
    · rw [upd_ne _ _ e]; exact hO j b _ hj e hl (h3 j hj hl)
end
theorem Chg.setCell3 (w : World) (b i j k : Nat) (u v x : Value) : Chg (fun q => q = b) w (((w.setCell ⟨b, i, none⟩ u).setCell ⟨b, j, none⟩ v).setCell ⟨b, k, none⟩ x) :=
  ((Chg.setCell w b i u).trans (Chg.setCell _ b j v)).trans (Chg.setCell _ b k x)
theorem row_set3 {w : World} {b : Nat} {t : TypeId} {a0 a1 a2 : Value} (v0 v1 v2 : Value) (h : w.heap[b]? = some (.cells #[a0, a1, a2] t (0, 0))) :
    (((w.setCell ⟨b, 0, none⟩ v0).setCell ⟨b, 1, none⟩ v1).setCell ⟨b, 2, none⟩ v2).heap[b]? = some (.cells #[v0, v1, v2] t (0, 0)) := by
  have := row_set 2 v2 (row_set 1 v1 (row_set 0 v0 h))
  simp at this
  exact this
end Go.Proofs.YtgeonppckeiceaaGreatDoor.Ms
namespace Go.Proofs.YtgeonppckeiceaaGreatDoor
open Go.RowKit
set_option linter.unusedVariables false
set_option maxRecDepth 20000

def intsR (xs : List Int) : List Value := xs.map (Value.int .i64)
/-- A store beside a row of integers. -/
def WithRow (base : Nat) (Q : (Nat → Prop) → List Tm → World → Prop) (v : Value) (xs : List Int) : (Nat → Prop) → List Tm → World → Prop := fun F L w =>
  ∃ F2, Q F2 L w ∧ w.ownsRow base 3 1 v xs.length (intsR xs) ∧ (∀ k, v.ownBlock = some k → ¬ F2 k) ∧ (∀ k, F k ↔ (F2 k ∨ v.ownBlock = some k))
theorem WithRow.good {base : Nat} {Q : (Nat → Prop) → List Tm → World → Prop} (g : Good base Q) (v : Value) (xs : List Int) : Good base (WithRow base Q v xs) := by
  refine ⟨?_, ?_⟩
  · rintro F S L w w' ⟨F2, h1, h2, h3, h4⟩ hc hn
    exact ⟨F2, g.frame h1 hc (fun k hk => hn k ((h4 k).2 (.inl hk))), hc.row h2 (fun k hk => hn k ((h4 k).2 (.inr hk))), h3, h4⟩
  · rintro F L w ⟨F2, h1, h2, h3, h4⟩ k hk
    rcases (h4 k).1 hk with q | q
    · exact g.bounds h1 k q
    · exact h2.lt k q
section
variable {base : Nat} {Q1 Q2 : (Nat → Prop) → List Tm → World → Prop} {L1 L2 : List Tm} {K : Nat → Prop} {w0 w : World}
theorem Pair.addRow (h : Pair base Q1 Q2 L1 L2 K w0 w) : Pair base Q1 (WithRow base Q2 (.slice none 0 0) []) L1 L2 K w0 w := by
  obtain ⟨F1, F2, h1, h2, h3, h4, h5, h6⟩ := h
  exact ⟨F1, F2, h1, ⟨F2, h2, ⟨by simp [intsR], .inl ⟨rfl, rfl⟩⟩, fun k hk => by simp [Value.ownBlock] at hk, fun k => by simp [Value.ownBlock]⟩, h3, h4, h5, h6⟩
theorem Pair.dropRow {v : Value} {xs : List Int} (h : Pair base Q1 (WithRow base Q2 v xs) L1 L2 K w0 w) : Pair base Q1 Q2 L1 L2 K w0 w ∧ w.ownsRow base 3 1 v xs.length (intsR xs) := by
  obtain ⟨F1, F2, h1, ⟨F3, q1, q2, q3, q4⟩, h3, h4, h5, h6⟩ := h
  exact ⟨⟨F1, F3, h1, q1, fun k a b => h3 k a ((q4 k).2 (.inl b)), fun k hk => ⟨(h4 k hk).1, fun e => (h4 k hk).2.1 ((q4 k).2 (.inl e)), (h4 k hk).2.2⟩, h5, h6⟩, q2⟩
theorem Pair.rowOf {v : Value} {xs : List Int} (h : Pair base Q1 (WithRow base Q2 v xs) L1 L2 K w0 w) : w.ownsRow base 3 1 v xs.length (intsR xs) := h.dropRow.2
/-- A number is appended to the row. -/
theorem Pair.appRow {v : Value} {xs : List Int} {x : Int} {g cap : Nat} {o : Obj} {w' : World} (g1 : Good base Q1) (g2 : Good base Q2) (h : Pair base Q1 (WithRow base Q2 v xs) L1 L2 K w0 w)
    (hown : w'.ownsRow base 3 1 (.slice (some ⟨g, 0, none⟩) (xs.length + 1) cap) (xs.length + 1) (intsR xs ++ [.int .i64 x])) (hgrow : (w.alloc o).grownBy w' v.ownBlock)
    (hat : v.ownBlock = some g ∨ g = w.heap.size + 1) : Pair base Q1 (WithRow base Q2 (.slice (some ⟨g, 0, none⟩) (xs.length + 1) cap) (xs ++ [x])) L1 L2 K w0 w' ∧ ∀ k, K k → w'.heap[k]? = w.heap[k]? := by
  have hbl := h.base_le
  obtain ⟨F1, F2, h1, ⟨F3, q1, q2, q3, q4⟩, h3, h4, h5, h6⟩ := h
  have C : Chg (fun k => some k = v.ownBlock) w w' := (Chg.alloc w o _).trans (Chg.grown hgrow)
  have hnew : ∀ k, k < w.heap.size → k = g → v.ownBlock = some k := by
    intro k hk e
    rcases hat with q | q
    · rw [e]; exact q
    · omega
  have hown' : ∀ k, v.ownBlock = some k → base ≤ k ∧ k < w.heap.size := fun k hk => q2.lt k hk
  refine ⟨⟨F1, fun k => F3 k ∨ k = g, g1.frame h1 C (fun k hk e => h3 k hk ((q4 k).2 (.inr e.symm))), ⟨F3, g2.frame q1 C (fun k hk e => q3 k e.symm hk), by rw [show (xs ++ [x]).length = xs.length + 1 by simp, show intsR (xs ++ [x]) = intsR xs ++ [.int .i64 x] by simp [intsR]]; exact hown, ?_, ?_⟩, ?_, ?_, h5, ?_⟩, ?_⟩
  · intro k hk e
    have hk' : k = g := by simp [Value.ownBlock] at hk; exact hk.symm
    exact q3 k (hnew k (g2.bounds q1 k e).2 hk') e
  · intro k
    simp [Value.ownBlock]
    constructor
    · rintro (a | a)
      · exact .inl a
      · exact .inr a.symm
    · rintro (a | a)
      · exact .inl a
      · exact .inr a.symm
  · rintro k a (b | b)
    · exact h3 k a ((q4 k).2 (.inl b))
    · exact h3 k a ((q4 k).2 (.inr (hnew k (g1.bounds h1 k a).2 b)))
  · intro k hk
    obtain ⟨a, b, c⟩ := h4 k hk
    refine ⟨a, ?_, Nat.lt_of_lt_of_le c C.size⟩
    rintro (e | e)
    · exact b ((q4 k).2 (.inl e))
    · exact b ((q4 k).2 (.inr (hnew k c e)))
  · exact h6.trans (C.below (fun k hk => (hown' k hk.symm).1) hbl)
  · intro k hk
    obtain ⟨a, b, c⟩ := h4 k hk
    exact C.block k c (fun e => b ((q4 k).2 (.inr e.symm)))
end
end Go.Proofs.YtgeonppckeiceaaGreatDoor
