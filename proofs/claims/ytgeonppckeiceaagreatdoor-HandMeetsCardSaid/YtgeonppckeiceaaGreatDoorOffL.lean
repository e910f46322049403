/- Words for the laws: rows and texts that came in. -/
import Derived.Test.YtgeonppckeiceaaGreatDoorGp08
import Derived.Deep.Slices
namespace Go.Proofs.YtgeonppckeiceaaGreatDoor.Ms
open Go.RowKit
open Go.ChangeShapes Go.WideShapes
set_option linter.unusedVariables false
set_option linter.unusedSimpArgs false
set_option maxRecDepth 20000

/-- A row of integers that came in, or nil. -/
def IsRow (k : IntKind) (w : World) (a : Option Addr) (len cap : Nat) (zs : List Int) : Prop :=
  (a = none ∧ len = 0 ∧ cap = 0 ∧ zs = []) ∨
  ∃ x, a = some x ∧ len ≤ cap ∧ cap ≤ maxLen ∧ zs.length = cap ∧ (∀ i, i < zs.length → w.cell? (x.add i) = some (.int k (zs.getD i 0))) ∧ ∀ n ∈ zs, (Lit.int k n).wf = true
/-- It is a row of as many numbers as it is long, each within its kind's bounds. -/
theorem IsRow.row {k : IntKind} {w : World} {a : Option Addr} {len cap : Nat} {zs : List Int} (h : IsRow k w a len cap zs) : ∃ ks : List Int, ks.length = len ∧ RowAt k w a cap ks ∧ (∀ x, x ∈ ks → (Lit.int k x).wf = true) ∧ ((a = none ∧ len = 0 ∧ cap = 0) ∨ ∃ x, a = some x) := by
  rcases h with ⟨rfl, rfl, rfl, rfl⟩ | ⟨x, rfl, hl, hm, hz, hc, hw⟩
  · exact ⟨[], rfl, RowAt.none k w, by simp, .inl ⟨rfl, rfl, rfl⟩⟩
  · have hlen : (zs.take len).length = len := by simp; omega
    refine ⟨zs.take len, hlen, ?_, fun y hy => hw y (List.mem_of_mem_take hy), .inr ⟨_, rfl⟩⟩
    by_cases hp : 0 < zs.length
    · obtain ⟨b, off, rfl, hcell⟩ := ints_at hc hp
      have hr : RowAt k w (some ⟨b, off, none⟩) cap zs := ⟨by omega, hm, b, off, fun j hj => ⟨rfl, hcell j hj⟩⟩
      exact hr.take len
    · have e : zs.take len = [] := List.eq_nil_of_length_eq_zero (by rw [hlen]; omega)
      rw [e]
      exact ⟨by simp, hm, 0, 0, fun j hj => absurd hj (Nat.not_lt_zero _)⟩
/-- A text's begin of so many bytes at most, as a letter: its facts ahead of a walk that cuts it. -/
theorem slice_facts (A : ByteArray) (k : Nat) : ∃ p : ByteArray, min (A.size : Int) k = p.size ∧ p.size ≤ A.size ∧ p.size ≤ k ∧ A.extract 0 p.size = p := by
  rcases Nat.le_total A.size k with h | h
  · exact ⟨A, by omega, Nat.le_refl _, h, by simp⟩
  · have e : (A.extract 0 k).size = k := by simp only [ByteArray.size_extract]; omega
    exact ⟨A.extract 0 k, by omega, by omega, by omega, by rw [e]⟩
theorem eqS (t : ByteArray) : (t.toList == t.toList) = true := by simp

/-! ### Several rows of integers that the call owns, apart from each other -/
def RowsOk (base : Nat) (rs : List (Value × List Int)) (w : World) : Prop := (∀ r, r ∈ rs → Own 3 .i64 base r.1 r.2 w) ∧ rs.Pairwise fun r q => Apart r.1 q.1
theorem RowsOk.below {base : Nat} {rs : List (Value × List Int)} {w w' : World} (h : RowsOk base rs w) (hb : Below w.heap.size w w') : RowsOk base rs w' := ⟨fun r hr => (h.1 r hr).below hb, h.2⟩
theorem RowsOk.own {base : Nat} {rs : List (Value × List Int)} {w : World} (h : RowsOk base rs w) {v : Value} {M : List Int} (hm : (v, M) ∈ rs) : Own 3 .i64 base v M w := h.1 _ hm
theorem RowsOk.rowAt {base : Nat} {rs : List (Value × List Int)} {w : World} (h : RowsOk base rs w) {a : Option Addr} {n cap : Nat} {M : List Int} (hm : (.slice a n cap, M) ∈ rs) : n = M.length ∧ RowAt .i64 w a cap M := (h.own hm).rowAt
theorem RowsOk.nil (base : Nat) (w : World) : RowsOk base [] w := ⟨by simp, by simp⟩
/-- A new row, in a block that is made. -/
theorem RowsOk.lit {base : Nat} {rs : List (Value × List Int)} {w : World} (h : RowsOk base rs w) (hb : base ≤ w.heap.size) (xs : List Int) (n : Nat) (hn : xs.length = n) (hm : n ≤ 1000) (cs : Array Value) (hc : cs = (valsR .i64 xs).toArray) :
    RowsOk base ((.slice (some ⟨w.heap.size, 0, none⟩) n n, xs) :: rs) (w.alloc (.cells cs 3)) := by
  subst hn
  subst hc
  have h2 := h.below (below_alloc w (.cells (valsR .i64 xs).toArray 3))
  have ho : Own 3 .i64 base (.slice (some ⟨w.heap.size, 0, none⟩) xs.length xs.length) xs (w.alloc (.cells (valsR .i64 xs).toArray 3)) :=
    World.ownsRow_lit w (valsR .i64 xs).toArray xs.length hb (by unfold maxLen; omega) (by simp [valsR])
  refine ⟨fun r hr => ?_, ?_⟩
  · rcases List.mem_cons.1 hr with q | q
    · rw [q]; exact ho
    · exact h2.1 r q
  · rw [List.pairwise_cons]
    refine ⟨fun r hr k hk hr2 => ?_, h.2⟩
    simp only [Value.ownBlock, Option.some.injEq] at hk
    subst hk
    have := (World.ownsRow.lt (h.1 r hr) _ hr2).2
    omega
theorem RowsOk.swap {base : Nat} {r q : Value × List Int} {rs : List (Value × List Int)} {w : World} (h : RowsOk base (r :: q :: rs) w) : RowsOk base (q :: r :: rs) w := by
  refine ⟨fun x hx => h.1 x (by simp only [List.mem_cons] at hx ⊢; rcases hx with a | a | a <;> simp [a]), ?_⟩
  have h2 := h.2
  simp only [List.pairwise_cons, List.mem_cons] at h2 ⊢
  refine ⟨fun x hx => ?_, fun x hx => h2.1 x (.inr hx), h2.2.2⟩
  rcases hx with e | e
  · rw [e]; exact (h2.1 q (.inl rfl)).symm
  · exact h2.2.1 x e
theorem RowsOk.perm {base : Nat} {rs qs : List (Value × List Int)} {w : World} (h : RowsOk base rs w) (hp : rs.Perm qs) : RowsOk base qs w :=
  ⟨fun r hr => h.1 r (hp.mem_iff.2 hr), hp.pairwise h.2 (fun h => h.symm)⟩
theorem RowsOk.push {pre post : List (Value × List Int)} {base : Nat} {v v' : Value} {M : List Int} {x : Int} {w w' : World} (h : RowsOk base (pre ++ (v, M) :: post) w) (hA : Appd 3 .i64 base v v' M x w w') : RowsOk base (pre ++ (v', M ++ [x]) :: post) w' := by
  have hp : (pre ++ (v, M) :: post).Perm ((v, M) :: (pre ++ post)) := List.perm_middle
  have h1 := h.perm hp
  have hq : ((v', M ++ [x]) :: (pre ++ post)).Perm (pre ++ (v', M ++ [x]) :: post) := List.perm_middle.symm
  refine RowsOk.perm ?_ hq
  have h2 := h1.2
  rw [List.pairwise_cons] at h2
  have hr : ∀ r, r ∈ pre ++ post → Own 3 .i64 base r.1 r.2 w' ∧ Apart v' r.1 := fun r hr => hA.rest _ _ _ _ _ (h1.1 r (List.mem_cons_of_mem _ hr)) (h2.1 r hr)
  refine ⟨fun r hr2 => ?_, List.pairwise_cons.2 ⟨fun r hr2 => (hr r hr2).2, h2.2⟩⟩
  rcases List.mem_cons.1 hr2 with q | q
  · rw [q]; exact hA.own
  · exact (hr r q).1
theorem wpList_push {ops : Array Oper} {rest : List Oper} {o : Oper} {a : Act} {Q : Exit → Act → World → Prop} (hgd : o.guard = none) (s xo : Operand)
    (ho : o.op = .call { callee := .builtin .append, args := #[s, xo], argTypes := #[94, 94] })
    (base : Nat) (pre post : List (Value × List Int)) (v : Value) (M : List Int) (x : Int) (wr : World) (hrows : RowsOk base (pre ++ (v, M) :: post) wr)
    (hs : a.eval s = v) (hx : a.eval xo = .slice (some ⟨wr.heap.size, 0, none⟩) 1 1) (n : Nat) (hn : M.length = n) (hM : n < 100000) (hbase : base ≤ wr.heap.size)
    (h : ∀ g cap w', RowsOk base (pre ++ (.slice (some ⟨g, 0, none⟩) (n + 1) cap, M ++ [x]) :: post) w' → Below base wr w' → wpList Tryz.prog ops Q rest (a.put o.dst (.slice (some ⟨g, 0, none⟩) (n + 1) cap)) w') : wpList Tryz.prog ops Q (o :: rest) a (wr.alloc (.cells #[.int .i64 x] 3)) := by
  have h2 := hrows.below (below_alloc wr (.cells #[.int .i64 x] 3))
  refine wpList_app hgd s xo 94 3 .i64 8 Tryz.underlying94 infoI (by decide) ho base v M x _ hs (h2.own (by simp)) wr.heap.size 1 hx (heap_alloc_new wr _) (by omega) (by simp; omega) ?_
  intro v' w' hA
  obtain ⟨g, cap, e⟩ := hA.form
  rw [hn] at e
  subst e
  exact h g cap w' (h2.push hA) (((Below.refl _ _).alloc hbase _).trans hA.low)

end Go.Proofs.YtgeonppckeiceaaGreatDoor.Ms
