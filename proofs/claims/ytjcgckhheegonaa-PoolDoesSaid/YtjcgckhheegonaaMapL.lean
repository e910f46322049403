/- A map in a block, by the list of the things that it holds, each at its key: looked up, put, deleted, copied, ranged over. -/
import Derived.Test.YtjcgckhheegonaaRowB
import Derived.MapKept
import Derived.Maps.OwnSet
import Derived.Maps.OwnOps
import Derived.Maps.RangeWalk
import Derived.Laws.Externs
namespace Go.Proofs.Ytjcgckhheegonaa
open Go.RowKit
set_option linter.unusedVariables false
set_option linter.unusedSimpArgs false
set_option maxRecDepth 20000

theorem key_idx {l : List MapEntry} (hn : (l.map (·.key)).Nodup) {i j : Nat} {x y : MapEntry} (hx : l[i]? = some x) (hy : l[j]? = some y) (e : x.key = y.key) : i = j := by
  have hi : i < l.length := (List.getElem?_eq_some_iff.1 hx).1
  refine (List.getElem?_inj (l := l.map (·.key)) (i := i) (j := j) (by simpa using hi) hn).1 ?_
  simp [hx, hy, e]
theorem filter_one {α : Type} {p : α → Bool} : ∀ {l : List α} {j : Nat} {e : α}, l[j]? = some e → p e = false → (∀ i x, l[i]? = some x → i ≠ j → p x = true) → l.filter p = l.eraseIdx j
  | [], j, e, h, _, _ => by simp at h
  | a :: r, 0, e, h, he, ho => by
    simp at h
    subst h
    rw [List.filter_cons, he]
    simp only [Bool.false_eq_true, if_false, List.eraseIdx_zero, List.tail_cons]
    refine List.filter_eq_self.2 fun x hx => ?_
    obtain ⟨i, hi⟩ := List.mem_iff_getElem?.1 hx
    exact ho (i + 1) x (by simpa using hi) (by omega)
  | a :: r, j + 1, e, h, he, ho => by
    rw [List.filter_cons, ho 0 a rfl (by omega)]
    simp only [if_true, List.eraseIdx_cons_succ]
    rw [filter_one (l := r) (j := j) (e := e) (by simpa using h) he (fun i x hi hne => ho (i + 1) x (by simpa using hi) (by omega))]
section
variable {β : Type} {q : IntKind} {key : β → Int} {enc : β → Value}
def pr (x : MapEntry) : Value × Value := (x.key, x.val)
def en (q : IntKind) (key : β → Int) (enc : β → Value) (y : β) : Value × Value := (.int q (key y), enc y)
/-- What entries say: the things of a list, in whatever order. -/
def KVs (q : IntKind) (key : β → Int) (enc : β → Value) (es : List MapEntry) (l : List β) : Prop := (es.map pr).Perm (l.map (en q key enc))
def MapL (q : IntKind) (key : β → Int) (enc : β → Value) (w : World) (m : Nat) (l : List β) : Prop := ∃ es clock, w.heap[m]? = some (.map es clock) ∧ MapKept.Stamped es clock ∧ KVs q key enc es.toList l
variable {es : List MapEntry} {l : List β}
theorem KVs.mem (h : KVs q key enc es l) {x : MapEntry} (hx : x ∈ es) : ∃ y, y ∈ l ∧ x.key = .int q (key y) ∧ x.val = enc y := by
  have : pr x ∈ l.map (en q key enc) := h.mem_iff.1 (List.mem_map.2 ⟨x, hx, rfl⟩)
  obtain ⟨y, hy, e⟩ := List.mem_map.1 this
  simp only [en, pr, Prod.mk.injEq] at e
  exact ⟨y, hy, e.1.symm, e.2.symm⟩
theorem KVs.of (h : KVs q key enc es l) {y : β} (hy : y ∈ l) : ∃ x, x ∈ es ∧ x.key = .int q (key y) ∧ x.val = enc y := by
  have : en q key enc y ∈ es.map pr := h.mem_iff.2 (List.mem_map.2 ⟨y, hy, rfl⟩)
  obtain ⟨x, hx, e⟩ := List.mem_map.1 this
  simp only [en, pr, Prod.mk.injEq] at e
  exact ⟨x, hx, e.1, e.2⟩
theorem KVs.size (h : KVs q key enc es l) : es.length = l.length := by
  have := h.length_eq
  simpa using this
theorem KVs.once (h : KVs q key enc es l) (hn : (es.map (·.key)).Nodup) : (l.map key).Nodup := by
  have h1 : (es.map (·.key)).Perm (l.map fun y => Value.int q (key y)) := by
    have := h.map Prod.fst
    rw [List.map_map, List.map_map] at this
    exact this
  have h2 := h1.nodup_iff.1 hn
  rw [show (l.map fun y => Value.int q (key y)) = (l.map key).map (Value.int q) by rw [List.map_map]; rfl] at h2
  unfold List.Nodup at h2 ⊢
  rw [List.pairwise_map] at h2
  exact h2.imp (fun hne e => hne (by rw [e]))
theorem KVs.keys (h : KVs q key enc es l) : ∀ x ∈ es, MapKept.IsKey (.int q) x.key := fun x hx => by
  obtain ⟨y, _, h1, _⟩ := h.mem hx
  rw [h1]
  exact rfl
theorem KVs.find (h : KVs q key enc es l) (k : Int) :
    ((∀ y, y ∈ l → key y ≠ k) ∧ Instr.findNow (.int q) (.int q k) es 0 = some none ∧ ∀ x ∈ es, x.key ≠ .int q k) ∨
    ∃ j e y, y ∈ l ∧ key y = k ∧ es[j]? = some e ∧ e.key = .int q k ∧ e.val = enc y ∧ Instr.findNow (.int q) (.int q k) es 0 = some (some (j, enc y)) := by
  rcases MapKept.findNow_spec (d := .int q) (k := .int q k) rfl es 0 h.keys with ⟨h1, h2⟩ | ⟨j, e, h1, h2, h3⟩
  · exact .inl ⟨fun y hy q => by obtain ⟨x, hx, a, _⟩ := h.of hy; exact h2 x hx (by rw [a, q]), h1, h2⟩
  · obtain ⟨y, hy, q1, q2⟩ := h.mem (List.mem_of_getElem? h2)
    rw [h3] at q1
    injection q1 with _ q1
    exact .inr ⟨j, e, y, hy, q1.symm, h2, h3, q2, by rw [h1, q2, Nat.zero_add]⟩
theorem KVs.push (h : KVs q key enc es l) (z : β) (c : Nat) : KVs q key enc (es ++ [{ key := .int q (key z), val := enc z, born := c }]) (l ++ [z]) := by
  unfold KVs at h ⊢
  rw [List.map_append, List.map_append]
  exact h.append (List.Perm.refl _)
def notKey (q : IntKind) (k : Int) : Value × Value → Bool := fun p => match p.1 with | .int _ a => !(a == k) | _ => true
theorem KVs.filter (h : KVs q key enc es l) (k : Int) : KVs q key enc (es.filter (fun x => notKey q k (pr x))) (l.filter (fun y => !(key y == k))) := by
  unfold KVs at h ⊢
  have := List.Perm.filter (notKey q k) h
  rw [List.filter_map, List.filter_map] at this
  exact this
theorem KVs.erase (h : KVs q key enc es l) (hn : (es.map (·.key)).Nodup) {j : Nat} {e : MapEntry} (hj : es[j]? = some e) {k : Int} (hk : e.key = .int q k) : KVs q key enc (es.eraseIdx j) (l.filter (fun y => !(key y == k))) := by
  have := h.filter k
  rw [filter_one (j := j) (e := e) hj (by simp [notKey, pr, hk]) (fun i x hi hne => ?_)] at this
  · exact this
  · obtain ⟨y, hy, a, _⟩ := h.mem (List.mem_of_getElem? hi)
    simp only [notKey, pr, a]
    have : key y ≠ k := fun e1 => hne (key_idx hn hi hj (by rw [a, hk, e1]))
    simpa using this
theorem KVs.keep (h : KVs q key enc es l) {k : Int} (hk : ∀ x ∈ es, x.key ≠ .int q k) : l.filter (fun y => !(key y == k)) = l := List.filter_eq_self.2 fun y hy => by
  obtain ⟨x, hx, a, _⟩ := h.of hy
  have : key y ≠ k := fun e => hk x hx (by rw [a, e])
  simpa using this
theorem modify_map {l : List MapEntry} (f : MapEntry → MapEntry) (j : Nat) (g : Value × Value → Value × Value) (hg : ∀ i x, l[i]? = some x → g (pr x) = if i = j then pr (f x) else pr x) : (l.modify j f).map pr = (l.map pr).map g := by
  apply List.ext_getElem?
  intro i
  rw [List.getElem?_map, List.getElem?_modify, List.getElem?_map, List.getElem?_map]
  cases hx : l[i]? with
  | none => simp
  | some x =>
    have := hg i x hx
    by_cases e : j = i
    · subst e
      simp [this]
    · have e2 : ¬ i = j := fun q => e q.symm
      simp [this, e, e2]
theorem KVs.set (h : KVs q key enc es l) (hn : (es.map (·.key)).Nodup) {j : Nat} {e : MapEntry} (hj : es[j]? = some e) (z : β) (hk : e.key = .int q (key z)) (f : MapEntry → MapEntry) (hf : pr (f e) = en q key enc z) : KVs q key enc (es.modify j f) (l.map (fun y => if key y == key z then z else y)) := by
  unfold KVs at h ⊢
  have h1 := h.map (fun p => if notKey q (key z) p then p else en q key enc z)
  rw [modify_map f j (fun p => if notKey q (key z) p then p else en q key enc z)]
  · refine h1.trans (List.Perm.of_eq ?_)
    rw [List.map_map, List.map_map]
    apply List.map_congr_left
    intro y hy
    simp only [Function.comp, en, notKey]
    by_cases e1 : key y = key z <;> simp [e1]
  · intro i x hx
    obtain ⟨y, hy, a, _⟩ := KVs.mem h (List.mem_of_getElem? hx)
    by_cases e1 : i = j
    · subst e1
      rw [hj] at hx
      obtain rfl := Option.some.inj hx
      simp [notKey, pr, hk] at hf ⊢
      exact hf.symm
    · rw [if_neg e1, if_pos]
      simp only [notKey, pr, a]
      have : key y ≠ key z := fun q => e1 (key_idx hn hx hj (by rw [a, hk, q]))
      simpa using this
/-! ### The block -/
theorem MapL.congr {γ : Type} {key' : γ → Int} {enc' : γ → Value} {w : World} {m : Nat} {l' : List γ} (h : MapL q key enc w m l) (e : l.map (en q key enc) = l'.map (en q key' enc')) : MapL q key' enc' w m l' := by
  obtain ⟨es, c, h1, h2, h3⟩ := h
  exact ⟨es, c, h1, h2, by unfold KVs at h3 ⊢; rw [← e]; exact h3⟩
theorem MapL.perm {w : World} {m : Nat} {l' : List β} (h : MapL q key enc w m l) (e : l.Perm l') : MapL q key enc w m l' := by
  obtain ⟨es, c, h1, h2, h3⟩ := h
  exact ⟨es, c, h1, h2, h3.trans (e.map _)⟩
variable {w w' : World} {m : Nat}
theorem MapL.chg {S : Nat → Prop} (h : MapL q key enc w m l) (hc : Chg S w w') (hn : ¬ S m) : MapL q key enc w' m l := by
  obtain ⟨es, c, h1, h2⟩ := h
  exact ⟨es, c, hc.blk h1 hn, h2⟩
theorem MapL.below (h : MapL q key enc w m l) (hb : Below w.heap.size w w') : MapL q key enc w' m l := h.chg (Chg.of_below (S := fun _ => False) hb) (fun q => q)
theorem MapL.lt (h : MapL q key enc w m l) : m < w.heap.size := by
  obtain ⟨es, c, h1, _⟩ := h
  exact blk_lt h1
theorem MapL.once (h : MapL q key enc w m l) : (l.map key).Nodup := by
  obtain ⟨es, c, _, h2, h3⟩ := h
  exact h3.once h2.2.2
theorem MapL.made (w : World) : MapL q key enc (w.alloc (.map #[] 0)) w.heap.size [] :=
  ⟨#[], 0, (MapKept.heap_alloc w _).1, MapKept.stamped_empty 0, List.Perm.refl _⟩
theorem MapL.kind (h : MapL q key enc w m l) {cs : Array Value} {t : TypeId} {fr : Nat × Nat} (hb : w.heap[m]? = some (.cells cs t fr)) : False := by
  obtain ⟨es, c, h1, _⟩ := h
  rw [h1] at hb; cases hb
theorem put_chg {o o' : Obj} (h : w.heap[m]? = some o) : Chg (fun k => k = m) w { w with heap := w.heap.setIfInBounds m o' } ∧ ({ w with heap := w.heap.setIfInBounds m o' } : World).heap[m]? = some o' := by
  have := blk_lt h
  refine ⟨⟨rfl, rfl, rfl, by simp, fun k hk hs => ?_⟩, ?_⟩
  · show (w.heap.setIfInBounds m o')[k]? = w.heap[k]?
    rw [Array.getElem?_setIfInBounds_ne (fun e => hs e.symm)]
  · show (w.heap.setIfInBounds m o')[m]? = some o'
    simp [this]
/-! ### What the operations do -/
variable {P : Program} {mt kt et : TypeId}
theorem chk_any (hkt : P.underlying kt = some (.int q)) (k : Int) (w : World) : ∀ e, (Instr.checkKey e 10000 kt (.int q k)).run P w = .ok () w := fun e => MapKept.run_checkKey (n := 9999) (d := .int q) hkt (by simp [MapKept.IsKey]) e
theorem MapL.look2 (h : MapL q key enc w m l) (hmt : P.underlying mt = some (.map kt et)) (hkt : P.underlying kt = some (.int q)) {z : Value} (hz : (zeroValue et).run P w = .ok z w) (k : Int) :
    ((∀ y, y ∈ l → key y ≠ k) ∧ (Instr.lookup mt (.map (some m)) (.int q k) true).run P w = .ok (.tuple #[z, .bool false]) w) ∨
    ∃ y, y ∈ l ∧ key y = k ∧ (Instr.lookup mt (.map (some m)) (.int q k) true).run P w = .ok (.tuple #[enc y, .bool true]) w := by
  obtain ⟨es, c, h1, h2, h3⟩ := h
  have chk := chk_any (q := q) hkt k w
  rcases h3.find k with ⟨a, b, _⟩ | ⟨j, e, y, a, b, _, _, _, d⟩
  · refine .inl ⟨a, ?_⟩
    unfold Instr.lookup
    simp only [Sem.run_bind, run_underlying hmt, Result.andThen, MapKept.run_getObj_map h1, Sem.run_pure, chk, MapKept.run_findKey hkt b, hz]
    rfl
  · refine .inr ⟨y, a, b, ?_⟩
    unfold Instr.lookup
    simp only [Sem.run_bind, run_underlying hmt, Result.andThen, MapKept.run_getObj_map h1, Sem.run_pure, chk, MapKept.run_findKey hkt d]
    rfl
theorem MapL.look1 (h : MapL q key enc w m l) (hmt : P.underlying mt = some (.map kt et)) (hkt : P.underlying kt = some (.int q)) {z : Value} (hz : (zeroValue et).run P w = .ok z w) (k : Int) :
    ((∀ y, y ∈ l → key y ≠ k) ∧ (Instr.lookup mt (.map (some m)) (.int q k) false).run P w = .ok z w) ∨
    ∃ y, y ∈ l ∧ key y = k ∧ (Instr.lookup mt (.map (some m)) (.int q k) false).run P w = .ok (enc y) w := by
  obtain ⟨es, c, h1, h2, h3⟩ := h
  have chk := chk_any (q := q) hkt k w
  rcases h3.find k with ⟨a, b, _⟩ | ⟨j, e, y, a, b, _, _, _, d⟩
  · refine .inl ⟨a, ?_⟩
    unfold Instr.lookup
    simp only [Sem.run_bind, run_underlying hmt, Result.andThen, MapKept.run_getObj_map h1, Sem.run_pure, chk, MapKept.run_findKey hkt b, hz]
    rfl
  · refine .inr ⟨y, a, b, ?_⟩
    unfold Instr.lookup
    simp only [Sem.run_bind, run_underlying hmt, Result.andThen, MapKept.run_getObj_map h1, Sem.run_pure, chk, MapKept.run_findKey hkt d]
    rfl
theorem uniq (hn : (l.map key).Nodup) {x y : β} (hx : x ∈ l) (hy : y ∈ l) (e : key x = key y) : x = y := by
  obtain ⟨i, hi, ei⟩ := List.mem_iff_getElem.1 hx
  obtain ⟨j, hj, ej⟩ := List.mem_iff_getElem.1 hy
  have hij := (List.getElem?_inj (l := l.map key) (i := i) (j := j) (by simpa using hi) hn).1 (by simp [hi, hj, ei, ej, e])
  subst hij
  rw [← ei, ← ej]
/-- m[k] = v, a key that is not there. -/
theorem MapL.put_new (h : MapL q key enc w m l) (hmt : P.underlying mt = some (.map kt et)) (hkt : P.underlying kt = some (.int q)) (z : β) (hn : ∀ y, y ∈ l → key y ≠ key z) :
    ∃ w', (Instr.mapUpdate mt (.map (some m)) (.int q (key z)) (enc z)).run P w = .ok () w' ∧ MapL q key enc w' m (l ++ [z]) ∧ Chg (fun j => j = m) w w' := by
  obtain ⟨es, c, h1, h2, h3⟩ := h
  have chk := chk_any (q := q) hkt (key z) w
  rcases h3.find (key z) with ⟨a, b, d⟩ | ⟨j, e, y, a, b, _⟩
  · refine ⟨_, ?_, ⟨_, _, (put_chg h1).2, MapKept.stamped_push h2 d, by rw [Array.toList_push]; exact h3.push z _⟩, (put_chg h1).1⟩
    unfold Instr.mapUpdate
    simp only [Sem.run_bind, run_underlying hmt, Result.andThen, MapKept.run_getObj_map h1, chk, MapKept.run_findKey hkt b, MapKept.run_setObj_map _ h1]
  · exact absurd b (hn y a)
/-- m[k] = v, a key that is there. -/
theorem MapL.put_old (h : MapL q key enc w m l) (hmt : P.underlying mt = some (.map kt et)) (hkt : P.underlying kt = some (.int q)) (z : β) (hn : ∃ y, y ∈ l ∧ key y = key z) :
    ∃ w', (Instr.mapUpdate mt (.map (some m)) (.int q (key z)) (enc z)).run P w = .ok () w' ∧ MapL q key enc w' m (l.map (fun y => if key y == key z then z else y)) ∧ Chg (fun j => j = m) w w' := by
  obtain ⟨es, c, h1, h2, h3⟩ := h
  have chk := chk_any (q := q) hkt (key z) w
  rcases h3.find (key z) with ⟨a, b, d⟩ | ⟨j, e, y, a, b, hj, hk, hv, d⟩
  · obtain ⟨y, hy, e⟩ := hn
    exact absurd e (a y hy)
  · have hj2 : es[j]? = some e := by simpa using hj
    have hstay : (Instr.keyThatStays (.int q (key z)) (.int q (key z))).run P w = .ok (.int q (key z)) w := MapKept.run_keyThatStays (d := .int q) (by simp [MapKept.IsKey])
    refine ⟨_, ?_, ⟨_, _, (put_chg h1).2, MapKept.stamped_modify h2 j (fun x => { x with key := .int q (key z), val := enc z }) (fun _ _ => rfl) (fun x _ hx => by rw [hj2] at hx; cases hx; exact hk.symm), ?_⟩, (put_chg h1).1⟩
    · simp [Instr.mapUpdate, run_underlying hmt, MapKept.run_getObj_map h1, chk, MapKept.run_findKey hkt d, hj2, hk, hstay, MapKept.run_setObj_map _ h1, Result.andThen]
    · rw [Array.toList_modify]
      exact h3.set h2.2.2 hj z hk (fun x => { x with key := .int q (key z), val := enc z }) rfl
theorem MapL.del (h : MapL q key enc w m l) (hmt : P.underlying mt = some (.map kt et)) (hkt : P.underlying kt = some (.int q)) (k : Int) (ty : TypeId) :
    ∃ w', (Builtin.delete_ #[mt, kt] ty #[.map (some m), .int q k]).run P w = .ok (.tuple #[]) w' ∧ MapL q key enc w' m (l.filter (fun y => !(key y == k))) ∧ Chg (fun j => j = m) w w' := by
  obtain ⟨es, c, h1, h2, h3⟩ := h
  have chk := chk_any (q := q) hkt k w
  rcases h3.find k with ⟨a, b, d⟩ | ⟨j, e, v, a, _, hj, hk, _, d⟩
  · refine ⟨_, ?_, ⟨es, c, (put_chg h1).2, h2, ?_⟩, (put_chg h1).1⟩
    · simp [Builtin.delete_, run_underlying hmt, Result.andThen, MapKept.run_getObj_map h1, chk, MapKept.run_findKey hkt b, MapKept.run_setObj_map _ h1]
    · rw [h3.keep d]; exact h3
  · have hjs : j < es.size := by have := (List.getElem?_eq_some_iff.1 hj).1; simpa using this
    refine ⟨_, ?_, ⟨_, _, (put_chg h1).2, MapKept.stamped_erase h2 j, ?_⟩, (put_chg h1).1⟩
    · simp [Builtin.delete_, run_underlying hmt, Result.andThen, MapKept.run_getObj_map h1, chk, MapKept.run_findKey hkt d, MapKept.run_setObj_map _ h1]
    · unfold Array.eraseIdxIfInBounds
      rw [dif_pos hjs, Array.toList_eraseIdx]
      exact h3.erase h2.2.2 hj hk
/-- A range over the map under way: 'left' is still to come. -/
def Rng (q : IntKind) (key : β → Int) (enc : β → Value) (w : World) (b r : Nat) (l left : List β) : Prop :=
  ∃ es clock since seen c0, w.heap[b]? = some (.map es clock) ∧ MapKept.Stamped es clock ∧ KVs q key enc es.toList l ∧ w.heap[r]? = some (.mapIter (some b) since seen c0) ∧ (∀ x ∈ es.toList, x.born < since) ∧ KVs q key enc (leftOf es seen).toList left ∧ since ≤ c0 ∧ since ≤ clock
variable {b r : Nat} {left : List β}
theorem Rng.map (h : Rng q key enc w b r l left) : MapL q key enc w b l := by
  obtain ⟨es, c, _, _, _, h1, h2, h3, _⟩ := h
  exact ⟨es, c, h1, h2, h3⟩
theorem Rng.lt (h : Rng q key enc w b r l left) : r < w.heap.size := by
  obtain ⟨es, c, _, _, _, h1, h2, h3, h4, _⟩ := h
  exact blk_lt h4
theorem Rng.ne (h : Rng q key enc w b r l left) : r ≠ b := by
  obtain ⟨es, c, _, _, _, h1, h2, h3, h4, _⟩ := h
  intro e
  rw [e, h1] at h4; cases h4
theorem Rng.chg {S : Nat → Prop} (h : Rng q key enc w b r l left) (hc : Chg S w w') (hb : ¬ S b) (hr : ¬ S r) : Rng q key enc w' b r l left := by
  obtain ⟨es, c, s, n, c0, h1, h2, h3, h4, h5⟩ := h
  exact ⟨es, c, s, n, c0, hc.blk h1 hb, h2, h3, hc.blk h4 hr, h5⟩
theorem Rng.below (h : Rng q key enc w b r l left) (hb : Below w.heap.size w w') : Rng q key enc w' b r l left := h.chg (Chg.of_below (S := fun _ => False) hb) (fun q => q) (fun q => q)
theorem MapL.range (h : MapL q key enc w m l) (hmt : P.underlying mt = some (.map kt et)) :
    ∃ w', (Instr.range mt (.map (some m))).run P w = .ok (.pointer (some ⟨w.heap.size, 0, none⟩)) w' ∧ Rng q key enc w' m w.heap.size l l ∧ Below w.heap.size w w' ∧ w'.heap.size = w.heap.size + 1 := by
  have hlt := h.lt
  obtain ⟨es, c, h1, h2, h3⟩ := h
  refine ⟨_, run_range_map w mt kt et m es c hmt h1, ⟨es, c, c, #[], c, ((MapKept.heap_alloc w _).2 m hlt).trans h1, h2, h3, (MapKept.heap_alloc w _).1, h2.1, ?_, Nat.le_refl _, Nat.le_refl _⟩, below_alloc w _, by simp⟩
  have : leftOf es #[] = es := by simp [leftOf]
  rw [this]
  exact h3
theorem Rng.next (h : Rng q key enc w b r l left) (ty : TypeId) :
    (left = [] ∧ (Instr.next (.pointer (some ⟨r, 0, none⟩)) false ty).run P w = .ok (.tuple #[.bool false]) w) ∨
    ∃ y left' w', left.Perm (y :: left') ∧ (Instr.next (.pointer (some ⟨r, 0, none⟩)) false ty).run P w = .ok (.tuple #[.bool true, .int q (key y), enc y]) w' ∧ Rng q key enc w' b r l left' ∧
      Chg (fun k => k = r) w w' ∧ w'.heap.size = w.heap.size ∧ (Instr.entry (.pointer (some ⟨r, 0, none⟩))).run P w' = .ok (.tuple #[.int q (key y), enc y]) w' := by
  have hne := h.ne
  obtain ⟨es, clock, since, seen, c0, hb, h2, h3, hr, hold, h4, hsc, hsk⟩ := h
  rcases run_next_at (P := P) w ty r b since c0 seen es clock hr hb hold hsc with ⟨h0, hrun⟩ | ⟨e, he, w1, hal, hrun⟩
  · refine .inl ⟨?_, hrun⟩
    have := h4.size
    rw [Array.length_toList, h0] at this
    exact List.eq_nil_of_length_eq_zero this.symm
  · obtain ⟨hem, hes⟩ := mem_left he
    obtain ⟨y, hy, k1, k2⟩ := h4.mem he
    obtain ⟨a, c, hac⟩ := List.append_of_mem hy
    have hperm : left.Perm (y :: (a ++ c)) := by rw [hac]; exact List.perm_middle
    have hr1 : w1.heap[r]? = some (.mapIter (some b) since seen c0) := by rcases hal with rfl | rfl <;> exact hr
    have hb1 : w1.heap[b]? = some (.map es clock) := by rcases hal with rfl | rfl <;> exact hb
    have hset := MapKept.heap_set (o' := .mapIter (some b) since (seen.push e.born) clock) hr1
    have hb' : (ChangeMaps.setBlock w1 r (.mapIter (some b) since (seen.push e.born) clock)).heap[b]? = some (.map es clock) := (hset.2 b (fun e1 => hne e1.symm)).trans hb1
    rw [k1, k2] at hrun
    refine .inr ⟨y, a ++ c, _, hperm, hrun, ⟨es, clock, since, seen.push e.born, clock, hb', h2, h3, hset.1, hold, ?_, hsk, hsk⟩, ?_, ?_, ?_⟩
    · -- what is left
      have hnd : ((leftOf es seen).toList.map (·.born)).Nodup := by
        unfold leftOf
        rw [Array.toList_filter]
        exact List.Nodup.sublist (List.filter_sublist.map _) h2.2.1
      obtain ⟨j, hj⟩ := List.mem_iff_getElem?.1 he
      have e1 : (leftOf es (seen.push e.born)).toList = (leftOf es seen).toList.filter (fun x => !(x.born == e.born)) := by
        unfold leftOf
        rw [Array.toList_filter, Array.toList_filter, List.filter_filter]
        apply List.filter_congr
        intro x _
        rw [contains_push]
        cases seen.contains x.born <;> cases (x.born == e.born) <;> rfl
      have e2 : (leftOf es (seen.push e.born)).toList = (leftOf es seen).toList.eraseIdx j := by
        rw [e1]
        refine filter_one hj (by simp) (fun i x hi hne => ?_)
        have : x.born ≠ e.born := fun q => hne ((List.getElem?_inj (l := (leftOf es seen).toList.map (·.born)) (i := i) (j := j) (by simpa using (List.getElem?_eq_some_iff.1 hi).1) hnd).1 (by simp [hi, hj, q]))
        simpa using this
      rw [e2]
      have hjl : j < (leftOf es seen).toList.length := (List.getElem?_eq_some_iff.1 hj).1
      have e3 : (leftOf es seen).toList.Perm (e :: (leftOf es seen).toList.eraseIdx j) := by
        have e4 : (leftOf es seen).toList = (leftOf es seen).toList.take j ++ e :: (leftOf es seen).toList.drop (j + 1) := by
          rw [List.getElem?_eq_getElem hjl] at hj
          rw [← Option.some.inj hj, List.getElem_cons_drop, List.take_append_drop]
        rw [List.eraseIdx_eq_take_drop_succ]
        exact (List.Perm.of_eq e4).trans List.perm_middle
      have e5 : (pr e :: ((leftOf es seen).toList.eraseIdx j).map pr).Perm (en q key enc y :: (a ++ c).map (en q key enc)) := ((e3.map pr).symm.trans h4).trans (hperm.map _)
      have e6 : pr e = en q key enc y := by unfold pr en; rw [k1, k2]
      rw [e6] at e5
      exact List.Perm.cons_inv e5
    · rcases hal with rfl | rfl <;> exact ⟨rfl, rfl, rfl, by simp [ChangeMaps.setBlock], fun i _ hi => hset.2 i (fun e1 => hi e1)⟩
    · rcases hal with rfl | rfl <;> simp [ChangeMaps.setBlock]
    · rw [← k1, ← k2]
      exact run_entry_at _ r b since seen es clock e hset.1 hb' hem ((MapKept.stamped_iff es clock).1 h2).2.1
/-- A key deleted in the round. -/
theorem Rng.del (h : Rng q key enc w b r l left) (hmt : P.underlying mt = some (.map kt et)) (hkt : P.underlying kt = some (.int q)) (k : Int) (ty : TypeId) :
    ∃ w', (Builtin.delete_ #[mt, kt] ty #[.map (some b), .int q k]).run P w = .ok (.tuple #[]) w' ∧ Rng q key enc w' b r (l.filter (fun y => !(key y == k))) (left.filter (fun y => !(key y == k))) ∧ Chg (fun j => j = b) w w' := by
  have hne := h.ne
  obtain ⟨es, c, since, seen, c0, h1, h2, h3, hr, hold, h4, hsc, hsk⟩ := h
  have chk := chk_any (q := q) hkt k w
  have hr' : ∀ o', ({ w with heap := w.heap.setIfInBounds b o' } : World).heap[r]? = some (.mapIter (some b) since seen c0) := fun o' => (put_chg h1).1.blk hr (fun e => hne e)
  rcases h3.find k with ⟨a, b1, d⟩ | ⟨j, e, v, a, _, hj, hk, _, d⟩
  · refine ⟨_, ?_, ⟨es, c, since, seen, c0, (put_chg h1).2, h2, ?_, hr' _, hold, ?_, hsc, hsk⟩, (put_chg h1).1⟩
    · simp [Builtin.delete_, run_underlying hmt, Result.andThen, MapKept.run_getObj_map h1, chk, MapKept.run_findKey hkt b1, MapKept.run_setObj_map _ h1]
    · rw [h3.keep d]; exact h3
    · rw [h4.keep (fun x hx => d x (mem_left hx).1)]; exact h4
  · have hjs : j < es.size := by have := (List.getElem?_eq_some_iff.1 hj).1; simpa using this
    have e1 : (es.eraseIdxIfInBounds j).toList = es.toList.eraseIdx j := by
      unfold Array.eraseIdxIfInBounds
      rw [dif_pos hjs, Array.toList_eraseIdx]
    have e2 : es.toList.eraseIdx j = es.toList.filter (fun x => notKey q k (pr x)) := by
      rw [filter_one (j := j) (e := e) hj (by simp [notKey, pr, hk]) (fun i x hi hne => ?_)]
      obtain ⟨y, hy, a, _⟩ := h3.mem (List.mem_of_getElem? hi)
      simp only [notKey, pr, a]
      have : key y ≠ k := fun e1 => hne (key_idx h2.2.2 hi hj (by rw [a, hk, e1]))
      simpa using this
    refine ⟨_, ?_, ⟨_, _, since, seen, c0, (put_chg h1).2, MapKept.stamped_erase h2 j, ?_, hr' _, fun x hx => ?_, ?_, hsc, hsk⟩, (put_chg h1).1⟩
    · simp [Builtin.delete_, run_underlying hmt, Result.andThen, MapKept.run_getObj_map h1, chk, MapKept.run_findKey hkt d, MapKept.run_setObj_map _ h1]
    · rw [e1]
      exact h3.erase h2.2.2 hj hk
    · rw [e1] at hx
      exact hold x ((List.eraseIdx_sublist _ _).subset hx)
    · have e3 : (leftOf (es.eraseIdxIfInBounds j) seen).toList = (leftOf es seen).toList.filter (fun x => notKey q k (pr x)) := by
        unfold leftOf
        rw [Array.toList_filter, Array.toList_filter, e1, e2, List.filter_filter, List.filter_filter]
        apply List.filter_congr
        intro x _
        rw [Bool.and_comm]
      rw [e3]
      exact h4.filter k
theorem MapL.len (h : MapL q key enc w m l) (hmt : P.underlying mt = some (.map kt et)) (ty : TypeId) : (Builtin.len_ #[mt] ty #[.map (some m)]).run P w = .ok (.int .i64 l.length) w := by
  obtain ⟨es, c, h1, h2, h3⟩ := h
  have := h3.size
  rw [Array.length_toList] at this
  simp [Builtin.len_, run_underlying hmt, MapKept.run_getObj_map h1, goInt, Result.andThen, this]
end
/-! ### At the operation, for the walk -/
section
variable {β : Type} {q : IntKind} {key : β → Int} {enc : β → Value} {l left : List β} {P : Program} {w : World} {ops : Array Oper} {rest : List Oper} {o : Oper} {a : Act} {Q : Exit → Act → World → Prop} {m r : Nat}
theorem wpList_putN (hg : o.guard = none) (x y z : Operand) (t kt et : TypeId) (hop : o.op = Op.mapUpdate t x y z ∨ o.op = Op.insert t x y z) (hmt : P.underlying t = some (.map kt et)) (hkt : P.underlying kt = some (.int q)) (c : β) (k v : Value) (hk : k = .int q (key c)) (hv : v = enc c)
    (hx : a.eval x = .map (some m)) (hy : a.eval y = k) (hz : a.eval z = v) (h : MapL q key enc w m l) (hn : ∀ y, y ∈ l → key y ≠ key c)
    (hK : ∀ w', MapL q key enc w' m (l ++ [c]) → Chg (fun j => j = m) w w' → wpList P ops Q rest (a.put o.dst undef) w') : wpList P ops Q (o :: rest) a w := by
  subst hk hv
  refine wpList_plain hg fun K' hK' => ?_
  obtain ⟨w', hrun, h1, h2⟩ := h.put_new hmt hkt c hn
  unfold Oper.wp
  rcases hop with hop | hop <;> simp [execOp, hop, hx, hy, hz, hrun, Result.andThen] <;> exact hK' _ _ (hK w' h1 h2)
theorem wpList_putO (hg : o.guard = none) (x y z : Operand) (t kt et : TypeId) (hop : o.op = Op.mapUpdate t x y z) (hmt : P.underlying t = some (.map kt et)) (hkt : P.underlying kt = some (.int q)) (c : β) (k v : Value) (hk : k = .int q (key c)) (hv : v = enc c)
    (hx : a.eval x = .map (some m)) (hy : a.eval y = k) (hz : a.eval z = v) (h : MapL q key enc w m l) (hn : ∃ y, y ∈ l ∧ key y = key c)
    (hK : ∀ w', MapL q key enc w' m (l.map (fun y => if key y == key c then c else y)) → Chg (fun j => j = m) w w' → wpList P ops Q rest (a.put o.dst undef) w') : wpList P ops Q (o :: rest) a w := by
  subst hk hv
  refine wpList_plain hg fun K' hK' => ?_
  obtain ⟨w', hrun, h1, h2⟩ := h.put_old hmt hkt c hn
  unfold Oper.wp
  simp [execOp, hop, hx, hy, hz, hrun, Result.andThen]
  exact hK' _ _ (hK w' h1 h2)
theorem wpList_delL (hg : o.guard = none) (x y : Operand) (t kt et : TypeId) (hop : o.op = Op.call { callee := Callee.builtin Builtin.delete, args := #[x, y], argTypes := #[t, kt] }) (hmt : P.underlying t = some (.map kt et)) (hkt : P.underlying kt = some (.int q)) (k : Int)
    (hx : a.eval x = .map (some m)) (hy : a.eval y = .int q k) (h : MapL q key enc w m l)
    (hK : ∀ w', MapL q key enc w' m (l.filter (fun y => !(key y == k))) → Chg (fun j => j = m) w w' → wpList P ops Q rest (a.put o.dst (.tuple #[])) w') : wpList P ops Q (o :: rest) a w := by
  refine wpList_plain hg fun K' hK' => ?_
  obtain ⟨w', hrun, h1, h2⟩ := h.del hmt hkt k o.type
  unfold Oper.wp
  simp [execOp, hop, resolve, invoke, builtin, hx, hy, hrun, Result.andThen]
  exact hK' _ _ (hK w' h1 h2)
theorem wpList_delR (hg : o.guard = none) (x y : Operand) (t kt et : TypeId) (hop : o.op = Op.call { callee := Callee.builtin Builtin.delete, args := #[x, y], argTypes := #[t, kt] }) (hmt : P.underlying t = some (.map kt et)) (hkt : P.underlying kt = some (.int q)) (k : Int)
    (hx : a.eval x = .map (some m)) (hy : a.eval y = .int q k) (h : Rng q key enc w m r l left)
    (hK : ∀ w', Rng q key enc w' m r (l.filter (fun y => !(key y == k))) (left.filter (fun y => !(key y == k))) → Chg (fun j => j = m) w w' → wpList P ops Q rest (a.put o.dst (.tuple #[])) w') : wpList P ops Q (o :: rest) a w := by
  refine wpList_plain hg fun K' hK' => ?_
  obtain ⟨w', hrun, h1, h2⟩ := h.del hmt hkt k o.type
  unfold Oper.wp
  simp [execOp, hop, resolve, invoke, builtin, hx, hy, hrun, Result.andThen]
  exact hK' _ _ (hK w' h1 h2)
theorem wpList_lenL (hg : o.guard = none) (x : Operand) (t kt et : TypeId) (hop : o.op = Op.call { callee := Callee.builtin Builtin.len, args := #[x], argTypes := #[t] }) (hmt : P.underlying t = some (.map kt et)) (hx : a.eval x = .map (some m)) (h : MapL q key enc w m l)
    (hK : wpList P ops Q rest (a.put o.dst (.int .i64 l.length)) w) : wpList P ops Q (o :: rest) a w := by
  refine wpList_plain hg fun K' hK' => ?_
  unfold Oper.wp
  simp [execOp, hop, resolve, invoke, builtin, hx, h.len hmt o.type, Result.andThen]
  exact hK' _ _ hK
theorem wpList_rangeL (hg : o.guard = none) (x : Operand) (t kt et : TypeId) (hop : o.op = Op.range t x) (hmt : P.underlying t = some (.map kt et)) (hx : a.eval x = .map (some m)) (h : MapL q key enc w m l)
    (hK : ∀ w', Rng q key enc w' m w.heap.size l l → Below w.heap.size w w' → w'.heap.size = w.heap.size + 1 → wpList P ops Q rest (a.put o.dst (.pointer (some ⟨w.heap.size, 0, none⟩))) w') : wpList P ops Q (o :: rest) a w := by
  refine wpList_plain hg fun K' hK' => ?_
  obtain ⟨w', hrun, h1, h2, h3⟩ := h.range hmt
  unfold Oper.wp
  simp [execOp, hop, hx, hrun, Result.andThen]
  exact hK' _ _ (hK w' h1 h2 h3)
theorem wpList_nextL (hg : o.guard = none) (it : Operand) (hop : o.op = Op.next it false) (hit : a.eval it = .pointer (some ⟨r, 0, none⟩)) (h : Rng q key enc w m r l left)
    (hDone : left = [] → wpList P ops Q rest (a.put o.dst (.tuple #[.bool false])) w)
    (hMore : ∀ y left' w', left.Perm (y :: left') → Rng q key enc w' m r l left' → Chg (fun k => k = r) w w' → w'.heap.size = w.heap.size → (Instr.entry (.pointer (some ⟨r, 0, none⟩))).run P w' = .ok (.tuple #[.int q (key y), enc y]) w' → wpList P ops Q rest (a.put o.dst (.tuple #[.bool true, .int q (key y), enc y])) w') : wpList P ops Q (o :: rest) a w := by
  refine wpList_plain hg fun K' hK' => ?_
  unfold Oper.wp
  rcases h.next (P := P) o.type with ⟨h0, hrun⟩ | ⟨y, left', w', hp, hrun, h1, h2, h3, h4⟩
  · simp [execOp, hop, hit, hrun, Result.andThen]
    exact hK' _ _ (hDone h0)
  · simp [execOp, hop, hit, hrun, Result.andThen]
    exact hK' _ _ (hMore y left' w' hp h1 h2 h3 h4)
end
end Go.Proofs.Ytjcgckhheegonaa
