/- A map from numbers to places, by what it holds: looked up, an entry found and set anew, a key put, a key deleted; rows of alarms and the places in them. -/
import Derived.Test.YtcnfchjiiglijaaHeapS
import Derived.MapKept
import Derived.Maps.OwnSet
import Derived.Maps.OwnOps
import Derived.WideKeyEntry
namespace Go.Proofs.Ytcnfchjiiglijaa
open Go.RowKit
set_option linter.unusedVariables false
set_option linter.unusedSimpArgs false
set_option maxRecDepth 20000

/-! ### What the entries say -/
def KV (es : Array MapEntry) (g : Int → Int → Prop) : Prop :=
  (∀ x, x ∈ es.toList → ∃ k v, x.key = .int .u64 k ∧ x.val = .int .i64 v ∧ g k v) ∧ ∀ k v, g k v → ∃ x, x ∈ es.toList ∧ x.key = .int .u64 k ∧ x.val = .int .i64 v
/-- A map in a block: g, which place each number has. -/
def MapP (w : World) (m : Nat) (g : Int → Int → Prop) : Prop := ∃ es clock, w.heap[m]? = some (.map es clock) ∧ MapKept.Stamped es clock ∧ KV es g
def putG (g : Int → Int → Prop) (k v : Int) : Int → Int → Prop := fun a b => (a = k ∧ b = v) ∨ (a ≠ k ∧ g a b)
def delG (g : Int → Int → Prop) (k : Int) : Int → Int → Prop := fun a b => a ≠ k ∧ g a b
theorem MapP.congr {w : World} {m : Nat} {g g' : Int → Int → Prop} (h : MapP w m g) (e : ∀ k v, g k v ↔ g' k v) : MapP w m g' := by
  obtain ⟨es, c, h1, h2, h3, h4⟩ := h
  exact ⟨es, c, h1, h2, fun x hx => by obtain ⟨k, v, a, b, d⟩ := h3 x hx; exact ⟨k, v, a, b, (e k v).1 d⟩, fun k v q => h4 k v ((e k v).2 q)⟩
theorem MapP.chg {S : Nat → Prop} {w w' : World} {m : Nat} {g : Int → Int → Prop} (h : MapP w m g) (hc : Chg S w w') (hn : ¬ S m) : MapP w' m g := by
  obtain ⟨es, c, h1, h2⟩ := h
  exact ⟨es, c, hc.blk h1 hn, h2⟩
theorem MapP.below {w w' : World} {m : Nat} {g : Int → Int → Prop} (h : MapP w m g) (hb : Below w.heap.size w w') : MapP w' m g := h.chg (Chg.of_below (S := fun _ => False) hb) (fun q => q)
theorem MapP.lt {w : World} {m : Nat} {g : Int → Int → Prop} (h : MapP w m g) : m < w.heap.size := by
  obtain ⟨es, c, h1, _⟩ := h
  exact blk_lt h1
theorem MapP.made (w : World) : MapP (w.alloc (.map #[] 0)) w.heap.size (fun _ _ => False) :=
  ⟨#[], 0, (MapKept.heap_alloc w _).1, MapKept.stamped_empty 0, fun x hx => by simp at hx, fun _ _ q => q.elim⟩
theorem key_idx {l : List MapEntry} (hn : (l.map (·.key)).Nodup) {i j : Nat} {x y : MapEntry} (hx : l[i]? = some x) (hy : l[j]? = some y) (e : x.key = y.key) : i = j := by
  have hi : i < l.length := (List.getElem?_eq_some_iff.1 hx).1
  refine (List.getElem?_inj (l := l.map (·.key)) (i := i) (j := j) (by simpa using hi) hn).1 ?_
  simp [hx, hy, e]
theorem set_keys {l : List MapEntry} (hn : (l.map (·.key)).Nodup) {j : Nat} {e e' : MapEntry} (hj : l[j]? = some e) :
    (∀ x, x ∈ l.set j e' → x = e' ∨ (x ∈ l ∧ x.key ≠ e.key)) ∧ (∀ x, x ∈ l → x.key ≠ e.key → x ∈ l.set j e') ∧ e' ∈ l.set j e' := by
  have hlt : j < l.length := (List.getElem?_eq_some_iff.1 hj).1
  refine ⟨fun x hx => ?_, fun x hx hk => ?_, ?_⟩
  · obtain ⟨i, hi⟩ := List.mem_iff_getElem?.1 hx
    rw [List.getElem?_set] at hi
    split at hi
    · rename_i q
      subst q
      first
      | (rw [if_pos hlt] at hi; exact .inl (Option.some.inj hi).symm)
      | exact .inl (Option.some.inj hi).symm
    · rename_i q
      exact .inr ⟨List.mem_iff_getElem?.2 ⟨i, hi⟩, fun e1 => q (key_idx hn hi hj e1).symm⟩
  · obtain ⟨i, hi⟩ := List.mem_iff_getElem?.1 hx
    refine List.mem_iff_getElem?.2 ⟨i, ?_⟩
    rw [List.getElem?_set, if_neg (fun q => ?_)]
    · exact hi
    · subst q
      rw [hj] at hi
      exact hk (by rw [Option.some.inj hi])
  · exact List.mem_iff_getElem?.2 ⟨j, by rw [List.getElem?_set, if_pos rfl, if_pos hlt]⟩
theorem modify_set {l : List MapEntry} (f : MapEntry → MapEntry) {j : Nat} {e : MapEntry} (hj : l[j]? = some e) : l.modify j f = l.set j (f e) := by
  apply List.ext_getElem?
  intro i
  rw [List.getElem?_modify, List.getElem?_set]
  have hlt : j < l.length := (List.getElem?_eq_some_iff.1 hj).1
  by_cases q : j = i
  · subst q
    have e1 : l[j] = e := by rw [List.getElem?_eq_getElem hlt] at hj; exact Option.some.inj hj
    simp [hlt]
    exact congrArg f e1
  · simp [q]
theorem KV.set {es : Array MapEntry} {clock : Nat} {g : Int → Int → Prop} (h : KV es g) (hs : MapKept.Stamped es clock) {j : Nat} {e : MapEntry} (hj : es.toList[j]? = some e) {k v : Int} (hk : e.key = .int .u64 k) (f : MapEntry → MapEntry) (hf1 : (f e).key = .int .u64 k) (hf2 : (f e).val = .int .i64 v) : KV (es.modify j f) (putG g k v) := by
  obtain ⟨s1, s2, s3⟩ := set_keys (e' := f e) hs.2.2 hj
  have e1 : (es.modify j f).toList = es.toList.set j (f e) := by rw [Array.toList_modify, modify_set f hj]
  refine ⟨fun x hx => ?_, fun a b q => ?_⟩
  · rw [e1] at hx
    rcases s1 x hx with rfl | ⟨hx, hne⟩
    · exact ⟨k, v, hf1, hf2, .inl ⟨rfl, rfl⟩⟩
    · obtain ⟨a, b, h1, h2, h3⟩ := h.1 x hx
      exact ⟨a, b, h1, h2, .inr ⟨fun q => hne (by rw [h1, hk, q]), h3⟩⟩
  · rw [e1]
    rcases q with ⟨rfl, rfl⟩ | ⟨q1, q2⟩
    · exact ⟨_, s3, hf1, hf2⟩
    · obtain ⟨x, hx, h1, h2⟩ := h.2 a b q2
      exact ⟨x, s2 x hx (by rw [h1, hk]; intro q; injection q with _ q; exact q1 q), h1, h2⟩
theorem KV.push {es : Array MapEntry} {g : Int → Int → Prop} (h : KV es g) {k v : Int} (hn : ∀ v, ¬ g k v) (c : Nat) : KV (es.push { key := .int .u64 k, val := .int .i64 v, born := c }) (putG g k v) := by
  refine ⟨fun x hx => ?_, fun a b q => ?_⟩
  · simp only [Array.toList_push, List.mem_append, List.mem_singleton] at hx
    rcases hx with hx | rfl
    · obtain ⟨a, b, h1, h2, h3⟩ := h.1 x hx
      exact ⟨a, b, h1, h2, .inr ⟨fun q => hn b (q ▸ h3), h3⟩⟩
    · exact ⟨k, v, rfl, rfl, .inl ⟨rfl, rfl⟩⟩
  · simp only [Array.toList_push, List.mem_append, List.mem_singleton]
    rcases q with ⟨rfl, rfl⟩ | ⟨_, q2⟩
    · exact ⟨_, .inr rfl, rfl, rfl⟩
    · obtain ⟨x, hx, h1, h2⟩ := h.2 a b q2
      exact ⟨x, .inl hx, h1, h2⟩
theorem KV.erase {es : Array MapEntry} {clock : Nat} {g : Int → Int → Prop} (h : KV es g) (hs : MapKept.Stamped es clock) {j : Nat} {e : MapEntry} (hj : es.toList[j]? = some e) {k : Int} (hk : e.key = .int .u64 k) : KV (es.eraseIdxIfInBounds j) (delG g k) := by
  have hlt : j < es.size := by
    have := (List.getElem?_eq_some_iff.1 hj).1
    simpa using this
  have e1 : (es.eraseIdxIfInBounds j).toList = es.toList.eraseIdx j := by
    unfold Array.eraseIdxIfInBounds
    rw [dif_pos hlt, Array.toList_eraseIdx]
  refine ⟨fun x hx => ?_, fun a b q => ?_⟩
  · rw [e1, List.mem_eraseIdx_iff_getElem?] at hx
    obtain ⟨i, hi, hx⟩ := hx
    obtain ⟨a, b, h1, h2, h3⟩ := h.1 x (List.mem_iff_getElem?.2 ⟨i, hx⟩)
    exact ⟨a, b, h1, h2, fun q => hi (key_idx hs.2.2 hx hj (by rw [h1, hk, q])), h3⟩
  · obtain ⟨x, hx, h1, h2⟩ := h.2 a b q.2
    refine ⟨x, ?_, h1, h2⟩
    obtain ⟨i, hi⟩ := List.mem_iff_getElem?.1 hx
    rw [e1, List.mem_eraseIdx_iff_getElem?]
    refine ⟨i, fun e2 => ?_, hi⟩
    subst e2
    rw [hj] at hi
    have := Option.some.inj hi
    rw [← this, hk] at h1
    injection h1 with _ h1
    exact q.1 h1.symm
theorem KV.keys {es : Array MapEntry} {g : Int → Int → Prop} (h : KV es g) : ∀ x ∈ es.toList, MapKept.IsKey (.int .u64) x.key := fun x hx => by
  obtain ⟨k, v, h1, _⟩ := h.1 x hx
  rw [h1]
  exact rfl
/-- A number is looked for: found, or there is none. -/
theorem KV.find {es : Array MapEntry} {clock : Nat} {g : Int → Int → Prop} (h : KV es g) (hs : MapKept.Stamped es clock) (k : Int) :
    ((∀ v, ¬ g k v) ∧ Instr.findNow (.int .u64) (.int .u64 k) es.toList 0 = some none ∧ ∀ x ∈ es.toList, x.key ≠ .int .u64 k) ∨
    ∃ j e v, g k v ∧ (∀ u, g k u → u = v) ∧ es.toList[j]? = some e ∧ e.key = .int .u64 k ∧ e.val = .int .i64 v ∧ Instr.findNow (.int .u64) (.int .u64 k) es.toList 0 = some (some (j, .int .i64 v)) := by
  rcases MapKept.findNow_spec (d := .int .u64) (k := .int .u64 k) rfl es.toList 0 h.keys with ⟨h1, h2⟩ | ⟨j, e, h1, h2, h3⟩
  · exact .inl ⟨fun v q => by obtain ⟨x, hx, a, _⟩ := h.2 k v q; exact h2 x hx a, h1, h2⟩
  · obtain ⟨a, v, q1, q2, q3⟩ := h.1 e (List.mem_of_getElem? h2)
    rw [h3] at q1
    injection q1 with _ q1
    subst q1
    refine .inr ⟨j, e, v, q3, fun u hu => ?_, h2, h3, q2, by rw [h1, q2, Nat.zero_add]⟩
    obtain ⟨x, hx, a, b⟩ := h.2 k u hu
    obtain ⟨i, hi⟩ := List.mem_iff_getElem?.1 hx
    have := key_idx hs.2.2 hi h2 (by rw [a, h3])
    subst this
    rw [h2] at hi
    have := Option.some.inj hi
    rw [← this, q2] at b
    injection b with _ b
    exact b.symm
/-! ### What the operations do -/
section
variable {P : Program} {mt kt et : TypeId} {w : World} {m : Nat} {g : Int → Int → Prop}
theorem MapP.run_look (h : MapP w m g) (hmt : P.underlying mt = some (.map kt et)) (hkt : P.underlying kt = some (.int .u64)) (hz : (zeroValue et).run P w = .ok (.int .i64 0) w) (k : Int) :
    ((∀ v, ¬ g k v) ∧ (Instr.lookup mt (.map (some m)) (.int .u64 k) true).run P w = .ok (.tuple #[.int .i64 0, .bool false]) w) ∨
    ∃ v, g k v ∧ (∀ u, g k u → u = v) ∧ (Instr.lookup mt (.map (some m)) (.int .u64 k) true).run P w = .ok (.tuple #[.int .i64 v, .bool true]) w := by
  obtain ⟨es, c, h1, h2, h3⟩ := h
  have chk : ∀ e, (Instr.checkKey e 10000 kt (.int .u64 k)).run P w = .ok () w := fun e => MapKept.run_checkKey (n := 9999) (d := .int .u64) hkt (by simp [MapKept.IsKey]) e
  rcases h3.find h2 k with ⟨a, b, _⟩ | ⟨j, e, v, a, b, _, _, _, d⟩
  · refine .inl ⟨a, ?_⟩
    unfold Instr.lookup
    simp only [Sem.run_bind, run_underlying hmt, Result.andThen, MapKept.run_getObj_map h1, Sem.run_pure, chk, MapKept.run_findKey hkt b, hz]
    rfl
  · refine .inr ⟨v, a, b, ?_⟩
    unfold Instr.lookup
    simp only [Sem.run_bind, run_underlying hmt, Result.andThen, MapKept.run_getObj_map h1, Sem.run_pure, chk, MapKept.run_findKey hkt d]
    rfl
theorem put_chg {o o' : Obj} (h : w.heap[m]? = some o) : Chg (fun k => k = m) w { w with heap := w.heap.setIfInBounds m o' } ∧ ({ w with heap := w.heap.setIfInBounds m o' } : World).heap[m]? = some o' := by
  have := blk_lt h
  refine ⟨⟨rfl, rfl, rfl, by simp, fun k hk hs => ?_⟩, ?_⟩
  · show (w.heap.setIfInBounds m o')[k]? = w.heap[k]?
    rw [Array.getElem?_setIfInBounds_ne (fun e => hs e.symm)]
  · show (w.heap.setIfInBounds m o')[m]? = some o'
    simp [this]
theorem MapP.run_put (h : MapP w m g) (hmt : P.underlying mt = some (.map kt et)) (hkt : P.underlying kt = some (.int .u64)) (k v : Int) (hn : ∀ v, ¬ g k v) :
    ∃ w', (Instr.mapUpdate mt (.map (some m)) (.int .u64 k) (.int .i64 v)).run P w = .ok () w' ∧ MapP w' m (putG g k v) ∧ Chg (fun j => j = m) w w' := by
  obtain ⟨es, c, h1, h2, h3⟩ := h
  have chk : ∀ e, (Instr.checkKey e 10000 kt (.int .u64 k)).run P w = .ok () w := fun e => MapKept.run_checkKey (n := 9999) (d := .int .u64) hkt (by simp [MapKept.IsKey]) e
  rcases h3.find h2 k with ⟨a, b, d⟩ | ⟨j, e, v, a, _⟩
  · refine ⟨_, ?_, ⟨_, _, (put_chg h1).2, MapKept.stamped_push h2 d, h3.push hn _⟩, (put_chg h1).1⟩
    unfold Instr.mapUpdate
    simp only [Sem.run_bind, run_underlying hmt, Result.andThen, MapKept.run_getObj_map h1, chk, MapKept.run_findKey hkt b, MapKept.run_setObj_map _ h1]
  · exact absurd a (hn v)
theorem MapP.run_del (h : MapP w m g) (hmt : P.underlying mt = some (.map kt et)) (hkt : P.underlying kt = some (.int .u64)) (k : Int) (ty : TypeId) :
    ∃ w', (Builtin.delete_ #[mt, kt] ty #[.map (some m), .int .u64 k]).run P w = .ok (.tuple #[]) w' ∧ MapP w' m (delG g k) ∧ Chg (fun j => j = m) w w' := by
  obtain ⟨es, c, h1, h2, h3⟩ := h
  have chk : ∀ e, (Instr.checkKey e 10000 kt (.int .u64 k)).run P w = .ok () w := fun e => MapKept.run_checkKey (n := 9999) (d := .int .u64) hkt (by simp [MapKept.IsKey]) e
  rcases h3.find h2 k with ⟨a, b, d⟩ | ⟨j, e, v, a, _, hj, hk, _, d⟩
  · refine ⟨_, ?_, ⟨es, c, (put_chg h1).2, h2, ?_⟩, (put_chg h1).1⟩
    · simp [Builtin.delete_, run_underlying hmt, Result.andThen, MapKept.run_getObj_map h1, chk, MapKept.run_findKey hkt b, MapKept.run_setObj_map _ h1]
    · exact ⟨fun x hx => by obtain ⟨p, q, r1, r2, r3⟩ := h3.1 x hx; exact ⟨p, q, r1, r2, fun e => a q (e ▸ r3), r3⟩, fun p q r => h3.2 p q r.2⟩
  · refine ⟨_, ?_, ⟨_, _, (put_chg h1).2, MapKept.stamped_erase h2 j, h3.erase h2 hj hk⟩, (put_chg h1).1⟩
    simp [Builtin.delete_, run_underlying hmt, Result.andThen, MapKept.run_getObj_map h1, chk, MapKept.run_findKey hkt d, MapKept.run_setObj_map _ h1]
/-- The entry of a number, by its stamp. -/
def Born (w : World) (m : Nat) (k : Int) (st : Nat) : Prop := ∃ (es : Array MapEntry) (clock j : Nat) (e : MapEntry), w.heap[m]? = some (.map es clock) ∧ es.toList[j]? = some e ∧ e.key = .int .u64 k ∧ e.born = st
theorem set_same {h : Array Obj} {m : Nat} {o : Obj} (e : h[m]? = some o) : h.setIfInBounds m o = h := by
  apply Array.ext_getElem?
  intro i
  by_cases q : m = i
  · subst q
    have := (Array.getElem?_eq_some_iff.1 e).1
    rw [Array.getElem?_setIfInBounds_self, e]
    simp [this]
  · rw [Array.getElem?_setIfInBounds_ne q]
theorem MapP.run_entry (h : MapP w m g) (hmt : P.underlying mt = some (.map kt et)) (hkt : P.underlying kt = some (.int .u64)) (k : Int) {v : Int} (hg : g k v) :
    ∃ st : Nat, (Instr.mapEntry mt (.map (some m)) (.int .u64 k)).run P w = .ok (.tuple #[.int .i64 v, goInt st]) w ∧ Born w m k st := by
  obtain ⟨es, c, h1, h2, h3⟩ := h
  have chk : ∀ e, (Instr.checkKey e 10000 kt (.int .u64 k)).run P w = .ok () w := fun e => MapKept.run_checkKey (n := 9999) (d := .int .u64) hkt (by simp [MapKept.IsKey]) e
  rcases h3.find h2 k with ⟨a, b, d⟩ | ⟨j, e, u, a, hu, hj, hk, hv, d⟩
  · exact absurd hg (a v)
  · obtain rfl := hu v hg
    have hj2 : es[j]? = some e := by simpa using hj
    have hsame : es.modify j (fun x => { x with key := .int .u64 k }) = es := by
      apply Array.ext'
      rw [Array.toList_modify, modify_set _ hj]
      have : ({ e with key := .int .u64 k } : MapEntry) = e := by rw [← hk]
      rw [this]
      exact WideElems.set_self _ _ _ hj
    have hstay : (Instr.keyThatStays (.int .u64 k) (.int .u64 k)).run P w = .ok (.int .u64 k) w := MapKept.run_keyThatStays (d := .int .u64) (by simp [MapKept.IsKey])
    refine ⟨e.born, ?_, es, c, j, e, h1, hj, hk, rfl⟩
    simp [Instr.mapEntry, run_underlying hmt, MapKept.run_getObj_map h1, chk, MapKept.run_findKey hkt d, hj2, hk, hstay, hsame, MapKept.run_setObj_map _ h1, Result.andThen, set_same h1]
theorem MapP.run_stored (h : MapP w m g) (k v : Int) {st : Nat} (hb : Born w m k st) :
    ∃ w', (Instr.entryStore mt (.map (some m)) (goInt st) (.int .i64 v)).run P w = .ok () w' ∧ MapP w' m (putG g k v) ∧ Chg (fun j => j = m) w w' := by
  obtain ⟨es, c, h1, h2, h3⟩ := h
  obtain ⟨es', c', j, e, b1, b2, b3, b4⟩ := hb
  rw [h1] at b1
  injection b1 with b1
  injection b1 with b1 b5
  subst b1 b5 b4
  have hidx : es.findIdx? (fun x => ((x.born : Nat) : Int) == ((e.born : Nat) : Int)) = some j := by
    rw [WideElems.findIdx_arr]
    exact WideElems.findIdx_born h2.2.1 b2
  refine ⟨_, ?_, ⟨_, _, (put_chg h1).2, MapKept.stamped_modify h2 j (fun x => { x with val := .int .i64 v }) (fun _ _ => rfl) (fun _ _ _ => rfl), h3.set h2 b2 b3 (fun x => { x with val := .int .i64 v }) b3 rfl⟩, (put_chg h1).1⟩
  simp [Instr.entryStore, MapKept.run_getObj_map h1, asInt, asIntOf, goInt, hidx, MapKept.run_setObj_map _ h1, Result.andThen]
end
/-! ### At the operation, for the walk -/
section
variable {P : Program} {w : World} {ops : Array Oper} {rest : List Oper} {o : Oper} {a : Act} {Q : Exit → Act → World → Prop} {m : Nat} {g : Int → Int → Prop}
theorem wpList_put (hg : o.guard = none) (x y z : Operand) (t kt et : TypeId) (hop : o.op = Op.mapUpdate t x y z) (hmt : P.underlying t = some (.map kt et)) (hkt : P.underlying kt = some (.int .u64)) (k v : Int)
    (hx : a.eval x = .map (some m)) (hy : a.eval y = .int .u64 k) (hz : a.eval z = .int .i64 v) (h : MapP w m g) (hn : ∀ v, ¬ g k v)
    (hK : ∀ w', MapP w' m (putG g k v) → Chg (fun j => j = m) w w' → wpList P ops Q rest (a.put o.dst undef) w') : wpList P ops Q (o :: rest) a w := by
  refine wpList_plain hg fun K' hK' => ?_
  obtain ⟨w', hrun, h1, h2⟩ := h.run_put hmt hkt k v hn
  unfold Oper.wp
  simp [execOp, hop, hx, hy, hz, hrun, Result.andThen]
  exact hK' _ _ (hK w' h1 h2)
theorem wpList_entry (hg : o.guard = none) (x y : Operand) (t kt et : TypeId) (hop : o.op = Op.mapEntry t x y) (hmt : P.underlying t = some (.map kt et)) (hkt : P.underlying kt = some (.int .u64)) (k v : Int)
    (hx : a.eval x = .map (some m)) (hy : a.eval y = .int .u64 k) (h : MapP w m g) (hk : g k v)
    (hK : ∀ st : Nat, Born w m k st → wpList P ops Q rest (a.put o.dst (.tuple #[.int .i64 v, .int .i64 st])) w) : wpList P ops Q (o :: rest) a w := by
  refine wpList_plain hg fun K' hK' => ?_
  obtain ⟨st, hrun, h1⟩ := h.run_entry hmt hkt k hk
  unfold Oper.wp
  simp [execOp, hop, hx, hy, hrun, Result.andThen]
  exact hK' _ _ (hK st h1)
theorem wpList_stored (hg : o.guard = none) (x y z : Operand) (t : TypeId) (hop : o.op = Op.entryStore t x y z) (k v : Int) (st : Nat)
    (hx : a.eval x = .map (some m)) (hy : a.eval y = .int .i64 st) (hz : a.eval z = .int .i64 v) (h : MapP w m g) (hb : Born w m k st)
    (hK : ∀ w', MapP w' m (putG g k v) → Chg (fun j => j = m) w w' → wpList P ops Q rest (a.put o.dst undef) w') : wpList P ops Q (o :: rest) a w := by
  refine wpList_plain hg fun K' hK' => ?_
  obtain ⟨w', hrun, h1, h2⟩ := h.run_stored (P := P) (mt := t) k v hb
  unfold Oper.wp
  have hrun' : (Instr.entryStore t (.map (some m)) (.int .i64 st) (.int .i64 v)).run P w = .ok () w' := hrun
  simp [execOp, hop, hx, hy, hz, hrun', Result.andThen]
  exact hK' _ _ (hK w' h1 h2)
theorem wpList_del (hg : o.guard = none) (x y : Operand) (t kt et : TypeId) (hop : o.op = Op.call { callee := Callee.builtin Builtin.delete, args := #[x, y], argTypes := #[t, kt] }) (hmt : P.underlying t = some (.map kt et)) (hkt : P.underlying kt = some (.int .u64)) (k : Int)
    (hx : a.eval x = .map (some m)) (hy : a.eval y = .int .u64 k) (h : MapP w m g)
    (hK : ∀ w', MapP w' m (delG g k) → Chg (fun j => j = m) w w' → wpList P ops Q rest (a.put o.dst (.tuple #[])) w') : wpList P ops Q (o :: rest) a w := by
  refine wpList_plain hg fun K' hK' => ?_
  obtain ⟨w', hrun, h1, h2⟩ := h.run_del hmt hkt k o.type
  unfold Oper.wp
  simp [execOp, hop, resolve, invoke, builtin, hx, hy, hrun, Result.andThen]
  exact hK' _ _ (hK w' h1 h2)
end
/-! ### At the operation, one of a region's that draws its order -/
section
variable {P : Program} {w : World} {o : Oper} {a : Act} {K : Act → World → Prop} {Q : Exit → Act → World → Prop} {y : Nat → Option Bool} {m : Nat} {g : Int → Int → Prop}
theorem oper_entry (hg : o.guard = none) (x z : Operand) (t kt et : TypeId) (hop : o.op = Op.mapEntry t x z) (hmt : P.underlying t = some (.map kt et)) (hkt : P.underlying kt = some (.int .u64)) (k v : Int)
    (hx : a.eval x = .map (some m)) (hz : a.eval z = .int .u64 k) (h : MapP w m g) (hk : g k v)
    (hK : ∀ st : Nat, Born w m k st → K (a.put o.dst (.tuple #[.int .i64 v, .int .i64 st])) w) : if Region.wanted o y = true then Oper.wp P o a w K Q else K (a.put o.dst undef) w := by
  have hw : Region.wanted o y = true := by simp [Region.wanted, hg]
  rw [if_pos hw]
  obtain ⟨st, hrun, h1⟩ := h.run_entry hmt hkt k hk
  unfold Oper.wp
  simp [execOp, hop, hx, hz, hrun, Result.andThen]
  exact hK st h1
theorem oper_stored (hg : o.guard = none) (x z u : Operand) (t : TypeId) (hop : o.op = Op.entryStore t x z u) (k v : Int) (st : Nat)
    (hx : a.eval x = .map (some m)) (hz : a.eval z = .int .i64 st) (hu : a.eval u = .int .i64 v) (h : MapP w m g) (hb : Born w m k st)
    (hK : ∀ w', MapP w' m (putG g k v) → Chg (fun j => j = m) w w' → K (a.put o.dst undef) w') : if Region.wanted o y = true then Oper.wp P o a w K Q else K (a.put o.dst undef) w := by
  have hw : Region.wanted o y = true := by simp [Region.wanted, hg]
  rw [if_pos hw]
  obtain ⟨w', hrun, h1, h2⟩ := h.run_stored (P := P) (mt := t) k v hb
  unfold Oper.wp
  have hrun' : (Instr.entryStore t (.map (some m)) (.int .i64 st) (.int .i64 v)).run P w = .ok () w' := hrun
  simp [execOp, hop, hx, hz, hu, hrun', Result.andThen]
  exact hK w' h1 h2
end
/-! ### The places of a row -/
def Places (H : List On) : Int → Int → Prop := fun k v => ∃ i : Nat, i < H.length ∧ v = (i : Int) ∧ (gt H i).id = k
theorem id_idx {H : List On} (hn : NoTwice H) {i j : Nat} (hi : i < H.length) (hj : j < H.length) (e : (gt H i).id = (gt H j).id) : i = j := by
  refine (List.getElem?_inj (l := H.map On.id) (i := i) (j := j) (by simpa using hi) hn).1 ?_
  rw [gt_eq hi, gt_eq hj] at e
  simp [hi, hj, e]
theorem places_swap {H : List On} (hn : NoTwice H) {i j : Nat} (hi : i < H.length) (hj : j < H.length) (k v : Int) :
    putG (putG (Places H) (gt H j).id i) (gt H i).id j k v ↔ Places (swapL H i j) k v := by
  unfold putG Places
  rw [swap_len]
  constructor
  · rintro (⟨rfl, rfl⟩ | ⟨q1, ⟨rfl, rfl⟩ | ⟨q2, a, ha, rfl, rfl⟩⟩)
    · exact ⟨j, hj, rfl, by rw [gt_swap hi hj, if_pos rfl]⟩
    · exact ⟨i, hi, rfl, by
        rw [gt_swap hi hj]
        split
        · rename_i e; exact absurd (by rw [e]) q1
        · rw [if_pos rfl]⟩
    · exact ⟨a, ha, rfl, by
        rw [gt_swap hi hj, if_neg (fun e => q2 (by rw [e])), if_neg (fun e => q1 (by rw [e]))]⟩
  · rintro ⟨a, ha, rfl, rfl⟩
    rw [gt_swap hi hj]
    by_cases e1 : a = j
    · subst e1
      rw [if_pos rfl]
      exact .inl ⟨rfl, rfl⟩
    · rw [if_neg e1]
      by_cases e2 : a = i
      · subst e2
        rw [if_pos rfl]
        exact .inr ⟨fun q => e1 (id_idx hn hj hi q).symm, .inl ⟨rfl, rfl⟩⟩
      · rw [if_neg e2]
        exact .inr ⟨fun q => e2 (id_idx hn ha hi q), .inr ⟨fun q => e1 (id_idx hn ha hj q), a, ha, rfl, rfl⟩⟩
theorem gt_app {H : List On} {x : On} {i : Nat} : gt (H ++ [x]) i = if i < H.length then gt H i else if i = H.length then x else zeroO := by
  unfold gt
  simp only [List.getD_eq_getElem?_getD]
  split
  · rename_i h; rw [List.getElem?_append_left h]
  · rename_i h
    rw [List.getElem?_append_right (by omega)]
    split
    · rename_i e; subst e; simp
    · rename_i e
      rw [List.getElem?_eq_none (by simp; omega)]
      rfl
theorem gt_takeA {H : List On} {n i : Nat} (h : i < n) : gt (H.take n) i = gt H i := by
  unfold gt
  simp only [List.getD_eq_getElem?_getD, List.getElem?_take_of_lt h]
theorem places_push {H : List On} {x : On} (hx : hasD x.id H = false) (k v : Int) : putG (Places H) x.id H.length k v ↔ Places (H ++ [x]) k v := by
  have hne : ∀ i, i < H.length → (gt H i).id ≠ x.id := fun i hi e => has_not hx _ (gt_mem hi) e.symm
  unfold putG Places
  constructor
  · rintro (⟨rfl, rfl⟩ | ⟨q1, a, ha, rfl, rfl⟩)
    · exact ⟨H.length, by simp, rfl, by rw [gt_app, if_neg (by omega), if_pos rfl]⟩
    · exact ⟨a, by simp; omega, rfl, by rw [gt_app, if_pos ha]⟩
  · rintro ⟨a, ha, rfl, rfl⟩
    have ha : a < H.length + 1 := by simpa using ha
    rw [gt_app]
    by_cases e : a < H.length
    · rw [if_pos e]
      exact .inr ⟨hne a e, a, e, rfl, rfl⟩
    · obtain rfl : a = H.length := by omega
      rw [if_neg e, if_pos rfl]
      exact .inl ⟨rfl, rfl⟩
theorem places_none {H : List On} {k : Int} (h : hasD k H = false) : ∀ v, ¬ Places H k v := fun v ⟨i, hi, _, e⟩ => has_not h _ (gt_mem hi) e.symm
theorem places_pop {H : List On} (hn : NoTwice H) (h0 : 0 < H.length) (k v : Int) : delG (Places H) (gt H (H.length - 1)).id k v ↔ Places (H.take (H.length - 1)) k v := by
  unfold delG Places
  rw [List.length_take, Nat.min_eq_left (by omega)]
  constructor
  · rintro ⟨q1, a, ha, rfl, rfl⟩
    have : a ≠ H.length - 1 := fun e => q1 (by rw [e])
    exact ⟨a, by omega, rfl, by rw [gt_takeA (by omega)]⟩
  · rintro ⟨a, ha, rfl, rfl⟩
    rw [gt_takeA ha]
    exact ⟨fun e => by have := id_idx hn (by omega) (by omega) e; omega, a, by omega, rfl, rfl⟩
theorem places_set {H : List On} {i : Nat} {x : On} (hi : i < H.length) (e : x.id = (gt H i).id) (k v : Int) : Places H k v ↔ Places (H.set i x) k v := by
  unfold Places
  rw [List.length_set]
  have : ∀ a, (gt (H.set i x) a).id = (gt H a).id := fun a => by
    rw [gt_set _ _ _ _ hi]
    split
    · rename_i q; rw [q, e]
    · rfl
  simp only [this]
theorem places_nil (k v : Int) : False ↔ Places [] k v := by
  unfold Places
  constructor
  · exact fun h => h.elim
  · rintro ⟨i, hi, _⟩; simp at hi
end Go.Proofs.Ytcnfchjiiglijaa
