/- A map of whole numbers, whatever stands in it: a key put, a key looked up. -/
import Derived.Test.YtifpahjlmnimnaaBag
import Derived.MapKept
namespace Go.Proofs.Ytifpahjlmnimnaa
open Go.RowKit
set_option linter.unusedVariables false
set_option linter.unusedSimpArgs false

def lookT : List (Int × Value) → Int → Option Value
  | [], _ => none
  | (a, v) :: T, k => if a = k then some v else lookT T k
def Ents (es : Array MapEntry) (T : List (Int × Value)) : Prop := es.toList.map (fun e => (e.key, e.val)) = T.map fun p => (Value.int .i64 p.1, p.2)
theorem Ents.nil : Ents #[] [] := rfl
theorem Ents.push {es : Array MapEntry} {T : List (Int × Value)} (h : Ents es T) (k : Int) (v : Value) (c : Nat) : Ents (es.push { key := .int .i64 k, val := v, born := c }) (T ++ [(k, v)]) := by
  unfold Ents at *
  simp [h]
theorem lookT_app (T : List (Int × Value)) (a : Int) (v : Value) (k : Int) : lookT (T ++ [(a, v)]) k = match lookT T k with | some u => some u | none => if a = k then some v else none := by
  induction T with
  | nil => simp [lookT]
  | cons p T ih =>
    obtain ⟨b, u⟩ := p
    simp only [List.cons_append, lookT, ih]
    split <;> rfl
theorem find_ents (k : Int) : ∀ (l : List MapEntry) (T : List (Int × Value)) (i : Nat), l.map (fun e => (e.key, e.val)) = T.map (fun p => (Value.int .i64 p.1, p.2)) →
    (lookT T k = none ∧ Instr.findNow (.int .i64) (.int .i64 k) l i = some none) ∨ ∃ j v, lookT T k = some v ∧ Instr.findNow (.int .i64) (.int .i64 k) l i = some (some (j, v)) := by
  intro l
  induction l with
  | nil =>
    intro T i h
    cases T with
    | nil => exact .inl ⟨rfl, rfl⟩
    | cons p T => simp at h
  | cons e l ih =>
    intro T i h
    cases T with
    | nil => simp at h
    | cons p T =>
      obtain ⟨a, u⟩ := p
      simp only [List.map_cons, List.cons.injEq, Prod.mk.injEq] at h
      obtain ⟨⟨h1, h2⟩, h3⟩ := h
      by_cases e1 : a = k
      · subst e1
        exact .inr ⟨i, u, by simp [lookT], by simp [Instr.findNow, Instr.sameNow, h1, h2]⟩
      · have e2 : (k == a) = false := by simp; exact fun q => e1 q.symm
        have := ih T (i + 1) h3
        simpa [lookT, e1, Instr.findNow, Instr.sameNow, h1, e2] using this
section
variable {P : Program} {mt kt et : TypeId} {w : World} {m : Nat} {es : Array MapEntry} {c : Nat} {T : List (Int × Value)}
theorem chk (hkt : P.underlying kt = some (.int .i64)) (e : Bool) (k : Int) : (Instr.checkKey e 10000 kt (.int .i64 k)).run P w = .ok () w :=
  MapKept.run_checkKey (n := 9999) (d := .int .i64) hkt (by simp [MapKept.IsKey]) e
theorem run_put (hmt : P.underlying mt = some (.map kt et)) (hkt : P.underlying kt = some (.int .i64)) (h : w.heap[m]? = some (.map es c)) (hT : Ents es T) (k : Int) (v : Value) (hk : lookT T k = none) :
    (Instr.mapUpdate mt (.map (some m)) (.int .i64 k) v).run P w = .ok () { w with heap := w.heap.setIfInBounds m (.map (es.push { key := .int .i64 k, val := v, born := c }) (c + 1)) } := by
  have hf : Instr.findNow (.int .i64) (.int .i64 k) es.toList 0 = some none := by
    rcases find_ents k es.toList T 0 hT with ⟨_, q⟩ | ⟨j, u, q, _⟩
    · exact q
    · rw [hk] at q; cases q
  unfold Instr.mapUpdate
  simp only [Sem.run_bind, run_underlying hmt, Result.andThen, MapKept.run_getObj_map h, chk hkt, MapKept.run_findKey hkt hf, MapKept.run_setObj_map _ h]
theorem run_look (hmt : P.underlying mt = some (.map kt et)) (hkt : P.underlying kt = some (.int .i64)) {z : Value} (hz : (zeroValue et).run P w = .ok z w) (h : w.heap[m]? = some (.map es c)) (hT : Ents es T) (k : Int) :
    (Instr.lookup mt (.map (some m)) (.int .i64 k) false).run P w = .ok ((lookT T k).getD z) w := by
  unfold Instr.lookup
  rcases find_ents k es.toList T 0 hT with ⟨q1, q⟩ | ⟨j, u, q1, q⟩
  · simp only [Sem.run_bind, run_underlying hmt, Result.andThen, MapKept.run_getObj_map h, Sem.run_pure, chk hkt, MapKept.run_findKey hkt q, hz, q1]
    rfl
  · simp only [Sem.run_bind, run_underlying hmt, Result.andThen, MapKept.run_getObj_map h, Sem.run_pure, chk hkt, MapKept.run_findKey hkt q, q1]
    rfl
theorem Chg.putMap (w : World) (m : Nat) (o : Obj) : Chg (fun q => q = m) w { w with heap := w.heap.setIfInBounds m o } :=
  ⟨rfl, rfl, rfl, by simp, fun k hk hs => by
    show (w.heap.setIfInBounds m o)[k]? = w.heap[k]?
    rw [Array.getElem?_setIfInBounds_ne (fun e => hs e.symm)]⟩
theorem putMap_at {o' : Obj} (h : w.heap[m]? = some (.map es c)) : ({ w with heap := w.heap.setIfInBounds m o' } : World).heap[m]? = some o' := by
  have := blk_lt h
  show (w.heap.setIfInBounds m o')[m]? = some o'
  simp [this]
end
end Go.Proofs.Ytifpahjlmnimnaa
