/- Entries: rows that the law writes into; rows of pairs that came in. -/
import Derived.Test.YtpbcndbmmphngaaEnX
import Derived.Test.YtpbcndbmmphngaaArrs
import Derived.StillTailTactics
import Derived.Deep.CutRange
namespace Go.Proofs.Ytpbcndbmmphngaa
open Go.RowKit
set_option linter.unusedVariables false
set_option linter.unusedSimpArgs false
set_option maxRecDepth 20000
theorem Arrs.below {k : IntKind} {n : Nat} {w w' : World} {a : Option Addr} {len cap : Nat} {Z : Nat → Nat → Int} (h : Arrs k n w a len cap Z) (hb : Below w.heap.size w w') : Arrs k n w' a len cap Z := by
  obtain ⟨h1, h2, b, off, hh⟩ := h
  exact ⟨h1, h2, b, off, fun i hi => ⟨(hh i hi).1, fun j hj => ⟨by
    have c := ((hh i hi).2 j hj).1
    rw [hb.cell (block_lt_of_cell c)]; exact c, ((hh i hi).2 j hj).2⟩⟩⟩
/-- A row of n entries in a block of the call's own, that is none of those that stay. -/
def Can (w0 : World) (bs : List (Nat × Obj)) (a : Option Addr) (n : Nat) (w : World) : Prop :=
  0 < n → ∃ g off cur t, a = some ⟨g, off, none⟩ ∧ w0.heap.size ≤ g ∧ w.heap[g]? = some (.cells cur t (0, 0)) ∧ off + n * 4 ≤ cur.size ∧ ∀ k o, (k, o) ∈ bs → k ≠ g
section
variable {w0 w w' : World} {bs : List (Nat × Obj)} {a : Option Addr} {n : Nat}
theorem Can.below (h : Can w0 bs a n w) (hb : Below w.heap.size w w') : Can w0 bs a n w' := fun hn => by
  obtain ⟨g, off, cur, t, h1, h2, h3, h4, h5⟩ := h hn
  exact ⟨g, off, cur, t, h1, h2, (hb.block _ (blk_lt h3)).trans h3, h4, h5⟩
theorem Can.more (h : Can w0 bs a n w) {bs' : List (Nat × Obj)} (hs : ∀ k o, (k, o) ∈ bs' → (k, o) ∈ bs ∨ w.heap.size ≤ k) : Can w0 bs' a n w := fun hn => by
  obtain ⟨g, off, cur, t, h1, h2, h3, h4, h5⟩ := h hn
  refine ⟨g, off, cur, t, h1, h2, h3, h4, fun k o q => ?_⟩
  rcases hs k o q with e | e
  · exact h5 k o e
  · have := blk_lt h3; omega
theorem Can.set (h : Can w0 bs a n w) (B j : Nat) (y : Value) : Can w0 bs a n (w.setCell ⟨B, j, none⟩ y) := fun hn => by
  obtain ⟨g, off, cur, t, h1, h2, h3, h4, h5⟩ := h hn
  by_cases e : g = B
  · subst e
    refine ⟨g, off, _, t, h1, h2, heap_setCell_same w g j _ _ y h3, by simpa using h4, h5⟩
  · exact ⟨g, off, cur, t, h1, h2, ((Chg.setC w B j y).block g (blk_lt h3) e).trans h3, h4, h5⟩
theorem Can.cell (h : Can w0 bs a n w) {i : Nat} (hi : i < n) : ∃ g off u, a = some ⟨g, off, none⟩ ∧ w0.heap.size ≤ g ∧ w.cell? ⟨g, off + i * 4 + 1, none⟩ = some u ∧ w.frozen? ⟨g, off + i * 4 + 1, none⟩ = false ∧ ∀ k o, (k, o) ∈ bs → k ≠ g := by
  obtain ⟨g, off, cur, t, h1, h2, h3, h4, h5⟩ := h (by omega)
  have hlt : off + i * 4 + 1 < cur.size := by omega
  refine ⟨g, off, cur[off + i * 4 + 1], h1, h2, ?_, ?_, h5⟩
  · rw [cell_of_row w g _ cur t _ h3, Array.getElem?_eq_getElem hlt]
  · simp [World.frozen?, h3]
theorem Bx.put1 (h : Bx w0 bs w) {g j : Nat} {y : Value} (hg : w0.heap.size ≤ g) (hn : ∀ k o, (k, o) ∈ bs → k ≠ g) : Bx w0 bs (w.setCell ⟨g, j, none⟩ y) :=
  ⟨h.low.trans ((Chg.setC w g j y).below (fun k e => by rw [e]; exact hg) h.low.size), fun k o q => ((Chg.setC w g j y).block k (h.klt q) (hn k o q)).trans (h.kept k o q)⟩
theorem NewE.can {t : TypeId} {v : Value} {es : List En} {W : World} (h : Bx w0 bs w) (hn : NewE t w.heap.size v es W) (hl : w.heap.size ≤ W.heap.size) : ∃ a cap, v = .slice a es.length cap ∧ Can w0 bs a es.length W := by
  rcases hn with ⟨h1, h2⟩ | ⟨g, off, cap, cur, h1, h2, h3, h4, h5, h6⟩
  · subst h2
    exact ⟨none, 0, h1, fun q => absurd q (Nat.lt_irrefl _)⟩
  · refine ⟨_, cap, h1, fun hp => ⟨g, off, cur, t, rfl, Nat.le_trans h.low.size h2, h3, ?_, fun k o q => by have := h.klt q; omega⟩⟩
    have h7 := h6 (es.length - 1) 3 (by omega) (by omega)
    have h8 : cur[off + (es.length - 1) * 4 + 3]? = some (.int .u64 (es.getD (es.length - 1) zeroE).bt) := by rw [h7]; rfl
    obtain ⟨h9, _⟩ := Array.getElem?_eq_some_iff.1 h8
    omega
variable {cap m : Nat} {fs gs : List En} {ep key nx bt gp gk gn gb K : Int} {is : Bool}
theorem Bx.pputC (h : Bx w0 bs w) (hn : n = fs.length) (hr : RowE w a cap fs) (hok : OkE fs) (hp : putE fs ⟨ep, key, nx, bt⟩ = (gs, ⟨gp, gk, gn, gb⟩, is)) (hm : gs.length = m) :
    Calls Try.prog 10 #[.agg #[.slice a n cap], .agg #[.int .i64 ep, .int .i64 key, .int .u64 nx, .int .u64 bt]] w fun e w' => ∃ (a' : Option Addr) (c' : Nat), e = .returned (.tuple #[.agg #[.slice a' m c'], .agg #[.int .i64 gp, .int .i64 gk, .int .u64 gn, .int .u64 gb], .bool is]) ∧ Bx w0 bs w' ∧ Can w0 bs a' m w' ∧ Below w.heap.size w w' := by
  refine (pput_e a n cap fs ep key nx bt w hn hr hok).mono ?_
  rintro e w' ⟨v, he, hN, hb⟩
  rw [hp] at he hN
  obtain ⟨a', c', hv, h1⟩ := hN.can h hb.size
  subst hm
  refine ⟨a', c', ?_, h.below hb, h1, hb⟩
  rw [he, hv]
  rfl
theorem Bx.pdropC (h : Bx w0 bs w) (hn : n = fs.length) (hr : RowE w a cap fs) (hok : OkE fs) (hp : dropE fs K = gs) (hm : gs.length = m) :
    Calls Try.prog 8 #[.agg #[.slice a n cap], .int .i64 K] w fun e w' => ∃ (a' : Option Addr) (c' : Nat), e = .returned (.agg #[.slice a' m c']) ∧ Bx w0 bs w' ∧ Can w0 bs a' m w' ∧ Below w.heap.size w w' := by
  refine (pdrop_e a n cap fs K w hn hr hok).mono ?_
  rintro e w' ⟨v, he, hO, hb⟩
  have hN := hO.newE
  rw [hp] at hN
  obtain ⟨a', c', hv, h1⟩ := hN.can h hb.size
  subst hm
  refine ⟨a', c', ?_, h.below hb, h1, hb⟩
  rw [he, hv]
end
end Go.Proofs.Ytpbcndbmmphngaa
