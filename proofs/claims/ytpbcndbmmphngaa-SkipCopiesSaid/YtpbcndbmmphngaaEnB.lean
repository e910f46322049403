/- Entries: what the laws carry: blocks of the law's own that hold what they held; the program's calls over them. -/
import Derived.Test.YtpbcndbmmphngaaEnL
import Derived.Test.YtpbcndbmmphngaaSkpG
namespace Go.Proofs.Ytpbcndbmmphngaa
open Go.RowKit
set_option linter.unusedVariables false
set_option linter.unusedSimpArgs false
set_option maxRecDepth 20000
/-- Blocks of the law's own, with what they hold. -/
structure Bx (w0 : World) (bs : List (Nat × Obj)) (w : World) : Prop where
  low : Below w0.heap.size w0 w
  kept : ∀ k o, (k, o) ∈ bs → w.heap[k]? = some o
section
variable {w0 w w' : World} {bs : List (Nat × Obj)}
theorem Bx.start (w0 : World) : Bx w0 [] w0 := ⟨Below.refl _ _, fun k o q => by simp at q⟩
theorem Bx.below (h : Bx w0 bs w) (hb : Below w.heap.size w w') : Bx w0 bs w' :=
  ⟨h.low.trans (hb.mono h.low.size), fun k o q => (hb.block k (blk_lt (h.kept k o q))).trans (h.kept k o q)⟩
theorem Bx.less (h : Bx w0 bs w) {bs' : List (Nat × Obj)} (hs : ∀ x, x ∈ bs' → x ∈ bs) : Bx w0 bs' w := ⟨h.low, fun k o q => h.kept k o (hs _ q)⟩
theorem Bx.klt (h : Bx w0 bs w) {k : Nat} {o : Obj} (q : (k, o) ∈ bs) : k < w.heap.size := blk_lt (h.kept k o q)
theorem Bx.box (h : Bx w0 bs w) (cs : Array Value) (t : TypeId) : Bx w0 ((w.heap.size, (.cells cs t (0, 0) : Obj)) :: bs) (w.alloc (.cells cs t : Obj)) := by
  have h2 := h.below (below_alloc w (.cells cs t))
  refine ⟨h2.low, fun k o q => ?_⟩
  rcases List.mem_cons.1 q with e | e
  · injection e with e1 e2
    subst e1 e2
    exact heap_alloc_new w _
  · exact h2.kept k o e
/-- One block is turned. -/
theorem Bx.turn (h : Bx w0 bs w) {B : Nat} (hB : w0.heap.size ≤ B) (C : Chg (fun k => k = B) w w') {ob : Obj} (ho : w'.heap[B]? = some ob) {bs' : List (Nat × Obj)} (hs : ∀ z, z ∈ bs' → z = (B, ob) ∨ (z ∈ bs ∧ z.1 ≠ B)) : Bx w0 bs' w' := by
  refine ⟨h.low.trans (C.below (fun k e => by rw [e]; exact hB) h.low.size), fun k o q => ?_⟩
  rcases hs _ q with e | ⟨e, hne⟩
  · injection e with e1 e2
    subst e1 e2
    exact ho
  · exact (C.block k (h.klt e) hne).trans (h.kept k o e)
theorem Bx.set1 (h : Bx w0 bs w) {B : Nat} {x : Value} {T : TypeId} (hm : (B, (.cells #[x] T (0, 0) : Obj)) ∈ bs) (hB : w0.heap.size ≤ B) (y : Value) {bs' : List (Nat × Obj)} (hs : ∀ z, z ∈ bs' → z = (B, (.cells #[y] T (0, 0) : Obj)) ∨ (z ∈ bs ∧ z.1 ≠ B)) : Bx w0 bs' (w.setCell ⟨B, 0, none⟩ y) :=
  h.turn hB (Chg.setC w B 0 y) (by have := heap_setCell_same w B 0 _ _ y (h.kept _ _ hm); simpa using this) hs
theorem Bx.set4 (h : Bx w0 bs w) {B : Nat} {x y z q : Value} {T : TypeId} (hm : (B, (.cells #[x, y, z, q] T (0, 0) : Obj)) ∈ bs) (hB : w0.heap.size ≤ B) (a b c d : Value) {bs' : List (Nat × Obj)} (hs : ∀ u, u ∈ bs' → u = (B, (.cells #[a, b, c, d] T (0, 0) : Obj)) ∨ (u ∈ bs ∧ u.1 ≠ B)) :
    Bx w0 bs' ((((w.setCell ⟨B, 0, none⟩ a).setCell ⟨B, 1, none⟩ b).setCell ⟨B, 2, none⟩ c).setCell ⟨B, 3, none⟩ d) :=
  h.turn hB (four_chg w B a b c d) (four_set (h.kept _ _ hm)) hs
/-- A row in new memory: its block is one of those that stay. -/
theorem Bx.row {t : TypeId} {v : Value} {es : List En} {W : World} (h : Bx w0 bs w) (hb : Below w.heap.size w W) (hn : NewE t w.heap.size v es W) :
    ∃ (rs : List (Nat × Obj)) (a : Option Addr) (cap : Nat), v = .slice a es.length cap ∧ Bx w0 (rs ++ bs) W ∧ (∀ u : World, (∀ k o, (k, o) ∈ rs → u.heap[k]? = some o) → RowE u a cap es) ∧ ∀ k o, (k, o) ∈ rs → w.heap.size ≤ k := by
  have h2 := h.below hb
  rcases hn with ⟨h1, h3⟩ | ⟨g, off, cap, cur, hv, hg, hh, h4, h5, h6⟩
  · subst h3
    exact ⟨[], none, 0, h1, by simpa using h2, fun u _ => RowE.none u, fun k o q => by simp at q⟩
  · refine ⟨[(g, .cells cur t (0, 0))], some ⟨g, off, none⟩, cap, hv, ⟨h2.low, fun k o q => ?_⟩, fun u hu => ?_, fun k o q => ?_⟩
    · rcases List.mem_cons.1 q with e | e
      · injection e with e1 e2
        subst e1 e2
        exact hh
      · exact h2.kept k o (by simpa using e)
    · obtain ⟨a, c, e, hr⟩ := NewE.at (t := t) (base := w.heap.size) (v := .slice (some ⟨g, off, none⟩) es.length cap) (es := es) (w := u) (.inr ⟨g, off, cap, cur, rfl, hg, hu g _ (by simp), h4, h5, h6⟩)
      injection e with e1 e2 e3
      subst e1 e3
      exact hr
    · have e := List.mem_singleton.1 q
      injection e with e1 _
      omega
/-- A row of numbers in new memory. -/
theorem Bx.ints {v : Value} {xs : List Int} {W : World} (h : Bx w0 bs w) (hb : Below w.heap.size w W) (hn : Own 3 .i64 w.heap.size v xs W) :
    ∃ (rs : List (Nat × Obj)) (a : Option Addr) (cap : Nat), v = .slice a xs.length cap ∧ Bx w0 (rs ++ bs) W ∧ (∀ u : World, (∀ k o, (k, o) ∈ rs → u.heap[k]? = some o) → RowAt .i64 u a cap xs) ∧ ∀ k o, (k, o) ∈ rs → w.heap.size ≤ k := by
  have h2 := h.below hb
  have hn' : W.ownsRow w.heap.size 3 1 v xs.length (valsR .i64 xs) := hn
  rcases hn'.2 with ⟨hv, h3⟩ | ⟨g, cap, cur, hv, hg, hh, h4, h5, h6, h7⟩
  · have e : xs = [] := List.eq_nil_of_length_eq_zero h3
    subst e
    exact ⟨[], none, 0, hv, by simpa using h2, fun u _ => RowAt.none _ u, fun k o q => by simp at q⟩
  · refine ⟨[(g, .cells cur 3 (0, 0))], some ⟨g, 0, none⟩, cap, hv, ⟨h2.low, fun k o q => ?_⟩, fun u hu => ?_, fun k o q => ?_⟩
    · rcases List.mem_cons.1 q with e | e
      · injection e with e1 e2
        subst e1 e2
        exact hh
      · exact h2.kept k o (by simpa using e)
    · have hu1 := hu g _ (List.mem_singleton.2 rfl)
      have ho : Own 3 .i64 w.heap.size (.slice (some ⟨g, 0, none⟩) xs.length cap) xs u := ⟨hn'.1, .inr ⟨g, cap, cur, rfl, hg, hu1, h4, h5, h6, h7⟩⟩
      exact ho.rowAt.2
    · have e := List.mem_singleton.1 q
      injection e with e1 _
      omega
end
/-! The same, over blocks that stay: what is answered as an equation. -/
section
variable {w0 w : World} {bs : List (Nat × Obj)} {a : Option Addr} {n cap m : Nat} {fs gs : List En} {ep key nx bt gp gk gn gb K : Int} {is : Bool}
theorem Bx.pput (h : Bx w0 bs w) (hn : n = fs.length) (hr : RowE w a cap fs) (hok : OkE fs) (hp : putE fs ⟨ep, key, nx, bt⟩ = (gs, ⟨gp, gk, gn, gb⟩, is)) (hm : gs.length = m) :
    Calls Try.prog 10 #[.agg #[.slice a n cap], .agg #[.int .i64 ep, .int .i64 key, .int .u64 nx, .int .u64 bt]] w fun e w' => ∃ (rs : List (Nat × Obj)) (a' : Option Addr) (c' : Nat), e = .returned (.tuple #[.agg #[.slice a' m c'], .agg #[.int .i64 gp, .int .i64 gk, .int .u64 gn, .int .u64 gb], .bool is]) ∧ Bx w0 (rs ++ bs) w' ∧ (∀ u : World, (∀ k o, (k, o) ∈ rs → u.heap[k]? = some o) → RowE u a' c' gs) ∧ (∀ k o, (k, o) ∈ rs → w.heap.size ≤ k) ∧ w.heap.size ≤ w'.heap.size := by
  refine (pput_e a n cap fs ep key nx bt w hn hr hok).mono ?_
  rintro e w' ⟨v, he, hN, hb⟩
  rw [hp] at he hN
  obtain ⟨rs, a', c', hv, h1, h2, h3⟩ := h.row hb hN
  refine ⟨rs, a', c', ?_, h1, h2, h3, hb.size⟩
  rw [he, hv, hm]
  rfl
theorem Bx.rput (h : Bx w0 bs w) (hn : n = fs.length) (hr : RowE w a cap fs) (hm0 : n ≤ 1000) (hp : putE fs ⟨ep, key, nx, bt⟩ = (gs, ⟨gp, gk, gn, gb⟩, is)) (hm : gs.length = m) :
    Calls Try.prog 11 #[.slice a n cap, .agg #[.int .i64 ep, .int .i64 key, .int .u64 nx, .int .u64 bt]] w fun e w' => ∃ (rs : List (Nat × Obj)) (a' : Option Addr) (c' : Nat), e = .returned (.tuple #[.slice a' m c', .agg #[.int .i64 gp, .int .i64 gk, .int .u64 gn, .int .u64 gb], .bool is]) ∧ Bx w0 (rs ++ bs) w' ∧ (∀ u : World, (∀ k o, (k, o) ∈ rs → u.heap[k]? = some o) → RowE u a' c' gs) ∧ (∀ k o, (k, o) ∈ rs → w.heap.size ≤ k) ∧ w.heap.size ≤ w'.heap.size := by
  refine (rput_e a n cap fs ep key nx bt w hn hr hm0).mono ?_
  rintro e w' ⟨v, he, hN, hb⟩
  rw [hp] at he hN
  obtain ⟨rs, a', c', hv, h1, h2, h3⟩ := h.row hb hN
  refine ⟨rs, a', c', ?_, h1, h2, h3, hb.size⟩
  rw [he, hv, hm]
  rfl
theorem Bx.pdrop (h : Bx w0 bs w) (hn : n = fs.length) (hr : RowE w a cap fs) (hok : OkE fs) (hp : dropE fs K = gs) (hm : gs.length = m) :
    Calls Try.prog 8 #[.agg #[.slice a n cap], .int .i64 K] w fun e w' => ∃ (rs : List (Nat × Obj)) (a' : Option Addr) (c' : Nat), e = .returned (.agg #[.slice a' m c']) ∧ Bx w0 (rs ++ bs) w' ∧ (∀ u : World, (∀ k o, (k, o) ∈ rs → u.heap[k]? = some o) → RowE u a' c' gs) ∧ (∀ k o, (k, o) ∈ rs → w.heap.size ≤ k) ∧ w.heap.size ≤ w'.heap.size := by
  refine (pdrop_e a n cap fs K w hn hr hok).mono ?_
  rintro e w' ⟨v, he, hO, hb⟩
  have hN := hO.newE
  rw [hp] at hN
  obtain ⟨rs, a', c', hv, h1, h2, h3⟩ := h.row hb hN
  refine ⟨rs, a', c', ?_, h1, h2, h3, hb.size⟩
  rw [he, hv, hm]
theorem Bx.rdrop (h : Bx w0 bs w) (hn : n = fs.length) (hr : RowE w a cap fs) (hm0 : n ≤ 1000) (hp : dropE fs K = gs) (hm : gs.length = m) :
    Calls Try.prog 9 #[.slice a n cap, .int .i64 K] w fun e w' => ∃ (rs : List (Nat × Obj)) (a' : Option Addr) (c' : Nat), e = .returned (.slice a' m c') ∧ Bx w0 (rs ++ bs) w' ∧ (∀ u : World, (∀ k o, (k, o) ∈ rs → u.heap[k]? = some o) → RowE u a' c' gs) ∧ (∀ k o, (k, o) ∈ rs → w.heap.size ≤ k) ∧ w.heap.size ≤ w'.heap.size := by
  refine (rdrop_e a n cap fs K w hn hr hm0).mono ?_
  rintro e w' ⟨v, he, hO, hb, _⟩
  have hN := hO.newE
  rw [hp] at hN
  obtain ⟨rs, a', c', hv, h1, h2, h3⟩ := h.row hb hN
  refine ⟨rs, a', c', ?_, h1, h2, h3, hb.size⟩
  rw [he, hv, hm]
theorem Bx.pget (h : Bx w0 bs w) (hn : n = fs.length) (hr : RowE w a cap fs) (hok : OkE fs) (hp : getE fs K = (⟨gp, gk, gn, gb⟩, is)) :
    Calls Try.prog 13 #[.agg #[.slice a n cap], .int .i64 K] w fun e w' => e = .returned (.tuple #[.agg #[.int .i64 gp, .int .i64 gk, .int .u64 gn, .int .u64 gb], .bool is]) ∧ Bx w0 bs w' ∧ w.heap.size ≤ w'.heap.size := by
  refine (pget_e a n cap fs K w hn hr hok).mono ?_
  rintro e w' ⟨he, hb⟩
  rw [hp] at he
  exact ⟨he, h.below hb, hb.size⟩
theorem Bx.rget (h : Bx w0 bs w) (hn : n = fs.length) (hr : RowE w a cap fs) (hm0 : n ≤ 1000) (hp : getE fs K = (⟨gp, gk, gn, gb⟩, is)) :
    Calls Try.prog 14 #[.slice a n cap, .int .i64 K] w fun e w' => e = .returned (.tuple #[.agg #[.int .i64 gp, .int .i64 gk, .int .u64 gn, .int .u64 gb], .bool is]) ∧ Bx w0 bs w' ∧ w.heap.size ≤ w'.heap.size := by
  refine (rget_e a n cap fs K w hn hr hm0).mono ?_
  rintro e w' ⟨he, hb⟩
  rw [hp] at he
  exact ⟨he, h.below hb, hb.size⟩
theorem Bx.pkeys (h : Bx w0 bs w) (hn : n = fs.length) (hr : RowE w a cap fs) (hok : OkE fs) :
    Calls Try.prog 18 #[.agg #[.slice a n cap]] w fun e w' => ∃ (rs : List (Nat × Obj)) (a' : Option Addr) (c' : Nat), e = .returned (.slice a' n c') ∧ Bx w0 (rs ++ bs) w' ∧ (∀ u : World, (∀ k o, (k, o) ∈ rs → u.heap[k]? = some o) → RowAt .i64 u a' c' (keysE fs)) ∧ (∀ k o, (k, o) ∈ rs → w.heap.size ≤ k) ∧ w.heap.size ≤ w'.heap.size := by
  refine (pkeys_e a n cap fs w hn hr hok).mono ?_
  rintro e w' ⟨v, he, hN, hb⟩
  obtain ⟨rs, a', c', hv, h1, h2, h3⟩ := h.ints hb hN
  refine ⟨rs, a', c', ?_, h1, h2, h3, hb.size⟩
  rw [he, hv, hn]
  simp [keysE]
theorem Bx.rkeys (h : Bx w0 bs w) (hn : n = fs.length) (hr : RowE w a cap fs) (hm0 : n ≤ 1000) :
    Calls Try.prog 19 #[.slice a n cap] w fun e w' => ∃ (rs : List (Nat × Obj)) (a' : Option Addr) (c' : Nat), e = .returned (.slice a' n c') ∧ Bx w0 (rs ++ bs) w' ∧ (∀ u : World, (∀ k o, (k, o) ∈ rs → u.heap[k]? = some o) → RowAt .i64 u a' c' (keysE fs)) ∧ (∀ k o, (k, o) ∈ rs → w.heap.size ≤ k) ∧ w.heap.size ≤ w'.heap.size := by
  refine (rkeys_e a n cap fs w hn hr hm0).mono ?_
  rintro e w' ⟨v, he, hN, hb⟩
  obtain ⟨rs, a', c', hv, h1, h2, h3⟩ := h.ints hb hN
  refine ⟨rs, a', c', ?_, h1, h2, h3, hb.size⟩
  rw [he, hv, hn]
  simp [keysE]
theorem Bx.refs (h : Bx w0 bs w) (hn : n = fs.length) (hr : RowE w a cap fs) (hm0 : n ≤ 1000) :
    Calls Try.prog 16 #[.agg #[.slice a n cap]] w fun e w' => ∃ (rs : List (Nat × Obj)) (a' : Option Addr) (c' : Nat), e = .returned (.slice a' n c') ∧ Bx w0 (rs ++ bs) w' ∧ (∀ u : World, (∀ k o, (k, o) ∈ rs → u.heap[k]? = some o) → RowE u a' c' fs) ∧ (∀ k o, (k, o) ∈ rs → w.heap.size ≤ k) ∧ w.heap.size ≤ w'.heap.size := by
  refine (refs_e a n cap fs w hn hr hm0).mono ?_
  rintro e w' ⟨v, he, hN, hb⟩
  obtain ⟨rs, a', c', hv, h1, h2, h3⟩ := h.row hb hN
  refine ⟨rs, a', c', ?_, h1, h2, h3, hb.size⟩
  rw [he, hv, hn]
/-- Rows of numbers compared. -/
theorem same_i {a b : Option Addr} {ca cb n m : Nat} {ks ms : List Int} {w : World} (hn : n = ks.length) (hm : m = ms.length) (ha : RowAt .i64 w a ca ks) (hb : RowAt .i64 w b cb ms) {r : Bool} (hr : decide (ks = ms) = r) :
    Calls Try.prog 17 #[.slice a n ca, .slice b m cb] w fun e w' => e = .returned (.bool r) ∧ Below w.heap.size w w' := by
  subst hn hm hr
  refine (same_k a b ca cb ks ms w ha hb).mono ?_
  rintro e w' ⟨he, q, rfl⟩
  exact ⟨he, drewN_b _ _⟩
end
end Go.Proofs.Ytpbcndbmmphngaa
