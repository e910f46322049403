/- The program's mind in memory: its struct, the row of what can be made, the map of names, the rows of what hangs on each name, in blocks apart from one another. The program's have: names are added, each once. -/
import Derived.Test.YtlnpfeecaiecaaaKnowN
import Derived.Laws.EntriesVeiled
namespace Go.Proofs.Ytlnpfeecaiecaaa
open Go.RowKit
open Go.Maps
set_option linter.unusedVariables false
set_option linter.unusedSimpArgs false
set_option maxRecDepth 20000

structure MB where
  m : Nat
  c : Nat
  n : Nat
  h : Nat
def tagged (B : MB) (v : Value) (vs : Nat → Value) : Nat → Option Nat
  | 0 => some B.m
  | 1 => some B.c
  | 2 => some B.n
  | 3 => some B.h
  | 4 => v.ownBlock
  | i + 5 => (vs i).ownBlock
def Apart (T : Nat → Option Nat) : Prop := ∀ i j k, T i = some k → T j = some k → i = j
theorem Apart.set {T T' : Nat → Option Nat} (h : Apart T) {n : Nat} (hb : ∀ i k, T i = some k → k < n) (t : Nat) (ho : ∀ i, i ≠ t → T' i = T i) (hn : ∀ k, T' t = some k → T t = some k ∨ n ≤ k) : Apart T' := by
  intro i j k hi hj
  by_cases ei : i = t <;> by_cases ej : j = t
  · omega
  · subst ei
    rw [ho j ej] at hj
    rcases hn k hi with q | q
    · exact h _ _ _ q hj
    · have := hb j k hj; omega
  · subst ej
    rw [ho i ei] at hi
    rcases hn k hj with q | q
    · exact h _ _ _ hi q
    · have := hb i k hi; omega
  · rw [ho i ei] at hi
    rw [ho j ej] at hj
    exact h _ _ _ hi hj

def canV (N : Nat) (M : List Int) : Array Value := ((List.range (N + 1)).map fun i : Nat => Value.bool (has M (i : Int))).toArray
def hangV (N : Nat) (vs : Nat → Value) : Array Value := ((List.range (N + 1)).map vs).toArray
theorem canV_at {N : Nat} {M : List Int} {i : Nat} (hi : i ≤ N) : (canV N M)[i]? = some (.bool (has M (i : Int))) := by
  have : i < N + 1 := by omega
  simp [canV, this]
theorem hangV_at {N : Nat} {vs : Nat → Value} {i : Nat} (hi : i ≤ N) : (hangV N vs)[i]? = some (vs i) := by
  have : i < N + 1 := by omega
  simp [hangV, this]
theorem canV_size (N : Nat) (M : List Int) : (canV N M).size = N + 1 := by simp [canV]
theorem hangV_size (N : Nat) (vs : Nat → Value) : (hangV N vs).size = N + 1 := by simp [hangV]
theorem canV_set {N : Nat} {M : List Int} {x : Nat} (hx : x ≤ N) : (canV N M).setIfInBounds x (.bool true) = canV N (M ++ [(x : Int)]) := by
  apply Array.ext
  · simp [canV_size]
  · intro i h1 h2
    have hi : i ≤ N := by rw [canV_size] at h2; omega
    have e1 := canV_at (M := M) hi
    have e2 := canV_at (M := M ++ [(x : Int)]) hi
    rw [Array.getElem?_eq_getElem h2] at e2
    injection e2 with e2
    rw [e2, Array.getElem_setIfInBounds (by rw [canV_size]; omega), has_snoc]
    split
    · rename_i q; subst q; simp
    · rename_i q
      have h3 : i < (canV N M).size := by rw [canV_size]; omega
      rw [Array.getElem?_eq_getElem h3] at e1
      injection e1 with e1
      rw [e1]
      have : ¬ ((i : Int) = (x : Int)) := by omega
      simp [this]
theorem hangV_set {N : Nat} {vs : Nat → Value} {x : Nat} (hx : x ≤ N) (u : Value) : (hangV N vs).setIfInBounds x u = hangV N (fun i => if i = x then u else vs i) := by
  apply Array.ext
  · simp [hangV_size]
  · intro i h1 h2
    have hi : i ≤ N := by rw [hangV_size] at h2; omega
    have e1 := hangV_at (vs := vs) hi
    have e2 := hangV_at (vs := fun i => if i = x then u else vs i) hi
    rw [Array.getElem?_eq_getElem h2] at e2
    injection e2 with e2
    rw [e2, Array.getElem_setIfInBounds (by rw [hangV_size]; omega)]
    split
    · rename_i q; subst q; simp
    · rename_i q
      have h3 : i < (hangV N vs).size := by rw [hangV_size]; omega
      rw [Array.getElem?_eq_getElem h3] at e1
      injection e1 with e1
      rw [e1, if_neg (fun e => q e.symm)]

/-- The map reads so. -/
def NoteOk (D : DataW Unit) (nm : Tm → Int) : Prop := ∀ t kl, keyOf Try.prog 59 t.v = some kl → D.atKey kl (.lit (.int .i64 0)) = .lit (.int .i64 (nm t))
theorem NoteOk.nil : NoteOk (.map []) (fun _ => 0) := fun t kl _ => rfl
theorem NoteOk.snoc {D : DataW Unit} {nm nm' : Tm → Int} {t : Tm} {x : Int} {kl : Lit} (h : NoteOk D nm) (hm : IsMap D) (hk : keyOf Try.prog 59 t.v = some kl) (h0 : nm' t = x) (h1 : ∀ u, u ≠ t → nm' u = nm u) :
    NoteOk (D.put kl (.lit (.int .i64 x))) nm' := by
  intro u ku hu
  by_cases e : u = t
  · subst e
    rw [hk] at hu; injection hu with hu; subst hu
    rw [atKey_put_same hm (law32.key hk), h0]
  · have hne : ku ≠ kl := by
      intro hh; subst hh
      have hv := law32.inj hu hk
      apply e
      obtain ⟨K', S', N', A', B', C'⟩ := u
      obtain ⟨K, S, N, A, B, C⟩ := t
      simp only [Tm.v, Value.agg.injEq] at hv
      simpa using hv
    rw [atKey_put_other hne, h u ku hu, h1 u e]

/-- The cells of the mind's struct. -/
abbrev mindV (g N : Nat) (dh kem : Bool) (B : MB) (v : Value) : Array Value :=
  #[.pointer (some ⟨g, 0, none⟩), .bool dh, .bool kem, .nilFunc, .func (.func 60) #[] #[], .func (.func 61) #[] #[], .func (.func 60) #[] #[], .func (.func 62) #[] #[],
    .func (.func 60) #[] #[], .func (.func 63) #[] #[], .func (.func 64) #[] #[], .func (.func 60) #[] #[], .func (.func 60) #[] #[],
    .func (.func 60) #[] #[], .func (.func 60) #[] #[], .slice (some ⟨B.c, 0, none⟩) (N + 1) (N + 1), v, .map (some B.n), .slice (some ⟨B.h, 0, none⟩) (N + 1) (N + 1)]

structure Mind (w0 : World) (g : Nat) (L : List Tm) (dh kem : Bool) (B : MB) (nm : Tm → Int) (H : Nat → List Int) (vs : Nat → Value) (v : Value) (M : List Int) (w : World) : Prop where
  st : w.heap[B.m]? = some (.cells (mindV g L.length dh kem B v) 108 (0, 0))
  can : w.heap[B.c]? = some (.cells (canV L.length M) 4 (0, 0))
  row : OwnI w0.heap.size v M w
  names : ∃ n D, w.ownsMap Try.prog 59 (plainElem Try.prog 3) B.n n D ∧ n ≤ L.length ∧ NoteOk D nm
  hang : w.heap[B.h]? = some (.cells (hangV L.length vs) 41 (0, 0))
  rows : ∀ i, OwnI w0.heap.size (vs i) (H i) w
  apart : Apart (tagged B v vs)
  lo : w0.heap.size ≤ B.m ∧ w0.heap.size ≤ B.c ∧ w0.heap.size ≤ B.n ∧ w0.heap.size ≤ B.h
  below : Below w0.heap.size w0 w
  nodup : M.Nodup
  inL : ∀ x, x ∈ M → InL L x
  most : L.length ≤ 1048576

section
variable {w0 w w' : World} {g : Nat} {L : List Tm} {dh kem : Bool} {B : MB} {nm : Tm → Int} {H : Nat → List Int} {vs : Nat → Value} {v : Value} {M : List Int}
theorem Mind.at (h : Mind w0 g L dh kem B nm H vs v M w) : ∀ i k, tagged B v vs i = some k → w0.heap.size ≤ k ∧ k < w.heap.size := by
  intro i k hk
  obtain ⟨l0, l1, l2, l3⟩ := h.lo
  match i, hk with
  | 0, hk => injection hk with hk; subst hk; exact ⟨l0, blk_lt h.st⟩
  | 1, hk => injection hk with hk; subst hk; exact ⟨l1, blk_lt h.can⟩
  | 2, hk => injection hk with hk; subst hk; obtain ⟨n, D, hm, _⟩ := h.names; exact ⟨l2, hm.lt⟩
  | 3, hk => injection hk with hk; subst hk; exact ⟨l3, blk_lt h.hang⟩
  | 4, hk => exact World.ownsRow.lt h.row k hk
  | i + 5, hk => exact World.ownsRow.lt (h.rows i) k hk
theorem Mind.chg {S : Nat → Prop} (h : Mind w0 g L dh kem B nm H vs v M w) (hc : Chg S w w') (hn : ∀ i k, tagged B v vs i = some k → ¬ S k) (hb : Below w0.heap.size w0 w') : Mind w0 g L dh kem B nm H vs v M w' :=
  { h with
    st := hc.blk h.st (hn 0 _ rfl)
    can := hc.blk h.can (hn 1 _ rfl)
    row := h.row.chg hc (fun k hk => hn 4 k hk)
    names := by
      obtain ⟨n, D, hm, q⟩ := h.names
      exact ⟨n, D, hc.own hm (hn 2 _ rfl), q⟩
    hang := hc.blk h.hang (hn 3 _ rfl)
    rows := fun i => (h.rows i).chg hc (fun k hk => hn (i + 5) k hk)
    below := hb }
theorem Mind.next (h : Mind w0 g L dh kem B nm H vs v M w) (hb : Below w.heap.size w w') : Mind w0 g L dh kem B nm H vs v M w' :=
  h.chg (S := fun _ => False) (.of_below hb) (fun _ _ _ q => q) (h.below.trans (hb.mono h.below.size))
theorem Mind.len (h : Mind w0 g L dh kem B nm H vs v M w) : M.length ≤ L.length := nodup_le h.nodup h.inL
theorem Chg.after {S S' : Nat → Prop} {a b c : World} (h : Chg S a b) (k : Chg S' b c) (hs : ∀ j, j < a.heap.size → S' j → S j) : Chg S a c :=
  ⟨k.os.trans h.os, k.tape.trans h.tape, k.output.trans h.output, Nat.le_trans h.size k.size, fun j hj hn => (k.block j (Nat.lt_of_lt_of_le hj h.size) (fun q => hn (hs j hj q))).trans (h.block j hj hn)⟩
/-- What is turned where a name is added. -/
def SM (B : MB) (v : Value) : Nat → Prop := fun k => k = B.m ∨ k = B.c ∨ some k = v.ownBlock
theorem SM.of {v v' : Value} {k n : Nat} (h : SM B v' k) (hn : NewRow v v' n) (hk : k < n) : SM B v k := by
  rcases h with q | q | q
  · exact .inl q
  · exact .inr (.inl q)
  · rcases hn with r | ⟨j, r, hj⟩
    · exact .inr (.inr (by rw [← r]; exact q))
    · rw [r] at q; injection q with q; omega
theorem NewRow.trans {a b c : Value} {n m : Nat} (h : NewRow a b n) (k : NewRow b c m) (hl : n ≤ m) : NewRow a c n := by
  rcases k with q | ⟨j, q, hj⟩
  · rcases h with r | ⟨i, r, hi⟩
    · exact .inl (by rw [q, r])
    · exact .inr ⟨i, by rw [q, r], hi⟩
  · exact .inr ⟨j, q, by omega⟩
theorem NewRow.refl (v : Value) (n : Nat) : NewRow v v n := .inl rfl
theorem Mind.swap (h : Mind w0 g L dh kem B nm H vs v M w) {v' : Value} (hn : NewRow v v' w.heap.size) : Apart (tagged B v' vs) := by
  refine h.apart.set (T' := tagged B v' vs) (fun i k hk => (h.at i k hk).2) 4 (fun i hi => ?_) (fun k hk => ?_)
  · match i, hi with
    | 0, _ => rfl
    | 1, _ => rfl
    | 2, _ => rfl
    | 3, _ => rfl
    | 4, hi => exact absurd rfl hi
    | i + 5, _ => rfl
  · rcases hn with q | ⟨j, q, hj⟩
    · exact .inl (by show v.ownBlock = _; rw [← q]; exact hk)
    · have : v'.ownBlock = some k := hk
      rw [q] at this; injection this with this
      exact .inr (by omega)
/-- A name is added: noted as made, and behind the others. -/
theorem Mind.add (h : Mind w0 g L dh kem B nm H vs v M w) {x : Nat} (hx : InL L (x : Int)) (hnew : has M (x : Int) = false) {w3 : World} {g2 cap3 : Nat}
    (hown : w3.ownsRow w0.heap.size 3 1 (.slice (some ⟨g2, 0, none⟩) (M.length + 1) cap3) (M.length + 1) (intsR M ++ [.int .i64 (x : Int)]))
    (hgrow : ((w.setCell ⟨B.c, x, none⟩ (.bool true)).alloc (.cells #[.int .i64 (x : Int)] 3)).grownBy w3 v.ownBlock) (hat : v.ownBlock = some g2 ∨ g2 = w.heap.size + 1) :
    Mind w0 g L dh kem B nm H vs (.slice (some ⟨g2, 0, none⟩) (M.length + 1) cap3) (M ++ [(x : Int)]) (w3.setCell ⟨B.m, 16, none⟩ (.slice (some ⟨g2, 0, none⟩) (M.length + 1) cap3)) ∧
    Chg (SM B v) w (w3.setCell ⟨B.m, 16, none⟩ (.slice (some ⟨g2, 0, none⟩) (M.length + 1) cap3)) ∧ NewRow v (.slice (some ⟨g2, 0, none⟩) (M.length + 1) cap3) w.heap.size := by
  obtain ⟨v', hv'⟩ : ∃ v', v' = Value.slice (some ⟨g2, 0, none⟩) (M.length + 1) cap3 := ⟨_, rfl⟩
  have hv2 : v'.ownBlock = some g2 := by rw [hv']; rfl
  have hown' := OwnI.app hown
  rw [← hv'] at hown' ⊢
  have hN : NewRow v v' w.heap.size := by
    rcases hat with q | q
    · exact .inl (by rw [hv2, q])
    · exact .inr ⟨g2, hv2, by omega⟩
  have C0 : Chg (fun k => k = B.c) w (w.setCell ⟨B.c, x, none⟩ (.bool true)) := Chg.setCell w B.c x _
  have C1 : Chg (fun k => some k = v.ownBlock) (w.setCell ⟨B.c, x, none⟩ (.bool true)) w3 := (Chg.alloc _ _ _).trans (Chg.grown hgrow)
  have C2 : Chg (fun k => k = B.m) w3 (w3.setCell ⟨B.m, 16, none⟩ v') := Chg.setCell w3 B.m 16 _
  have C01 : Chg (fun k => k = B.c ∨ some k = v.ownBlock) w w3 := (C0.mono fun k _ q => .inl q).trans (C1.mono fun k _ q => .inr q)
  have C : Chg (SM B v) w (w3.setCell ⟨B.m, 16, none⟩ v') := (C01.mono fun k _ q => .inr q).trans (C2.mono fun k _ q => .inl q)
  have T := h.apart
  have ne : ∀ i j k, tagged B v vs i = some k → tagged B v vs j = some k → i = j := T
  have mv : v.ownBlock ≠ some B.m := fun e => by have := ne 4 0 B.m e rfl; omega
  have cv : v.ownBlock ≠ some B.c := fun e => by have := ne 4 1 B.c e rfl; omega
  have mc : B.m ≠ B.c := fun e => by have := ne 0 1 B.m rfl (by show some B.c = _; rw [e]); omega
  have far : ∀ i k, (i = 2 ∨ i = 3 ∨ 5 ≤ i) → tagged B v vs i = some k → ¬ SM B v k := by
    rintro i k hi hk (e | e | e)
    · have := ne i 0 k hk (by rw [e]; rfl); omega
    · have := ne i 1 k hk (by rw [e]; rfl); omega
    · have := ne i 4 k hk e.symm; omega
  have g2m : g2 ≠ B.m := by
    rcases hat with q | q
    · intro e; exact mv (by rw [q, e])
    · have := (h.at 0 B.m rfl).2; omega
  refine ⟨?_, C, hN⟩
  exact {
    st := by
      have hb : w3.heap[B.m]? = some (.cells (mindV g L.length dh kem B v) 108 (0, 0)) := C01.blk h.st (by
        rintro (e | e)
        · exact mc e
        · exact mv e.symm)
      have := heap_setCell_same w3 B.m 16 _ _ v' hb
      simpa using this
    can := by
      have h1 := heap_setCell_same w B.c x _ _ (.bool true) h.can
      rw [canV_set (by have := hx.2; omega)] at h1
      exact C2.blk (C1.blk h1 (fun e => cv e.symm)) (fun e => mc e.symm)
    row := OwnI.chg hown' C2 (fun k hk e => g2m (by rw [hv2] at hk; injection hk with hk; omega))
    names := by
      obtain ⟨n, D, hm, q⟩ := h.names
      exact ⟨n, D, C.own hm (far 2 B.n (.inl rfl) rfl), q⟩
    hang := C.blk h.hang (far 3 B.h (.inr (.inl rfl)) rfl)
    rows := fun i => (h.rows i).chg C (fun k hk => far (i + 5) k (by omega) hk)
    apart := h.swap hN
    lo := h.lo
    below := h.below.trans (C.below (fun k hk => by
      rcases hk with e | e | e
      · rw [e]; exact h.lo.1
      · rw [e]; exact h.lo.2.1
      · exact (World.ownsRow.lt h.row k e.symm).1) h.below.size)
    nodup := nodup_snoc h.nodup hnew
    inL := fun y hy => by
      rcases List.mem_append.1 hy with q | q
      · exact h.inL y q
      · rw [List.mem_singleton.1 q]; exact hx
    most := h.most }
/-- The cells that are read. -/
theorem Mind.cells (h : Mind w0 g L dh kem B nm H vs v M w) : w.cell? ⟨B.m, 0, none⟩ = some (.pointer (some ⟨g, 0, none⟩)) ∧ w.cell? ⟨B.m, 15, none⟩ = some (.slice (some ⟨B.c, 0, none⟩) (L.length + 1) (L.length + 1)) ∧ w.cell? ⟨B.m, 16, none⟩ = some v ∧
    w.cell? ⟨B.m, 17, none⟩ = some (.map (some B.n)) ∧ w.cell? ⟨B.m, 18, none⟩ = some (.slice (some ⟨B.h, 0, none⟩) (L.length + 1) (L.length + 1)) ∧ w.cell? ⟨B.m, 1, none⟩ = some (.bool dh) ∧ w.cell? ⟨B.m, 2, none⟩ = some (.bool kem) := by
  refine ⟨?_, ?_, ?_, ?_, ?_, ?_, ?_⟩ <;> rw [cell_of_row w B.m _ _ _ _ h.st] <;> rfl
theorem Mind.canAt (h : Mind w0 g L dh kem B nm H vs v M w) {i : Nat} (hi : i ≤ L.length) : w.cell? ⟨B.c, i, none⟩ = some (.bool (has M (i : Int))) := by rw [cell_of_row w B.c _ _ _ _ h.can]; exact canV_at hi
theorem Mind.hangAt (h : Mind w0 g L dh kem B nm H vs v M w) {i : Nat} (hi : i ≤ L.length) : w.cell? ⟨B.h, i, none⟩ = some (vs i) := by rw [cell_of_row w B.h _ _ _ _ h.hang]; exact hangV_at hi
theorem Mind.free (h : Mind w0 g L dh kem B nm H vs v M w) (i : Nat) : w.frozen? ⟨B.m, i, none⟩ = false ∧ w.frozen? ⟨B.c, i, none⟩ = false ∧ w.frozen? ⟨B.h, i, none⟩ = false :=
  ⟨frozen_of_row w B.m i _ _ h.st, frozen_of_row w B.c i _ _ h.can, frozen_of_row w B.h i _ _ h.hang⟩
end
end Go.Proofs.Ytlnpfeecaiecaaa

namespace Go.Proofs.Ytlnpfeecaiecaaa
open Go.RowKit
set_option linter.unusedVariables false
set_option linter.unusedSimpArgs false
set_option maxRecDepth 20000

/-- What comes of a mind to which names were added. -/
def Had (w0 : World) (g : Nat) (L : List Tm) (dh kem : Bool) (B : MB) (nm : Tm → Int) (H : Nat → List Int) (vs : Nat → Value) (v : Value) (M' : List Int) (W : World) (e : Ending) (W' : World) : Prop :=
  ∃ v', e = .returned (.tuple #[]) ∧ Mind w0 g L dh kem B nm H vs v' M' W' ∧ Chg (SM B v) W W' ∧ NewRow v v' W.heap.size

set_option maxHeartbeats 4000000 in
set_option maxRecDepth 100000 in
theorem have_any {w0 W : World} {g : Nat} {L : List Tm} {dh kem : Bool} {B : MB} {nm : Tm → Int} {H : Nat → List Int} {vs : Nat → Value} {v : Value} {M : List Int} (h : Mind w0 g L dh kem B nm H vs v M W) (a : Option Addr) (cap : Nat) (ks : List Int)
    (hI : ∀ W', Chg (SM B v) W W' → IntsAt W' a cap ks) (hin : ∀ x, x ∈ ks → InL L x) :
    Calls Try.prog 38 #[.pointer (some ⟨B.m, 0, none⟩), .slice a ks.length cap] W (Had w0 g L dh kem B nm H vs v (addAll M ks) W) := by
  have hlen := (hI W ⟨rfl, rfl, rfl, Nat.le_refl _, fun _ _ _ => rfl⟩).len
  have hmost := h.most
  have HI := Lib.hid hI
  have HIN := Lib.hid hin
  have HM := Lib.hid h
  obtain ⟨n, hn⟩ : ∃ n, n = ks.length := ⟨_, rfl⟩
  rw [← hn] at hlen ⊢
  have HN := Lib.hid hn
  obtain ⟨i0, hi0, hz0, hz1, hz2⟩ := info_parts info3
  clear h hI hin hn
  go_enter Try.func38, Try.ntmps38
  go_wp2
  go_loopw [5, 8] (fun _ i wr => ∃ (k : Nat) (v' : Value), k ≤ n ∧ i = .int .i64 k ∧ Hid (Mind w0 g L dh kem B nm H vs v' (addAll M (ks.take k)) wr) ∧ Hid (Chg (SM B v) W wr) ∧ Hid (NewRow v v' W.heap.size)) (fun _ i _ => n - (intOf i).toNat)
  case atStart => exact ⟨0, v, Nat.zero_le _, rfl, HM, Lib.hid ⟨rfl, rfl, rfl, Nat.le_refl _, fun _ _ _ => rfl⟩, Lib.hid (NewRow.refl _ _)⟩
  case round =>
    clear HM
    obtain ⟨k, v', hk, rfl, HM, HC, HR⟩ := hrel
    by_cases hlt : k < n
    · obtain ⟨_, _, b, off, hc⟩ := HI.out wr HC.out
      obtain ⟨rfl, q0⟩ := hc k (by rw [← HN.out]; exact hlt)
      have hyin := HIN.out _ (getD_mem (ks := ks) (by rw [← HN.out]; exact hlt))
      obtain ⟨j, hj⟩ : ∃ j : Nat, ks.getD k 0 = (j : Int) := ⟨(ks.getD k 0).toNat, by unfold InL at hyin; omega⟩
      rw [hj] at q0 hyin
      have HAl : Hid (addAll M (ks.take (k + 1)) = addM (addAll M (ks.take k)) (j : Int)) := Lib.hid (by rw [addAll_take (by rw [← HN.out]; exact hlt), hj])
      obtain ⟨M', hM'⟩ : ∃ M', M' = addAll M (ks.take k) := ⟨_, rfl⟩
      rw [← hM'] at HM HAl
      have hjL : j ≤ L.length := by unfold InL at hyin; omega
      have hjl : (j : Int) < (L.length : Int) + 1 := by omega
      obtain ⟨al, cl, rfl, hal⟩ := HM.out.row.at
      obtain ⟨_, c15, c16, _⟩ := HM.out.cells
      have cc := HM.out.canAt hjL
      have Hlt := Lib.hid hlt
      have hlt1 : (k : Int) < n := by omega
      have HY := Lib.hid hyin
      have f16 := (HM.out.free 16).1
      have fc := (HM.out.free j).2.1
      have mc : B.m ≠ B.c := fun e => by have := HM.out.apart 0 1 B.m rfl (by show some B.c = _; rw [e]); omega
      have mc' : B.c ≠ B.m := fun e => mc e.symm
      clear hc hlt hk hal hM' hj hyin
      by_cases hx : has M' (j : Int) = true
      · rw [hx] at cc
        have HX := Lib.hid hx
        clear hx
        go_wp2
        go_roundw
        case rel => exact ⟨k + 1, _, by have := Hlt.out; omega, by go_num, by rw [HAl.out, addM, if_pos HX.out]; exact HM, HC, HR⟩
        case measure => have := Hlt.out; simp [intOf]; omega
      · have hx' : has M' (j : Int) = false := by simpa using hx
        rw [hx'] at cc
        have HX := Lib.hid hx'
        clear hx hx'
        have hml : M'.length ≤ 1048576 := by have := HM.out.len; omega
        have hbs : w0.heap.size ≤ wr.heap.size := HM.out.below.size
        have HRow : Hid ((wr.setCell ⟨B.c, j, none⟩ (.bool true)).ownsRow w0.heap.size 3 1 (.slice al M'.length cl) M'.length (intsR M')) := Lib.hid (HM.out.row.chg (Chg.setCell wr B.c j _) (fun b hb e => by
          have := HM.out.apart 4 1 b hb (by show some B.c = _; rw [e])
          omega))
        have mv : (Value.slice al M'.length cl).ownBlock ≠ some B.m := fun e => by have := HM.out.apart 4 0 B.m e rfl; omega
        have MV := Lib.hid mv
        have hmb : B.m < wr.heap.size := blk_lt HM.out.st
        have HNW : Hid (((wr.setCell ⟨B.c, j, none⟩ (.bool true)).alloc (.cells #[.int .i64 (j : Int)] 3)).heap[wr.heap.size]? = some (.cells #[.int .i64 (j : Int)] 3 (0, 0))) := Lib.hid (by
          have := heap_alloc_new (wr.setCell ⟨B.c, j, none⟩ (.bool true)) (.cells #[.int .i64 (j : Int)] 3)
          rwa [show (wr.setCell ⟨B.c, j, none⟩ (.bool true)).heap.size = wr.heap.size by simp] at this)
        have b1 : M'.length + 1 ≤ maxLen := by unfold maxLen; omega
        have b2 : (M'.length + 1) * 8 ≤ 140737488355328 := by omega
        have b3 : w0.heap.size ≤ ((wr.setCell ⟨B.c, j, none⟩ (.bool true)).alloc (.cells #[.int .i64 (j : Int)] 3)).heap.size := by simp; omega
        have b4 : ((wr.setCell ⟨B.c, j, none⟩ (.bool true)).alloc (.cells #[.int .i64 (j : Int)] 3)).heap.size = wr.heap.size + 1 := by simp
        have B1 := Lib.hid b1
        have B2 := Lib.hid b2
        have B3 := Lib.hid b3
        have B4 := Lib.hid b4
        have C16 : Hid ((wr.setCell ⟨B.c, j, none⟩ (.bool true)).cell? ⟨B.m, 16, none⟩ = some (.slice al M'.length cl)) := Lib.hid (by
          rw [World.cell?_of_block (a := ⟨B.m, 16, none⟩) ((Chg.setCell wr B.c j (.bool true)).block B.m hmb mc)]; exact c16)
        have F16 : Hid ((wr.setCell ⟨B.c, j, none⟩ (.bool true)).frozen? ⟨B.m, 16, none⟩ = false) := Lib.hid (by
          rw [World.frozen?_of_block (a := ⟨B.m, 16, none⟩) ((Chg.setCell wr B.c j (.bool true)).block B.m hmb mc)]; exact f16)
        have HPM : Hid (B.m < (wr.setCell ⟨B.c, j, none⟩ (.bool true)).heap.size) := Lib.hid (by simpa using hmb)
        clear mv b1 b2 b3 b4
        go_wp2_with (at_builtin; refine wpList_append_lies _ rfl _ _ 41 rfl w0.heap.size 3 i0 (.int .i64 0) 1 8 Try.underlying41 hi0 hz0 hz1 hz2 rfl (by decide) _ _ _ rfl (HRow.out.alloc _) ⟨wr.heap.size, 0, none⟩ 1 1 [.int .i64 (j : Int)] rfl rfl (World.news_of_block (cs := #[.int .i64 (j : Int)]) (t := 3) (fr := (0, 0)) HNW.out) (by simp [Value.oneCell']) (by omega) B1.out B2.out B3.out (wr.heap.size + 1) B4.out ?_; intro g2 cap3 w3 hown2 hgrow2 hat2 hlt3; have y0 := farc HPM.out hgrow2 MV.out C16.out; have g0 := farf HPM.out hgrow2 MV.out F16.out; have P1 := Lib.hid hown2; have P2 := Lib.hid hgrow2; have P3 := Lib.hid hat2; clear hown2 hgrow2 hat2)
        have hat : (Value.slice al M'.length cl).ownBlock = some g2 ∨ g2 = wr.heap.size + 1 := P3.out
        have hadd := HM.out.add HY.out HX.out P1.out P2.out hat
        clear y0 g0 hat P1 P2 P3
        go_roundw
        case rel => exact ⟨k + 1, _, by have := Hlt.out; omega, by go_num, by rw [HAl.out, addM, if_neg (by rw [HX.out]; decide)]; exact Lib.hid hadd.1, Lib.hid (HC.out.after hadd.2.1 fun i hi q => SM.of q HR.out hi), Lib.hid (HR.out.trans hadd.2.2 HC.out.size)⟩
        case measure => have := Hlt.out; simp [intOf]; omega
    · obtain rfl : k = n := by omega
      clear hlt hk
      have hlt1 : decide ((k : Int) < k) = false := by simp
      go_wp2
      go_end0
      exact ⟨v', rfl, by have := HM.out; rw [HN.out, List.take_length] at this; exact this, HC.out, HR.out⟩
end Go.Proofs.Ytlnpfeecaiecaaa
