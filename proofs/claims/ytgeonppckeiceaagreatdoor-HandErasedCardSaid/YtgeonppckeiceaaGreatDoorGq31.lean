/- The program's mind in memory: its struct, the row of what can be made, the map of names, the rows of what hangs on each name, in blocks apart from one another. The program's have: names are added, each once. -/
/- The program's rules: of what is whole, of nothing, and what it looks up in its map. The program's rules, where a term's parts lie in a row: whole, never; and what is opened. -/
import Derived.Test.YtgeonppckeiceaaGreatDoorGq30
import Derived.Laws.EntriesVeiled
namespace Go.Proofs.YtgeonppckeiceaaGreatDoor
open Go.RowKit
open Go.Maps
set_option linter.unusedVariables false
set_option linter.unusedSimpArgs false
set_option maxRecDepth 20000
structure MB where
 m : Nat
 c : Nat
 n : Nat
 h : Nat
def tagged (B : MB) (v : Value) (vs : Nat → Value) : Nat → Option Nat
 | 0 => some B.m
 | 1 => some B.c
 | 2 => some B.n
 | 3 => some B.h
 | 4 => v.ownBlock
 | i + 5 => (vs i).ownBlock
def Apart (T : Nat → Option Nat) : Prop := ∀ i j k, T i = some k → T j = some k → i = j
theorem Apart.set {T T' : Nat → Option Nat} (h : Apart T) {n : Nat} (hb : ∀ i k, T i = some k → k < n) (t : Nat) (ho : ∀ i, i ≠ t → T' i = T i) (hn : ∀ k, T' t = some k → T t = some k ∨ n ≤ k) : Apart T' := by
 intro i j k hi hj
 by_cases ei : i = t <;> by_cases ej : j = t
 ·omega
 ·subst ei
  rw [ho j ej] at hj
  rcases hn k hi with q | q
  ·exact h _ _ _ q hj
  ·have := hb j k hj; omega
 ·subst ej
  rw [ho i ei] at hi
  rcases hn k hj with q | q
  ·exact h _ _ _ hi q
  ·have := hb i k hi; omega
 ·rw [ho i ei] at hi
  rw [ho j ej] at hj
  exact h _ _ _ hi hj
def canV (N : Nat) (M : List Int) : Array Value := ((List.range (N + 1)).map fun i : Nat => Value.bool (has M (i : Int))).toArray
def hangV (N : Nat) (vs : Nat → Value) : Array Value := ((List.range (N + 1)).map vs).toArray
theorem canV_at {N : Nat} {M : List Int} {i : Nat} (hi : i ≤ N) : (canV N M)[i]? = some (.bool (has M (i : Int))) := by
 have : i < N + 1 := by omega
 simp [canV, this]
theorem hangV_at {N : Nat} {vs : Nat → Value} {i : Nat} (hi : i ≤ N) : (hangV N vs)[i]? = some (vs i) := by
 have : i < N + 1 := by omega
 simp [hangV, this]
theorem canV_size (N : Nat) (M : List Int) : (canV N M).size = N + 1 := by simp [canV]
theorem hangV_size (N : Nat) (vs : Nat → Value) : (hangV N vs).size = N + 1 := by simp [hangV]
theorem canV_set {N : Nat} {M : List Int} {x : Nat} (hx : x ≤ N) : (canV N M).setIfInBounds x (.bool true) = canV N (M ++ [(x : Int)]) := by
 apply Array.ext
 ·simp [canV_size]
 ·intro i h1 h2
  have hi : i ≤ N := by rw [canV_size] at h2; omega
  have e1 := canV_at (M := M) hi
  have e2 := canV_at (M := M ++ [(x : Int)]) hi
  rw [Array.getElem?_eq_getElem h2] at e2
  injection e2 with e2
  rw [e2, Array.getElem_setIfInBounds (by rw [canV_size]; omega), has_snoc]
  split
  ·rename_i q; subst q; simp
  ·rename_i q
   have h3 : i < (canV N M).size := by rw [canV_size]; omega
   rw [Array.getElem?_eq_getElem h3] at e1
   injection e1 with e1
   rw [e1]
   have : ¬ ((i : Int) = (x : Int)) := by omega
   simp [this]
theorem hangV_set {N : Nat} {vs : Nat → Value} {x : Nat} (hx : x ≤ N) (u : Value) : (hangV N vs).setIfInBounds x u = hangV N (fun i => if i = x then u else vs i) := by
 apply Array.ext
 ·simp [hangV_size]
 ·intro i h1 h2
  have hi : i ≤ N := by rw [hangV_size] at h2; omega
  have e1 := hangV_at (vs := vs) hi
  have e2 := hangV_at (vs := fun i => if i = x then u else vs i) hi
  rw [Array.getElem?_eq_getElem h2] at e2
  injection e2 with e2
  rw [e2, Array.getElem_setIfInBounds (by rw [hangV_size]; omega)]
  split
  ·rename_i q; subst q; simp
  ·rename_i q
   have h3 : i < (hangV N vs).size := by rw [hangV_size]; omega
   rw [Array.getElem?_eq_getElem h3] at e1
   injection e1 with e1
   rw [e1, if_neg (fun e => q e.symm)]
def NoteOk (D : DataW Unit) (nm : Tm → Int) : Prop := ∀ t kl, keyOf Tryz.prog 116 t.v = some kl → D.atKey kl (.lit (.int .i64 0)) = .lit (.int .i64 (nm t))
theorem NoteOk.nil : NoteOk (.map []) (fun _ => 0) := fun t kl _ => rfl
theorem NoteOk.snoc {D : DataW Unit} {nm nm' : Tm → Int} {t : Tm} {x : Int} {kl : Lit} (h : NoteOk D nm) (hm : IsMap D) (hk : keyOf Tryz.prog 116 t.v = some kl) (h0 : nm' t = x) (h1 : ∀ u, u ≠ t → nm' u = nm u) :
  NoteOk (D.put kl (.lit (.int .i64 x))) nm' := by
 intro u ku hu
 by_cases e : u = t
 ·subst e
  rw [hk] at hu; injection hu with hu; subst hu
  rw [atKey_put_same hm (law32.key hk), h0]
 ·have hne : ku ≠ kl := by
   intro hh; subst hh
   have hv := law32.inj hu hk
   apply e
   obtain ⟨K', S', N', A', B', C'⟩ := u
   obtain ⟨K, S, N, A, B, C⟩ := t
   simp only [Tm.v, Value.agg.injEq] at hv
   simpa using hv
  rw [atKey_put_other hne, h u ku hu, h1 u e]
abbrev mindV (g N : Nat) (dh kem : Bool) (B : MB) (v : Value) : Array Value :=
 #[.pointer (some ⟨g, 0, none⟩), .bool dh, .bool kem, .nilFunc, .func (.func 188) #[] #[], .func (.func 189) #[] #[], .func (.func 188) #[] #[], .func (.func 190) #[] #[],
  .func (.func 188) #[] #[], .func (.func 191) #[] #[], .func (.func 192) #[] #[], .func (.func 188) #[] #[], .func (.func 188) #[] #[],
  .func (.func 188) #[] #[], .func (.func 188) #[] #[], .slice (some ⟨B.c, 0, none⟩) (N + 1) (N + 1), v, .map (some B.n), .slice (some ⟨B.h, 0, none⟩) (N + 1) (N + 1)]
structure Mind (w0 : World) (g : Nat) (L : List Tm) (dh kem : Bool) (B : MB) (nm : Tm → Int) (H : Nat → List Int) (vs : Nat → Value) (v : Value) (M : List Int) (w : World) : Prop where
 st : w.heap[B.m]? = some (.cells (mindV g L.length dh kem B v) 188 (0, 0))
 can : w.heap[B.c]? = some (.cells (canV L.length M) 4 (0, 0))
 row : OwnI w0.heap.size v M w
 names : ∃ n D, w.ownsMap Tryz.prog 116 (plainElem Tryz.prog 3) B.n n D ∧ n ≤ L.length ∧ NoteOk D nm
 hang : w.heap[B.h]? = some (.cells (hangV L.length vs) 94 (0, 0))
 rows : ∀ i, OwnI w0.heap.size (vs i) (H i) w
 apart : Apart (tagged B v vs)
 lo : w0.heap.size ≤ B.m ∧ w0.heap.size ≤ B.c ∧ w0.heap.size ≤ B.n ∧ w0.heap.size ≤ B.h
 below : Below w0.heap.size w0 w
 nodup : M.Nodup
 inL : ∀ x, x ∈ M → InL L x
 most : L.length ≤ 1048576
section
variable {w0 w w' : World} {g : Nat} {L : List Tm} {dh kem : Bool} {B : MB} {nm : Tm → Int} {H : Nat → List Int} {vs : Nat → Value} {v : Value} {M : List Int}
theorem Mind.at (h : Mind w0 g L dh kem B nm H vs v M w) : ∀ i k, tagged B v vs i = some k → w0.heap.size ≤ k ∧ k < w.heap.size := by
 intro i k hk
 obtain ⟨l0, l1, l2, l3⟩ := h.lo
 match i, hk with
 | 0, hk => injection hk with hk; subst hk; exact ⟨l0, blk_lt h.st⟩
 | 1, hk => injection hk with hk; subst hk; exact ⟨l1, blk_lt h.can⟩
 | 2, hk => injection hk with hk; subst hk; obtain ⟨n, D, hm, _⟩ := h.names; exact ⟨l2, hm.lt⟩
 | 3, hk => injection hk with hk; subst hk; exact ⟨l3, blk_lt h.hang⟩
 | 4, hk => exact World.ownsRow.lt h.row k hk
 | i + 5, hk => exact World.ownsRow.lt (h.rows i) k hk
theorem Mind.chg {S : Nat → Prop} (h : Mind w0 g L dh kem B nm H vs v M w) (hc : Chg S w w') (hn : ∀ i k, tagged B v vs i = some k → ¬ S k) (hb : Below w0.heap.size w0 w') : Mind w0 g L dh kem B nm H vs v M w' :=
 { h with
  st := hc.blk h.st (hn 0 _ rfl)
  can := hc.blk h.can (hn 1 _ rfl)
  row := h.row.chg hc (fun k hk => hn 4 k hk)
  names := by
   obtain ⟨n, D, hm, q⟩ := h.names
   exact ⟨n, D, hc.own hm (hn 2 _ rfl), q⟩
  hang := hc.blk h.hang (hn 3 _ rfl)
  rows := fun i => (h.rows i).chg hc (fun k hk => hn (i + 5) k hk)
  below := hb }
theorem Mind.next (h : Mind w0 g L dh kem B nm H vs v M w) (hb : Below w.heap.size w w') : Mind w0 g L dh kem B nm H vs v M w' :=
 h.chg (S := fun _ => False) (.of_below hb) (fun _ _ _ q => q) (h.below.trans (hb.mono h.below.size))
theorem Mind.len (h : Mind w0 g L dh kem B nm H vs v M w) : M.length ≤ L.length := nodup_le h.nodup h.inL
theorem Chg.after {S S' : Nat → Prop} {a b c : World} (h : Chg S a b) (k : Chg S' b c) (hs : ∀ j, j < a.heap.size → S' j → S j) : Chg S a c :=
 ⟨k.os.trans h.os, k.tape.trans h.tape, k.output.trans h.output, Nat.le_trans h.size k.size, fun j hj hn => (k.block j (Nat.lt_of_lt_of_le hj h.size) (fun q => hn (hs j hj q))).trans (h.block j hj hn)⟩
def SM (B : MB) (v : Value) : Nat → Prop := fun k => k = B.m ∨ k = B.c ∨ some k = v.ownBlock
theorem SM.of {v v' : Value} {k n : Nat} (h : SM B v' k) (hn : NewRow v v' n) (hk : k < n) : SM B v k := by
 rcases h with q | q | q
 ·exact .inl q
 ·exact .inr (.inl q)
 ·rcases hn with r | ⟨j, r, hj⟩
  ·exact .inr (.inr (by rw [← r]; exact q))
  ·rw [r] at q; injection q with q; omega
theorem NewRow.trans {a b c : Value} {n m : Nat} (h : NewRow a b n) (k : NewRow b c m) (hl : n ≤ m) : NewRow a c n := by
 rcases k with q | ⟨j, q, hj⟩
 ·rcases h with r | ⟨i, r, hi⟩
  ·exact .inl (by rw [q, r])
  ·exact .inr ⟨i, by rw [q, r], hi⟩
 ·exact .inr ⟨j, q, by omega⟩
theorem NewRow.refl (v : Value) (n : Nat) : NewRow v v n := .inl rfl
theorem Mind.swap (h : Mind w0 g L dh kem B nm H vs v M w) {v' : Value} (hn : NewRow v v' w.heap.size) : Apart (tagged B v' vs) := by
 refine h.apart.set (T' := tagged B v' vs) (fun i k hk => (h.at i k hk).2) 4 (fun i hi => ?_) (fun k hk => ?_)
 ·match i, hi with
  | 0, _ => rfl
  | 1, _ => rfl
  | 2, _ => rfl
  | 3, _ => rfl
  | 4, hi => exact absurd rfl hi
  | i + 5, _ => rfl
 ·rcases hn with q | ⟨j, q, hj⟩
  ·exact .inl (by show v.ownBlock = _; rw [← q]; exact hk)
  ·have : v'.ownBlock = some k := hk
   rw [q] at this; injection this with this
   exact .inr (by omega)
theorem Mind.add (h : Mind w0 g L dh kem B nm H vs v M w) {x : Nat} (hx : InL L (x : Int)) (hnew : has M (x : Int) = false) {w3 : World} {g2 cap3 : Nat}
  (hown : w3.ownsRow w0.heap.size 3 1 (.slice (some ⟨g2, 0, none⟩) (M.length + 1) cap3) (M.length + 1) (intsR M ++ [.int .i64 (x : Int)]))
  (hgrow : ((w.setCell ⟨B.c, x, none⟩ (.bool true)).alloc (.cells #[.int .i64 (x : Int)] 3)).grownBy w3 v.ownBlock) (hat : v.ownBlock = some g2 ∨ g2 = w.heap.size + 1) :
  Mind w0 g L dh kem B nm H vs (.slice (some ⟨g2, 0, none⟩) (M.length + 1) cap3) (M ++ [(x : Int)]) (w3.setCell ⟨B.m, 16, none⟩ (.slice (some ⟨g2, 0, none⟩) (M.length + 1) cap3)) ∧
  Chg (SM B v) w (w3.setCell ⟨B.m, 16, none⟩ (.slice (some ⟨g2, 0, none⟩) (M.length + 1) cap3)) ∧ NewRow v (.slice (some ⟨g2, 0, none⟩) (M.length + 1) cap3) w.heap.size := by
 obtain ⟨v', hv'⟩ : ∃ v', v' = Value.slice (some ⟨g2, 0, none⟩) (M.length + 1) cap3 := ⟨_, rfl⟩
 have hv2 : v'.ownBlock = some g2 := by rw [hv']; rfl
 have hown' := OwnI.app hown
 rw [← hv'] at hown' ⊢
 have hN : NewRow v v' w.heap.size := by
  rcases hat with q | q
  ·exact .inl (by rw [hv2, q])
  ·exact .inr ⟨g2, hv2, by omega⟩
 have C0 : Chg (fun k => k = B.c) w (w.setCell ⟨B.c, x, none⟩ (.bool true)) := Chg.setCell w B.c x _
 have C1 : Chg (fun k => some k = v.ownBlock) (w.setCell ⟨B.c, x, none⟩ (.bool true)) w3 := (Chg.alloc _ _ _).trans (Chg.grown hgrow)
 have C2 : Chg (fun k => k = B.m) w3 (w3.setCell ⟨B.m, 16, none⟩ v') := Chg.setCell w3 B.m 16 _
 have C01 : Chg (fun k => k = B.c ∨ some k = v.ownBlock) w w3 := (C0.mono fun k _ q => .inl q).trans (C1.mono fun k _ q => .inr q)
 have C : Chg (SM B v) w (w3.setCell ⟨B.m, 16, none⟩ v') := (C01.mono fun k _ q => .inr q).trans (C2.mono fun k _ q => .inl q)
 have T := h.apart
 have ne : ∀ i j k, tagged B v vs i = some k → tagged B v vs j = some k → i = j := T
 have mv : v.ownBlock ≠ some B.m := fun e => by have := ne 4 0 B.m e rfl; omega
 have cv : v.ownBlock ≠ some B.c := fun e => by have := ne 4 1 B.c e rfl; omega
 have mc : B.m ≠ B.c := fun e => by have := ne 0 1 B.m rfl (by show some B.c = _; rw [e]); omega
 have far : ∀ i k, (i = 2 ∨ i = 3 ∨ 5 ≤ i) → tagged B v vs i = some k → ¬ SM B v k := by
  rintro i k hi hk (e | e | e)
  ·have := ne i 0 k hk (by rw [e]; rfl); omega
  ·have := ne i 1 k hk (by rw [e]; rfl); omega
  ·have := ne i 4 k hk e.symm; omega
 have g2m : g2 ≠ B.m := by
  rcases hat with q | q
  ·intro e; exact mv (by rw [q, e])
  ·have := (h.at 0 B.m rfl).2; omega
 refine ⟨?_, C, hN⟩
 exact {
  st := by
   have hb : w3.heap[B.m]? = some (.cells (mindV g L.length dh kem B v) 188 (0, 0)) := C01.blk h.st (by
    rintro (e | e)
    ·exact mc e
    ·exact mv e.symm)
   have := heap_setCell_same w3 B.m 16 _ _ v' hb
   simpa using this
  can := by
   have h1 := heap_setCell_same w B.c x _ _ (.bool true) h.can
   rw [canV_set (by have := hx.2; omega)] at h1
   exact C2.blk (C1.blk h1 (fun e => cv e.symm)) (fun e => mc e.symm)
  row := OwnI.chg hown' C2 (fun k hk e => g2m (by rw [hv2] at hk; injection hk with hk; omega))
  names := by
   obtain ⟨n, D, hm, q⟩ := h.names
   exact ⟨n, D, C.own hm (far 2 B.n (.inl rfl) rfl), q⟩
  hang := C.blk h.hang (far 3 B.h (.inr (.inl rfl)) rfl)
  rows := fun i => (h.rows i).chg C (fun k hk => far (i + 5) k (by omega) hk)
  apart := h.swap hN
  lo := h.lo
  below := h.below.trans (C.below (fun k hk => by
   rcases hk with e | e | e
   ·rw [e]; exact h.lo.1
   ·rw [e]; exact h.lo.2.1
   ·exact (World.ownsRow.lt h.row k e.symm).1) h.below.size)
  nodup := nodup_snoc h.nodup hnew
  inL := fun y hy => by
   rcases List.mem_append.1 hy with q | q
   ·exact h.inL y q
   ·rw [List.mem_singleton.1 q]; exact hx
  most := h.most }
theorem Mind.cells (h : Mind w0 g L dh kem B nm H vs v M w) : w.cell? ⟨B.m, 0, none⟩ = some (.pointer (some ⟨g, 0, none⟩)) ∧ w.cell? ⟨B.m, 15, none⟩ = some (.slice (some ⟨B.c, 0, none⟩) (L.length + 1) (L.length + 1)) ∧ w.cell? ⟨B.m, 16, none⟩ = some v ∧
  w.cell? ⟨B.m, 17, none⟩ = some (.map (some B.n)) ∧ w.cell? ⟨B.m, 18, none⟩ = some (.slice (some ⟨B.h, 0, none⟩) (L.length + 1) (L.length + 1)) ∧ w.cell? ⟨B.m, 1, none⟩ = some (.bool dh) ∧ w.cell? ⟨B.m, 2, none⟩ = some (.bool kem) := by
 refine ⟨?_, ?_, ?_, ?_, ?_, ?_, ?_⟩ <;> rw [cell_of_row w B.m _ _ _ _ h.st] <;> rfl
theorem Mind.canAt (h : Mind w0 g L dh kem B nm H vs v M w) {i : Nat} (hi : i ≤ L.length) : w.cell? ⟨B.c, i, none⟩ = some (.bool (has M (i : Int))) := by rw [cell_of_row w B.c _ _ _ _ h.can]; exact canV_at hi
theorem Mind.hangAt (h : Mind w0 g L dh kem B nm H vs v M w) {i : Nat} (hi : i ≤ L.length) : w.cell? ⟨B.h, i, none⟩ = some (vs i) := by rw [cell_of_row w B.h _ _ _ _ h.hang]; exact hangV_at hi
theorem Mind.free (h : Mind w0 g L dh kem B nm H vs v M w) (i : Nat) : w.frozen? ⟨B.m, i, none⟩ = false ∧ w.frozen? ⟨B.c, i, none⟩ = false ∧ w.frozen? ⟨B.h, i, none⟩ = false :=
 ⟨frozen_of_row w B.m i _ _ h.st, frozen_of_row w B.c i _ _ h.can, frozen_of_row w B.h i _ _ h.hang⟩
end
end Go.Proofs.YtgeonppckeiceaaGreatDoor
namespace Go.Proofs.YtgeonppckeiceaaGreatDoor
open Go.RowKit
set_option linter.unusedVariables false
set_option linter.unusedSimpArgs false
set_option maxRecDepth 20000
def Had (w0 : World) (g : Nat) (L : List Tm) (dh kem : Bool) (B : MB) (nm : Tm → Int) (H : Nat → List Int) (vs : Nat → Value) (v : Value) (M' : List Int) (W : World) (e : Ending) (W' : World) : Prop :=
 ∃ v', e = .returned (.tuple #[]) ∧ Mind w0 g L dh kem B nm H vs v' M' W' ∧ Chg (SM B v) W W' ∧ NewRow v v' W.heap.size
set_option maxHeartbeats 4000000 in
set_option maxRecDepth 100000 in
theorem have_any {w0 W : World} {g : Nat} {L : List Tm} {dh kem : Bool} {B : MB} {nm : Tm → Int} {H : Nat → List Int} {vs : Nat → Value} {v : Value} {M : List Int} (h : Mind w0 g L dh kem B nm H vs v M W) (a : Option Addr) (cap : Nat) (ks : List Int)
  (hI : ∀ W', Chg (SM B v) W W' → IntsAt W' a cap ks) (hin : ∀ x, x ∈ ks → InL L x) :
  Calls Tryz.prog 109 #[.pointer (some ⟨B.m, 0, none⟩), .slice a ks.length cap] W (Had w0 g L dh kem B nm H vs v (addAll M ks) W) := by
 have hlen := (hI W ⟨rfl, rfl, rfl, Nat.le_refl _, fun _ _ _ => rfl⟩).len
 have hmost := h.most
 have HI := Lib.hid hI
 have HIN := Lib.hid hin
 have HM := Lib.hid h
 obtain ⟨n, hn⟩ : ∃ n, n = ks.length := ⟨_, rfl⟩
 rw [← hn] at hlen ⊢
 have HN := Lib.hid hn
 obtain ⟨i0, hi0, hz0, hz1, hz2⟩ := info_parts info3
 clear h hI hin hn
 go_enter Tryz.func109, Tryz.ntmps109
 go_wp2
 go_loopw [5, 8] (fun _ i wr => ∃ (k : Nat) (v' : Value), k ≤ n ∧ i = .int .i64 k ∧ Hid (Mind w0 g L dh kem B nm H vs v' (addAll M (ks.take k)) wr) ∧ Hid (Chg (SM B v) W wr) ∧ Hid (NewRow v v' W.heap.size)) (fun _ i _ => n - (intOf i).toNat)
 case atStart => exact ⟨0, v, Nat.zero_le _, rfl, HM, Lib.hid ⟨rfl, rfl, rfl, Nat.le_refl _, fun _ _ _ => rfl⟩, Lib.hid (NewRow.refl _ _)⟩
 case round =>
  clear HM
  obtain ⟨k, v', hk, rfl, HM, HC, HR⟩ := hrel
  by_cases hlt : k < n
  ·obtain ⟨_, _, b, off, hc⟩ := HI.out wr HC.out
   obtain ⟨rfl, q0⟩ := hc k (by rw [← HN.out]; exact hlt)
   have hyin := HIN.out _ (getD_mem (ks := ks) (by rw [← HN.out]; exact hlt))
   obtain ⟨j, hj⟩ : ∃ j : Nat, ks.getD k 0 = (j : Int) := ⟨(ks.getD k 0).toNat, by unfold InL at hyin; omega⟩
   rw [hj] at q0 hyin
   have HAl : Hid (addAll M (ks.take (k + 1)) = addM (addAll M (ks.take k)) (j : Int)) := Lib.hid (by rw [addAll_take (by rw [← HN.out]; exact hlt), hj])
   obtain ⟨M', hM'⟩ : ∃ M', M' = addAll M (ks.take k) := ⟨_, rfl⟩
   rw [← hM'] at HM HAl
   have hjL : j ≤ L.length := by unfold InL at hyin; omega
   have hjl : (j : Int) < (L.length : Int) + 1 := by omega
   obtain ⟨al, cl, rfl, hal⟩ := HM.out.row.at
   obtain ⟨_, c15, c16, _⟩ := HM.out.cells
   have cc := HM.out.canAt hjL
   have Hlt := Lib.hid hlt
   have hlt1 : (k : Int) < n := by omega
   have HY := Lib.hid hyin
   have f16 := (HM.out.free 16).1
   have fc := (HM.out.free j).2.1
   have mc : B.m ≠ B.c := fun e => by have := HM.out.apart 0 1 B.m rfl (by show some B.c = _; rw [e]); omega
   have mc' : B.c ≠ B.m := fun e => mc e.symm
   clear hc hlt hk hal hM' hj hyin
   by_cases hx : has M' (j : Int) = true
   ·rw [hx] at cc
    have HX := Lib.hid hx
    clear hx
    go_wp2
    go_roundw
    case rel => exact ⟨k + 1, _, by have := Hlt.out; omega, by go_num, by rw [HAl.out, addM, if_pos HX.out]; exact HM, HC, HR⟩
    case measure => have := Hlt.out; simp [intOf]; omega
   ·have hx' : has M' (j : Int) = false := by simpa using hx
    rw [hx'] at cc
    have HX := Lib.hid hx'
    clear hx hx'
    have hml : M'.length ≤ 1048576 := by have := HM.out.len; omega
    have hbs : w0.heap.size ≤ wr.heap.size := HM.out.below.size
    have HRow : Hid ((wr.setCell ⟨B.c, j, none⟩ (.bool true)).ownsRow w0.heap.size 3 1 (.slice al M'.length cl) M'.length (intsR M')) := Lib.hid (HM.out.row.chg (Chg.setCell wr B.c j _) (fun b hb e => by
     have := HM.out.apart 4 1 b hb (by show some B.c = _; rw [e])
     omega))
    have mv : (Value.slice al M'.length cl).ownBlock ≠ some B.m := fun e => by have := HM.out.apart 4 0 B.m e rfl; omega
    have MV := Lib.hid mv
    have hmb : B.m < wr.heap.size := blk_lt HM.out.st
    have HNW : Hid (((wr.setCell ⟨B.c, j, none⟩ (.bool true)).alloc (.cells #[.int .i64 (j : Int)] 3)).heap[wr.heap.size]? = some (.cells #[.int .i64 (j : Int)] 3 (0, 0))) := Lib.hid (by
     have := heap_alloc_new (wr.setCell ⟨B.c, j, none⟩ (.bool true)) (.cells #[.int .i64 (j : Int)] 3)
     rwa [show (wr.setCell ⟨B.c, j, none⟩ (.bool true)).heap.size = wr.heap.size by simp] at this)
    have b1 : M'.length + 1 ≤ maxLen := by unfold maxLen; omega
    have b2 : (M'.length + 1) * 8 ≤ 140737488355328 := by omega
    have b3 : w0.heap.size ≤ ((wr.setCell ⟨B.c, j, none⟩ (.bool true)).alloc (.cells #[.int .i64 (j : Int)] 3)).heap.size := by simp; omega
    have b4 : ((wr.setCell ⟨B.c, j, none⟩ (.bool true)).alloc (.cells #[.int .i64 (j : Int)] 3)).heap.size = wr.heap.size + 1 := by simp
    have B1 := Lib.hid b1
    have B2 := Lib.hid b2
    have B3 := Lib.hid b3
    have B4 := Lib.hid b4
    have C16 : Hid ((wr.setCell ⟨B.c, j, none⟩ (.bool true)).cell? ⟨B.m, 16, none⟩ = some (.slice al M'.length cl)) := Lib.hid (by
     rw [World.cell?_of_block (a := ⟨B.m, 16, none⟩) ((Chg.setCell wr B.c j (.bool true)).block B.m hmb mc)]; exact c16)
    have F16 : Hid ((wr.setCell ⟨B.c, j, none⟩ (.bool true)).frozen? ⟨B.m, 16, none⟩ = false) := Lib.hid (by
     rw [World.frozen?_of_block (a := ⟨B.m, 16, none⟩) ((Chg.setCell wr B.c j (.bool true)).block B.m hmb mc)]; exact f16)
    have HPM : Hid (B.m < (wr.setCell ⟨B.c, j, none⟩ (.bool true)).heap.size) := Lib.hid (by simpa using hmb)
    clear mv b1 b2 b3 b4
    go_wp2_with (at_builtin; refine wpList_append_lies _ rfl _ _ 94 rfl w0.heap.size 3 i0 (.int .i64 0) 1 8 Tryz.underlying94 hi0 hz0 hz1 hz2 rfl (by decide) _ _ _ rfl (HRow.out.alloc _) ⟨wr.heap.size, 0, none⟩ 1 1 [.int .i64 (j : Int)] rfl rfl (World.news_of_block (cs := #[.int .i64 (j : Int)]) (t := 3) (fr := (0, 0)) HNW.out) (by simp [Value.oneCell']) (by omega) B1.out B2.out B3.out (wr.heap.size + 1) B4.out ?_; intro g2 cap3 w3 hown2 hgrow2 hat2 hlt3; have y0 := farc HPM.out hgrow2 MV.out C16.out; have g0 := farf HPM.out hgrow2 MV.out F16.out; have P1 := Lib.hid hown2; have P2 := Lib.hid hgrow2; have P3 := Lib.hid hat2; clear hown2 hgrow2 hat2)
    have hat : (Value.slice al M'.length cl).ownBlock = some g2 ∨ g2 = wr.heap.size + 1 := P3.out
    have hadd := HM.out.add HY.out HX.out P1.out P2.out hat
    clear y0 g0 hat P1 P2 P3
    go_roundw
    case rel => exact ⟨k + 1, _, by have := Hlt.out; omega, by go_num, by rw [HAl.out, addM, if_neg (by rw [HX.out]; decide)]; exact Lib.hid hadd.1, Lib.hid (HC.out.after hadd.2.1 fun i hi q => SM.of q HR.out hi), Lib.hid (HR.out.trans hadd.2.2 HC.out.size)⟩
    case measure => have := Hlt.out; simp [intOf]; omega
  ·obtain rfl : k = n := by omega
   clear hlt hk
   have hlt1 : decide ((k : Int) < k) = false := by simp
   go_wp2
   go_end0
   exact ⟨v', rfl, by have := HM.out; rw [HN.out, List.take_length] at this; exact this, HC.out, HR.out⟩
end Go.Proofs.YtgeonppckeiceaaGreatDoor
namespace Go.Proofs.YtgeonppckeiceaaGreatDoor
open Go.RowKit
open Go.Maps
set_option linter.unusedVariables false
set_option linter.unusedSimpArgs false
set_option maxRecDepth 20000
set_option maxHeartbeats 400000 in
theorem kpub_k (x : Int) (w : World) : Calls Tryz.prog 216 #[.int .i64 x] w fun e w' => e = .returned (pubT x).v ∧ Below w.heap.size w w' := by
 go_enter Tryz.func216, Tryz.ntmps216
 go_wp2
 exact bodyPost_ret (v := (pubT x).v) (by simp [results, Tryz.results216, go_sem, pubT, Tm.v]) rfl ⟨rfl, (Below.refl _ _).alloc (Nat.le_refl _) _⟩
set_option maxHeartbeats 400000 in
theorem kkpub_k (x : Int) (w : World) : Calls Tryz.prog 217 #[.int .i64 x] w fun e w' => e = .returned (kpubT x).v ∧ Below w.heap.size w w' := by
 go_enter Tryz.func217, Tryz.ntmps217
 go_wp2
 exact bodyPost_ret (v := (kpubT x).v) (by simp [results, Tryz.results217, go_sem, kpubT, Tm.v]) rfl ⟨rfl, (Below.refl _ _).alloc (Nat.le_refl _) _⟩
set_option maxHeartbeats 400000 in
theorem kbox_k (x y : Int) (w : World) : Calls Tryz.prog 218 #[.int .i64 x, .int .i64 y] w fun e w' => e = .returned (boxT x y).v ∧ Below w.heap.size w w' := by
 go_enter Tryz.func218, Tryz.ntmps218
 go_wp2
 exact bodyPost_ret (v := (boxT x y).v) (by simp [results, Tryz.results218, go_sem, boxT, Tm.v]) rfl ⟨rfl, (Below.refl _ _).alloc (Nat.le_refl _) _⟩
section
variable {w0 : World} {g : Nat} {L : List Tm} {dh kem : Bool} {B : MB} {H : Nat → List Int} {vs : Nat → Value} {v : Value} {M : List Int}
abbrev MindF (w0 : World) (g : Nat) (L : List Tm) (dh kem : Bool) (B : MB) (H : Nat → List Int) (vs : Nat → Value) (v : Value) (M : List Int) (w : World) : Prop := Mind w0 g L dh kem B (noteOf L L.length) H vs v M w
set_option maxHeartbeats 1000000 in
set_option maxRecDepth 100000 in
theorem canBe_k (t : Tm) (ht : Wf t) (ha : asked3 t) (W : World) (h : MindF w0 g L dh kem B H vs v M W) :
  Calls Tryz.prog 215 #[.pointer (some ⟨B.m, 0, none⟩), t.v] W fun e W' => e = .returned (.bool (hasT L (has M) t)) ∧ Below W.heap.size W W' := by
 obtain ⟨kl, hk⟩ := ht.key
 obtain ⟨j, hj⟩ : ∃ j : Nat, nameOf L t = (j : Int) := ⟨(nameOf L t).toNat, by have := nameOf_bound L t; omega⟩
 have hjL : j ≤ L.length := by have := nameOf_bound L t; omega
 obtain ⟨n, D, hm, hn, hok⟩ := h.names
 have HNM : Hid (∀ c, D.atKey kl (.lit (.int .i64 0)) = .lit (.int .i64 c) → c = (j : Int)) := Lib.hid (fun c hc => by
  rw [hok t kl hk, noteOf_all L ha, hj] at hc
  injection hc with hc; injection hc with _ hc; exact hc.symm)
 have HR : Hid (hasT L (has M) t = has M (j : Int)) := Lib.hid (by unfold hasT; rw [hj])
 rw [HR.out]
 clear HR hok hn hj
 have HK := Lib.hid hk
 have hmost := h.most
 obtain ⟨K, S, N, A, Bx, C⟩ := t
 obtain ⟨W1, hW1⟩ : ∃ W1, W1 = W.alloc (boxP ⟨K, S, N, A, Bx, C⟩) := ⟨_, rfl⟩
 have hb1 : Below W.heap.size W W1 := by rw [hW1]; exact (Below.refl _ _).alloc (Nat.le_refl _) _
 have h1 : MindF w0 g L dh kem B H vs v M W1 := h.next hb1
 have z : ∀ j, W1.cell? ⟨W.heap.size, j, none⟩ = #[Value.int .i64 K, .string S, .int .u64 N, .int .i64 A, .int .i64 Bx, .int .i64 C][j]? := fun j => by rw [hW1]; exact cell_of_row _ _ j _ _ _ (heap_alloc_new W _)
 have z0 := z 0
 have z1 := z 1
 have z2 := z 2
 have z3 := z 3
 have z4 := z 4
 have z5 := z 5
 simp at z0 z1 z2 z3 z4 z5
 obtain ⟨_, c15, c16, c17, c18, _⟩ := h1.cells
 have cc := h1.canAt hjL
 obtain ⟨x, hx⟩ : ∃ x, x = has M (j : Int) := ⟨_, rfl⟩
 rw [← hx] at cc ⊢
 have HB1 := Lib.hid hb1
 have hlk : ∀ q, (Instr.lookup 185 (.map (some B.n)) (.agg #[.int .i64 K, .string S, .int .u64 N, .int .i64 A, .int .i64 Bx, .int .i64 C]) false).run Tryz.prog (W1.drewN q) = .ok (.int .i64 (j : Int)) (W1.drewN q) := fun q => by
  have hmq : (W1.drewN q).ownsMap Tryz.prog 116 (plainElem Tryz.prog 3) B.n n D := (Chg.drewN W1 q (fun _ => False)).own ((Chg.of_below (S := fun _ => False) hb1).own hm (fun q => q)) (fun q => q)
  obtain ⟨c, hrun, hat, hwc⟩ := hmq.lookup_int law32 Tryz.underlying185 Tryz.underlying3 (Tryz.zeroValue3 _) hk
  rw [HNM.out c hat] at hrun
  exact hrun
 have hjl : (j : Int) < (L.length : Int) + 1 := by omega
 unfold boxP at hW1
 simp only [] at hW1
 clear hx z h1 h ht ha hk hm hb1 HNM HK
 unfold Tm.v
 go_enter Tryz.func215, Tryz.ntmps215
 go_wp2
 rw [← hW1]
 clear hW1
 go_quiet (fail)
 go_wp2
 go_ret
 exact ⟨rfl, HB1.out.trans ((drewN_below W1 nq).mono HB1.out.size)⟩
end
end Go.Proofs.YtgeonppckeiceaaGreatDoor
namespace Go.Proofs.YtgeonppckeiceaaGreatDoor
open Go.RowKit
open Go.Maps
set_option linter.unusedVariables false
set_option linter.unusedSimpArgs false
set_option maxRecDepth 20000
theorem OwnI.lit {base g : Nat} {xs : List Int} {w : World} (hb : base ≤ g) (h : w.heap[g]? = some (.cells (intsR xs).toArray 3 (0, 0))) (hm : xs.length ≤ maxLen) : OwnI base (.slice (some ⟨g, 0, none⟩) xs.length xs.length) xs w :=
 ⟨by simp [intsR], .inr ⟨g, xs.length, (intsR xs).toArray, rfl, hb, h, Nat.le_refl _, hm, by simp [intsR], by
  show (intsR xs).take (xs.length * 1) = intsR xs
  exact List.take_of_length_le (by simp [intsR])⟩⟩
set_option maxHeartbeats 1000000 in
theorem parts_own (t : Tm) (w : World) :
  Calls Tryz.prog 160 #[t.v] w fun e w' => ∃ v, e = .returned v ∧ OwnI w.heap.size v (partsT t) w' ∧ Below w.heap.size w w' := by
 obtain ⟨K, S, N, A, B, C⟩ := t
 unfold Tm.v
 by_cases h : K = 3 ∨ K = 5 ∨ K = 9 ∨ K = 4 ∨ K = 6 ∨ K = 7 ∨ K = 8 ∨ K = 11 ∨ K = 10
 ·rcases h with rfl | rfl | rfl | rfl | rfl | rfl | rfl | rfl | rfl
  all_goals
   go_enter Tryz.func160, Tryz.ntmps160
   go_wp2
   go_ret
   refine ⟨_, rfl, ?_, ((Below.refl _ _).alloc (Nat.le_refl _) _).alloc (by simp) _⟩
   first
    | exact OwnI.lit (xs := [A]) (g := w.heap.size + 1) (by omega) (heap_alloc2_new w _ _) (by simp [maxLen])
    | exact OwnI.lit (xs := [A, B]) (g := w.heap.size + 1) (by omega) (heap_alloc2_new w _ _) (by simp [maxLen])
    | exact OwnI.lit (xs := [A, B, C]) (g := w.heap.size + 1) (by omega) (heap_alloc2_new w _ _) (by simp [maxLen])
 ·have e : many K = 0 := by unfold many; rw [if_neg (by omega), if_neg (by omega), if_neg (by omega)]
  have h3 : (K == 3) = false := beq_eq_false_iff_ne.2 (by omega)
  have h5 : (K == 5) = false := beq_eq_false_iff_ne.2 (by omega)
  have h9 : (K == 9) = false := beq_eq_false_iff_ne.2 (by omega)
  have h4 : (K == 4) = false := beq_eq_false_iff_ne.2 (by omega)
  have h6 : (K == 6) = false := beq_eq_false_iff_ne.2 (by omega)
  have h7 : (K == 7) = false := beq_eq_false_iff_ne.2 (by omega)
  have h8 : (K == 8) = false := beq_eq_false_iff_ne.2 (by omega)
  have h11 : (K == 11) = false := beq_eq_false_iff_ne.2 (by omega)
  have h10 : (K == 10) = false := beq_eq_false_iff_ne.2 (by omega)
  have E := Lib.hid e
  clear h e
  go_enter Tryz.func160, Tryz.ntmps160
  go_wp2
  go_ret
  refine ⟨_, rfl, ?_, (Below.refl _ _).alloc (Nat.le_refl _) _⟩
  have e2 : partsT ⟨K, S, N, A, B, C⟩ = [] := by unfold partsT; rw [show many (⟨K, S, N, A, B, C⟩ : Tm).K = 0 from E.out]; rfl
  rw [e2]
  exact OwnI.nil _ _
section
variable {w0 : World} {g : Nat} {L : List Tm} {dh kem : Bool} {B : MB} {H : Nat → List Int} {vs : Nat → Value} {v : Value} {M : List Int}
set_option maxHeartbeats 1000000 in
set_option maxRecDepth 100000 in
theorem whole_k (t : Tm) (hp : ∀ x, x ∈ partsT t → InL L x) (W : World) (h : MindF w0 g L dh kem B H vs v M W) :
  Calls Tryz.prog 188 #[.pointer (some ⟨B.m, 0, none⟩), t.v] W fun e W' => e = .returned (.bool ((partsT t).all (has M))) ∧ Below W.heap.size W W' := by
 have HP := Lib.hid (fun W => parts_own t W)
 have hpl : (partsT t).length ≤ 3 := by unfold partsT; rw [List.length_take]; simp; omega
 have HIN := Lib.hid hp
 have HM := Lib.hid h
 obtain ⟨ks, hks⟩ : ∃ ks, ks = partsT t := ⟨_, rfl⟩
 rw [← hks] at HIN hpl HP ⊢
 have hmost := h.most
 clear hks h hp
 obtain ⟨K, S, N, A, Bx, C⟩ := t
 unfold Tm.v at HP ⊢
 go_enter Tryz.func188, Tryz.ntmps188
 go_wp2_with fail
 refine (HP.out _).mono ?_
 rintro e W2 ⟨u, rfl, ho, hb⟩
 have HB1 : Hid (Below W.heap.size W W2) := Lib.hid (((Below.refl _ _).alloc (Nat.le_refl _) _).trans (hb.mono (by simp)))
 have HM2 : Hid (MindF w0 g L dh kem B H vs v M W2) := Lib.hid (HM.out.next HB1.out)
 obtain ⟨a, cap, rfl, ha⟩ := ho.at
 obtain ⟨_, _, b, off, hc⟩ := ha
 obtain ⟨n, hn⟩ : ∃ n, n = ks.length := ⟨_, rfl⟩
 rw [← hn] at hpl
 rw [← hn]
 have HN := Lib.hid hn
 have HC := Lib.hid hc
 clear hn hc ho hb HP HM
 go_wp2
 go_loop [6, 10] (fun _ i => ∃ k : Nat, k ≤ n ∧ i = .int .i64 k ∧ Hid ((ks.take k).all (has M) = true)) (fun _ i => n - (intOf i).toNat)
 case atStart => exact ⟨0, Nat.zero_le _, rfl, Lib.hid (by simp)⟩
 case round =>
  obtain ⟨k, hk, rfl, HJ⟩ := hrel
  by_cases hlt : k < n
  ·obtain ⟨rfl, q0⟩ := HC.out k (by rw [← HN.out]; exact hlt)
   have hyin := HIN.out _ (getD_mem (ks := ks) (by rw [← HN.out]; exact hlt))
   obtain ⟨j, hj⟩ : ∃ j : Nat, ks.getD k 0 = (j : Int) := ⟨(ks.getD k 0).toNat, by unfold InL at hyin; omega⟩
   rw [hj] at q0 hyin
   have hjL : j ≤ L.length := by unfold InL at hyin; omega
   have hjl : (j : Int) < (L.length : Int) + 1 := by omega
   obtain ⟨_, c15, _⟩ := HM2.out.cells
   have cc := HM2.out.canAt hjL
   have HS : Hid ((ks.take (k + 1)).all (has M) = has M (j : Int)) := Lib.hid (by
    rw [take_getD (by rw [← HN.out]; exact hlt), List.all_append, HJ.out, hj]; simp)
   have Hlt := Lib.hid hlt
   have HJE : Hid (ks.getD k 0 = (j : Int)) := Lib.hid hj
   have hlt1 : (k : Int) < n := by omega
   clear hyin hj hlt hk
   by_cases hx : has M (j : Int) = true
   ·rw [hx] at cc
    have HX := Lib.hid hx
    clear hx
    go_wp2
    go_round
    case rel => exact ⟨k + 1, by have := Hlt.out; omega, by go_num, Lib.hid (by rw [HS.out]; exact HX.out)⟩
    case measure => have := Hlt.out; simp [intOf]; omega
   ·have hx' : has M (j : Int) = false := by simpa using hx
    rw [hx'] at cc
    have HX := Lib.hid hx'
    clear hx hx'
    go_wp2
    go_ret
    have e : ks.all (has M) = false := by
     rw [List.all_eq_false]
     exact ⟨_, getD_mem (ks := ks) (k := k) (by rw [← HN.out]; exact Hlt.out), by rw [HJE.out, HX.out]; decide⟩
    rw [e]
    exact ⟨rfl, HB1.out⟩
  ·obtain rfl : k = n := by omega
   have hlt1 : decide ((k : Int) < k) = false := by simp
   clear hlt hk
   go_wp2
   go_ret
   have e : ks.all (has M) = true := by have := HJ.out; rw [HN.out, List.take_length] at this; exact this
   rw [e]
   exact ⟨rfl, HB1.out⟩
set_option maxHeartbeats 1000000 in
theorem never_k (t : Tm) (W : World) :
  Calls Tryz.prog 189 #[.pointer (some ⟨B.m, 0, none⟩), t.v] W fun e W' => e = .returned (.bool false) ∧ Below W.heap.size W W' := by
 obtain ⟨K, S, N, A, Bx, C⟩ := t
 unfold Tm.v
 go_enter Tryz.func189, Tryz.ntmps189
 go_wp2
 go_ret
 exact ⟨rfl, (Below.refl _ _).alloc (Nat.le_refl _) _⟩
def Opened (M : List Int) (t : Tm) (W : World) (e : Ending) (W' : World) : Prop := ∃ u, e = .returned u ∧ OwnI W.heap.size u (openL (has M) t) W' ∧ Below W.heap.size W W'
set_option maxHeartbeats 2000000 in
set_option maxRecDepth 100000 in
theorem opened11 (S : ByteArray) (N A Bx C : Int) (W : World) :
  Calls Tryz.prog 194 #[.pointer (some ⟨B.m, 0, none⟩), Tm.v ⟨11, S, N, A, Bx, C⟩] W (Opened M ⟨11, S, N, A, Bx, C⟩ W) := by
 unfold Tm.v
 go_enter Tryz.func194, Tryz.ntmps194
 go_wp2
 go_ret
 exact ⟨_, rfl, OwnI.lit (xs := [A, Bx]) (g := W.heap.size + 1) (by omega) (heap_alloc2_new W _ _) (by simp [maxLen]), ((Below.refl _ _).alloc (Nat.le_refl _) _).alloc (by simp) _⟩
set_option maxHeartbeats 2000000 in
set_option maxRecDepth 100000 in
theorem opened10 (S : ByteArray) (N : Int) (ja : Nat) (Bx C : Int) (hA : InL L (ja : Int)) (W : World) (h : MindF w0 g L dh kem B H vs v M W) :
  Calls Tryz.prog 194 #[.pointer (some ⟨B.m, 0, none⟩), Tm.v ⟨10, S, N, (ja : Int), Bx, C⟩] W (Opened M ⟨10, S, N, (ja : Int), Bx, C⟩ W) := by
 obtain ⟨W1, hW1⟩ : ∃ W1, W1 = W.alloc (.cells #[.int .i64 10, .string S, .int .u64 N, .int .i64 (ja : Int), .int .i64 Bx, .int .i64 C] 116) := ⟨_, rfl⟩
 have hb1 : Below W.heap.size W W1 := by rw [hW1]; exact (Below.refl _ _).alloc (Nat.le_refl _) _
 have HM1 : Hid (MindF w0 g L dh kem B H vs v M W1) := Lib.hid (h.next hb1)
 have z : ∀ j, W1.cell? ⟨W.heap.size, j, none⟩ = #[Value.int .i64 10, .string S, .int .u64 N, .int .i64 (ja : Int), .int .i64 Bx, .int .i64 C][j]? := fun j => by rw [hW1]; exact cell_of_row _ _ j _ _ _ (heap_alloc_new W _)
 have z0 := z 0
 have z1 := z 1
 have z2 := z 2
 have z3 := z 3
 have z4 := z 4
 have z5 := z 5
 simp at z0 z1 z2 z3 z4 z5
 have HB1 := Lib.hid hb1
 obtain ⟨_, c15, _, _, _, c1, c2⟩ := HM1.out.cells
 have hsW1 : W.heap.size < W1.heap.size := by rw [hW1]; simp
 have hmost := h.most
 clear z h hb1
 have cc := HM1.out.canAt (i := ja) (by have := hA.2; omega)
 have hjl : (ja : Int) < (L.length : Int) + 1 := by have := hA.2; omega
 unfold Tm.v
 cases hx : has M (ja : Int)
 all_goals
  have HX := Lib.hid hx
  rw [hx] at cc
  clear hx hA
  go_enter Tryz.func194, Tryz.ntmps194
  go_wp2
  rw [← hW1]
  clear hW1
  go_quiet (fail)
  have HB2 : Hid (Below W.heap.size W (W1.drewN nq)) := Lib.hid (HB1.out.trans ((drewN_below W1 nq).mono HB1.out.size))
  have z5 : (W1.drewN nq).cell? ⟨W.heap.size, 5, none⟩ = some (.int .i64 C) := z5
  generalize W1.drewN nq = W2 at HB2 z5 ⊢
  go_wp2
  go_ret
 ·refine ⟨_, rfl, ?_, HB2.out⟩
  have e : openL (has M) ⟨10, S, N, (ja : Int), Bx, C⟩ = [] := by unfold openL; rw [if_neg (by show ¬ ((10 : Int) = 11); decide), if_neg (by rw [HX.out]; simp)]
  rw [e]
  exact OwnI.nil _ _
 ·refine ⟨_, rfl, ?_, HB2.out.alloc HB2.out.size _⟩
  have e : openL (has M) ⟨10, S, N, (ja : Int), Bx, C⟩ = [C] := by unfold openL; rw [if_neg (by show ¬ ((10 : Int) = 11); decide), if_pos ⟨rfl, HX.out⟩]
  rw [e]
  exact OwnI.lit (xs := [C]) HB2.out.size (heap_alloc_new W2 _) (by simp [maxLen])
set_option maxHeartbeats 2000000 in
set_option maxRecDepth 100000 in
theorem opened0 (K : Int) (S : ByteArray) (N A Bx C : Int) (h1 : K ≠ 11) (h2 : K ≠ 10) (W : World) :
  Calls Tryz.prog 194 #[.pointer (some ⟨B.m, 0, none⟩), Tm.v ⟨K, S, N, A, Bx, C⟩] W (Opened M ⟨K, S, N, A, Bx, C⟩ W) := by
 have e1 : (K == 11) = false := beq_eq_false_iff_ne.2 h1
 have e2 : (K == 10) = false := beq_eq_false_iff_ne.2 h2
 have HK := Lib.hid (And.intro h1 h2)
 obtain ⟨W1, hW1⟩ : ∃ W1, W1 = W.alloc (.cells #[.int .i64 K, .string S, .int .u64 N, .int .i64 A, .int .i64 Bx, .int .i64 C] 116) := ⟨_, rfl⟩
 have HB1 : Hid (Below W.heap.size W W1) := Lib.hid (by rw [hW1]; exact (Below.refl _ _).alloc (Nat.le_refl _) _)
 have z0 : W1.cell? ⟨W.heap.size, 0, none⟩ = some (.int .i64 K) := by rw [hW1, cell_of_row _ _ 0 _ _ _ (heap_alloc_new W _)]; rfl
 clear h1 h2
 unfold Tm.v
 go_enter Tryz.func194, Tryz.ntmps194
 go_wp2
 rw [← hW1]
 clear hW1
 go_quiet (fail)
 go_wp2
 go_ret
 refine ⟨_, rfl, ?_, HB1.out.trans ((drewN_below W1 nq).mono HB1.out.size)⟩
 have e : openL (has M) ⟨K, S, N, A, Bx, C⟩ = [] := by unfold openL; rw [if_neg HK.out.1, if_neg (fun q => HK.out.2 q.1)]
 rw [e]
 exact OwnI.nil _ _
theorem opened_k (t : Tm) (hA : t.K = 10 → InL L t.A) (W : World) (h : MindF w0 g L dh kem B H vs v M W) :
  Calls Tryz.prog 194 #[.pointer (some ⟨B.m, 0, none⟩), t.v] W (Opened M t W) := by
 obtain ⟨K, S, N, A, Bx, C⟩ := t
 by_cases h1 : K = 11
 ·subst h1; exact opened11 S N A Bx C W
 ·by_cases h2 : K = 10
  ·subst h2
   obtain ⟨ja, rfl⟩ : ∃ j : Nat, A = (j : Int) := ⟨A.toNat, by have := (hA rfl).1; dsimp only at this; omega⟩
   exact opened10 S N ja Bx C (hA rfl) W h
  ·exact opened0 K S N A Bx C h1 h2 W
end
end Go.Proofs.YtgeonppckeiceaaGreatDoor
