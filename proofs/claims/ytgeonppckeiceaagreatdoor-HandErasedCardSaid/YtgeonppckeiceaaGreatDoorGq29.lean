/- Two endpoints: their names in trees. -/
/- Two endpoints in a store: what Two makes. -/
/- The calls whose answers the document fixes: what they tell. -/
/- What does not end a handshake, in trees (by tools/stage17/ends.py). -/
import Derived.Test.YtgeonppckeiceaaGreatDoorGq28
import Derived.Test.YtgeonppckeiceaaGreatDoorGq13
import Derived.Test.YtgeonppckeiceaaGreatDoorGq14
namespace Go.Proofs.YtgeonppckeiceaaGreatDoor
open Go.RowKit
set_option linter.unusedVariables false
set_option linter.unusedSimpArgs false
set_option maxRecDepth 20000
def nonceT (n : Int) : Tm := ⟨2, ⟨#[]⟩, n, 0, 0, 0⟩
def nonces (k : Nat) : List Tm := (List.range k).map (fun (i : Nat) => nonceT (100 + (i : Int)))
def L18 : List Tm := nonces 14 ++ [pubT 1] ++ [kpubT 2] ++ [pubT 3] ++ [kpubT 4]
def pB : Pr := ⟨17, 18, 5, 6⟩
def pA : Pr := ⟨15, 16, 5, 6⟩
theorem put_fresh {L : List Tm} {most : Int} {t : Tm} (hm : t.may L.length = true) (hn : ∀ j, j < L.length → L.getD j zeroT ≠ t) (hr : (L.length : Int) < most) : putF L most t = ((L.length : Int) + 1, 0, L ++ [t]) := by
 have h0 : nameOf L t = 0 := nameOf_zero L t hn
 unfold putF
 rw [if_pos hm, if_neg (by rw [h0]; simp), if_neg (by omega)]
theorem may_nonce (n : Nat) (k : Int) : (nonceT k).may n = true := by
 rw [may_iff]
 simp [May, below3, BadP, many, prt, nonceT, sz0]
theorem nonces_put (k : Nat) (hk : k ≤ 14) : putF (nonces k) 5000 (nonceT (100 + k)) = ((k : Int) + 1, 0, nonces (k + 1)) := by
 have hl : (nonces k).length = k := by simp [nonces]
 have h := put_fresh (L := nonces k) (most := 5000) (t := nonceT (100 + k)) (may_nonce _ _) (fun j hj q => by
  rw [hl] at hj
  simp [nonces, List.getD, hj, nonceT] at q
  omega) (by rw [hl]; omega)
 rw [h, hl]
 simp [nonces, List.range_succ]
theorem put_freshM {L : List Tm} {most : Int} {t : Tm} (hm : t.may L.length = true) (hn : ∀ u, u ∈ L → u ≠ t) (hr : (L.length : Int) < most) : putF L most t = ((L.length : Int) + 1, 0, L ++ [t]) :=
 put_fresh hm (fun j hj => hn _ (by simp [List.getD, hj])) hr
theorem mem_nonces {k : Nat} {u : Tm} (h : u ∈ nonces k) : u.K = 2 := by
 simp [nonces] at h
 obtain ⟨i, _, rfl⟩ := h
 rfl
theorem len14 : (nonces 14).length = 14 := by simp [nonces]
theorem pub15 : putF (nonces 14) 5000 (pubT 1) = (15, 0, nonces 14 ++ [pubT 1]) :=
 put_freshM (may_pub (by omega) (by rw [len14]; omega)) (fun u hu e => by have := mem_nonces hu; rw [e] at this; simp [pubT] at this) (by rw [len14]; omega)
theorem kpub16 : putF (nonces 14 ++ [pubT 1]) 5000 (kpubT 2) = (16, 0, nonces 14 ++ [pubT 1] ++ [kpubT 2]) := by
 have hl : (nonces 14 ++ [pubT 1]).length = 15 := by rw [List.length_append, len14]; rfl
 have h := put_freshM (L := nonces 14 ++ [pubT 1]) (most := 5000) (t := kpubT 2) (may_kpub (by omega) (by rw [hl]; omega)) (fun u hu e => by
  rcases List.mem_append.1 hu with q | q
  ·have := mem_nonces q; rw [e] at this; simp [kpubT] at this
  ·rw [List.mem_singleton.1 q] at e; simp [pubT, kpubT] at e) (by rw [hl]; omega)
 rw [h, hl]
 rfl
theorem pub17 : putF (nonces 14 ++ [pubT 1] ++ [kpubT 2]) 5000 (pubT 3) = (17, 0, nonces 14 ++ [pubT 1] ++ [kpubT 2] ++ [pubT 3]) := by
 have hl : (nonces 14 ++ [pubT 1] ++ [kpubT 2]).length = 16 := by rw [List.length_append, List.length_append, len14]; rfl
 have h := put_freshM (L := nonces 14 ++ [pubT 1] ++ [kpubT 2]) (most := 5000) (t := pubT 3) (may_pub (by omega) (by rw [hl]; omega)) (fun u hu e => by
  rcases List.mem_append.1 hu with q | q
  ·rcases List.mem_append.1 q with r | r
   ·have := mem_nonces r; rw [e] at this; simp [pubT] at this
   ·rw [List.mem_singleton.1 r] at e; simp [pubT] at e
  ·rw [List.mem_singleton.1 q] at e; simp [pubT, kpubT] at e) (by rw [hl]; omega)
 rw [h, hl]
 rfl
theorem kpub18 : putF (nonces 14 ++ [pubT 1] ++ [kpubT 2] ++ [pubT 3]) 5000 (kpubT 4) = (18, 0, L18) := by
 have hl : (nonces 14 ++ [pubT 1] ++ [kpubT 2] ++ [pubT 3]).length = 17 := by rw [List.length_append, List.length_append, List.length_append, len14]; rfl
 have h := put_freshM (L := nonces 14 ++ [pubT 1] ++ [kpubT 2] ++ [pubT 3]) (most := 5000) (t := kpubT 4) (may_kpub (by omega) (by rw [hl]; omega)) (fun u hu e => by
  rcases List.mem_append.1 hu with q | q
  ·rcases List.mem_append.1 q with r | r
   ·rcases List.mem_append.1 r with v | v
    ·have := mem_nonces v; rw [e] at this; simp [kpubT] at this
    ·rw [List.mem_singleton.1 v] at e; simp [pubT, kpubT] at e
   ·rw [List.mem_singleton.1 r] at e; simp [kpubT] at e
  ·rw [List.mem_singleton.1 q] at e; simp [pubT, kpubT] at e) (by rw [hl]; omega)
 rw [h, hl]
 rfl
theorem publics1 : hPublics 5000 (nonces 14) (1, 2) = ((15, 16), 0, nonces 14 ++ [pubT 1] ++ [kpubT 2]) := by
 unfold hPublics publicsG
 rw [G.to_ok (putG_ok pub15), G.to_ok (putG_ok kpub16)]
 rfl
theorem publics2 : hPublics 5000 (nonces 14 ++ [pubT 1] ++ [kpubT 2]) (3, 4) = ((17, 18), 0, L18) := by
 unfold hPublics publicsG
 rw [G.to_ok (putG_ok pub17), G.to_ok (putG_ok kpub18)]
 rfl
theorem named_of {L L' : List Tm} {most x : Int} {t : Tm} (h : putF L most t = (x, 0, L')) (hm : t.may L.length = true) (hr : (L.length : Int) < most) : Named L' x t ∧ Ext L L' := by
 obtain ⟨a, M, e1, n1, x1, _⟩ := put_named L most t hm hr
 rw [h] at e1
 injection e1 with q1 q2
 injection q2 with q2 q3
 subst q1 q3
 exact ⟨n1, x1⟩
theorem nonces_gd : ∀ k, k ≤ 14 → Gd (nonces k)
 | 0, _ => Gd.nil
 | k + 1, h => by
  have h1 := (nonces_gd k (by omega)).put (most := 5000) (by simp [nonces]; omega) (nonceT (100 + k))
  rw [nonces_put k (by omega)] at h1
  exact h1
theorem nonces_ext : ∀ d k, k + d ≤ 14 → Ext (nonces k) (nonces (k + d))
 | 0, k, _ => Ext.refl _
 | d + 1, k, h => (nonces_ext d k (by omega)).trans (named_of (nonces_put (k + d) (by omega)) (may_nonce _ _) (by simp [nonces]; omega)).2
theorem ext18 : Ext (nonces 14) L18 := by
 have a := (named_of pub15 (may_pub (by omega) (by rw [len14]; omega)) (by rw [len14]; omega)).2
 have l1 : (nonces 14 ++ [pubT 1]).length = 15 := by rw [List.length_append, len14]; rfl
 have l2 : (nonces 14 ++ [pubT 1] ++ [kpubT 2]).length = 16 := by rw [List.length_append, l1]; rfl
 have l3 : (nonces 14 ++ [pubT 1] ++ [kpubT 2] ++ [pubT 3]).length = 17 := by rw [List.length_append, l2]; rfl
 have b := (named_of kpub16 (may_kpub (by omega) (by rw [l1]; omega)) (by rw [l1]; omega)).2
 have c := (named_of pub17 (may_pub (by omega) (by rw [l2]; omega)) (by rw [l2]; omega)).2
 have d := (named_of kpub18 (may_kpub (by omega) (by rw [l3]; omega)) (by rw [l3]; omega)).2
 exact ((a.trans b).trans c).trans d
theorem gd18 : Gd L18 := by
 have l0 := len14
 have l1 : (nonces 14 ++ [pubT 1]).length = 15 := by rw [List.length_append, len14]; rfl
 have l2 : (nonces 14 ++ [pubT 1] ++ [kpubT 2]).length = 16 := by rw [List.length_append, l1]; rfl
 have l3 : (nonces 14 ++ [pubT 1] ++ [kpubT 2] ++ [pubT 3]).length = 17 := by rw [List.length_append, l2]; rfl
 have a := (nonces_gd 14 (by omega)).put (most := 5000) (by omega) (pubT 1)
 rw [pub15] at a
 have b := a.put (most := 5000) (by show ((nonces 14 ++ [pubT 1]).length : Int) ≤ 5000; omega) (kpubT 2)
 have b' : Gd (nonces 14 ++ [pubT 1] ++ [kpubT 2]) := by have := kpub16; rw [show putF (15, 0, nonces 14 ++ [pubT 1]).2.2 5000 (kpubT 2) = putF (nonces 14 ++ [pubT 1]) 5000 (kpubT 2) from rfl, this] at b; exact b
 have c := b'.put (most := 5000) (by omega) (pubT 3)
 rw [pub17] at c
 have d := Gd.put (L := nonces 14 ++ [pubT 1] ++ [kpubT 2] ++ [pubT 3]) c (most := 5000) (by omega) (kpubT 4)
 rw [kpub18] at d
 exact d
theorem len18 : L18.length = 18 := by simp [L18, nonces]
theorem nonce_nm (k : Nat) (h : k < 14) : Nm L18 (.nonce (100 + k)) (k + 1) := by
 have h1 := (named_of (nonces_put k (by omega)) (may_nonce _ _) (by simp [nonces]; omega)).1
 have h2 := (h1.ext (show Ext (nonces (k + 1)) (nonces 14) by have := nonces_ext (14 - (k + 1)) (k + 1) (by omega); rwa [show k + 1 + (14 - (k + 1)) = 14 by omega] at this)).ext ext18
 exact .mk .none .none .none h2
theorem ends18 : Ends L18 (.nonce 100) (.nonce 101) (.nonce 102) (.nonce 103) 1 2 3 4 pA pB := by
 have l1 : (nonces 14 ++ [pubT 1]).length = 15 := by rw [List.length_append, len14]; rfl
 have l2 : (nonces 14 ++ [pubT 1] ++ [kpubT 2]).length = 16 := by rw [List.length_append, l1]; rfl
 have l3 : (nonces 14 ++ [pubT 1] ++ [kpubT 2] ++ [pubT 3]).length = 17 := by rw [List.length_append, l2]; rfl
 have a := named_of pub15 (may_pub (by omega) (by rw [len14]; omega)) (by rw [len14]; omega)
 have b := named_of kpub16 (may_kpub (by omega) (by rw [l1]; omega)) (by rw [l1]; omega)
 have c := named_of pub17 (may_pub (by omega) (by rw [l2]; omega)) (by rw [l2]; omega)
 have d := named_of kpub18 (may_kpub (by omega) (by rw [l3]; omega)) (by rw [l3]; omega)
 have n0 := nonce_nm 0 (by omega)
 have n1 := nonce_nm 1 (by omega)
 have n2 := nonce_nm 2 (by omega)
 have n3 := nonce_nm 3 (by omega)
 exact ⟨n0, n1, n2, n3, .mk n0 .none .none (a.1.ext ((b.2.trans c.2).trans d.2)), .mk n1 .none .none (b.1.ext (c.2.trans d.2)), .mk n2 .none .none (c.1.ext d.2), .mk n3 .none .none d.1, by simp [Tr.nonce], by simp [Tr.nonce], by simp [Tr.nonce], by simp [Tr.nonce]⟩
theorem Pair.newK {base : Nat} {most : Int} {w0 w : World} {K : Nat → Prop} (h0 : base = w0.heap.size) (hb : Below base w0 w) (h1 : 0 ≤ most) (h2 : most ≤ 1048576) (hK : ∀ k, K k → k < w.heap.size) :
  Calls Tryz.prog 40 #[.int .i64 most] w fun e w' => ∃ g, e = .returned (.tuple #[.pointer (some ⟨g, 0, none⟩), .int .i64 0]) ∧ Pair base (PSq base g most) NoS [] [] K w0 w' ∧ ∀ k, K k → w'.heap[k]? = w.heap[k]? := by
 have hbs : base ≤ w.heap.size := by rw [h0]; exact hb.size
 refine (newP_good base most w h1 h2 hbs).mono ?_
 rintro e w' ⟨g, rfl, hp, hb'⟩
 exact ⟨g, rfl, ⟨_, fun _ => False, hp, fun _ q => q, fun _ _ q => q, fun k hk => ⟨fun q => by have := hK k hk; omega, fun q => q, Nat.lt_of_lt_of_le (hK k hk) hb'.size⟩, h0, hb.trans (hb'.mono hbs)⟩, fun k hk => hb'.block k (hK k hk)⟩
theorem Cs.new {base : Nat} {most : Int} {w0 w : World} {bs : List (Nat × Obj)} (h0 : base = w0.heap.size) (hb : Below base w0 w) (h1 : 0 ≤ most) (h2 : most ≤ 1048576) (hk : ∀ k o, (k, o) ∈ bs → w.heap[k]? = some o) :
  Calls Tryz.prog 40 #[.int .i64 most] w fun e w' => ∃ g, e = .returned (.tuple #[.pointer (some ⟨g, 0, none⟩), .int .i64 0]) ∧ Cs base (PSq base g most) NoS [] [] bs w0 w' := by
 refine (Pair.newK (K := fun k => ∃ o, (k, o) ∈ bs) h0 hb h1 h2 (fun k ⟨o, q⟩ => lt_some (hk k o q))).mono ?_
 rintro e w' ⟨g, rfl, hp, hq⟩
 exact ⟨g, rfl, hp, fun k o q => (hq k ⟨o, q⟩).trans (hk k o q), Sound.nil⟩
theorem Cs.put {base g : Nat} {most : Int} {Q2 : (Nat → Prop) → List Tm → World → Prop} {L L' L2 : List Tm} {bs : List (Nat × Obj)} {w0 w : World} {a b : Int} (g2 : Good base Q2) (h : Cs base (PSq base g most) Q2 L L2 bs w0 w) (t : Tm) (ht : Wf t) (hf : putF L most t = (a, b, L')) :
  Calls Tryz.prog 42 #[.pointer (some ⟨g, 0, none⟩), t.v] w fun e w' => e = .returned (.tuple #[.int .i64 a, .int .i64 b]) ∧ Cs base (PSq base g most) Q2 L' L2 bs w0 w' := by
 refine (h.pair.putP g2 t ht hf).mono ?_
 rintro e w' ⟨rfl, hp, hk⟩
 exact ⟨rfl, h.step hp hk (put_sd h.sound hf)⟩
theorem wf_nonce (k : Int) (h : U64 k) : Wf (nonceT k) := ⟨wf_emp, k2, h, k0, k0, k0⟩
theorem cells8 {u : World} {B : Nat} {a b c d x y z q : Value} {T : TypeId} (h : u.heap[B]? = some (.cells #[a, b, c, d, x, y, z, q] T (0, 0))) : u.cell? ⟨B, 0, none⟩ = some a ∧ u.cell? ⟨B, 1, none⟩ = some b ∧ u.cell? ⟨B, 2, none⟩ = some c ∧ u.cell? ⟨B, 3, none⟩ = some d ∧ u.cell? ⟨B, 4, none⟩ = some x ∧ u.cell? ⟨B, 5, none⟩ = some y ∧ u.cell? ⟨B, 6, none⟩ = some z ∧ u.cell? ⟨B, 7, none⟩ = some q := by
 refine ⟨?_, ?_, ?_, ?_, ?_, ?_, ?_, ?_⟩
 all_goals simp [World.cell?, h]
theorem thaw_of {u : World} {B off : Nat} {cs : Array Value} {T : TypeId} (h : u.heap[B]? = some (.cells cs T (0, 0))) : u.frozen? ⟨B, off, none⟩ = false := by
 simp [World.frozen?, h]
def set12 (u : World) (B : Nat) (v0 v1 v2 v3 v4 v5 v6 v7 v8 v9 v10 v11 : Value) : World := ((((((((((((u.setCell ⟨B, 0, none⟩ v0).setCell ⟨B, 1, none⟩ v1).setCell ⟨B, 2, none⟩ v2).setCell ⟨B, 3, none⟩ v3).setCell ⟨B + 1, 0, none⟩ v4).setCell ⟨B + 1, 1, none⟩ v5).setCell ⟨B + 1, 2, none⟩ v6).setCell ⟨B + 1, 3, none⟩ v7).setCell ⟨B + 1, 4, none⟩ v8).setCell ⟨B + 1, 5, none⟩ v9).setCell ⟨B + 1, 6, none⟩ v10).setCell ⟨B + 1, 7, none⟩ v11).drew
structure Set2 (u0 u : World) (B : Nat) (T U : TypeId) (cs ds : Array Value) : Prop where
 h1 : u.heap[B]? = some (.cells cs T (0, 0))
 h2 : u.heap[B + 1]? = some (.cells ds U (0, 0))
 hc : Chg (fun k => k = B ∨ k = B + 1) u0 u
theorem Set2.start {u : World} {B : Nat} {T U : TypeId} {cs ds : Array Value} (e1 : u.heap[B]? = some (.cells cs T (0, 0))) (e2 : u.heap[B + 1]? = some (.cells ds U (0, 0))) : Set2 u u B T U cs ds :=
 ⟨e1, e2, ⟨rfl, rfl, rfl, Nat.le_refl _, fun _ _ _ => rfl⟩⟩
theorem Set2.one {u0 u : World} {B : Nat} {T U : TypeId} {cs ds : Array Value} (h : Set2 u0 u B T U cs ds) (i : Nat) (v : Value) : Set2 u0 (u.setCell ⟨B, i, none⟩ v) B T U (cs.setIfInBounds i v) ds :=
 ⟨heap_setCell_same u B i _ _ v h.h1, by rw [heap_setCell_other _ _ _ _ (by simp)]; exact h.h2, h.hc.trans (chg_set u _ B i v (.inl rfl))⟩
theorem Set2.two {u0 u : World} {B : Nat} {T U : TypeId} {cs ds : Array Value} (h : Set2 u0 u B T U cs ds) (i : Nat) (v : Value) : Set2 u0 (u.setCell ⟨B + 1, i, none⟩ v) B T U cs (ds.setIfInBounds i v) :=
 ⟨by rw [heap_setCell_other _ _ _ _ (by simp)]; exact h.h1, heap_setCell_same u (B + 1) i _ _ v h.h2, h.hc.trans (chg_set u _ (B + 1) i v (.inr rfl))⟩
theorem Set2.drew {u0 u : World} {B : Nat} {T U : TypeId} {cs ds : Array Value} (h : Set2 u0 u B T U cs ds) : Set2 u0 u.drew B T U cs ds :=
 ⟨h.h1, h.h2, h.hc.trans ⟨rfl, rfl, rfl, Nat.le_refl _, fun _ _ _ => rfl⟩⟩
theorem set12_is {u : World} {B : Nat} {v0 v1 v2 v3 v4 v5 v6 v7 v8 v9 v10 v11 x0 x1 x2 x3 y0 y1 y2 y3 y4 y5 y6 y7 : Value} {T U : TypeId} (e1 : u.heap[B]? = some (.cells #[x0, x1, x2, x3] T (0, 0))) (e2 : u.heap[B + 1]? = some (.cells #[y0, y1, y2, y3, y4, y5, y6, y7] U (0, 0))) :
  Set2 u (set12 u B v0 v1 v2 v3 v4 v5 v6 v7 v8 v9 v10 v11) B T U #[v0, v1, v2, v3] #[v4, v5, v6, v7, v8, v9, v10, v11] := by
 have t0 := Set2.start (B := B) (T := T) (U := U) e1 e2
 have t1 := t0.one 0 v0
 have t2 := t1.one 1 v1
 have t3 := t2.one 2 v2
 have t4 := t3.one 3 v3
 have t5 := t4.two 0 v4
 have t6 := t5.two 1 v5
 have t7 := t6.two 2 v6
 have t8 := t7.two 3 v7
 have t9 := t8.two 4 v8
 have t10 := t9.two 5 v9
 have t11 := t10.two 6 v10
 have t12 := t11.two 7 v11
 have c1 : ((((#[x0, x1, x2, x3].setIfInBounds 0 v0).setIfInBounds 1 v1).setIfInBounds 2 v2).setIfInBounds 3 v3) = (#[v0, v1, v2, v3] : Array Value) := by simp
 have c2 : ((((((((#[y0, y1, y2, y3, y4, y5, y6, y7].setIfInBounds 0 v4).setIfInBounds 1 v5).setIfInBounds 2 v6).setIfInBounds 3 v7).setIfInBounds 4 v8).setIfInBounds 5 v9).setIfInBounds 6 v10).setIfInBounds 7 v11) = (#[v4, v5, v6, v7, v8, v9, v10, v11] : Array Value) := by simp
 rw [c1, c2] at t12
 exact t12.drew
abbrev o1 : Obj := .cells #[.int .i64 0, .int .i64 0, .int .i64 0, .int .i64 0] 90 (0, 0)
abbrev o4 : Obj := .cells #[.int .i64 1, .int .i64 2, .int .i64 3, .int .i64 4] 90 (0, 0)
abbrev o2 : Obj := .cells #[.int .i64 0, .int .i64 0, .int .i64 0, .int .i64 0, .int .i64 0, .int .i64 0, .int .i64 0, .int .i64 0] 91 (0, 0)
def bsT (b : Nat) : List (Nat × Obj) := [(b, o1), (b + 1, o2), (b + 1 + 1, o2), (b + 1 + 1 + 1, o4)]
theorem bsT_new (w : World) : ∀ k o, (k, o) ∈ bsT w.heap.size → ((((w.alloc o1).alloc o2).alloc o2).alloc o4).heap[k]? = some o := by
 intro k o h
 have z1 : (w.alloc o1).heap.size = w.heap.size + 1 := by simp
 have z2 : ((w.alloc o1).alloc o2).heap.size = w.heap.size + 1 + 1 := by simp
 have z3 : (((w.alloc o1).alloc o2).alloc o2).heap.size = w.heap.size + 1 + 1 + 1 := by simp
 have n1 := heap_alloc_new w o1
 have n2 := heap_alloc_new (w.alloc o1) o2
 have n3 := heap_alloc_new ((w.alloc o1).alloc o2) o2
 have n4 := heap_alloc_new (((w.alloc o1).alloc o2).alloc o2) o4
 have b2 := below_alloc (w.alloc o1) o2
 have b3 := below_alloc ((w.alloc o1).alloc o2) o2
 have b4 := below_alloc (((w.alloc o1).alloc o2).alloc o2) o4
 rw [z1] at n2 b2
 rw [z2] at n3 b3
 rw [z3] at n4 b4
 simp only [bsT, List.mem_cons, List.not_mem_nil, or_false, Prod.mk.injEq] at h
 rcases h with ⟨rfl, rfl⟩ | ⟨rfl, rfl⟩ | ⟨rfl, rfl⟩ | ⟨rfl, rfl⟩
 ·rw [b4.block _ (by omega), b3.block _ (by omega), b2.block _ (by omega)]; exact n1
 ·rw [b4.block _ (by omega), b3.block _ (by omega)]; exact n2
 ·rw [b4.block _ (by omega)]; exact n3
 ·exact n4
theorem bsT_low (w : World) : Below w.heap.size w ((((w.alloc o1).alloc o2).alloc o2).alloc o4) :=
 ((((Below.refl _ _).alloc (Nat.le_refl _) _).alloc (by simp) _).alloc (by simp; omega) _).alloc (by simp; omega) _
set_option maxHeartbeats 2000000 in
theorem two_k (w : World) : Calls Tryz.prog 33 #[] w fun e w' => ∃ g, e = .returned (.tuple #[.pointer (some ⟨g, 0, none⟩), .agg #[.int .i64 1, .int .i64 2, .int .i64 3, .int .i64 4], .agg #[.int .i64 17, .int .i64 18, .int .i64 5, .int .i64 6, .int .i64 15, .int .i64 16, .int .i64 5, .int .i64 6]]) ∧ Cs w.heap.size (PSq w.heap.size g 5000) NoS L18 [] [] w w' := by
 have gN := NoS.good w.heap.size
 have hbn := Lib.hid (bsT_new w)
 have hbl := Lib.hid (bsT_low w)
 go_enter Tryz.func33, Tryz.ntmps33
 go_wp2_with fail
 refine (Cs.new (base := w.heap.size) (w0 := w) (bs := bsT w.heap.size) rfl hbl.out (by omega) (by omega) hbn.out).mono ?_
 rintro e w1 ⟨g, rfl, h1⟩
 have gP := PSq.good w.heap.size g 5000
 have HC := Lib.hid h1
 clear h1 hbn hbl
 go_wp2_with fail
 go_loopw [7] (fun i wr => ∃ k : Nat, k ≤ 14 ∧ i = .int .i64 k ∧ Hid (Cs w.heap.size (PSq w.heap.size g 5000) NoS (nonces k) [] (bsT w.heap.size) w wr)) (fun i _ => 14 - (intOf i).toNat)
 case atStart => exact ⟨0, by omega, rfl, HC⟩
 case round =>
  obtain ⟨k, hk, rfl, HK⟩ := hrel
  clear HC
  by_cases hlt : k < 14
  ·have hlt' : (k : Int) < 14 := by omega
   go_wp2_with fail
   refine (HK.out.put gN (nonceT (100 + k)) (wf_nonce _ (u64_small (by omega) (by omega))) (nonces_put k hk)).mono ?_
   rintro e w2 ⟨rfl, h⟩
   have HK2 := Lib.hid h
   clear h
   go_wp2_with fail
   go_roundw
   case rel => exact ⟨k + 1, by omega, by go_num, HK2⟩
   case measure => simp [intOf]; omega
  ·have hk14 : k = 14 := by omega
   subst hk14
   have I1 : I64 1 := k1
   clear hk hlt
   obtain ⟨d0, d1, d2, d3⟩ := cells4 (HK.out.kept (w.heap.size + 1 + 1 + 1) o4 (by simp [bsT]))
   go_wp2_with fail
   clear d0 d1 d2 d3
   refine (HK.out.hpub gN (x := 1) (y := 2) (by unfold I64; decide) (by unfold I64; decide) publics1).mono ?_
   rintro e w2 ⟨rfl, h⟩
   have hX := h.pair.klt (w.heap.size + 1 + 1 + 1) ⟨o4, by simp [bsT]⟩
   have HC := Lib.hid (h.box gP gN #[.int .i64 15, .int .i64 16] 33)
   clear h
   obtain ⟨d0, d1, d2, d3⟩ := cells4 (HC.out.kept (w.heap.size + 1 + 1 + 1) o4 (by simp [bsT]))
   go_wp2_with fail
   clear d0 d1 d2 d3
   refine (HC.out.hpub gN (x := 3) (y := 4) (by unfold I64; decide) (by unfold I64; decide) publics2).mono ?_
   rintro e w3 ⟨rfl, h⟩
   have hY := h.pair.klt w2.heap.size ⟨_, List.mem_cons_self⟩
   replace HC := Lib.hid (h.box gP gN #[.int .i64 17, .int .i64 18] 33)
   clear h
   go_wp2_with fail
   generalize hwd : (w3.alloc (.cells #[.int .i64 17, .int .i64 18] 33 : Obj)) = wl at HC ⊢
   clear hwd
   generalize w3.heap.size = Y at HC hY ⊢
   generalize w2.heap.size = X at HC hX hY ⊢
   have e1 := HC.out.kept w.heap.size o1 (by simp [bsT])
   have e2 := HC.out.kept (w.heap.size + 1) o2 (by simp [bsT])
   obtain ⟨a0, a1, a2, a3⟩ := cells4 e1
   obtain ⟨b0, b1, b2, b3, b4, b5, b6, b7⟩ := cells8 e2
   have f0 := thaw_of (off := 0) e1
   have f1 := thaw_of (off := 1) e1
   have f2 := thaw_of (off := 2) e1
   have f3 := thaw_of (off := 3) e1
   have g0 := thaw_of (off := 0) e2
   have g1 := thaw_of (off := 1) e2
   have g2 := thaw_of (off := 2) e2
   have g3 := thaw_of (off := 3) e2
   have g4 := thaw_of (off := 4) e2
   have g5 := thaw_of (off := 5) e2
   have g6 := thaw_of (off := 6) e2
   have g7 := thaw_of (off := 7) e2
   obtain ⟨c0, c1, c2, c3⟩ := cells4 (HC.out.kept (w.heap.size + 1 + 1 + 1) o4 (by simp [bsT]))
   obtain ⟨x0, x1⟩ := cells2 (HC.out.kept X (.cells #[.int .i64 15, .int .i64 16] 33 (0, 0) : Obj) (by simp))
   obtain ⟨y0, y1⟩ := cells2 (HC.out.kept Y (.cells #[.int .i64 17, .int .i64 18] 33 (0, 0) : Obj) (by simp))
   have s0 := set12_is (v0 := .int .i64 1) (v1 := .int .i64 2) (v2 := .int .i64 3) (v3 := .int .i64 4) (v4 := .int .i64 17) (v5 := .int .i64 18) (v6 := .int .i64 5) (v7 := .int .i64 6) (v8 := .int .i64 15) (v9 := .int .i64 16) (v10 := .int .i64 5) (v11 := .int .i64 6) e1 e2
   have S1 := Lib.hid s0.h1
   have S2 := Lib.hid s0.h2
   have S3 := Lib.hid s0.hc
   clear e1 e2 s0
   go_region
   all_goals (try go_wp2)
   show bodyPost _ _ _ _ _ (set12 wl w.heap.size (.int .i64 1) (.int .i64 2) (.int .i64 3) (.int .i64 4) (.int .i64 17) (.int .i64 18) (.int .i64 5) (.int .i64 6) (.int .i64 15) (.int .i64 16) (.int .i64 5) (.int .i64 6))
   have hlast := HC.out.set gP gN (bs' := []) (fun k => k = w.heap.size ∨ k = w.heap.size + 1) (fun k q => by
    rcases q with rfl | rfl
    ·exact ⟨Nat.le_refl _, o1, by simp [bsT]⟩
    ·exact ⟨Nat.le_succ _, o2, by simp [bsT]⟩) S3.out (fun x q => by simp at q)
   clear a0 a1 a2 a3 b0 b1 b2 b3 b4 b5 b6 b7 c0 c1 c2 c3 x0 x1 y0 y1
   obtain ⟨a0, a1, a2, a3⟩ := cells4 S1.out
   obtain ⟨b0, b1, b2, b3, b4, b5, b6, b7⟩ := cells8 S2.out
   generalize set12 wl w.heap.size (.int .i64 1) (.int .i64 2) (.int .i64 3) (.int .i64 4) (.int .i64 17) (.int .i64 18) (.int .i64 5) (.int .i64 6) (.int .i64 15) (.int .i64 16) (.int .i64 5) (.int .i64 6) = wz at hlast a0 a1 a2 a3 b0 b1 b2 b3 b4 b5 b6 b7 ⊢
   have HL := Lib.hid hlast
   clear hlast S1 S2 S3
   exact bodyPost_ret (v := .tuple #[.pointer (some ⟨g, 0, none⟩), .agg #[.int .i64 1, .int .i64 2, .int .i64 3, .int .i64 4], .agg #[.int .i64 17, .int .i64 18, .int .i64 5, .int .i64 6, .int .i64 15, .int .i64 16, .int .i64 5, .int .i64 6]]) (by simp [results, Tryz.results33, go_sem, a0, a1, a2, a3, b0, b1, b2, b3, b4, b5, b6, b7]) rfl ⟨g, rfl, HL.out⟩
theorem Nm.i64 {L : List Tm} {t : Tr} {x : Int} (h : Nm L t x) (hl : L.length ≤ 5000) : I64 x := by
 cases h with
 | none => exact k0
 | mk _ _ _ hn => have := hn.in; exact i64_small (by omega) (by omega)
theorem StY.wf {L : List Tm} {y : Sy} {s : Ys} (h : StY L y s) (hl : L.length ≤ 5000) (h0 : 0 ≤ s.N) (h1 : s.N ≤ 1000) : y.Wf :=
 ⟨h.ck.i64 hl, h.k.i64 hl, h.h.i64 hl, by rw [h.n]; exact u64_small h0 (by omega)⟩
section
variable {L : List Tm} {A1 B1 B2 P D0 D1 D2 E0 E1 : Tr} {a1 b1 d0 d1 fr slot : Int} {offer : ByteArray} {stamp : Nat} {m : Mg} {p : Pnd}
theorem InitIs.wf (hI : InitIs L m p A1 B1 B2 P D0 D1 D2 a1 b1 d0 d1 fr slot offer stamp) (hl : L.length ≤ 5000) (hs : slot = 0 ∨ slot = 1) (hf : 0 ≤ fr ∧ fr ≤ 1000) (ho : offer.size ≤ 1000) : Ms.Ms.Wf m := by
 have h6 := hI.e.i64 hl
 have h7 := hI.ek.i64 hl
 have h8 := hI.box.i64 hl
 have h9 := hI.c1.i64 hl
 have h10 := hI.c2.i64 hl
 rw [hI.form]
 refine ⟨fun j hj => ?_, ?_⟩
 ·have hlt : j < 13 := by simp [Ms.nCell] at hj; exact hj.1
  have hss : I64 slot := by rcases hs with rfl | rfl; exact k0; exact k1
  have z : U64 0 := u64_small (by omega) (by omega)
  match j, hj with
  | 0, _ => exact k1
  | 1, _ => exact u64_small (x := fr) hf.1 (by omega)
  | 2, _ => exact z
  | 3, h => simp [Ms.nCell] at h
  | 4, _ => exact hss
  | 5, _ => exact k0
  | 6, _ => exact h6
  | 7, _ => exact h7
  | 8, _ => exact h8
  | 9, _ => exact h9
  | 10, _ => exact h10
  | 11, _ => exact z
  | 12, _ => exact z
  | n + 13, _ => omega
 ·show offer.size ≤ maxLen
  have : (1000 : Nat) ≤ maxLen := by decide
  omega
theorem RespIs.wf {s : Ses} {Y : Ys} {v tt : Int} (hR : RespIs L m s Y D1 E0 E1 v) (hm : m = respM fr tt (m.i 6) (m.i 8) (m.i 9)) (hl : L.length ≤ 5000) (hf : 0 ≤ fr ∧ fr ≤ 1000) (ht : 0 ≤ tt ∧ tt ≤ 1000) : Ms.Ms.Wf m := by
 have h6 := hR.e.i64 hl
 have h8 := hR.box.i64 hl
 have h9 := hR.c1.i64 hl
 rw [hm]
 refine ⟨fun j hj => ?_, by show (ByteArray.empty).size ≤ maxLen; decide⟩
 have hlt : j < 13 := by simp [Ms.nCell] at hj; exact hj.1
 have z : U64 0 := u64_small (by omega) (by omega)
 match j, hj with
 | 0, _ => exact k2
 | 1, _ => exact u64_small (x := fr) hf.1 (by omega)
 | 2, _ => exact u64_small (x := tt) ht.1 (by omega)
 | 3, h => simp [Ms.nCell] at h
 | 4, _ => exact k0
 | 5, _ => exact k0
 | 6, _ => exact h6
 | 7, _ => exact k0
 | 8, _ => exact h8
 | 9, _ => exact h9
 | 10, _ => exact k0
 | 11, _ => exact z
 | 12, _ => exact z
 | n + 13, _ => omega
end
theorem nm5 : Nm L18 (.nonce 104) 5 := nonce_nm 4 (by omega)
theorem nm6 : Nm L18 (.nonce 105) 6 := nonce_nm 5 (by omega)
theorem nm7 : Nm L18 (.nonce 106) 7 := nonce_nm 6 (by omega)
theorem nm8 : Nm L18 (.nonce 107) 8 := nonce_nm 7 (by omega)
theorem nm9 : Nm L18 (.nonce 108) 9 := nonce_nm 8 (by omega)
theorem nm10 : Nm L18 (.nonce 109) 10 := nonce_nm 9 (by omega)
theorem nm11 : Nm L18 (.nonce 110) 11 := nonce_nm 10 (by omega)
theorem nn (n : Int) : Tr.nonce n ≠ .none := by simp [Tr.nonce]
theorem nne {a b : Int} (h : a ≠ b) : Tr.nonce a ≠ Tr.nonce b := by simp [Tr.nonce, h]
structure FixIs (x : Mg) (q : Pnd) (o : Opd) (r : Mg) (u : Ses) (L1 L2 L3 L4 L5 L6 L7 : List Tm) : Prop where
 c1 : hBegin 5000 L18 (1, 2) pB 7 ⟨#[3, 1]⟩ 1 300 7 8 9 = (x, q, 0, L1)
 c2 : hOpen 5000 L1 (3, 4) [zeroPr, pA] ⟨#[2, 1]⟩ x = (o, 0, L2)
 c3 : hAnswer 5000 L2 o 9 7 10 11 = (r, u, 0, L3)
 c4 : hFinish 5000 L3 1 q r = (⟨u.h, u.recv, u.send, 1⟩, 0, L4)
 c5 : hOpen 5000 L4 (3, 4) [⟨15, 16, 5, 5⟩] ⟨#[2, 1]⟩ x = (zeroOpd, 9, L5)
 c6 : hOpen 5000 L5 (3, 4) [pB] ⟨#[2, 1]⟩ x = (zeroOpd, 5, L6)
 c7 : hOpen 5000 L6 (3, 4) [pA] ⟨#[2]⟩ x = (zeroOpd, 11, L6)
 c8 : hOpen 5000 L6 (1, 2) [pA] ⟨#[2, 1]⟩ x = (zeroOpd, 10, L7)
 c9 : hFinish 5000 L7 1 q x = (zeroSes, 3, L7)
 c10 : hBegin 5000 L7 (1, 2) pB 7 ⟨#[3]⟩ 2 300 7 8 9 = (zeroMg, zeroPnd, 1, L7)
 xw : Ms.Ms.Wf x
 x0 : x.i 0 = 1
 x1 : x.i 1 = 7
 rw : Ms.Ms.Wf r
 r0 : r.i 0 = 2
 r1 : r.i 1 = 9
 r2 : r.i 2 = 7
 qy : q.y.Wf
 qe : q.e = 7
 qk : q.ek = 8
 qo : q.offer = ⟨#[3, 1]⟩
 oy : o.y.Wf
 o1 : o.peer = 1
 o2 : o.version = 1
 o3 : o.stamp = 300
 o4 : I64 o.e ∧ I64 o.ek ∧ I64 o.pub
 u1 : u.version = 1
 us : u.send ≠ u.recv
theorem fix_is : ∃ x q o r u L1 L2 L3 L4 L5 L6 L7, FixIs x q o r u L1 L2 L3 L4 L5 L6 L7 := by
 have l18 := len18
 have hof : (⟨#[3, 1]⟩ : ByteArray).size ≤ 1000 := by decide
 have hb : Ms.bestE (⟨#[2, 1]⟩ : ByteArray).data.toList (⟨#[3, 1]⟩ : ByteArray).data.toList = 0 := by kernel_rfl
 have hb2 : Ms.bestE (⟨#[2]⟩ : ByteArray).data.toList (⟨#[3, 1]⟩ : ByteArray).data.toList = 11 := by kernel_rfl
 have hv : Ms.bestV (⟨#[2, 1]⟩ : ByteArray).data.toList (⟨#[3, 1]⟩ : ByteArray).data.toList = 1 := by kernel_rfl
 obtain ⟨x, q, L1, c1, hI, v1⟩ := hBegin_tr (most := 5000) (L := L18) (fr := 7) (slot := 1) (offer := ⟨#[3, 1]⟩) (stamp := 300) gd18 ends18 (P := .nonce 105) nm6 nm7 nm8 nm9 (nn _) (nn _) (nn _) (nn _) (.inr rfl) (by omega) (by kernel_rfl) (by omega) (by omega) (by omega)
 have g1 := v1.len
 have E1 := ends18.ext v1.ext
 obtain ⟨y, L2, c2, sy, v2⟩ := hOpen_tr (most := 5000) (mine := ⟨#[2, 1]⟩) (ps := [zeroPr, pA]) (i := 1) v1.gd E1 hI (nm6.ext v1.ext) (nm7.ext v1.ext) (nm9.ext v1.ext) (nn _) (nn _) (nn _) (nn _) (by decide) hof hb (by omega) (by omega)
 have g2 := v2.len
 have x2 := v1.ext.trans v2.ext
 have I2 := hI.ext v2.ext
 rw [hv] at c2
 obtain ⟨r, u, L3, c3, hR, hr, v3⟩ := hAnswer_tr (most := 5000) (o := ⟨y, 1, 1, 300, x.i 6, x.i 7, 15⟩) (fr := 9) (tt := 7) v2.gd sy (ends18.ext x2).sA1 (nm7.ext x2) (nm8.ext x2) (nm10.ext x2) (nm11.ext x2) I2.e (ends18.ext x2).pA1 I2.ek (ends18.ext x2).n1 (nn _) (nn _) (nn _) (nn _) (by omega) (by omega) (by omega) (by omega)
 have g3 := v3.len
 have x3 := x2.trans v3.ext
 have I3 := I2.ext v3.ext
 have hq1 := hI.p1
 have hq2 := hI.p2
 have hq3 := hI.p3
 obtain ⟨L4, c4, v4⟩ := hFinish_tr (most := 5000) (p := q) (v := 1) v3.gd I3.y (ends18.ext x3).sA1 (by rw [hq1]; exact nm7.ext x3) (nm10.ext x3) (by rw [hq2]; exact nm8.ext x3) (by rw [hq1]; exact hR) (ends18.ext x3).n1 (nn _) (nn _) (nn _) (nn _) (by omega) (by rw [hq3]; decide) (by omega)
 have g4 := v4.len
 have x4 := x3.trans v4.ext
 have I4 := I3.ext v4.ext
 obtain ⟨L5, c5, v5⟩ := hOpen_psk (most := 5000) (mine := ⟨#[2, 1]⟩) (ps := [⟨15, 16, 5, 5⟩]) (i := 0) (Q := .nonce 104) v4.gd (ends18.ext x4) I4 (nm5.ext x4) (nne (by decide)) (nn _) (nm7.ext x4) (nm9.ext x4) (nn _) (nn _) (nn _) (by decide) hof hb (by omega)
 have g5 := v5.len
 have x5 := x4.trans v5.ext
 have I5 := I4.ext v5.ext
 obtain ⟨L6, c6, v6⟩ := hOpen_who (most := 5000) (mine := ⟨#[2, 1]⟩) (ps := [pB]) v5.gd (ends18.ext x5) I5 (nm7.ext x5) (nm9.ext x5) (nn _) (nn _) (nn _) (by decide) hof hb (by omega)
 have g6 := v6.len
 have x6 := x5.trans v6.ext
 have I6 := I5.ext v6.ext
 have c7 := hOpen_ver (most := 5000) (mine := ⟨#[2]⟩) (ps := [pA]) (x := (3, 4)) I6 (by rw [hb2]; decide)
 rw [hb2] at c7
 obtain ⟨L7, c8, v7⟩ := hOpen_box (most := 5000) (mine := ⟨#[2, 1]⟩) (ps := [pA]) v6.gd I6 (ends18.ext x6).sA1 (ends18.ext x6).sA2 (nm7.ext x6) (nne (by decide)) (ends18.ext x6).n1 (ends18.ext x6).n2 (nn _) (nn _) (nn _) hof hb (by omega)
 have g7 := v7.len
 have kd := hI.kind
 have hus : u.send ≠ u.recv := fun e => by
  have hs := hR.send
  rw [e] at hs
  have := hs.inj hR.recv
  simp [Tr.key] at this
 refine ⟨x, q, _, r, u, L1, L2, L3, L4, L5, L6, L7, c1, c2, c3, c4, c5, c6, c7, c8, hFinish_kind (by rw [kd.1]; decide), hBegin_slot (by decide), hI.wf (by omega) (.inr rfl) (by omega) hof, kd.1, kd.2.2.2, hR.wf hr (by omega) (by omega) (by omega), hR.kind, ?_, ?_, hI.y.wf (by omega) ?_ ?_, hq1, hq2, hq3, sy.wf (by omega) ?_ ?_, rfl, rfl, rfl, ⟨hI.e.i64 (by omega), hI.ek.i64 (by omega), by show I64 15; unfold I64; decide⟩, hR.version, hus⟩
 ·rw [hr]; rfl
 ·rw [hr]; rfl
 all_goals (simp only [Ys.sealed, Yb2, beginY2, Ys.turn]; omega)
section
variable {L : List Tm} {most : Int}
end
end Go.Proofs.YtgeonppckeiceaaGreatDoor
