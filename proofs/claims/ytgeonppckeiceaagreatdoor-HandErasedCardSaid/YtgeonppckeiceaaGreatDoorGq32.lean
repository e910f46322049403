/- A look at a term, what its walks share. The program's there: whether there is a term of each of some names. -/
/- The program's rules that look up in its map: shared, wrapped, inBox. The program's rule that looks into a box: inBox. -/
import Derived.Test.YtgeonppckeiceaaGreatDoorGq31
import Derived.Test.YtgeonppckeiceaaGreatDoorGq01
import Derived.Deep.RegionHeld3
namespace Go.Proofs.YtgeonppckeiceaaGreatDoor
open Go.RowKit
open Go.Maps
set_option linter.unusedVariables false
set_option linter.unusedSimpArgs false
set_option maxRecDepth 20000
theorem ints_kept {base : Nat} {a : Option Addr} {cap : Nat} {ks : List Int} {W : World} {S : Nat → Prop} (h : OwnI base (.slice a ks.length cap) ks W) (hS : ∀ k, S k → k < base) : ∀ W', Chg S W W' → IntsAt W' a cap ks := fun W' hc => by
 have h' : OwnI base (.slice a ks.length cap) ks W' := h.chg hc (fun k hk q => by have := (World.ownsRow.lt h k hk).1; have := hS k q; omega)
 obtain ⟨a', cap', e, hi⟩ := h'.at
 injection e with e1 e2 e3
 subst e1; subst e3
 exact hi
theorem Mind.sm {w0 w : World} {g : Nat} {L : List Tm} {dh kem : Bool} {B : MB} {nm : Tm → Int} {H : Nat → List Int} {vs : Nat → Value} {v : Value} {M : List Int} (h : Mind w0 g L dh kem B nm H vs v M w) : ∀ k, SM B v k → k < w.heap.size := by
 rintro k (e | e | e)
 ·rw [e]; exact (h.at 0 _ rfl).2
 ·rw [e]; exact (h.at 1 _ rfl).2
 ·exact (h.at 4 k e.symm).2
def HeldL (W : World) (q : Nat) (B : MB) (i : Nat) (f : Value) (K : Int) (S : ByteArray) (N A Bx C : Int) (w : World) : Prop := w.cell? ⟨q, 0, none⟩ = some (.int .i64 K) ∧ w.cell? ⟨q, 1, none⟩ = some (.string S) ∧ w.cell? ⟨q, 2, none⟩ = some (.int .u64 N) ∧ w.cell? ⟨q, 3, none⟩ = some (.int .i64 A) ∧ w.cell? ⟨q, 4, none⟩ = some (.int .i64 Bx) ∧ w.cell? ⟨q, 5, none⟩ = some (.int .i64 C) ∧
 w.cell? ⟨B.m, i, none⟩ = some f ∧ Hid (Below W.heap.size W w)
theorem HeldL.below {W w w' : World} {q : Nat} {B : MB} {i : Nat} {f : Value} {K : Int} {S : ByteArray} {N A Bx C : Int} (hb : Below w.heap.size w w') (h : HeldL W q B i f K S N A Bx C w) : HeldL W q B i f K S N A Bx C w' := by
 obtain ⟨a1, a2, a3, a4, a5, a6, a7, a11⟩ := h
 exact ⟨(hb.cell (block_lt_of_cell a1)).trans a1, (hb.cell (block_lt_of_cell a2)).trans a2, (hb.cell (block_lt_of_cell a3)).trans a3, (hb.cell (block_lt_of_cell a4)).trans a4, (hb.cell (block_lt_of_cell a5)).trans a5, (hb.cell (block_lt_of_cell a6)).trans a6, (hb.cell (block_lt_of_cell a7)).trans a7, Lib.hid (a11.out.trans (hb.mono a11.out.size))⟩
def StoreAt (w0 : World) (g : Nat) (L : List Tm) : Prop := ∃ b F most, PS b g F L most w0
theorem StoreAt.get {w0 w : World} {g : Nat} {L : List Tm} (h : StoreAt w0 g L) (hb : Below w0.heap.size w0 w) (x : Int) :
  Calls Tryz.prog 102 #[.pointer (some ⟨g, 0, none⟩), .int .i64 x] w fun e w' => e = .returned (.tuple #[(getT L x).1.v, .bool (getT L x).2]) ∧ Below w.heap.size w w' := by
 obtain ⟨b, F, most, gl, bm, tv, dv, D, hp⟩ := h
 exact getP_any w (hp.below hb) x
theorem StoreAt.len {w0 w : World} {g : Nat} {L : List Tm} (h : StoreAt w0 g L) (hb : Below w0.heap.size w0 w) :
  Calls Tryz.prog 36 #[.pointer (some ⟨g, 0, none⟩)] w fun e w' => e = .returned (.int .i64 L.length) ∧ w = w' := by
 obtain ⟨b, F, most, gl, bm, tv, dv, D, hp⟩ := h
 exact lenP_any w (hp.below hb)
theorem look_true {L : List Tm} {dh kem : Bool} {M : List Int} {x : Int} (h : ruleB L (has M) dh kem (tm L x) = true) : look1 L dh kem M x = addAll M [x] := by unfold look1; rw [if_pos h]; rfl
theorem look_false {L : List Tm} {dh kem : Bool} {M : List Int} {x : Int} (h : ruleB L (has M) dh kem (tm L x) = false) : look1 L dh kem M x = M := by unfold look1; rw [if_neg (by rw [h]; decide)]
theorem lookF_true {L : List Tm} {dh kem : Bool} {M M1 : List Int} {x : Int} (e : look1 L dh kem M x = M1) (h : has M1 x = true) : lookF L dh kem M x = addAll M1 (openL (has M1) (tm L x)) := by unfold lookF; rw [e, if_pos h]
theorem lookF_false {L : List Tm} {dh kem : Bool} {M M1 : List Int} {x : Int} (e : look1 L dh kem M x = M1) (h : has M1 x = false) : lookF L dh kem M x = M1 := by unfold lookF; rw [e, if_neg (by rw [h]; decide)]
end Go.Proofs.YtgeonppckeiceaaGreatDoor
namespace Go.Proofs.YtgeonppckeiceaaGreatDoor
open Go.RowKit
open Go.Maps
set_option linter.unusedVariables false
set_option linter.unusedSimpArgs false
set_option maxRecDepth 20000
set_option maxHeartbeats 2000000 in
set_option maxRecDepth 100000 in
theorem there_k {w0 : World} {g : Nat} {L : List Tm} (hg : StoreAt w0 g L) (a : Option Addr) (cap : Nat) (ks : List Int) (W : World) (hb : Below w0.heap.size w0 W) (h : IntsAt W a cap ks) :
  Calls Tryz.prog 107 #[.pointer (some ⟨g, 0, none⟩), .slice a ks.length cap] W fun e W' => e = .returned (.bool (ks.all (allB L))) ∧ Below W.heap.size W W' := by
 have hlen := h.len
 have HI := Lib.hid h
 have HG : Hid (∀ w', Hid (Below W.heap.size W w') → ∀ x : Int, Calls Tryz.prog 102 #[.pointer (some ⟨g, 0, none⟩), .int .i64 x] w' fun e W' => e = .returned (.tuple #[(getT L x).1.v, .bool (getT L x).2]) ∧ Below w'.heap.size w' W') := Lib.hid (fun w' hb' x => hg.get (hb.trans (hb'.out.mono hb.size)) x)
 obtain ⟨n, hn⟩ : ∃ n, n = ks.length := ⟨_, rfl⟩
 rw [← hn] at hlen ⊢
 have HN := Lib.hid hn
 clear h hg hb hn
 go_enter Tryz.func107, Tryz.ntmps107
 go_wp2
 go_loopw [6, 7, 8, 11] (fun _ _ _ i wr => ∃ k : Nat, k ≤ n ∧ i = .int .i64 k ∧ Hid ((ks.take k).all (allB L) = true) ∧ Hid (Below W.heap.size W wr)) (fun _ _ _ i _ => n - (intOf i).toNat)
 case atStart => exact ⟨0, Nat.zero_le _, rfl, Lib.hid (by simp), Lib.hid (Below.refl _ _)⟩
 case round =>
  obtain ⟨k, hk, rfl, HJ, HB⟩ := hrel
  by_cases hlt : k < n
  ·obtain ⟨_, _, b, off, hc⟩ := HI.out.below HB.out
   obtain ⟨rfl, q0⟩ := hc k (by rw [← HN.out]; exact hlt)
   obtain ⟨y, hy⟩ : ∃ y, y = ks.getD k 0 := ⟨_, rfl⟩
   rw [← hy] at q0
   have HY := Lib.hid hy
   have HS : Hid ((ks.take (k + 1)).all (allB L) = allB L y) := Lib.hid (by
    rw [take_getD (by rw [← HN.out]; exact hlt), List.all_append, HJ.out, ← hy]; simp)
   have Hlt := Lib.hid hlt
   have hlt1 : (k : Int) < n := by omega
   have HGY : Hid (Calls Tryz.prog 102 #[.pointer (some ⟨g, 0, none⟩), .int .i64 y] wr fun e W' => e = .returned (.tuple #[(getT L y).1.v, .bool (getT L y).2]) ∧ Below wr.heap.size wr W') := Lib.hid (HG.out wr HB y)
   have hok : (getT L y).2 = allB L y := by
    unfold getT allB InL
    split
    ·rename_i q; rw [decide_eq_true q]
    ·rename_i q; rw [decide_eq_false q]
   rw [hok] at HGY
   obtain ⟨⟨TK, TS, TN, TA, TB, TC⟩, ht⟩ : ∃ t, t = (getT L y).1 := ⟨_, rfl⟩
   rw [← ht] at HGY
   unfold Tm.v at HGY
   obtain ⟨o, ho⟩ : ∃ o, o = allB L y := ⟨_, rfl⟩
   rw [← ho] at HGY HS
   have HO := Lib.hid ho
   clear ht ho hok hy hc hk hlt
   cases o
   all_goals
    go_wp2_with fail
    refine HGY.out.mono ?_
    rintro e w1 ⟨rfl, hb1⟩
    have HB1 : Hid (Below W.heap.size W w1) := Lib.hid (HB.out.trans (hb1.mono HB.out.size))
    clear hb1 HGY
    go_wp2_with fail
   ·go_ret
    have e : ks.all (allB L) = false := by
     rw [List.all_eq_false]
     exact ⟨_, getD_mem (ks := ks) (k := k) (by rw [← HN.out]; exact Hlt.out), by rw [← HY.out, ← HO.out]; decide⟩
    rw [e]
    exact ⟨rfl, HB1.out.alloc HB1.out.size _⟩
   ·go_roundw
    case rel => exact ⟨k + 1, by have := Hlt.out; omega, by go_num, HS, Lib.hid (HB1.out.alloc HB1.out.size _)⟩
    case measure => have := Hlt.out; simp [intOf]; omega
  ·obtain rfl : k = n := by omega
   have hlt1 : decide ((k : Int) < k) = false := by simp
   clear hlt hk
   go_wp2
   go_ret
   have e : ks.all (allB L) = true := by have := HJ.out; rw [HN.out, List.take_length] at this; exact this
   rw [e]
   exact ⟨rfl, HB.out⟩
theorem wf_name {L : List Tm} (hm : L.length ≤ 1048576) {x : Int} (h : InL L x) : (Lit.int .i64 x).wf = true := by
 have h1 := h.1
 have h2 := h.2
 exact wf_small _ (by omega) (by omega)
theorem wf_pub {L : List Tm} (hm : L.length ≤ 1048576) {x : Int} (h : InL L x) : Wf (pubT x) := ⟨by show (⟨#[]⟩ : ByteArray).size ≤ maxLen; decide, by show (Lit.int .i64 3).wf = true; decide, by show (Lit.int .u64 0).wf = true; decide, wf_name hm h, by show (Lit.int .i64 0).wf = true; decide, by show (Lit.int .i64 0).wf = true; decide⟩
theorem wf_kpub {L : List Tm} (hm : L.length ≤ 1048576) {x : Int} (h : InL L x) : Wf (kpubT x) := ⟨by show (⟨#[]⟩ : ByteArray).size ≤ maxLen; decide, by show (Lit.int .i64 5).wf = true; decide, by show (Lit.int .u64 0).wf = true; decide, wf_name hm h, by show (Lit.int .i64 0).wf = true; decide, by show (Lit.int .i64 0).wf = true; decide⟩
theorem wf_box {L : List Tm} (hm : L.length ≤ 1048576) {x y : Int} (h : InL L x) (k : InL L y) : Wf (boxT x y) := ⟨by show (⟨#[]⟩ : ByteArray).size ≤ maxLen; decide, by show (Lit.int .i64 6).wf = true; decide, by show (Lit.int .u64 0).wf = true; decide, wf_name hm h, wf_name hm k, by show (Lit.int .i64 0).wf = true; decide⟩
def HeldN (W : World) (B : MB) (N ja jb : Nat) (xa xb dh kem : Bool) (w : World) : Prop := w.cell? ⟨W.heap.size, 3, none⟩ = some (.int .i64 (ja : Int)) ∧ w.cell? ⟨W.heap.size, 4, none⟩ = some (.int .i64 (jb : Int)) ∧ w.cell? ⟨B.m, 15, none⟩ = some (.slice (some ⟨B.c, 0, none⟩) (N + 1) (N + 1)) ∧
 w.cell? ⟨B.c, ja, none⟩ = some (.bool xa) ∧ w.cell? ⟨B.c, jb, none⟩ = some (.bool xb) ∧ w.cell? ⟨B.m, 1, none⟩ = some (.bool dh) ∧ w.cell? ⟨B.m, 2, none⟩ = some (.bool kem) ∧ Hid (Below W.heap.size W w)
theorem HeldN.below {W w w' : World} {B : MB} {N ja jb : Nat} {xa xb dh kem : Bool} (hb : Below w.heap.size w w') (h : HeldN W B N ja jb xa xb dh kem w) : HeldN W B N ja jb xa xb dh kem w' := by
 obtain ⟨h1, h2, h3, h4, h5, h6, h7, h8⟩ := h
 exact ⟨(hb.cell (block_lt_of_cell h1)).trans h1, (hb.cell (block_lt_of_cell h2)).trans h2, (hb.cell (block_lt_of_cell h3)).trans h3, (hb.cell (block_lt_of_cell h4)).trans h4, (hb.cell (block_lt_of_cell h5)).trans h5, (hb.cell (block_lt_of_cell h6)).trans h6, (hb.cell (block_lt_of_cell h7)).trans h7, Lib.hid (h8.out.trans (hb.mono h8.out.size))⟩
section
variable {w0 : World} {g : Nat} {L : List Tm} {dh kem : Bool} {B : MB} {H : Nat → List Int} {vs : Nat → Value} {v : Value} {M : List Int}
set_option maxHeartbeats 4000000 in
set_option maxRecDepth 100000 in
theorem shared_k (K : Int) (S : ByteArray) (N : Int) (ja jb : Nat) (C : Int) (hA : InL L (ja : Int)) (hB : InL L (jb : Int)) (W : World) (h : MindF w0 g L dh kem B H vs v M W) :
  Calls Tryz.prog 190 #[.pointer (some ⟨B.m, 0, none⟩), Tm.v ⟨K, S, N, (ja : Int), (jb : Int), C⟩] W fun e W' => e = .returned (.bool ((has M (ja : Int) && (has M (jb : Int) || hasT L (has M) (pubT (jb : Int)))) || (has M (jb : Int) && hasT L (has M) (pubT (ja : Int))) || (dh && hasT L (has M) (pubT (ja : Int)) && hasT L (has M) (pubT (jb : Int))))) ∧ Below W.heap.size W W' := by
 have HCAN : Hid (∀ w', Hid (Below W.heap.size W w') → ∀ t, Wf t → asked3 t → Calls Tryz.prog 215 #[.pointer (some ⟨B.m, 0, none⟩), t.v] w' fun e W' => e = .returned (.bool (hasT L (has M) t)) ∧ Below w'.heap.size w' W') := Lib.hid (fun w' hb t ht ha => canBe_k t ht ha w' (h.next hb.out))
 have HCP : Hid (∀ w', HeldN W B L.length ja jb (has M (ja : Int)) (has M (jb : Int)) dh kem w' → ∀ y, (y = (ja : Int) ∨ y = (jb : Int)) → Calls Tryz.prog 215 #[.pointer (some ⟨B.m, 0, none⟩), (pubT y).v] w' fun e W' => e = .returned (.bool (hasT L (has M) (pubT y))) ∧ Below w'.heap.size w' W') := Lib.hid (fun w' hs y hy => HCAN.out w' hs.2.2.2.2.2.2.2 _ (wf_pub h.most (by rcases hy with rfl | rfl; exact hA; exact hB)) (.inl rfl))
 obtain ⟨W1, hW1⟩ : ∃ W1, W1 = W.alloc (.cells #[.int .i64 K, .string S, .int .u64 N, .int .i64 (ja : Int), .int .i64 (jb : Int), .int .i64 C] 116) := ⟨_, rfl⟩
 have hb1 : Below W.heap.size W W1 := by rw [hW1]; exact (Below.refl _ _).alloc (Nat.le_refl _) _
 have HM1 : Hid (MindF w0 g L dh kem B H vs v M W1) := Lib.hid (h.next hb1)
 have z : ∀ j, W1.cell? ⟨W.heap.size, j, none⟩ = #[Value.int .i64 K, .string S, .int .u64 N, .int .i64 (ja : Int), .int .i64 (jb : Int), .int .i64 C][j]? := fun j => by rw [hW1]; exact cell_of_row _ _ j _ _ _ (heap_alloc_new W _)
 have z0 := z 0
 have z1 := z 1
 have z2 := z 2
 have z3 := z 3
 have z4 := z 4
 have z5 := z 5
 simp at z0 z1 z2 z3 z4 z5
 have HB1 := Lib.hid hb1
 obtain ⟨_, c15, _, _, _, c1, c2⟩ := HM1.out.cells
 have hsW1 : W.heap.size < W1.heap.size := by rw [hW1]; simp
 have hmost := h.most
 clear z h hb1
 obtain ⟨xa, hxa⟩ : ∃ x, x = has M (ja : Int) := ⟨_, rfl⟩
 obtain ⟨xb, hxb⟩ : ∃ x, x = has M (jb : Int) := ⟨_, rfl⟩
 have ca := HM1.out.canAt (i := ja) (by have := hA.2; omega)
 have cb := HM1.out.canAt (i := jb) (by have := hB.2; omega)
 rw [← hxa] at ca
 rw [← hxb] at cb
 have hjl : (ja : Int) < (L.length : Int) + 1 := by have := hA.2; omega
 have hjl2 : (jb : Int) < (L.length : Int) + 1 := by have := hB.2; omega
 rw [← hxa, ← hxb] at HCP ⊢
 obtain ⟨pa, hpa⟩ : ∃ x, x = hasT L (has M) (pubT (ja : Int)) := ⟨_, rfl⟩
 obtain ⟨pb, hpb⟩ : ∃ x, x = hasT L (has M) (pubT (jb : Int)) := ⟨_, rfl⟩
 rw [← hpa, ← hpb]
 have HPA := Lib.hid hpa
 have HPB := Lib.hid hpb
 clear hpa hpb hxa hxb hA hB HCAN
 unfold Tm.v
 go_enter Tryz.func190, Tryz.ntmps190
 go_wp2
 rw [← hW1]
 clear hW1
 go_quiet (fail)
 have HB2 : Hid (Below W.heap.size W (W1.drewN nq)) := Lib.hid (HB1.out.trans ((drewN_below W1 nq).mono HB1.out.size))
 have hS1 : HeldN W B L.length ja jb xa xb dh kem (W1.drewN nq) := ⟨z3, z4, c15, ca, cb, c1, c2, HB2⟩
 generalize W1.drewN nq = W2 at hS1 ⊢
 clear z0 z1 z2 z3 z4 z5 c15 ca cb c1 c2 HB2 HM1 HB1
 go_wp2
 have hS2 : HeldN W B L.length ja jb xa xb dh kem W2.drew := HeldN.below (drewN_below W2 1) hS1
 clear hS1
 go_region_held3 (fun w' => w'.cell? ⟨W.heap.size, 3, none⟩ = some (.int .i64 (ja : Int)) ∧ w'.cell? ⟨W.heap.size, 4, none⟩ = some (.int .i64 (jb : Int)) ∧ w'.cell? ⟨B.m, 15, none⟩ = some (.slice (some ⟨B.c, 0, none⟩) (L.length + 1) (L.length + 1)) ∧ w'.cell? ⟨B.c, ja, none⟩ = some (.bool xa) ∧ w'.cell? ⟨B.c, jb, none⟩ = some (.bool xb) ∧ w'.cell? ⟨B.m, 1, none⟩ = some (.bool dh) ∧ w'.cell? ⟨B.m, 2, none⟩ = some (.bool kem) ∧ Hid (Below W.heap.size W w')) (first | assumption | go_keep) (first | (go_at_call 216; refine (kpub_k _ _).mono ?_; rintro e W13 ⟨rfl, hb13⟩; have hS13 : HeldN W B L.length ja jb xa xb dh kem W13 := HeldN.below hb13 (by assumption)) | (go_at_call 215; refine (HCP.out _ (by assumption) _ (by first | exact .inl rfl | exact .inr rfl)).mono ?_; rintro e W13 ⟨rfl, hb13⟩; have hS13 : HeldN W B L.length ja jb xa xb dh kem W13 := HeldN.below hb13 (by assumption)))
 rw [← HPA.out, ← HPB.out]
 obtain ⟨_, _, _, _, _, d1, _, HB3⟩ := hS13
 clear hS2 HCP HPA HPB
 cases xa <;> cases xb <;> cases pa <;> cases pb <;> cases dh
 all_goals
  go_wp2
  go_ret
  exact ⟨rfl, HB3.out⟩
set_option maxHeartbeats 4000000 in
set_option maxRecDepth 100000 in
theorem wrapped_k (K : Int) (S : ByteArray) (N : Int) (ja jb : Nat) (C : Int) (hA : InL L (ja : Int)) (hB : InL L (jb : Int)) (W : World) (h : MindF w0 g L dh kem B H vs v M W) :
  Calls Tryz.prog 191 #[.pointer (some ⟨B.m, 0, none⟩), Tm.v ⟨K, S, N, (ja : Int), (jb : Int), C⟩] W fun e W' => e = .returned (.bool (has M (jb : Int) && (has M (ja : Int) || hasT L (has M) (kpubT (ja : Int))))) ∧ Below W.heap.size W W' := by
 have HCAN : Hid (∀ w', Hid (Below W.heap.size W w') → ∀ t, Wf t → asked3 t → Calls Tryz.prog 215 #[.pointer (some ⟨B.m, 0, none⟩), t.v] w' fun e W' => e = .returned (.bool (hasT L (has M) t)) ∧ Below w'.heap.size w' W') := Lib.hid (fun w' hb t ht ha => canBe_k t ht ha w' (h.next hb.out))
 have HCP : Hid (∀ w', HeldN W B L.length ja jb false true dh kem w' → Calls Tryz.prog 215 #[.pointer (some ⟨B.m, 0, none⟩), (kpubT (ja : Int)).v] w' fun e W' => e = .returned (.bool (hasT L (has M) (kpubT (ja : Int)))) ∧ Below w'.heap.size w' W') := Lib.hid (fun w' hs => HCAN.out w' hs.2.2.2.2.2.2.2 _ (wf_kpub h.most hA) (.inr (.inl rfl)))
 obtain ⟨W1, hW1⟩ : ∃ W1, W1 = W.alloc (.cells #[.int .i64 K, .string S, .int .u64 N, .int .i64 (ja : Int), .int .i64 (jb : Int), .int .i64 C] 116) := ⟨_, rfl⟩
 have hb1 : Below W.heap.size W W1 := by rw [hW1]; exact (Below.refl _ _).alloc (Nat.le_refl _) _
 have HM1 : Hid (MindF w0 g L dh kem B H vs v M W1) := Lib.hid (h.next hb1)
 have z : ∀ j, W1.cell? ⟨W.heap.size, j, none⟩ = #[Value.int .i64 K, .string S, .int .u64 N, .int .i64 (ja : Int), .int .i64 (jb : Int), .int .i64 C][j]? := fun j => by rw [hW1]; exact cell_of_row _ _ j _ _ _ (heap_alloc_new W _)
 have z0 := z 0
 have z1 := z 1
 have z2 := z 2
 have z3 := z 3
 have z4 := z 4
 have z5 := z 5
 simp at z0 z1 z2 z3 z4 z5
 have HB1 := Lib.hid hb1
 obtain ⟨_, c15, _, _, _, c1, c2⟩ := HM1.out.cells
 have hsW1 : W.heap.size < W1.heap.size := by rw [hW1]; simp
 have hmost := h.most
 clear z h hb1
 obtain ⟨xa, hxa⟩ : ∃ x, x = has M (ja : Int) := ⟨_, rfl⟩
 obtain ⟨xb, hxb⟩ : ∃ x, x = has M (jb : Int) := ⟨_, rfl⟩
 have ca := HM1.out.canAt (i := ja) (by have := hA.2; omega)
 have cb := HM1.out.canAt (i := jb) (by have := hB.2; omega)
 rw [← hxa] at ca
 rw [← hxb] at cb
 have hjl : (ja : Int) < (L.length : Int) + 1 := by have := hA.2; omega
 have hjl2 : (jb : Int) < (L.length : Int) + 1 := by have := hB.2; omega
 rw [← hxa, ← hxb]
 clear hxa hxb hA hB HCAN
 unfold Tm.v
 cases xb
 ·go_enter Tryz.func191, Tryz.ntmps191
  go_wp2
  rw [← hW1]
  clear hW1
  go_quiet (fail)
  go_wp2
  go_ret
  exact ⟨rfl, HB1.out.trans ((drewN_below W1 nq).mono HB1.out.size)⟩
 ·cases xa
  ·have hS1 : HeldN W B L.length ja jb false true dh kem W1 := ⟨z3, z4, c15, ca, cb, c1, c2, HB1⟩
   have hS2 : HeldN W B L.length ja jb false true dh kem W1.drew := HeldN.below (drewN_below W1 1) hS1
   go_enter Tryz.func191, Tryz.ntmps191
   go_wp2
   rw [← hW1]
   clear hW1 z0 z1 z2 z3 z4 z5 c15 ca cb c1 c2 HM1 HB1 hS1
   go_region_held3 (fun w' => w'.cell? ⟨W.heap.size, 3, none⟩ = some (.int .i64 (ja : Int)) ∧ w'.cell? ⟨W.heap.size, 4, none⟩ = some (.int .i64 (jb : Int)) ∧ w'.cell? ⟨B.m, 15, none⟩ = some (.slice (some ⟨B.c, 0, none⟩) (L.length + 1) (L.length + 1)) ∧ w'.cell? ⟨B.c, ja, none⟩ = some (.bool false) ∧ w'.cell? ⟨B.c, jb, none⟩ = some (.bool true) ∧ w'.cell? ⟨B.m, 1, none⟩ = some (.bool dh) ∧ w'.cell? ⟨B.m, 2, none⟩ = some (.bool kem) ∧ Hid (Below W.heap.size W w')) (first | assumption | go_keep) (first | (go_at_call 217; refine (kkpub_k _ _).mono ?_; rintro e W13 ⟨rfl, hb13⟩; have hS13 : HeldN W B L.length ja jb false true dh kem W13 := HeldN.below hb13 (by assumption)) | (go_at_call 215; refine (HCP.out _ (by assumption)).mono ?_; rintro e W13 ⟨rfl, hb13⟩; have hS13 : HeldN W B L.length ja jb false true dh kem W13 := HeldN.below hb13 (by assumption)))
   obtain ⟨_, _, _, _, _, _, _, HB3⟩ := hS13
   go_wp2
   go_ret
   exact ⟨rfl, HB3.out⟩
  ·go_enter Tryz.func191, Tryz.ntmps191
   go_wp2
   rw [← hW1]
   clear hW1
   go_quiet (fail)
   go_wp2
   go_ret
   exact ⟨rfl, HB1.out.trans ((drewN_below W1 nq).mono HB1.out.size)⟩
end
end Go.Proofs.YtgeonppckeiceaaGreatDoor
namespace Go.Proofs.YtgeonppckeiceaaGreatDoor
open Go.RowKit
open Go.Maps
set_option linter.unusedVariables false
set_option linter.unusedSimpArgs false
set_option maxRecDepth 20000
def HeldX (W : World) (B : MB) (n : Nat) (K : Int) (S : ByteArray) (N : Int) (ja jb : Nat) (C : Int) (xa dh kem : Bool) (w : World) : Prop := w.cell? ⟨W.heap.size, 0, none⟩ = some (.int .i64 K) ∧ w.cell? ⟨W.heap.size, 1, none⟩ = some (.string S) ∧ w.cell? ⟨W.heap.size, 2, none⟩ = some (.int .u64 N) ∧ w.cell? ⟨W.heap.size, 3, none⟩ = some (.int .i64 (ja : Int)) ∧ w.cell? ⟨W.heap.size, 4, none⟩ = some (.int .i64 (jb : Int)) ∧ w.cell? ⟨W.heap.size, 5, none⟩ = some (.int .i64 C) ∧
 w.cell? ⟨B.m, 15, none⟩ = some (.slice (some ⟨B.c, 0, none⟩) (n + 1) (n + 1)) ∧ w.cell? ⟨B.c, ja, none⟩ = some (.bool xa) ∧ w.cell? ⟨B.m, 1, none⟩ = some (.bool dh) ∧ w.cell? ⟨B.m, 2, none⟩ = some (.bool kem) ∧ Hid (Below W.heap.size W w)
theorem HeldX.below {W w w' : World} {B : MB} {n : Nat} {K : Int} {S : ByteArray} {N : Int} {ja jb : Nat} {C : Int} {xa dh kem : Bool} (hb : Below w.heap.size w w') (h : HeldX W B n K S N ja jb C xa dh kem w) : HeldX W B n K S N ja jb C xa dh kem w' := by
 obtain ⟨a1, a2, a3, a4, a5, a6, a7, a8, a9, a10, a11⟩ := h
 exact ⟨(hb.cell (block_lt_of_cell a1)).trans a1, (hb.cell (block_lt_of_cell a2)).trans a2, (hb.cell (block_lt_of_cell a3)).trans a3, (hb.cell (block_lt_of_cell a4)).trans a4, (hb.cell (block_lt_of_cell a5)).trans a5, (hb.cell (block_lt_of_cell a6)).trans a6, (hb.cell (block_lt_of_cell a7)).trans a7, (hb.cell (block_lt_of_cell a8)).trans a8, (hb.cell (block_lt_of_cell a9)).trans a9, (hb.cell (block_lt_of_cell a10)).trans a10, Lib.hid (a11.out.trans (hb.mono a11.out.size))⟩
section
variable {w0 : World} {g : Nat} {L : List Tm} {dh kem : Bool} {B : MB} {H : Nat → List Int} {vs : Nat → Value} {v : Value} {M : List Int}
set_option maxHeartbeats 4000000 in
set_option maxRecDepth 100000 in
theorem inBox_k (K : Int) (S : ByteArray) (N : Int) (ja jb : Nat) (C : Int) (hA : InL L (ja : Int)) (hB : InL L (jb : Int)) (W : World) (h : MindF w0 g L dh kem B H vs v M W) :
  Calls Tryz.prog 192 #[.pointer (some ⟨B.m, 0, none⟩), Tm.v ⟨K, S, N, (ja : Int), (jb : Int), C⟩] W fun e W' => e = .returned (.bool ((has M (jb : Int) && (has M (ja : Int) || hasT L (has M) (kpubT (ja : Int)))) || (hasT L (has M) (boxT (ja : Int) (jb : Int)) && (has M (ja : Int) || kem)))) ∧ Below W.heap.size W W' := by
 have HCAN : Hid (∀ w', Hid (Below W.heap.size W w') → ∀ t, Wf t → asked3 t → Calls Tryz.prog 215 #[.pointer (some ⟨B.m, 0, none⟩), t.v] w' fun e W' => e = .returned (.bool (hasT L (has M) t)) ∧ Below w'.heap.size w' W') := Lib.hid (fun w' hb t ht ha => canBe_k t ht ha w' (h.next hb.out))
 have HCP : Hid (∀ w', HeldX W B L.length K S N ja jb C (has M (ja : Int)) dh kem w' → Calls Tryz.prog 215 #[.pointer (some ⟨B.m, 0, none⟩), (boxT (ja : Int) (jb : Int)).v] w' fun e W' => e = .returned (.bool (hasT L (has M) (boxT (ja : Int) (jb : Int)))) ∧ Below w'.heap.size w' W') := Lib.hid (fun w' hs => HCAN.out w' hs.2.2.2.2.2.2.2.2.2.2 _ (wf_box h.most hA hB) (.inr (.inr rfl)))
 have HWR : Hid (∀ w', HeldX W B L.length K S N ja jb C (has M (ja : Int)) dh kem w' → Calls Tryz.prog 191 #[.pointer (some ⟨B.m, 0, none⟩), Tm.v ⟨K, S, N, (ja : Int), (jb : Int), C⟩] w' fun e W' => e = .returned (.bool (has M (jb : Int) && (has M (ja : Int) || hasT L (has M) (kpubT (ja : Int))))) ∧ Below w'.heap.size w' W') := Lib.hid (fun w' hs => wrapped_k K S N ja jb C hA hB w' (h.next hs.2.2.2.2.2.2.2.2.2.2.out))
 obtain ⟨wB, hwB⟩ : ∃ x, x = (has M (jb : Int) && (has M (ja : Int) || hasT L (has M) (kpubT (ja : Int)))) := ⟨_, rfl⟩
 obtain ⟨bx, hbx⟩ : ∃ x, x = hasT L (has M) (boxT (ja : Int) (jb : Int)) := ⟨_, rfl⟩
 rw [← hwB] at HWR
 rw [← hbx] at HCP
 rw [← hwB, ← hbx]
 obtain ⟨W1, hW1⟩ : ∃ W1, W1 = W.alloc (.cells #[.int .i64 K, .string S, .int .u64 N, .int .i64 (ja : Int), .int .i64 (jb : Int), .int .i64 C] 116) := ⟨_, rfl⟩
 have hb1 : Below W.heap.size W W1 := by rw [hW1]; exact (Below.refl _ _).alloc (Nat.le_refl _) _
 have HM1 : Hid (MindF w0 g L dh kem B H vs v M W1) := Lib.hid (h.next hb1)
 have z : ∀ j, W1.cell? ⟨W.heap.size, j, none⟩ = #[Value.int .i64 K, .string S, .int .u64 N, .int .i64 (ja : Int), .int .i64 (jb : Int), .int .i64 C][j]? := fun j => by rw [hW1]; exact cell_of_row _ _ j _ _ _ (heap_alloc_new W _)
 have z0 := z 0
 have z1 := z 1
 have z2 := z 2
 have z3 := z 3
 have z4 := z 4
 have z5 := z 5
 simp at z0 z1 z2 z3 z4 z5
 have HB1 := Lib.hid hb1
 obtain ⟨_, c15, _, _, _, c1, c2⟩ := HM1.out.cells
 have hsW1 : W.heap.size < W1.heap.size := by rw [hW1]; simp
 have hmost := h.most
 clear z h hb1
 obtain ⟨xa, hxa⟩ : ∃ x, x = has M (ja : Int) := ⟨_, rfl⟩
 have ca := HM1.out.canAt (i := ja) (by have := hA.2; omega)
 rw [← hxa] at ca HCP HWR ⊢
 have hjl : (ja : Int) < (L.length : Int) + 1 := by have := hA.2; omega
 have hS1 : HeldX W B L.length K S N ja jb C xa dh kem W1 := ⟨z0, z1, z2, z3, z4, z5, c15, ca, c1, c2, HB1⟩
 have hS2 : HeldX W B L.length K S N ja jb C xa dh kem W1.drew := HeldX.below (drewN_below W1 1) hS1
 clear hxa hA hB HCAN hwB hbx z0 z1 z2 z3 z4 z5 c15 ca c1 c2 HM1 HB1 hS1
 unfold Tm.v at HWR ⊢
 cases wB
 ·cases bx
  ·go_enter Tryz.func192, Tryz.ntmps192
   go_wp2
   rw [← hW1]
   clear hW1
   refine wp_region_held_drew (S := (fun w' => w'.cell? ⟨W.heap.size, 0, none⟩ = some (.int .i64 K) ∧ w'.cell? ⟨W.heap.size, 1, none⟩ = some (.string S) ∧ w'.cell? ⟨W.heap.size, 2, none⟩ = some (.int .u64 N) ∧ w'.cell? ⟨W.heap.size, 3, none⟩ = some (.int .i64 (ja : Int)) ∧ w'.cell? ⟨W.heap.size, 4, none⟩ = some (.int .i64 (jb : Int)) ∧ w'.cell? ⟨W.heap.size, 5, none⟩ = some (.int .i64 C) ∧ w'.cell? ⟨B.m, 15, none⟩ = some (.slice (some ⟨B.c, 0, none⟩) (L.length + 1) (L.length + 1)) ∧ w'.cell? ⟨B.c, ja, none⟩ = some (.bool xa) ∧ w'.cell? ⟨B.m, 1, none⟩ = some (.bool dh) ∧ w'.cell? ⟨B.m, 2, none⟩ = some (.bool kem) ∧ Hid (Below W.heap.size W w'))) (by kernel_rfl) hS2 (fun hHeld => ?_)
   refine tk 0 (h := ?_)
   refine tk 1 (h := ?_)
   refine rd 2 (h := fun K' hK => ?_)
   go_simp
   go_at_call 191
   refine (HWR.out _ (by assumption)).mono ?_
   rintro e W13 ⟨rfl, hb13⟩
   have hS13 : HeldX W B L.length K S N ja jb C xa dh kem W13 := HeldX.below hb13 (by assumption)
   clear hb13
   go_wp2_with fail
   refine hK.out _ _ hS13 (fun hHeld => ?_)
   clear hK K'
   try simp only [Act.put, p1, p2, p3]
   refine tk 3 (h := ?_)
   refine tk 4 (h := ?_)
   refine tk 5 (h := ?_)
   refine tk 6 (h := ?_)
   refine tk 7 (h := ?_)
   refine tk 8 (h := ?_)
   refine rd 9 (h := fun K' hK => ?_)
   go_simp
   go_at_call 218
   refine (kbox_k _ _ _).mono ?_
   rintro e W13 ⟨rfl, hb13⟩
   have hS13 : HeldX W B L.length K S N ja jb C xa dh kem W13 := HeldX.below hb13 (by assumption)
   clear hb13
   go_wp2_with fail
   refine hK.out _ _ hS13 (fun hHeld => ?_)
   clear hK K'
   try simp only [Act.put, p1, p2, p3]
   refine rd 10 (h := fun K' hK => ?_)
   go_simp
   go_at_call 215
   refine (HCP.out _ (by assumption)).mono ?_
   rintro e W13 ⟨rfl, hb13⟩
   have hS13 : HeldX W B L.length K S N ja jb C xa dh kem W13 := HeldX.below hb13 (by assumption)
   clear hb13
   go_wp2_with fail
   refine hK.out _ _ hS13 (fun hHeld => ?_)
   clear hK K'
   try simp only [Act.put, p1, p2, p3]
   refine tk 11 (h := ?_)
   refine tk0 12 (h := ?_)
   refine tk0 13 (h := ?_)
   refine tk0 14 (h := ?_)
   refine tk0 15 (h := ?_)
   refine tk0 16 (h := ?_)
   refine tk0 17 (h := ?_)
   refine tk0 18 (h := ?_)
   refine tk0 19 (h := ?_)
   refine tk0 20 (h := ?_)
   refine tk0 21 (h := ?_)
   refine tk0 22 (h := ?_)
   refine tk0 23 (h := ?_)
   refine tk0 24 (h := ?_)
   refine tk0 25 (h := ?_)
   refine tk0 26 (h := ?_)
   refine tk 27 (h := ?_)
   refine tk 28 (h := ?_)
   refine tk 29 (h := ?_)
   refine wpAnyH_done (by kernel_rfl) ?_ _
   obtain ⟨_, _, _, _, _, _, _, _, _, _, HB3⟩ := hHeld
   go_wp2
   go_ret
   exact ⟨rfl, HB3.out⟩
  ·cases xa
   ·go_enter Tryz.func192, Tryz.ntmps192
    go_wp2
    rw [← hW1]
    clear hW1
    refine wp_region_held_drew (S := (fun w' => w'.cell? ⟨W.heap.size, 0, none⟩ = some (.int .i64 K) ∧ w'.cell? ⟨W.heap.size, 1, none⟩ = some (.string S) ∧ w'.cell? ⟨W.heap.size, 2, none⟩ = some (.int .u64 N) ∧ w'.cell? ⟨W.heap.size, 3, none⟩ = some (.int .i64 (ja : Int)) ∧ w'.cell? ⟨W.heap.size, 4, none⟩ = some (.int .i64 (jb : Int)) ∧ w'.cell? ⟨W.heap.size, 5, none⟩ = some (.int .i64 C) ∧ w'.cell? ⟨B.m, 15, none⟩ = some (.slice (some ⟨B.c, 0, none⟩) (L.length + 1) (L.length + 1)) ∧ w'.cell? ⟨B.c, ja, none⟩ = some (.bool false) ∧ w'.cell? ⟨B.m, 1, none⟩ = some (.bool dh) ∧ w'.cell? ⟨B.m, 2, none⟩ = some (.bool kem) ∧ Hid (Below W.heap.size W w'))) (by kernel_rfl) hS2 (fun hHeld => ?_)
    refine tk 0 (h := ?_)
    refine tk 1 (h := ?_)
    refine rd 2 (h := fun K' hK => ?_)
    go_simp
    go_at_call 191
    refine (HWR.out _ (by assumption)).mono ?_
    rintro e W13 ⟨rfl, hb13⟩
    have hS13 : HeldX W B L.length K S N ja jb C false dh kem W13 := HeldX.below hb13 (by assumption)
    clear hb13
    go_wp2_with fail
    refine hK.out _ _ hS13 (fun hHeld => ?_)
    clear hK K'
    try simp only [Act.put, p1, p2, p3]
    refine tk 3 (h := ?_)
    refine tk 4 (h := ?_)
    refine tk 5 (h := ?_)
    refine tk 6 (h := ?_)
    refine tk 7 (h := ?_)
    refine tk 8 (h := ?_)
    refine rd 9 (h := fun K' hK => ?_)
    go_simp
    go_at_call 218
    refine (kbox_k _ _ _).mono ?_
    rintro e W13 ⟨rfl, hb13⟩
    have hS13 : HeldX W B L.length K S N ja jb C false dh kem W13 := HeldX.below hb13 (by assumption)
    clear hb13
    go_wp2_with fail
    refine hK.out _ _ hS13 (fun hHeld => ?_)
    clear hK K'
    try simp only [Act.put, p1, p2, p3]
    refine rd 10 (h := fun K' hK => ?_)
    go_simp
    go_at_call 215
    refine (HCP.out _ (by assumption)).mono ?_
    rintro e W13 ⟨rfl, hb13⟩
    have hS13 : HeldX W B L.length K S N ja jb C false dh kem W13 := HeldX.below hb13 (by assumption)
    clear hb13
    go_wp2_with fail
    refine hK.out _ _ hS13 (fun hHeld => ?_)
    clear hK K'
    try simp only [Act.put, p1, p2, p3]
    refine tk 11 (h := ?_)
    refine tk 12 (h := ?_)
    refine tk 13 (h := ?_)
    refine tk 14 (h := ?_)
    refine tk 15 (h := ?_)
    refine tk 16 (h := ?_)
    refine tk 17 (h := ?_)
    refine tk 18 (h := ?_)
    refine tk 19 (h := ?_)
    refine tk 20 (h := ?_)
    refine tk 21 (h := ?_)
    refine tk 22 (h := ?_)
    refine tk 23 (h := ?_)
    refine tk 24 (h := ?_)
    refine tk 25 (h := ?_)
    refine tk 26 (h := ?_)
    refine tk 27 (h := ?_)
    refine tk 28 (h := ?_)
    refine tk 29 (h := ?_)
    refine wpAnyH_done (by kernel_rfl) ?_ _
    obtain ⟨_, _, _, _, _, _, _, _, _, _, HB3⟩ := hHeld
    go_wp2
    go_ret
    exact ⟨rfl, HB3.out⟩
   ·go_enter Tryz.func192, Tryz.ntmps192
    go_wp2
    rw [← hW1]
    clear hW1
    refine wp_region_held_drew (S := (fun w' => w'.cell? ⟨W.heap.size, 0, none⟩ = some (.int .i64 K) ∧ w'.cell? ⟨W.heap.size, 1, none⟩ = some (.string S) ∧ w'.cell? ⟨W.heap.size, 2, none⟩ = some (.int .u64 N) ∧ w'.cell? ⟨W.heap.size, 3, none⟩ = some (.int .i64 (ja : Int)) ∧ w'.cell? ⟨W.heap.size, 4, none⟩ = some (.int .i64 (jb : Int)) ∧ w'.cell? ⟨W.heap.size, 5, none⟩ = some (.int .i64 C) ∧ w'.cell? ⟨B.m, 15, none⟩ = some (.slice (some ⟨B.c, 0, none⟩) (L.length + 1) (L.length + 1)) ∧ w'.cell? ⟨B.c, ja, none⟩ = some (.bool true) ∧ w'.cell? ⟨B.m, 1, none⟩ = some (.bool dh) ∧ w'.cell? ⟨B.m, 2, none⟩ = some (.bool kem) ∧ Hid (Below W.heap.size W w'))) (by kernel_rfl) hS2 (fun hHeld => ?_)
    refine tk 0 (h := ?_)
    refine tk 1 (h := ?_)
    refine rd 2 (h := fun K' hK => ?_)
    go_simp
    go_at_call 191
    refine (HWR.out _ (by assumption)).mono ?_
    rintro e W13 ⟨rfl, hb13⟩
    have hS13 : HeldX W B L.length K S N ja jb C true dh kem W13 := HeldX.below hb13 (by assumption)
    clear hb13
    go_wp2_with fail
    refine hK.out _ _ hS13 (fun hHeld => ?_)
    clear hK K'
    try simp only [Act.put, p1, p2, p3]
    refine tk 3 (h := ?_)
    refine tk 4 (h := ?_)
    refine tk 5 (h := ?_)
    refine tk 6 (h := ?_)
    refine tk 7 (h := ?_)
    refine tk 8 (h := ?_)
    refine rd 9 (h := fun K' hK => ?_)
    go_simp
    go_at_call 218
    refine (kbox_k _ _ _).mono ?_
    rintro e W13 ⟨rfl, hb13⟩
    have hS13 : HeldX W B L.length K S N ja jb C true dh kem W13 := HeldX.below hb13 (by assumption)
    clear hb13
    go_wp2_with fail
    refine hK.out _ _ hS13 (fun hHeld => ?_)
    clear hK K'
    try simp only [Act.put, p1, p2, p3]
    refine rd 10 (h := fun K' hK => ?_)
    go_simp
    go_at_call 215
    refine (HCP.out _ (by assumption)).mono ?_
    rintro e W13 ⟨rfl, hb13⟩
    have hS13 : HeldX W B L.length K S N ja jb C true dh kem W13 := HeldX.below hb13 (by assumption)
    clear hb13
    go_wp2_with fail
    refine hK.out _ _ hS13 (fun hHeld => ?_)
    clear hK K'
    try simp only [Act.put, p1, p2, p3]
    refine tk 11 (h := ?_)
    refine tk 12 (h := ?_)
    refine tk 13 (h := ?_)
    refine tk 14 (h := ?_)
    refine tk 15 (h := ?_)
    refine tk 16 (h := ?_)
    refine tk 17 (h := ?_)
    refine tk 18 (h := ?_)
    refine tk 19 (h := ?_)
    refine tk 20 (h := ?_)
    refine tk0 21 (h := ?_)
    refine tk0 22 (h := ?_)
    refine tk0 23 (h := ?_)
    refine tk0 24 (h := ?_)
    refine tk0 25 (h := ?_)
    refine tk 26 (h := ?_)
    refine tk 27 (h := ?_)
    refine tk 28 (h := ?_)
    refine tk 29 (h := ?_)
    refine wpAnyH_done (by kernel_rfl) ?_ _
    obtain ⟨_, _, _, _, _, _, _, _, _, _, HB3⟩ := hHeld
    go_wp2
    go_ret
    exact ⟨rfl, HB3.out⟩
 ·go_enter Tryz.func192, Tryz.ntmps192
  go_wp2
  rw [← hW1]
  clear hW1
  refine wp_region_held_drew (S := (fun w' => w'.cell? ⟨W.heap.size, 0, none⟩ = some (.int .i64 K) ∧ w'.cell? ⟨W.heap.size, 1, none⟩ = some (.string S) ∧ w'.cell? ⟨W.heap.size, 2, none⟩ = some (.int .u64 N) ∧ w'.cell? ⟨W.heap.size, 3, none⟩ = some (.int .i64 (ja : Int)) ∧ w'.cell? ⟨W.heap.size, 4, none⟩ = some (.int .i64 (jb : Int)) ∧ w'.cell? ⟨W.heap.size, 5, none⟩ = some (.int .i64 C) ∧ w'.cell? ⟨B.m, 15, none⟩ = some (.slice (some ⟨B.c, 0, none⟩) (L.length + 1) (L.length + 1)) ∧ w'.cell? ⟨B.c, ja, none⟩ = some (.bool xa) ∧ w'.cell? ⟨B.m, 1, none⟩ = some (.bool dh) ∧ w'.cell? ⟨B.m, 2, none⟩ = some (.bool kem) ∧ Hid (Below W.heap.size W w'))) (by kernel_rfl) hS2 (fun hHeld => ?_)
  refine tk 0 (h := ?_)
  refine tk 1 (h := ?_)
  refine rd 2 (h := fun K' hK => ?_)
  go_simp
  go_at_call 191
  refine (HWR.out _ (by assumption)).mono ?_
  rintro e W13 ⟨rfl, hb13⟩
  have hS13 : HeldX W B L.length K S N ja jb C xa dh kem W13 := HeldX.below hb13 (by assumption)
  clear hb13
  go_wp2_with fail
  refine hK.out _ _ hS13 (fun hHeld => ?_)
  clear hK K'
  try simp only [Act.put, p1, p2, p3]
  refine tk 3 (h := ?_)
  refine tk0 4 (h := ?_)
  refine tk0 5 (h := ?_)
  refine tk0 6 (h := ?_)
  refine tk0 7 (h := ?_)
  refine tk0 8 (h := ?_)
  refine tk0 9 (h := ?_)
  refine tk0 10 (h := ?_)
  refine tk0 11 (h := ?_)
  refine tk0 12 (h := ?_)
  refine tk0 13 (h := ?_)
  refine tk0 14 (h := ?_)
  refine tk0 15 (h := ?_)
  refine tk0 16 (h := ?_)
  refine tk0 17 (h := ?_)
  refine tk0 18 (h := ?_)
  refine tk0 19 (h := ?_)
  refine tk0 20 (h := ?_)
  refine tk0 21 (h := ?_)
  refine tk0 22 (h := ?_)
  refine tk0 23 (h := ?_)
  refine tk0 24 (h := ?_)
  refine tk0 25 (h := ?_)
  refine tk0 26 (h := ?_)
  refine tk0 27 (h := ?_)
  refine tk 28 (h := ?_)
  refine tk 29 (h := ?_)
  refine wpAnyH_done (by kernel_rfl) ?_ _
  obtain ⟨_, _, _, _, _, _, _, _, _, _, HB3⟩ := hHeld
  go_wp2
  go_ret
  exact ⟨rfl, HB3.out⟩
end
end Go.Proofs.YtgeonppckeiceaaGreatDoor
