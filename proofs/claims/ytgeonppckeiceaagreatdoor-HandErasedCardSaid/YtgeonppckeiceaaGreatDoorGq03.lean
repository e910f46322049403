/- How the program's store adds a term, and its Put, for every store and every term of well formed fields. -/
/- The program's store in one word, its calls' contracts at given answers, and the fixed calls: that they answer true, and nothing that was there turns. -/
/- A row of terms that came in, opened at every index; a term cut to a text of 1100 bytes. -/
/- Two stores beside each other, each in blocks of its own, and other blocks that neither turns: the calls on one leave the other's and these alone. -/
/- Both stores, filled with the terms of a row. -/
/- Names in a store, in one word: what Put answers where there is room, and that names stay, tell terms apart, and are got again. -/
/- Small words that the contracts of all later layers share. -/
import Derived.Test.YtgeonppckeiceaaGreatDoorGq02
import Derived.Test.YtgeonppckeiceaaGreatDoorGq01
import Derived.Deep.Slices
import Derived.ChangeArms
import Derived.OpenShut
namespace Go.Proofs.YtgeonppckeiceaaGreatDoor
open Go.RowKit
open Go.Maps
set_option linter.unusedVariables false
set_option maxRecDepth 20000
theorem clone_any (s : ByteArray) (w : World) (hs : s.size ≤ 281474976710656) :
  Calls Tryz.prog 162 #[.string s] w fun e w' => e = .returned (.string s) ∧ Below w.heap.size w w' := by
 go_enter Tryz.func162, Tryz.ntmps162
 go_wp2_with fail
 refine (Tryz.stringslite_Clone s w hs).mono ?_
 rintro e w1 ⟨rfl, hb⟩
 go_wp2
 go_ret
 exact ⟨rfl, hb⟩
def BoxP (w : World) (t : Tm) (wr : World) : Prop := wr.heap[w.heap.size]? = some (.cells #[.int .i64 t.K, .string t.S, .int .u64 t.N, .int .i64 t.A, .int .i64 t.B, .int .i64 t.C] 116 (0, 0)) ∧ Below w.heap.size w wr
theorem BoxP.at {w wr : World} {t : Tm} (h : BoxP w t wr) (j : Nat) : wr.cell? ⟨w.heap.size, j, none⟩ = #[Value.int .i64 t.K, .string t.S, .int .u64 t.N, .int .i64 t.A, .int .i64 t.B, .int .i64 t.C][j]? := cell_of_row wr _ j _ _ _ h.1
theorem BoxP.drewN {w wr : World} {t : Tm} (h : BoxP w t wr) (q : Nat) : BoxP w t (wr.drewN q) := ⟨h.1, h.2.trans ⟨rfl, rfl, rfl, Nat.le_refl _, fun _ _ => rfl⟩⟩
theorem BoxP.below {w wr wn : World} {t : Tm} (h : BoxP w t wr) (hb : Below wr.heap.size wr wn) : BoxP w t wn :=
 ⟨by rw [hb.block _ (blk_lt h.1)]; exact h.1, h.2.trans (hb.mono h.2.size)⟩
theorem BoxP.same {w wr : World} {t : Tm} (h : BoxP w t wr) : BoxP w t (wr.setCell ⟨w.heap.size, 1, none⟩ (.string t.S)) :=
 ⟨by have := heap_setCell_same wr w.heap.size 1 _ _ (.string t.S) h.1; simpa using this, h.2.setCell (Nat.le_refl _) _⟩
theorem mx_le_length (L : List Tm) (t : Tm) (j : Nat) : mx (depths L) t j ≤ L.length := mx_le _ _ _ (fun i => by have := depths_le L L.length (Nat.le_refl _) i; rwa [List.take_length] at this) j
def AddPost (base g : Nat) (F : Nat → Prop) (L : List Tm) (most : Int) (t : Tm) (w : World) (w' : World) : Prop :=
 PS base g (fun k => F k ∨ (w.heap.size ≤ k ∧ k < w'.heap.size)) (L ++ [t]) most w' ∧ Chg F w w'
theorem fit_snoc {L : List Tm} {t : Tm} (h : Fit L) (ht : ∀ j, j < many t.K → 1 ≤ partAt t.A t.B t.C j ∧ partAt t.A t.B t.C j ≤ (L.length : Int)) : Fit (L ++ [t]) := by
 intro k hk j hj
 have hk' : k < L.length + 1 := by simpa using hk
 rcases Nat.lt_succ_iff_lt_or_eq.1 hk' with q | rfl
 ·rw [getD_snoc_lt L t k q] at hj ⊢; exact h k q j hj
 ·rw [getD_snoc_eq] at hj ⊢; exact ht j hj
theorem added_st {base g gl bm : Nat} {tv dv : Value} {D : DataW Unit} {F : Nat → Prop} {L : List Tm} {most : Int} {t : Tm} {d : Nat} {w wq w5 : World} (h : PSx base g gl bm tv dv D F L most w) (hB : BoxP w t wq)
  (ha : Added base gl bm tv dv D L t d wq w5) : w5.heap[g]? = some (.cells #[.int .i64 most, .int .i64 L.length, .pointer (some ⟨gl, 0, none⟩)] 164 (0, 0)) := by
 obtain ⟨tv', dv', kl, a1, a2, a3, a4, a5, a6, a7, a8, a9⟩ := ha
 have hq : wq.heap[g]? = some (.cells #[.int .i64 most, .int .i64 L.length, .pointer (some ⟨gl, 0, none⟩)] 164 (0, 0)) := by rw [hB.2.block g (blk_lt h.st)]; exact h.st
 exact a9.blk hq (fun q => by
  rcases q with q | q | q | q
  ·exact h.e1 q
  ·exact h.e2 q
  ·exact h.e3 q.symm
  ·exact h.e4 q.symm)
theorem PSx.logd {base g gl bm : Nat} {tv dv : Value} {D : DataW Unit} {F : Nat → Prop} {L : List Tm} {most : Int} {t : Tm} {w wq : World} (h : PSx base g gl bm tv dv D F L most w) (hB : BoxP w t wq) : LG base gl bm tv dv D L wq.drew :=
 ((h.below hB.2).chg (Chg.drew wq (fun _ => False)) (fun _ _ q => q)).log
theorem BoxP.drew {w wr : World} {t : Tm} (h : BoxP w t wr) : BoxP w t wr.drew := ⟨h.1, h.2.drew⟩
theorem add_post {base g gl bm : Nat} {tv dv : Value} {D : DataW Unit} {F : Nat → Prop} {L : List Tm} {most : Int} {t : Tm} {d : Nat} {w wq w5 : World} (h : PSx base g gl bm tv dv D F L most w) (hB : BoxP w t wq)
  (ha : Added base gl bm tv dv D L t d wq w5) (hd : d = mx (depths L) t (many t.K) + 1) (hroom : (L.length : Int) < most) (h0 : nameOf L t = 0)
  (hp : ∀ j, j < many t.K → 1 ≤ partAt t.A t.B t.C j ∧ partAt t.A t.B t.C j ≤ (L.length : Int)) :
  AddPost base g F L most t w (w5.setCell ⟨g, 1, none⟩ (.int .i64 ((L.length : Int) + 1))) := by
 obtain ⟨tv', dv', kl, a1, a2, a3, a4, a5, a6, a7, a8, a9⟩ := ha
 have hs : w.heap.size ≤ wq.heap.size := hB.2.size
 have hs5 := a9.size
 have hF : ∀ k, F k → k < w.heap.size := fun k hk => (h.f6 k hk).2
 have C0 : Chg F w wq := .of_below hB.2
 have C1 : Chg F wq w5 := a9.mono (fun k _ q => by
  rcases q with q | q | q | q
  ·rw [q]; exact h.f2
  ·rw [q]; exact h.f3
  ·exact h.f4 k q.symm
  ·exact h.f5 k q.symm)
 have C2 : Chg (fun k => k = g) w5 (w5.setCell ⟨g, 1, none⟩ (.int .i64 ((L.length : Int) + 1))) := Chg.setCell w5 g 1 _
 have C3 : Chg F w (w5.setCell ⟨g, 1, none⟩ (.int .i64 ((L.length : Int) + 1))) := (C0.trans C1).trans (C2.mono fun k _ q => by rw [q]; exact h.f1)
 have hq : wq.heap[g]? = some (.cells #[.int .i64 most, .int .i64 L.length, .pointer (some ⟨gl, 0, none⟩)] 164 (0, 0)) := by rw [hB.2.block g (blk_lt h.st)]; exact h.st
 have h5 : w5.heap[g]? = some (.cells #[.int .i64 most, .int .i64 L.length, .pointer (some ⟨gl, 0, none⟩)] 164 (0, 0)) := a9.blk hq (fun q => by
  rcases q with q | q | q | q
  ·exact h.e1 q
  ·exact h.e2 q
  ·exact h.e3 q.symm
  ·exact h.e4 q.symm)
 have hgw : g < w.heap.size := hF g h.f1
 have hglw : gl < w.heap.size := hF gl h.f2
 have hbmw : bm < w.heap.size := hF bm h.f3
 have ne : ∀ {v v' : Value} {x : Nat}, NewRow v v' wq.heap.size → v.ownBlock ≠ some x → x < w.heap.size → v'.ownBlock ≠ some x := by
  intro v v' x hr hv hx e
  rcases hr with q | ⟨j, q, hj⟩
  ·exact hv (by rw [← q]; exact e)
  ·rw [q] at e; injection e with e; omega
 have inF : ∀ {v v' : Value}, NewRow v v' wq.heap.size → (∀ k, v.ownBlock = some k → F k) → (∀ k, v'.ownBlock = some k → k < w5.heap.size) → ∀ k, v'.ownBlock = some k → F k ∨ (w.heap.size ≤ k ∧ k < (w5.setCell ⟨g, 1, none⟩ (.int .i64 ((L.length : Int) + 1))).heap.size) := by
  intro v v' hr hv hl k hk
  have hk5 := hl k hk
  rcases hr with q | ⟨j, q, hj⟩
  ·exact .inl (hv k (by rw [← q]; exact hk))
  ·rw [q] at hk; injection hk with hk; exact .inr ⟨by omega, by simpa using hk5⟩
 have hL1 : ((L ++ [t]).length : Int) = (L.length : Int) + 1 := by simp
 refine ⟨⟨gl, bm, tv', dv', D.put kl (.lit (.int .i64 ((L.length : Int) + 1))), {
  st := ?_, log := {
   lg := C2.blk a1 (fun e => h.e1 e.symm), terms := ?_, depthsR := ?_, names := ?_, ok := h.log.ok.snoc h.log.names.isMap a4 h0, gb := h.log.gb, bb := h.log.bb, n1 := h.log.n1,
   n2 := ne a6 h.log.n2 hglw, n3 := ne a6 h.log.n3 hbmw, n4 := ne a7 h.log.n4 hglw, n5 := ne a7 h.log.n5 hbmw, n6 := a8, most := ?_ },
  gb := h.gb, e1 := h.e1, e2 := h.e2, e3 := ne a6 h.e3 hgw, e4 := ne a7 h.e4 hgw, room := by rw [hL1]; omega, most := h.most, fit := fit_snoc h.fit hp,
  f1 := .inl h.f1, f2 := .inl h.f2, f3 := .inl h.f3, f4 := inF a6 h.f4 (fun k hk => (a2.lt k hk).2), f5 := inF a7 h.f5 (fun k hk => (a3.lt k hk).2), f6 := ?_ }⟩, C3⟩
 ·have := heap_setCell_same w5 g 1 _ _ (.int .i64 ((L.length : Int) + 1)) h5
  rw [hL1]; simpa using this
 ·rw [List.length_append]
  exact C2.row a2 (fun k hk e => ne a6 h.e3 hgw (by rw [← e]; exact hk))
 ·have e : deps (L ++ [t]) = deps L ++ [.int .i64 d] := by
   unfold deps
   rw [depths_snoc, stepD, ← hd, List.tail_append_of_ne_nil (by intro e; have := depths_length L; rw [e] at this; simp at this)]
   simp [intsV]
  rw [e, List.length_append]
  exact C2.row a3 (fun k hk e => ne a7 h.e4 hgw (by rw [← e]; exact hk))
 ·rw [List.length_append]
  exact C2.own a5 (fun e => h.e2 e.symm)
 ·have := h.most; have hh := hL1; omega
 ·intro k hk
  rcases hk with q | q
  ·exact ⟨(h.f6 k q).1, Nat.lt_of_lt_of_le (h.f6 k q).2 C3.size⟩
  ·exact ⟨by have := (h.f6 g h.f1).1; have := (h.f6 g h.f1).2; omega, q.2⟩
set_option maxHeartbeats 2000000 in
set_option maxRecDepth 100000 in
theorem add_any {base g gl bm : Nat} {tv dv : Value} {D : DataW Unit} {F : Nat → Prop} {L : List Tm} {most : Int} (t : Tm) (kl : Lit) (w : World) (h : PSx base g gl bm tv dv D F L most w) (hkey : keyOf Tryz.prog 116 t.v = some kl)
  (hroom : (L.length : Int) < most) (h0 : nameOf L t = 0) (hS : t.S.size ≤ 1000)
  (hp : ∀ j, j < many t.K → 1 ≤ partAt t.A t.B t.C j ∧ partAt t.A t.B t.C j ≤ (L.length : Int)) :
  Calls Tryz.prog 113 #[.pointer (some ⟨g, 0, none⟩), t.v] w fun e w' => e = .returned (.tuple #[]) ∧ AddPost base g F L most t w w' := by
 obtain ⟨a, cap, rfl⟩ : ∃ a cap, tv = .slice a L.length cap := by
  rcases h.log.terms.2 with ⟨hv, hn⟩ | ⟨b, cap, cur, hv, _⟩
  ·exact ⟨none, 0, by rw [hv, hn]⟩
  ·exact ⟨_, cap, hv⟩
 have HR := Lib.hid h
 obtain ⟨K, S, N, A, B, C⟩ := t
 have HK := Lib.hid hkey
 have H0 := Lib.hid h0
 have HP := Lib.hid hp
 have hsS : S.size ≤ 281474976710656 := by have : S.size ≤ 1000 := hS; omega
 obtain ⟨wq, hwq⟩ : ∃ wq, wq = w.alloc (.cells #[.int .i64 K, .string S, .int .u64 N, .int .i64 A, .int .i64 B, .int .i64 C] 116) := ⟨_, rfl⟩
 have hB0 : BoxP w ⟨K, S, N, A, B, C⟩ wq := by rw [hwq]; exact ⟨heap_alloc_new w _, (Below.refl _ _).alloc (Nat.le_refl _) _⟩
 have HB := Lib.hid hB0
 obtain ⟨a0, a1, a2, c0, c1, c2⟩ := (h.below hB0.2).cells
 clear h hkey h0 hp a0 c1 c2
 have hll : decide (L.length < L.length) = false := by simp
 unfold Tm.v
 go_enter Tryz.func113, Tryz.ntmps113
 go_wp2
 rw [← hwq]
 clear hwq hB0
 go_quiet (fail)
 have HB1 : Hid (BoxP w ⟨K, S, N, A, B, C⟩ (wq.drewN nq)) := Lib.hid (HB.out.drewN _)
 clear HB a1 a2 c0
 generalize wq.drewN nq = w1 at HB1 ⊢
 have z1 := HB1.out.at 1
 simp at z1
 go_wp2_with fail
 refine (clone_any S _ hsS).mono ?_
 rintro e w2 ⟨rfl, hb2⟩
 have HB2 : Hid (BoxP w ⟨K, S, N, A, B, C⟩ w2) := Lib.hid (HB1.out.below hb2)
 clear HB1 hb2 z1
 have f1 : w2.frozen? ⟨w.heap.size, 1, none⟩ = false := frozen_of_row w2 _ 1 _ _ HB2.out.1
 have z0 := HB2.out.at 0
 have z1 := HB2.out.at 1
 have z2 := HB2.out.at 2
 have z3 := HB2.out.at 3
 have z4 := HB2.out.at 4
 have z5 := HB2.out.at 5
 simp at z0 z1 z2 z3 z4 z5
 go_wp2_with fail
 refine (parts_prog _ _ _ _ _ _ _).mono ?_
 rintro e w4 ⟨b, rfl, hb4, hbs, hcells⟩
 have HB4 : Hid (BoxP w ⟨K, S, N, A, B, C⟩ w4) := Lib.hid (HB2.out.same.below hb4)
 clear HB2 hb4 hbs z0 z1 z2 z3 z4 z5 f1
 have HCC := Lib.hid hcells
 have HM3 := Lib.hid (many_le K)
 have HX := Lib.hid (fun j => mx_le_length L ⟨K, S, N, A, B, C⟩ j)
 clear hcells
 have hm0 : many K = 0 ∨ 0 < many K := by omega
 rcases hm0 with hm0 | hm0
 ·have HM := Lib.hid hm0
  have hp : partsV b K = .slice none 0 0 := by unfold partsV; rw [if_pos HM.out]
  rw [hp]
  clear hm0 hp
  go_wp2
  go_loop [4, 39] (fun d i => i = .int .i64 0 ∧ d = .int .i64 1) (fun _ _ => 0)
  case atStart => exact ⟨rfl, rfl⟩
  case round =>
   obtain ⟨rfl, rfl⟩ := hrel
   obtain ⟨a0, a1, a2, c0, c1, c2⟩ := (HR.out.below HB4.out.2).cells
   have z0 := HB4.out.at 0
   have z1 := HB4.out.at 1
   have z2 := HB4.out.at 2
   have z3 := HB4.out.at 3
   have z4 := HB4.out.at 4
   have z5 := HB4.out.at 5
   simp at z0 z1 z2 z3 z4 z5
   clear a0 c0 c1 c2
   go_wp2
   go_still_tail 6, (by kernel_rfl)
   change wpList _ _ _ _ _ w4.drew
   clear z0 z1 z2 z3 z4 z5 a1 a2
   have hlt : L.length < 1048576 := by have := HR.out.most; omega
   have hbase : base ≤ w4.drew.heap.size := Nat.le_trans (by have := (HR.out.f6 g HR.out.f1); omega) HB4.out.2.size
   go_wp2_with fail
   refine (log_add base gl bm _ dv D L ⟨K, S, N, A, B, C⟩ kl 1 _ (HR.out.logd HB4.out) HK.out hlt (by omega) hbase).mono ?_
   rintro e w5 ⟨rfl, hA⟩
   have h5 := added_st HR.out HB4.out.drew hA
   have HA := Lib.hid hA
   have b1 : w5.cell? ⟨g, 1, none⟩ = some (.int .i64 L.length) := by rw [cell_of_row w5 g 1 _ _ _ h5]; rfl
   have g1 : w5.frozen? ⟨g, 1, none⟩ = false := frozen_of_row w5 g 1 _ _ h5
   clear h5 hA hbase
   go_wp2
   go_end0
   exact ⟨rfl, add_post HR.out HB4.out.drew HA.out (by have := HM.out; simp only; rw [this]; rfl) hroom H0.out HP.out⟩
 ·have HM := Lib.hid hm0
  have hp : partsV b K = .slice (some ⟨b, 0, none⟩) (many K) (many K) := by unfold partsV; rw [if_neg (by have := HM.out; omega)]
  rw [hp]
  clear hm0 hp
  go_wp2
  go_loop [4, 39] (fun d i => ∃ k : Nat, k ≤ many K ∧ i = .int .i64 k ∧ d = .int .i64 ((mx (depths L) ⟨K, S, N, A, B, C⟩ k + 1 : Nat) : Int)) (fun _ i => many K - (intOf i).toNat)
  case atStart => exact ⟨0, Nat.zero_le _, rfl, rfl⟩
  case round =>
   obtain ⟨k, hk, rfl, rfl⟩ := hrel
   by_cases hlt : k < many K
   ·have ck := HCC.out k hlt
    have Hlt := Lib.hid hlt
    have hlt1 : (k : Int) < many K := by omega
    have hk3 : (k : Int) ≤ 3 := by have := HM3.out; omega
    obtain ⟨q1, q2⟩ := HP.out k hlt
    obtain ⟨p, hp⟩ : ∃ p : Nat, partAt A B C k = (p : Int) := ⟨(partAt A B C k).toNat, by omega⟩
    rw [hp] at ck q1 q2
    have Hm : Hid (mx (depths L) ⟨K, S, N, A, B, C⟩ (k + 1) = max (mx (depths L) ⟨K, S, N, A, B, C⟩ k) ((depths L).getD p 0)) := Lib.hid (by
     have e : prt A B C k = (p : Int) := hp
     simp only [mx]; rw [e]; rfl)
    have hx1 := HX.out k
    have hx2 := HX.out (k + 1)
    rw [Hm.out] at hx2
    have hdo := depthOf_in L p (by omega) (by omega)
    have hmL := HR.out.log.most
    obtain ⟨M, hM⟩ : ∃ M, M = mx (depths L) ⟨K, S, N, A, B, C⟩ k := ⟨_, rfl⟩
    obtain ⟨G, hG⟩ : ∃ G, G = (depths L).getD p 0 := ⟨_, rfl⟩
    rw [← hG] at hdo hx2 Hm
    rw [← hM] at hx1 hx2 Hm ⊢
    have hGb : (G : Int) ≤ 1048576 := by omega
    have hMb : (M : Int) ≤ 1048576 := by omega
    clear hM hG hp hk hlt hx1 hx2 q1 q2
    go_wp2_with fail
    refine (depthP_any _ (HR.out.below HB4.out.2) _).mono ?_
    rintro e w5 ⟨rfl, rfl⟩
    rw [hdo]
    go_wp2
    go_round
    case rel => exact ⟨k + 1, by have := Hlt.out; omega, by go_num, by
     rw [Hm.out]; congr 1; omega⟩
    case measure => have := Hlt.out; simp [intOf]; omega
   ·obtain rfl : k = many K := by omega
    clear hlt hk
    have hx := HX.out (many K)
    have hmL := HR.out.log.most
    obtain ⟨M, hM⟩ : ∃ M, M = mx (depths L) ⟨K, S, N, A, B, C⟩ (many K) + 1 := ⟨_, rfl⟩
    rw [← hM]
    have HMM := Lib.hid hM
    have hMb : M ≤ 1048576 := by have := HR.out.most; omega
    clear hM hx
    obtain ⟨a0, a1, a2, c0, c1, c2⟩ := (HR.out.below HB4.out.2).cells
    have z0 := HB4.out.at 0
    have z1 := HB4.out.at 1
    have z2 := HB4.out.at 2
    have z3 := HB4.out.at 3
    have z4 := HB4.out.at 4
    have z5 := HB4.out.at 5
    simp at z0 z1 z2 z3 z4 z5
    clear a0 c0 c1 c2
    go_wp2
    go_still_tail 6, (by kernel_rfl)
    change wpList _ _ _ _ _ w4.drew
    clear z0 z1 z2 z3 z4 z5 a1 a2
    have hlt : L.length < 1048576 := by have := HR.out.most; omega
    have hbase : base ≤ w4.drew.heap.size := Nat.le_trans (by have := (HR.out.f6 g HR.out.f1); omega) HB4.out.2.size
    go_wp2_with fail
    refine (log_add base gl bm _ dv D L ⟨K, S, N, A, B, C⟩ kl M _ (HR.out.logd HB4.out) HK.out hlt hMb hbase).mono ?_
    rintro e w5 ⟨rfl, hA⟩
    have h5 := added_st HR.out HB4.out.drew hA
    have HA := Lib.hid hA
    have b1 : w5.cell? ⟨g, 1, none⟩ = some (.int .i64 L.length) := by rw [cell_of_row w5 g 1 _ _ _ h5]; rfl
    have g1 : w5.frozen? ⟨g, 1, none⟩ = false := frozen_of_row w5 g 1 _ _ h5
    clear h5 hA hbase
    go_wp2
    go_end0
    exact ⟨rfl, add_post HR.out HB4.out.drew HA.out HMM.out hroom H0.out HP.out⟩
def PutP (base g : Nat) (F : Nat → Prop) (L : List Tm) (most : Int) (t : Tm) (w : World) (e : Ending) (w' : World) : Prop :=
 e = .returned (.tuple #[.int .i64 (putF L most t).1, .int .i64 (putF L most t).2.1]) ∧ PS base g (fun k => F k ∨ (w.heap.size ≤ k ∧ k < w'.heap.size)) (putF L most t).2.2 most w' ∧ Chg F w w'
theorem PSx.wider {base g gl bm : Nat} {tv dv : Value} {D : DataW Unit} {F G : Nat → Prop} {L : List Tm} {most : Int} {w : World} (h : PSx base g gl bm tv dv D F L most w) (hs : ∀ k, F k → G k) (hG : ∀ k, G k → base ≤ k ∧ k < w.heap.size) :
  PSx base g gl bm tv dv D G L most w :=
 { h with f1 := hs _ h.f1, f2 := hs _ h.f2, f3 := hs _ h.f3, f4 := fun k hk => hs _ (h.f4 k hk), f5 := fun k hk => hs _ (h.f5 k hk), f6 := hG }
theorem PS.wider {base g : Nat} {F G : Nat → Prop} {L : List Tm} {most : Int} {w : World} (h : PS base g F L most w) (hs : ∀ k, F k → G k) (hG : ∀ k, G k → base ≤ k ∧ k < w.heap.size) : PS base g G L most w := by
 obtain ⟨gl, bm, tv, dv, D, h⟩ := h
 exact ⟨gl, bm, tv, dv, D, h.wider hs hG⟩
theorem same_putP {base g gl bm : Nat} {tv dv : Value} {D : DataW Unit} {F : Nat → Prop} {L : List Tm} {most : Int} {t : Tm} {w w' : World} {name err : Int} (h : PSx base g gl bm tv dv D F L most w) (hb : Below w.heap.size w w')
  (hp : putF L most t = (name, err, L)) : PutP base g F L most t w (.returned (.tuple #[.int .i64 name, .int .i64 err])) w' := by
 unfold PutP
 rw [hp]
 exact ⟨rfl, ⟨gl, bm, tv, dv, D, (h.below hb).wider (fun k hk => .inl hk) (fun k hk => by
  rcases hk with q | q
  ·exact ⟨(h.f6 k q).1, Nat.lt_of_lt_of_le (h.f6 k q).2 hb.size⟩
  ·exact ⟨by have := h.f6 g h.f1; omega, q.2⟩)⟩, .of_below hb⟩
theorem add_putP {base g gl bm : Nat} {tv dv : Value} {D : DataW Unit} {F : Nat → Prop} {L : List Tm} {most : Int} {t : Tm} {w wq w' : World} (h : PSx base g gl bm tv dv D F L most w) (hb : Below w.heap.size w wq)
  (ha : AddPost base g F L most t wq w') (hp : putF L most t = ((L.length : Int) + 1, 0, L ++ [t])) : PutP base g F L most t w (.returned (.tuple #[.int .i64 ((L.length : Int) + 1), .int .i64 0])) w' := by
 unfold PutP
 rw [hp]
 obtain ⟨h1, h2⟩ := ha
 refine ⟨rfl, h1.wider (fun k hk => ?_) (fun k hk => ?_), (Chg.of_below hb).trans h2⟩
 ·rcases hk with q | q
  ·exact .inl q
  ·exact .inr ⟨by have := hb.size; omega, q.2⟩
 ·rcases hk with q | q
  ·exact ⟨(h.f6 k q).1, Nat.lt_of_lt_of_le (Nat.lt_of_lt_of_le (h.f6 k q).2 hb.size) h2.size⟩
  ·exact ⟨by have := h.f6 g h.f1; omega, q.2⟩
set_option maxHeartbeats 2000000 in
set_option maxRecDepth 100000 in
theorem putP_any {base g gl bm : Nat} {tv dv : Value} {D : DataW Unit} {F : Nat → Prop} {L : List Tm} {most : Int} (t : Tm) (kl : Lit) (w : World) (h : PSx base g gl bm tv dv D F L most w) (hkey : keyOf Tryz.prog 116 t.v = some kl) (hS : t.S.size ≤ maxLen) :
  Calls Tryz.prog 42 #[.pointer (some ⟨g, 0, none⟩), t.v] w (PutP base g F L most t w) := by
 have HR := Lib.hid h
 obtain ⟨K, S, N, A, B, C⟩ := t
 have HK := Lib.hid hkey
 obtain ⟨wq, hwq⟩ : ∃ wq, wq = w.alloc (.cells #[.int .i64 K, .string S, .int .u64 N, .int .i64 A, .int .i64 B, .int .i64 C] 116) := ⟨_, rfl⟩
 have hB0 : BoxP w ⟨K, S, N, A, B, C⟩ wq := by rw [hwq]; exact ⟨heap_alloc_new w _, (Below.refl _ _).alloc (Nat.le_refl _) _⟩
 have HB := Lib.hid hB0
 have HC := Lib.hid (h.below hB0.2).cells.2.1
 have z0 := HB.out.at 0
 have z1 := HB.out.at 1
 have z2 := HB.out.at 2
 have z3 := HB.out.at 3
 have z4 := HB.out.at 4
 have z5 := HB.out.at 5
 simp at z0 z1 z2 z3 z4 z5
 have hmL := h.log.most
 clear h hkey hB0
 unfold Tm.v
 go_enter Tryz.func42, Tryz.ntmps42
 go_wp2_with fail
 rw [← hwq]
 clear hwq
 refine (mayP_any g L.length K S N A B C wq HC.out hmL hS).mono ?_
 rintro e w1 ⟨bb, rfl, hiff, hb1⟩
 have HB1 : Hid (BoxP w ⟨K, S, N, A, B, C⟩ w1) := Lib.hid (HB.out.below hb1)
 have HI := Lib.hid (hiff.trans (mayP_iff _ _))
 have HJ := Lib.hid hiff
 clear hb1 hiff HB HC z0 z1 z2 z3 z4 z5
 cases bb
 ·go_wp2
  go_ret2
  exact same_putP HR.out HB1.out.2 (by unfold putF Tm.may; rw [if_neg (by simpa using (fun q => by simpa using HI.out.2 q))])
 have hmay : Hid (Tm.may L.length ⟨K, S, N, A, B, C⟩ = true) := Lib.hid (by unfold Tm.may; exact decide_eq_true (HI.out.1 rfl))
 have HP : Hid (MayP L.length ⟨K, S, N, A, B, C⟩) := Lib.hid (HJ.out.1 rfl)
 clear HI HJ
 have hR1 := HR.out.below HB1.out.2
 obtain ⟨a0, a1, a2, c0, c1, c2⟩ := hR1.cells
 have HD : Hid (w1.drew.ownsMap Tryz.prog 116 (plainElem Tryz.prog 3) bm L.length D) := Lib.hid hR1.log.names.drew
 have HOK := Lib.hid hR1.log.ok
 have z0 := HB1.out.at 0
 have z1 := HB1.out.at 1
 have z2 := HB1.out.at 2
 have z3 := HB1.out.at 3
 have z4 := HB1.out.at 4
 have z5 := HB1.out.at 5
 simp at z0 z1 z2 z3 z4 z5
 clear hR1 c0 c1 hmL
 go_wp2
 go_still_tail 8, (by kernel_rfl)
 change wpList _ _ _ _ _ w1.drew
 clear z0 z1 z2 z3 z4 z5 a0 a2 c2
 go_wp2_with (at_lookup; refine wpList_lookup_own_int _ rfl _ _ 185 rfl 116 3 .i64 law32 Tryz.underlying185 Tryz.underlying3 (Tryz.zeroValue3 _) bm L.length D rfl HD.out _ kl rfl HK.out ?_; intro c hat hwc; have HAT := Lib.hid hat; clear hat hwc)
 have HCN : Hid (c = nameOf L ⟨K, S, N, A, B, C⟩) := Lib.hid (by
  have hc := HOK.out _ _ HK.out
  rw [HAT.out] at hc
  injection hc with hc; injection hc)
 clear HAT HOK HD
 have HB2 : Hid (BoxP w ⟨K, S, N, A, B, C⟩ w1.drew) := Lib.hid HB1.out.drew
 clear HB1 a1
 generalize w1.drew = w2 at HB2 ⊢
 have a1 := (HR.out.below HB2.out.2).cells.2.1
 go_wp2_with fail
 refine (has_any g L.length c _ a1).mono ?_
 rintro e w3 ⟨rfl, rfl⟩
 by_cases hq : 1 ≤ c ∧ c ≤ (L.length : Int)
 ·have hd : decide (1 ≤ c ∧ c ≤ (L.length : Int)) = true := decide_eq_true hq
  rw [hd]
  have HQ := Lib.hid hq
  clear hq hd
  go_wp2
  go_ret2
  exact same_putP HR.out HB2.out.2 (by unfold putF; rw [if_pos hmay.out, if_pos (by rw [← HCN.out]; have := HQ.out; omega), ← HCN.out])
 have hd : decide (1 ≤ c ∧ c ≤ (L.length : Int)) = false := decide_eq_false hq
 rw [hd]
 have H0 : Hid (nameOf L ⟨K, S, N, A, B, C⟩ = 0) := Lib.hid (by
  have := nameOf_le L ⟨K, S, N, A, B, C⟩
  rw [← HCN.out] at this ⊢
  omega)
 clear hq hd a1
 obtain ⟨a0, a1, a2, c0, c1, c2⟩ := (HR.out.below HB2.out.2).cells
 clear a2 c0 c1 c2
 have hroom := HR.out.room
 by_cases hf : (L.length : Int) = most
 ·have hd : ((L.length : Int) == most) = true := by simpa using hf
  have HF := Lib.hid hf
  clear hf hroom
  go_wp2
  go_quiet (fail)
  go_wp2
  go_ret2
  exact same_putP HR.out (HB2.out.drewN _).2 (by unfold putF; rw [if_pos hmay.out, if_neg (by rw [H0.out]; simp), if_pos (by have := HF.out; omega)])
 ·have hd : ((L.length : Int) == most) = false := by simpa using hf
  have hlt : (L.length : Int) < most := by omega
  have HLT := Lib.hid hlt
  clear hf hroom hlt
  go_wp2
  go_quiet (fail)
  have HB3 : Hid (BoxP w ⟨K, S, N, A, B, C⟩ (w2.drewN nq)) := Lib.hid (HB2.out.drewN _)
  clear HB2 a0 a1
  generalize w2.drewN nq = w4 at HB3 ⊢
  have z0 := HB3.out.at 0
  have z1 := HB3.out.at 1
  have z2 := HB3.out.at 2
  have z3 := HB3.out.at 3
  have z4 := HB3.out.at 4
  have z5 := HB3.out.at 5
  simp at z0 z1 z2 z3 z4 z5
  go_wp2_with fail
  refine (add_any ⟨K, S, N, A, B, C⟩ kl w4 (HR.out.below HB3.out.2) HK.out HLT.out H0.out HP.out.2.2.2.1 HP.out.2.2.2.2.2).mono ?_
  rintro e w5 ⟨rfl, hA⟩
  have HA := Lib.hid hA
  obtain ⟨gl', bm', tv', dv', D', hR5⟩ := hA.1
  have b1 := hR5.cells.2.1
  have eL : (((L ++ [(⟨K, S, N, A, B, C⟩ : Tm)]).length : Nat) : Int) = (L.length : Int) + 1 := by simp
  rw [eL] at b1
  clear hA hR5 eL z0 z1 z2 z3 z4 z5
  go_wp2
  go_ret2
  exact add_putP HR.out HB3.out.2 HA.out (by unfold putF; rw [if_pos hmay.out, if_neg (by rw [H0.out]; simp), if_neg (by have := HLT.out; omega)])
def Wf (t : Tm) : Prop := t.S.size ≤ maxLen ∧ (Lit.int .i64 t.K).wf = true ∧ (Lit.int .u64 t.N).wf = true ∧ (Lit.int .i64 t.A).wf = true ∧ (Lit.int .i64 t.B).wf = true ∧ (Lit.int .i64 t.C).wf = true
theorem Wf.key {t : Tm} (h : Wf t) : ∃ l, keyOf Tryz.prog 116 t.v = some l := term_key t h.1 h.2.1 h.2.2.1 h.2.2.2.1 h.2.2.2.2.1 h.2.2.2.2.2
theorem put_p {base g : Nat} {F : Nat → Prop} {L : List Tm} {most : Int} (t : Tm) (w : World) (h : PS base g F L most w) (ht : Wf t) : Calls Tryz.prog 42 #[.pointer (some ⟨g, 0, none⟩), t.v] w (PutP base g F L most t w) := by
 obtain ⟨gl, bm, tv, dv, D, h⟩ := h
 obtain ⟨kl, hk⟩ := ht.key
 exact putP_any t kl w h hk ht.1
theorem get_p {base g : Nat} {F : Nat → Prop} {L : List Tm} {most : Int} (w : World) (h : PS base g F L most w) (name : Int) :
  Calls Tryz.prog 102 #[.pointer (some ⟨g, 0, none⟩), .int .i64 name] w fun e w' => e = .returned (.tuple #[(getT L name).1.v, .bool (getT L name).2]) ∧ Below w.heap.size w w' := by
 obtain ⟨gl, bm, tv, dv, D, h⟩ := h
 exact getP_any w h name
theorem PS.chg {base g : Nat} {F S : Nat → Prop} {L : List Tm} {most : Int} {w w' : World} (h : PS base g F L most w) (hc : Chg S w w') (hn : ∀ k, F k → ¬ S k) : PS base g F L most w' := by
 obtain ⟨gl, bm, tv, dv, D, h⟩ := h
 exact ⟨gl, bm, tv, dv, D, h.chg hc hn⟩
theorem PS.below {base g : Nat} {F : Nat → Prop} {L : List Tm} {most : Int} {w w' : World} (h : PS base g F L most w) (hb : Below w.heap.size w w') : PS base g F L most w' :=
 h.chg (S := fun _ => False) (.of_below hb) (fun _ _ q => q)
theorem PS.bounds {base g : Nat} {F : Nat → Prop} {L : List Tm} {most : Int} {w : World} (h : PS base g F L most w) : ∀ k, F k → base ≤ k ∧ k < w.heap.size := by
 obtain ⟨gl, bm, tv, dv, D, h⟩ := h
 exact h.f6
theorem PS.fit {base g : Nat} {F : Nat → Prop} {L : List Tm} {most : Int} {w : World} (h : PS base g F L most w) : Fit L ∧ (L.length : Int) ≤ most ∧ most ≤ 1048576 := by
 obtain ⟨gl, bm, tv, dv, D, h⟩ := h
 exact ⟨h.fit, h.room, h.most⟩
theorem sz0 : (⟨#[]⟩ : ByteArray).size = 0 := rfl
end Go.Proofs.YtgeonppckeiceaaGreatDoor
namespace Go.Proofs.YtgeonppckeiceaaGreatDoor
open Go.RowKit
open Go.ChangeShapes Go.WideShapes
set_option linter.unusedVariables false
set_option maxRecDepth 20000
end Go.Proofs.YtgeonppckeiceaaGreatDoor
namespace Go.Proofs.YtgeonppckeiceaaGreatDoor
open Go.RowKit
set_option linter.unusedVariables false
set_option maxRecDepth 20000
structure Good (base : Nat) (Q : (Nat → Prop) → List Tm → World → Prop) : Prop where
 frame : ∀ {F S : Nat → Prop} {L : List Tm} {w w' : World}, Q F L w → Chg S w w' → (∀ k, F k → ¬ S k) → Q F L w'
 bounds : ∀ {F : Nat → Prop} {L : List Tm} {w : World}, Q F L w → ∀ k, F k → base ≤ k ∧ k < w.heap.size
def NoS : (Nat → Prop) → List Tm → World → Prop := fun F _ _ => ∀ k, ¬ F k
theorem NoS.good (base : Nat) : Good base NoS := ⟨fun h _ _ => h, fun h k hk => absurd hk (h k)⟩
def PSq (base g : Nat) (most : Int) : (Nat → Prop) → List Tm → World → Prop := fun F L w => PS base g F L most w
theorem PSq.good (base g : Nat) (most : Int) : Good base (PSq base g most) := ⟨fun h hc hn => PS.chg h hc hn, fun h => PS.bounds h⟩
def Step (Q : (Nat → Prop) → List Tm → World → Prop) (F : Nat → Prop) (v : Value) (L' : List Tm) (w : World) (e : Ending) (w' : World) : Prop :=
 e = .returned v ∧ Q (fun k => F k ∨ (w.heap.size ≤ k ∧ k < w'.heap.size)) L' w' ∧ Chg F w w'
theorem fit_putF {L : List Tm} {most : Int} {t : Tm} (h : Fit L) (hl : (L.length : Int) ≤ most) : Fit (putF L most t).2.2 ∧ ((putF L most t).2.2.length : Int) ≤ most := by
 unfold putF
 split
 ·rename_i hm
  split
  ·exact ⟨h, hl⟩
  ·split
   ·exact ⟨h, hl⟩
   ·refine ⟨fit_snoc h ?_, by simp; omega⟩
    have := (mayP_iff L.length t).2 (of_decide_eq_true hm)
    exact this.2.2.2.2.2
 ·exact ⟨h, hl⟩
theorem putP_step {base g : Nat} {most : Int} {F : Nat → Prop} {L : List Tm} (t : Tm) (w : World) (h : PSq base g most F L w) (ht : Wf t) :
  Calls Tryz.prog 42 #[.pointer (some ⟨g, 0, none⟩), t.v] w (Step (PSq base g most) F (.tuple #[.int .i64 (putF L most t).1, .int .i64 (putF L most t).2.1]) (putF L most t).2.2 w) :=
 (put_p t w h ht).mono fun e w' h => h
def Pair (base : Nat) (Q1 Q2 : (Nat → Prop) → List Tm → World → Prop) (L1 L2 : List Tm) (K : Nat → Prop) (w0 w : World) : Prop :=
 ∃ F1 F2, Q1 F1 L1 w ∧ Q2 F2 L2 w ∧ (∀ k, F1 k → ¬ F2 k) ∧ (∀ k, K k → ¬ F1 k ∧ ¬ F2 k ∧ k < w.heap.size) ∧ base = w0.heap.size ∧ Below base w0 w
section
variable {base : Nat} {Q1 Q2 : (Nat → Prop) → List Tm → World → Prop} {L1 L2 : List Tm} {K : Nat → Prop} {w0 w : World}
theorem Pair.belowW (h : Pair base Q1 Q2 L1 L2 K w0 w) : Below w0.heap.size w0 w := by
 obtain ⟨F1, F2, h1, h2, h3, h4, h5, h6⟩ := h
 rw [← h5]; exact h6
theorem Pair.base_le (h : Pair base Q1 Q2 L1 L2 K w0 w) : base ≤ w.heap.size := by
 obtain ⟨F1, F2, h1, h2, h3, h4, h5, h6⟩ := h
 rw [h5]; exact h6.size
theorem Pair.below (g1 : Good base Q1) (g2 : Good base Q2) (h : Pair base Q1 Q2 L1 L2 K w0 w) {w' : World} (hb : Below w.heap.size w w') : Pair base Q1 Q2 L1 L2 K w0 w' := by
 have hbl := h.base_le
 obtain ⟨F1, F2, h1, h2, h3, h4, h5, h6⟩ := h
 exact ⟨F1, F2, g1.frame h1 (S := fun _ => False) (.of_below hb) (fun _ _ q => q), g2.frame h2 (S := fun _ => False) (.of_below hb) (fun _ _ q => q), h3,
  fun k hk => ⟨(h4 k hk).1, (h4 k hk).2.1, Nat.lt_of_lt_of_le (h4 k hk).2.2 hb.size⟩, h5, h6.trans (hb.mono hbl)⟩
theorem Pair.less (h : Pair base Q1 Q2 L1 L2 K w0 w) {K' : Nat → Prop} (hk : ∀ k, K' k → K k) : Pair base Q1 Q2 L1 L2 K' w0 w := by
 obtain ⟨F1, F2, h1, h2, h3, h4, h5, h6⟩ := h
 exact ⟨F1, F2, h1, h2, h3, fun k q => h4 k (hk k q), h5, h6⟩
theorem Pair.box (g1 : Good base Q1) (g2 : Good base Q2) (h : Pair base Q1 Q2 L1 L2 K w0 w) (o : Obj) : Pair base Q1 Q2 L1 L2 (fun k => K k ∨ k = w.heap.size) w0 (w.alloc o) := by
 have h' := h.below g1 g2 ((Below.refl _ _).alloc (Nat.le_refl _) o)
 obtain ⟨F1, F2, h1, h2, h3, h4, h5, h6⟩ := h
 refine ⟨F1, F2, g1.frame h1 (Chg.alloc w o (fun _ => False)) (fun _ _ q => q), g2.frame h2 (Chg.alloc w o (fun _ => False)) (fun _ _ q => q), h3, ?_, h5, h'.choose_spec.choose_spec.2.2.2.2.2⟩
 intro k hk
 rcases hk with q | q
 ·exact ⟨(h4 k q).1, (h4 k q).2.1, by have := (h4 k q).2.2; simp; omega⟩
 ·exact ⟨fun e => by have := (g1.bounds h1 k e).2; omega, fun e => by have := (g2.bounds h2 k e).2; omega, by rw [q]; simp⟩
theorem Pair.first (g1 : Good base Q1) (g2 : Good base Q2) (h : Pair base Q1 Q2 L1 L2 K w0 w) {L1' : List Tm} {f : FuncId} {args : Array Value} {v : Value}
  (hs : ∀ F1, Q1 F1 L1 w → Calls Tryz.prog f args w (Step Q1 F1 v L1' w)) :
  Calls Tryz.prog f args w fun e w' => e = .returned v ∧ Pair base Q1 Q2 L1' L2 K w0 w' ∧ ∀ k, K k → w'.heap[k]? = w.heap[k]? := by
 have hbl := h.base_le
 obtain ⟨F1, F2, h1, h2, h3, h4, h5, h6⟩ := h
 refine (hs F1 h1).mono ?_
 rintro e w' ⟨rfl, p1, p2⟩
 refine ⟨rfl, ⟨_, F2, p1, g2.frame h2 p2 (fun k a b => h3 k b a), ?_, ?_, h5, ?_⟩, fun k hk => p2.block k (h4 k hk).2.2 (h4 k hk).1⟩
 ·intro k hk q
  rcases hk with e | e
  ·exact h3 k e q
  ·have := (g2.bounds h2 k q).2; omega
 ·intro k hk
  have hlt := (h4 k hk).2.2
  exact ⟨fun e => by
   rcases e with e | e
   ·exact (h4 k hk).1 e
   ·omega, (h4 k hk).2.1, Nat.lt_of_lt_of_le hlt p2.size⟩
 ·exact h6.trans (p2.below (fun k hk => (g1.bounds h1 k hk).1) hbl)
end
theorem Pair.putP {base g : Nat} {most : Int} {Q2 : (Nat → Prop) → List Tm → World → Prop} {L L' L2 : List Tm} {K : Nat → Prop} {w0 w : World} {a b : Int} (g2 : Good base Q2) (h : Pair base (PSq base g most) Q2 L L2 K w0 w) (t : Tm) (ht : Wf t) (hf : putF L most t = (a, b, L')) :
  Calls Tryz.prog 42 #[.pointer (some ⟨g, 0, none⟩), t.v] w fun e w' => e = .returned (.tuple #[.int .i64 a, .int .i64 b]) ∧ Pair base (PSq base g most) Q2 L' L2 K w0 w' ∧ ∀ k, K k → w'.heap[k]? = w.heap[k]? :=
 h.first (PSq.good base g most) g2 (fun F1 h1 => by have := putP_step t w h1 ht; rw [hf] at this; exact this)
theorem Pair.getP {base g : Nat} {most : Int} {Q2 : (Nat → Prop) → List Tm → World → Prop} {L L2 : List Tm} {K : Nat → Prop} {w0 w : World} {x : Tm × Bool} (g2 : Good base Q2) (h : Pair base (PSq base g most) Q2 L L2 K w0 w) (name : Int) (hx : getT L name = x) :
  Calls Tryz.prog 102 #[.pointer (some ⟨g, 0, none⟩), .int .i64 name] w fun e w' => e = .returned (.tuple #[x.1.v, .bool x.2]) ∧ Pair base (PSq base g most) Q2 L L2 K w0 w' ∧ Below w.heap.size w w' := by
 have h' := h
 obtain ⟨F1, F2, h1, _⟩ := h
 refine (get_p w h1 name).mono ?_
 rintro e w' ⟨rfl, hb⟩
 rw [hx]
 exact ⟨rfl, h'.below (PSq.good base g most) g2 hb, hb⟩
theorem Pair.facts {base g : Nat} {most : Int} {Q2 : (Nat → Prop) → List Tm → World → Prop} {L L2 : List Tm} {K : Nat → Prop} {w0 w : World} (h : Pair base (PSq base g most) Q2 L L2 K w0 w) : Fit L ∧ (L.length : Int) ≤ most ∧ most ≤ 1048576 := by
 obtain ⟨F1, F2, h1, _⟩ := h
 exact PS.fit h1
theorem drewN_below (w : World) (n : Nat) : Below w.heap.size w (w.drewN n) := ⟨rfl, rfl, rfl, Nat.le_refl _, fun _ _ => rfl⟩
theorem putF_cases (L : List Tm) (most : Int) (t : Tm) :
  (putF L most t = (0, 1, L) ∧ t.may L.length = false) ∨ (∃ k, k < L.length ∧ putF L most t = ((k : Int) + 1, 0, L) ∧ L.getD k zeroT = t ∧ t.may L.length = true ∧ nameOf L t = (k : Int) + 1) ∨
  (most ≤ (L.length : Int) ∧ putF L most t = (0, 4, L) ∧ t.may L.length = true ∧ nameOf L t = 0) ∨ ((L.length : Int) < most ∧ putF L most t = ((L.length : Int) + 1, 0, L ++ [t]) ∧ t.may L.length = true ∧ nameOf L t = 0) := by
 by_cases hm : t.may L.length = true
 ·rcases nameOf_cases L t with ⟨h0, h⟩ | ⟨k, hk, h1, h2, h3⟩
  ·by_cases hr : most ≤ (L.length : Int)
   ·exact .inr (.inr (.inl ⟨hr, by unfold putF; rw [if_pos hm, if_neg (by rw [h0]; simp), if_pos hr], hm, h0⟩))
   ·exact .inr (.inr (.inr ⟨by omega, by unfold putF; rw [if_pos hm, if_neg (by rw [h0]; simp), if_neg hr], hm, h0⟩))
  ·exact .inr (.inl ⟨k, hk, by unfold putF; rw [if_pos hm, if_pos (by omega), h1], h2, hm, h1⟩)
 ·exact .inl ⟨by unfold putF; rw [if_neg hm], by simpa using hm⟩
theorem may_iff (n : Nat) (t : Tm) : t.may n = true ↔ May n t.K t.S t.N t.A t.B t.C := by unfold Tm.may; simp
theorem may_mono {n m : Nat} {t : Tm} (h : n ≤ m) (k : t.may n = true) : t.may m = true := by
 rw [may_iff] at k ⊢
 unfold May at k ⊢
 obtain ⟨k1, k2, k3, k4, k5, k6, k7⟩ := k
 refine ⟨k1, k2, k3, k4, k5, fun j hj hb => k6 j hj ?_, k7⟩
 unfold BadP at hb ⊢
 omega
def Sound (L : List Tm) : Prop := ∀ k, k < L.length → (L.getD k zeroT).may L.length = true
theorem Sound.nil : Sound [] := fun k hk => absurd hk (Nat.not_lt_zero _)
theorem Sound.put {L : List Tm} (h : Sound L) (most : Int) (t : Tm) : Sound (putF L most t).2.2 := by
 rcases putF_cases L most t with ⟨hp, hm⟩ | ⟨j, hj, hp, hjt, hm, hn⟩ | ⟨hr, hp, hm, hn⟩ | ⟨hr, hp, hm, hn⟩
 all_goals rw [hp]
 ·exact h
 ·exact h
 ·exact h
 ·intro k hk
  have hk' : k < L.length + 1 := by simpa using hk
  rcases Nat.lt_succ_iff_lt_or_eq.1 hk' with q | q
  ·show ((L ++ [t]).getD k zeroT).may (L ++ [t]).length = true
   rw [getD_snoc_lt L t k q]
   exact may_mono (by simp) (h k q)
  ·show ((L ++ [t]).getD k zeroT).may (L ++ [t]).length = true
   rw [q, getD_snoc_eq]
   exact may_mono (by simp) hm
def Named (L : List Tm) (a : Int) (t : Tm) : Prop := nameOf L t = a ∧ 1 ≤ a
def Ext (L L' : List Tm) : Prop := L.length ≤ L'.length ∧ (∀ j, j < L.length → L'.getD j zeroT = L.getD j zeroT) ∧ ∀ u, nameOf L u ≠ 0 → nameOf L' u = nameOf L u
theorem Ext.refl (L : List Tm) : Ext L L := ⟨Nat.le_refl _, fun _ _ => rfl, fun _ _ => rfl⟩
theorem Ext.trans {L M N : List Tm} (h : Ext L M) (k : Ext M N) : Ext L N :=
 ⟨Nat.le_trans h.1 k.1, fun j hj => by rw [k.2.1 j (Nat.lt_of_lt_of_le hj h.1), h.2.1 j hj], fun u hu => by
  have := h.2.2 u hu
  rw [k.2.2 u (by rw [this]; exact hu), this]⟩
theorem Ext.snoc (L : List Tm) (t : Tm) : Ext L (L ++ [t]) := ⟨by simp, fun j hj => getD_snoc_lt L t j hj, fun u hu => nameOf_snoc_old L t u hu⟩
theorem Named.ext {L L' : List Tm} {a : Int} {t : Tm} (h : Named L a t) (k : Ext L L') : Named L' a t := ⟨by rw [k.2.2 t (by rw [h.1]; have := h.2; omega)]; exact h.1, h.2⟩
theorem Named.at {L : List Tm} {a : Int} {t : Tm} (h : Named L a t) : 1 ≤ a ∧ a ≤ (L.length : Int) ∧ L.getD (a - 1).toNat zeroT = t := by
 obtain ⟨h1, h2⟩ := h
 rcases nameOf_cases L t with ⟨h0, _⟩ | ⟨k, hk, e, ht, _⟩
 ·omega
 ·have : (a - 1).toNat = k := by omega
  rw [this]
  exact ⟨h2, by omega, ht⟩
theorem Named.inj {L : List Tm} {a b : Int} {t u : Tm} (h : Named L a t) (k : Named L b u) : a = b ↔ t = u := by
 constructor
 ·rintro rfl
  rw [← h.at.2.2, ← k.at.2.2]
 ·rintro rfl
  rw [← h.1, ← k.1]
theorem Named.get {L : List Tm} {a : Int} {t : Tm} (h : Named L a t) : getT L a = (t, true) := by
 obtain ⟨h1, h2, h3⟩ := h.at
 unfold getT
 rw [if_pos ⟨h1, h2⟩, h3]
theorem put_old {L : List Tm} {a most : Int} {t : Tm} (h : Named L a t) (hm : t.may L.length = true) : putF L most t = (a, 0, L) := by
 unfold putF
 rw [if_pos hm, if_pos (by rw [h.1]; have := h.2; omega), h.1]
theorem put_named (L : List Tm) (most : Int) (t : Tm) (hm : t.may L.length = true) (hr : (L.length : Int) < most) :
  ∃ a L', putF L most t = (a, 0, L') ∧ Named L' a t ∧ Ext L L' ∧ L'.length ≤ L.length + 1 := by
 rcases nameOf_cases L t with ⟨h0, h⟩ | ⟨k, hk, h1, h2, h3⟩
 ·refine ⟨(L.length : Int) + 1, L ++ [t], ?_, ⟨nameOf_snoc_same L t h0, by omega⟩, Ext.snoc L t, by simp⟩
  unfold putF
  rw [if_pos hm, if_neg (by rw [h0]; simp), if_neg (by omega)]
 ·exact ⟨(k : Int) + 1, L, put_old ⟨h1, by omega⟩ hm, ⟨h1, by omega⟩, Ext.refl L, by omega⟩
def I64 (x : Int) : Prop := (Lit.int .i64 x).wf = true
theorem i64_small {x : Int} (h1 : 0 ≤ x) (h2 : x ≤ 1048577) : I64 x := wf_small x h1 h2
theorem wf_emp : (⟨#[]⟩ : ByteArray).size ≤ maxLen := by decide
theorem k0 : I64 0 := by unfold I64; decide
theorem k1 : I64 1 := by unfold I64; decide
theorem k2 : I64 2 := by unfold I64; decide
theorem k3 : I64 3 := by unfold I64; decide
theorem k4 : I64 4 := by unfold I64; decide
theorem k5 : I64 5 := by unfold I64; decide
theorem k6 : I64 6 := by unfold I64; decide
theorem k7 : I64 7 := by unfold I64; decide
theorem k8 : I64 8 := by unfold I64; decide
theorem k9 : I64 9 := by unfold I64; decide
theorem k10 : I64 10 := by unfold I64; decide
theorem k11 : I64 11 := by unfold I64; decide
theorem k99 : I64 99 := by unfold I64; decide
theorem u0 : (Lit.int .u64 0).wf = true := by decide
theorem u1 : (Lit.int .u64 1).wf = true := by decide
theorem u2 : (Lit.int .u64 2).wf = true := by decide
def Two (v1 v2 : Value) (P : World → Prop) (w : World) (e : Ending) (w' : World) : Prop := e = .returned (.tuple #[v1, v2]) ∧ P w' ∧ Below w.heap.size w w'
def One (v : Value) (P : World → Prop) (w : World) (e : Ending) (w' : World) : Prop := e = .returned v ∧ P w' ∧ Below w.heap.size w w'
def TwoK (v1 v2 : Value) (P : World → Prop) (K : Nat → Prop) (w : World) (e : Ending) (w' : World) : Prop := e = .returned (.tuple #[v1, v2]) ∧ P w' ∧ ∀ k, K k → w'.heap[k]? = w.heap[k]?
def Three (v1 v2 v3 : Value) (P : World → Prop) (K : Nat → Prop) (w : World) (e : Ending) (w' : World) : Prop := e = .returned (.tuple #[v1, v2, v3]) ∧ P w' ∧ ∀ k, K k → w'.heap[k]? = w.heap[k]?
def U64 (n : Int) : Prop := (Lit.int .u64 n).wf = true
theorem getT_in {L : List Tm} {p : Int} {t : Tm} (h : getT L p = (t, true)) : 1 ≤ p ∧ p ≤ (L.length : Int) ∧ t = L.getD (p - 1).toNat zeroT := by
 unfold getT at h
 split at h
 ·rename_i hp
  injection h with h1 h2
  exact ⟨hp.1, hp.2, h1.symm⟩
 ·injection h with h1 h2; cases h2
theorem getT_no {L : List Tm} {p : Int} {t : Tm} (h : getT L p = (t, false)) : t = zeroT := by
 unfold getT at h
 split at h
 ·injection h with h1 h2; cases h2
 ·injection h with h1 h2; exact h1.symm
theorem part_in {L : List Tm} (hf : Fit L) {p : Int} {t : Tm} (h : getT L p = (t, true)) (j : Nat) (hj : j < many t.K) : 1 ≤ prt t.A t.B t.C j ∧ prt t.A t.B t.C j < p := by
 obtain ⟨q1, q2, q3⟩ := getT_in h
 have h3 := hf (p - 1).toNat (by omega) j (by rw [← q3]; exact hj)
 rw [← q3] at h3
 omega
theorem Ext.len {L L' : List Tm} (h : Ext L L') {x : Int} (hx : x ≤ (L.length : Int)) : x ≤ (L'.length : Int) := by have := h.1; omega
theorem byte_in {a : Int} (ha : (Lit.int .u8 a).wf = true) : 0 ≤ a ∧ a ≤ 255 := by
 have e1 : IntKind.u8.min = 0 := by decide
 have e2 : IntKind.u8.max = 255 := by decide
 simpa only [Lit.wf, e1, e2, Bool.and_eq_true, decide_eq_true_eq] using ha
theorem wrap_u64 {x : Int} (h1 : 0 ≤ x) (h2 : x ≤ 1000000) : IntKind.u64.wrap x = x := by
 simp [IntKind.wrap, IntKind.signed, IntKind.bits]
 omega
theorem u64_small {x : Int} (h1 : 0 ≤ x) (h2 : x ≤ 1000000) : U64 x := by
 have := wf_wrap .u64 x
 rw [wrap_u64 h1 h2] at this
 exact this
theorem getT_of {L : List Tm} {x : Int} (h : 1 ≤ x ∧ x ≤ (L.length : Int)) : ∃ t, getT L x = (t, true) := by
 unfold getT
 rw [if_pos h]
 exact ⟨_, rfl⟩
theorem Sound.get {L : List Tm} (h : Sound L) {x : Int} {t : Tm} (hx : getT L x = (t, true)) : t.may L.length = true := by
 obtain ⟨h1, h2, h3⟩ := getT_in hx
 rw [h3]
 exact h _ (by omega)
section
variable {base g : Nat} {most : Int} {Q2 : (Nat → Prop) → List Tm → World → Prop} {L L2 : List Tm} {K : Nat → Prop} {w0 w : World}
end
end Go.Proofs.YtgeonppckeiceaaGreatDoor
