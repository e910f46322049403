/- The program's newMind: a mind that can make nothing so far. -/
import Derived.Test.YtgeonppckeiceaaGreatDoorGq01
import Derived.Test.YtgeonppckeiceaaGreatDoorGq34
import Derived.Deep.OwnRows
import Derived.Deep.CutRange
import Derived.Deep.RegionHeld3
namespace Go.Proofs.YtgeonppckeiceaaGreatDoor
open Go.RowKit
open Go.Maps
set_option linter.unusedVariables false
set_option linter.unusedSimpArgs false
set_option maxRecDepth 20000
theorem info4 : (Tryz.prog.info? 4).map (fun i => (i.zero, i.size, i.bytes)) = some (some (.bool false), 1, 1) := by kernel_rfl
theorem infoR : (Tryz.prog.info? 94).map (fun i => (i.zero, i.size, i.bytes)) = some (some (.slice none 0 0), 1, 24) := by kernel_rfl
theorem made_can (N : Nat) : madeCells #[.bool false] (N + 1) = canV N [] := by
 apply Array.ext'
 rw [toList_madeCells_one]
 simp only [canV, has_nil]
 rw [List.map_const', List.length_range]
theorem made_hang (N : Nat) : madeCells #[.slice none 0 0] (N + 1) = hangV N (fun _ => .slice none 0 0) := by
 apply Array.ext'
 rw [toList_madeCells_one]
 simp only [hangV]
 rw [List.map_const', List.length_range]
structure Bag (w0 : World) (N : Nat) (w : World) (c n h : Option Nat) : Prop where
 below : Below w0.heap.size w0 w
 can : ∀ i, c = some i → w0.heap.size ≤ i ∧ w.heap[i]? = some (.cells (madeCells #[.bool false] (N + 1)) 4 (0, 0))
 names : ∀ i, n = some i → w0.heap.size ≤ i ∧ w.ownsMap Tryz.prog 116 (plainElem Tryz.prog 3) i 0 (.map [] : DataW Unit)
 hang : ∀ i, h = some i → w0.heap.size ≤ i ∧ w.heap[i]? = some (.cells (madeCells #[.slice none 0 0] (N + 1)) 94 (0, 0))
 ne1 : ∀ i, c = some i → n ≠ some i ∧ h ≠ some i
 ne2 : ∀ i, n = some i → h ≠ some i
theorem Bag.next {w0 w w' : World} {N : Nat} {c n h : Option Nat} (b : Bag w0 N w c n h) (hb : Below w.heap.size w w') : Bag w0 N w' c n h :=
 {below := b.below.trans (hb.mono b.below.size)
  can := fun i e => ⟨(b.can i e).1, by rw [hb.block i (blk_lt (b.can i e).2)]; exact (b.can i e).2⟩
  names := fun i e => ⟨(b.names i e).1, (Chg.of_below (S := fun _ => False) hb).own (b.names i e).2 id⟩
  hang := fun i e => ⟨(b.hang i e).1, by rw [hb.block i (blk_lt (b.hang i e).2)]; exact (b.hang i e).2⟩
  ne1 := b.ne1
  ne2 := b.ne2 }
theorem Bag.lt {w0 w : World} {N : Nat} {c n h : Option Nat} (b : Bag w0 N w c n h) : (∀ i, c = some i → i < w.heap.size) ∧ (∀ i, n = some i → i < w.heap.size) ∧ ∀ i, h = some i → i < w.heap.size :=
 ⟨fun i e => blk_lt (b.can i e).2, fun i e => (b.names i e).2.lt, fun i e => blk_lt (b.hang i e).2⟩
theorem Bag.addC {w0 w : World} {N : Nat} {n h : Option Nat} (b : Bag w0 N w none n h) : Bag w0 N (w.alloc (.cells (madeCells #[.bool false] (N + 1)) 4)) (some w.heap.size) n h := by
 have b' := b.next ((Below.refl w.heap.size w).alloc (Nat.le_refl _) (.cells (madeCells #[.bool false] (N + 1)) 4))
 exact { b' with
  can := fun i e => by injection e with e; subst e; exact ⟨b.below.size, heap_alloc_new w _⟩
  ne1 := fun i e => by
   injection e with e; subst e
   exact ⟨fun q => by have := b.lt.2.1 _ q; omega, fun q => by have := b.lt.2.2 _ q; omega⟩ }
theorem Bag.addN {w0 w : World} {N : Nat} {c h : Option Nat} (b : Bag w0 N w c none h) : Bag w0 N (w.alloc (.map #[] 0)) c (some w.heap.size) h := by
 have b' := b.next ((Below.refl w.heap.size w).alloc (Nat.le_refl _) (.map #[] 0))
 exact { b' with
  names := fun i e => by injection e with e; subst e; exact ⟨b.below.size, World.ownsMap_made _ _ _ _⟩
  ne1 := fun i e => ⟨fun q => by injection q with q; have := b.lt.1 _ e; omega, (b.ne1 i e).2⟩
  ne2 := fun i e => by
   injection e with e; subst e
   exact fun q => by have := b.lt.2.2 _ q; omega }
theorem Bag.addH {w0 w : World} {N : Nat} {c n : Option Nat} (b : Bag w0 N w c n none) : Bag w0 N (w.alloc (.cells (madeCells #[.slice none 0 0] (N + 1)) 94)) c n (some w.heap.size) := by
 have b' := b.next ((Below.refl w.heap.size w).alloc (Nat.le_refl _) (.cells (madeCells #[.slice none 0 0] (N + 1)) 94))
 exact { b' with
  hang := fun i e => by injection e with e; subst e; exact ⟨b.below.size, heap_alloc_new w _⟩
  ne1 := fun i e => ⟨(b.ne1 i e).1, fun q => by injection q with q; have := b.lt.1 _ e; omega⟩
  ne2 := fun i e q => by injection q with q; have := b.lt.2.1 _ e; omega }
theorem noteOf_none (L : List Tm) : noteOf L 0 = fun _ => 0 := funext (noteOf_zero L)
theorem Bag.mind {w0 w : World} {g : Nat} {L : List Tm} {dh kem : Bool} {c n h : Nat} (b : Bag w0 L.length w (some c) (some n) (some h)) (hm : L.length ≤ 1048576) :
  Mind w0 g L dh kem ⟨w.heap.size, c, n, h⟩ (noteOf L 0) (hangs L 0) (fun _ => .slice none 0 0) (.slice none 0 0) [] (w.alloc (.cells (mindV g L.length dh kem ⟨w.heap.size, c, n, h⟩ (.slice none 0 0)) 188)) ∧ Few ⟨w.heap.size, c, n, h⟩ (noteOf L 0) 0 (w.alloc (.cells (mindV g L.length dh kem ⟨w.heap.size, c, n, h⟩ (.slice none 0 0)) 188)) := by
 have hb := (Below.refl w.heap.size w).alloc (Nat.le_refl _) (.cells (mindV g L.length dh kem ⟨w.heap.size, c, n, h⟩ (.slice none 0 0)) 188)
 have b' := b.next hb
 have l := b.lt
 have l1 := l.1 c rfl
 have l2 := l.2.1 n rfl
 have l3 := l.2.2 h rfl
 have n1 : c ≠ n := fun e => (b.ne1 c rfl).1 (by rw [e])
 have n2 : c ≠ h := fun e => (b.ne1 c rfl).2 (by rw [e])
 have n3 : n ≠ h := fun e => b.ne2 n rfl (by rw [e])
 have hn : NoteOk (.map [] : DataW Unit) (noteOf L 0) := by rw [noteOf_none]; exact NoteOk.nil
 refine ⟨{
  st := heap_alloc_new w _
  can := by rw [← made_can]; exact (b'.can c rfl).2
  row := OwnI.nil _ _
  names := ⟨0, _, (b'.names n rfl).2, Nat.zero_le _, hn⟩
  hang := by rw [← made_hang]; exact (b'.hang h rfl).2
  rows := fun i => OwnI.nil _ _
  apart := ?_
  lo := ⟨b.below.size, (b.can c rfl).1, (b.names n rfl).1, (b.hang h rfl).1⟩
  below := b'.below
  nodup := by simp
  inL := by simp
  most := hm }, ⟨0, _, (b'.names n rfl).2, Nat.le_refl _, hn⟩⟩
 intro i j k hi hj
 match i, j, hi, hj with
 | 0, 0, _, _ => rfl
 | 1, 1, _, _ => rfl
 | 2, 2, _, _ => rfl
 | 3, 3, _, _ => rfl
 | 0, 1, hi, hj => injection hi with hi; injection hj with hj; dsimp only at hi hj; omega
 | 0, 2, hi, hj => injection hi with hi; injection hj with hj; dsimp only at hi hj; omega
 | 0, 3, hi, hj => injection hi with hi; injection hj with hj; dsimp only at hi hj; omega
 | 1, 0, hi, hj => injection hi with hi; injection hj with hj; dsimp only at hi hj; omega
 | 1, 2, hi, hj => injection hi with hi; injection hj with hj; dsimp only at hi hj; omega
 | 1, 3, hi, hj => injection hi with hi; injection hj with hj; dsimp only at hi hj; omega
 | 2, 0, hi, hj => injection hi with hi; injection hj with hj; dsimp only at hi hj; omega
 | 2, 1, hi, hj => injection hi with hi; injection hj with hj; dsimp only at hi hj; omega
 | 2, 3, hi, hj => injection hi with hi; injection hj with hj; dsimp only at hi hj; omega
 | 3, 0, hi, hj => injection hi with hi; injection hj with hj; dsimp only at hi hj; omega
 | 3, 1, hi, hj => injection hi with hi; injection hj with hj; dsimp only at hi hj; omega
 | 3, 2, hi, hj => injection hi with hi; injection hj with hj; dsimp only at hi hj; omega
 | 4, _, hi, _ => cases hi
 | _ + 5, _, hi, _ => cases hi
 | _, 4, _, hj => cases hj
 | _, _ + 5, _, hj => cases hj
theorem rules_a (w : World) : Calls Tryz.prog 155 #[] w fun e w' => e = .returned (.agg #[.nilFunc, .func (.func 188) #[] #[], .func (.func 189) #[] #[], .func (.func 188) #[] #[], .func (.func 190) #[] #[],
  .func (.func 188) #[] #[], .func (.func 191) #[] #[], .func (.func 192) #[] #[], .func (.func 188) #[] #[], .func (.func 188) #[] #[],
  .func (.func 188) #[] #[], .func (.func 188) #[] #[]]) ∧ Below w.heap.size w w' := rules_k w
def HeldF (q : Nat) (dh kem : Bool) (w : World) : Prop := w.cell? ⟨q, 0, none⟩ = some (.bool dh) ∧ w.cell? ⟨q, 1, none⟩ = some (.bool kem)
theorem HeldF.below {q : Nat} {dh kem : Bool} {w w' : World} (h : HeldF q dh kem w) (hb : Below w.heap.size w w') : HeldF q dh kem w' := ⟨(hb.cell (block_lt_of_cell h.1)).trans h.1, (hb.cell (block_lt_of_cell h.2)).trans h.2⟩
theorem HeldF.alloc {q : Nat} {dh kem : Bool} {w : World} (h : HeldF q dh kem w) (o : Obj) : HeldF q dh kem (w.alloc o) := h.below ((Below.refl _ _).alloc (Nat.le_refl _) _)
def Minded (w0 : World) (g : Nat) (L : List Tm) (dh kem : Bool) (e : Ending) (W' : World) : Prop := ∃ B vs, e = .returned (.pointer (some ⟨B.m, 0, none⟩)) ∧ MindF w0 g L dh kem B (hangs L L.length) vs (.slice none 0 0) [] W'
section
variable {w0 : World} {g : Nat} {L : List Tm} {dh kem : Bool}
set_option maxHeartbeats 8000000 in
set_option maxRecDepth 100000 in
theorem newMind_k (hg : StoreAt w0 g L) (hS : Sound L) (hU : Uniq L) (hW : ∀ t, t ∈ L → Wf t) (hmost : L.length ≤ 1048576) (W : World) (hb : Below w0.heap.size w0 W) :
  Calls Tryz.prog 108 #[.pointer (some ⟨g, 0, none⟩), .agg #[.bool dh, .bool kem]] W (Minded w0 g L dh kem) := by
 have HLEN : Hid (∀ w', Hid (Below w0.heap.size w0 w') → Calls Tryz.prog 36 #[.pointer (some ⟨g, 0, none⟩)] w' fun e W' => e = .returned (.int .i64 L.length) ∧ w' = W') := Lib.hid (fun w' hb => hg.len hb.out)
 have hmk1 : ∀ w, (Instr.makeSlice 184 (.int .i64 ((L.length : Int) + 1)) (.int .i64 ((L.length : Int) + 1))).run Tryz.prog w = .ok (.slice (some ⟨w.heap.size, 0, none⟩) (L.length + 1) (L.length + 1)) (w.alloc (.cells (madeCells #[.bool false] (L.length + 1)) 4)) := fun w => by
  have := run_make_row' (P := Tryz.prog) 184 4 (.bool false) 1 Tryz.underlying184 info4 rfl .i64 .i64 (L.length + 1) (by omega) (by omega) w
  rwa [show (((L.length + 1 : Nat)) : Int) = (L.length : Int) + 1 from by omega] at this
 have hmk2 : ∀ w, (Instr.makeSlice 186 (.int .i64 ((L.length : Int) + 1)) (.int .i64 ((L.length : Int) + 1))).run Tryz.prog w = .ok (.slice (some ⟨w.heap.size, 0, none⟩) (L.length + 1) (L.length + 1)) (w.alloc (.cells (madeCells #[.slice none 0 0] (L.length + 1)) 94)) := fun w => by
  have := run_make_row' (P := Tryz.prog) 186 94 (.slice none 0 0) 24 Tryz.underlying186 infoR rfl .i64 .i64 (L.length + 1) (by omega) (by omega) w
  rwa [show (((L.length + 1 : Nat)) : Int) = (L.length : Int) + 1 from by omega] at this
 have hmm := @run_makeMap Tryz.prog
 have HG := Lib.hid hg
 have HS := Lib.hid hS
 have HU := Lib.hid hU
 have HW := Lib.hid hW
 obtain ⟨W1, hW1⟩ : ∃ W1, W1 = W.alloc (.cells #[.bool dh, .bool kem] 104) := ⟨_, rfl⟩
 have HB1 : Hid (Below w0.heap.size w0 W1) := Lib.hid (hb.trans (by rw [hW1]; exact ((Below.refl _ _).alloc (Nat.le_refl _) _).mono hb.size))
 have z : ∀ j, W1.cell? ⟨W.heap.size, j, none⟩ = #[Value.bool dh, .bool kem][j]? := fun j => by rw [hW1]; exact cell_of_row _ _ j _ _ _ (heap_alloc_new W _)
 have z0 := z 0
 have z1 := z 1
 simp at z0 z1
 clear z hg hS hU hW hb
 go_enter Tryz.func108, Tryz.ntmps108
 go_wp2_with fail
 rw [← hW1]
 clear hW1
 refine (HLEN.out _ HB1).mono ?_
 rintro e w1 ⟨rfl, rfl⟩
 clear HLEN
 go_wp2_with fail
 have hF0 : HeldF W.heap.size dh kem W1.drew := ⟨z0, z1⟩
 have hbag : Bag w0 L.length W1.drew none none none := ⟨HB1.out.trans ((drewN_below W1 1).mono HB1.out.size), fun _ e => (by cases e), fun _ e => (by cases e), fun _ e => (by cases e), fun _ e => (by cases e), fun _ e => (by cases e)⟩
 go_cut [6] from 12 to 21 (fun s6 wx => ∃ B : MB, s6 = .pointer (some ⟨B.m, 0, none⟩) ∧ Hid (Mind w0 g L dh kem B (noteOf L 0) (hangs L 0) (fun _ => .slice none 0 0) (.slice none 0 0) [] wx) ∧ Hid (Few B (noteOf L 0) 0 wx))
 case first =>
  clear z0 z1
  refine wp_region_held_drew (S := (fun w' => w'.cell? ⟨W.heap.size, 0, none⟩ = some (.bool dh) ∧ w'.cell? ⟨W.heap.size, 1, none⟩ = some (.bool kem))) (by kernel_rfl) hF0 (fun hHeld => ?_)
  refine tk 0 (h := ?_)
  refine tk 1 (h := ?_)
  refine tk 3 (h := ?_)
  refine tk 6 (h := ?_)
  refine wpAnyH_ready (rs := [2, 4, 5, 7]) (by kernel_rfl) (by simp) ?_
  refine AllReadyH.cons (o := ?o5) ?i5 (fun K' hK => ?_) (AllReadyH.cons (o := ?o6) ?i6 (fun K' hK => ?_) (AllReadyH.cons (o := ?o7) ?i7 (fun K' hK => ?_) (AllReadyH.cons (o := ?o8) ?i8 (fun K' hK => ?_) AllReadyH.nil)))
  case' i5 => simp only [g1, g2, g3]
  case i5 => rfl
  case' i6 => simp only [g1, g2, g3]
  case i6 => rfl
  case' i7 => simp only [g1, g2, g3]
  case i7 => rfl
  case' i8 => simp only [g1, g2, g3]
  case i8 => rfl
  ·go_simp
   go_at_call 155
   refine (rules_a _).mono ?_
   rintro e wX ⟨rfl, hbX⟩
   replace hF0 := hF0.below hbX
   replace hbag := hbag.next hbX
   clear hbX
   go_wp2_with fail
   refine hK.out _ _ hF0 (fun hHeld => ?_)
   clear hK K'
   try simp only [Act.put, p1, p2, p3]
   refine wpAnyH_ready (rs := [4, 5, 7]) (by kernel_rfl) (by simp) ?_
   refine AllReadyH.cons (o := ?o9) ?i9 (fun K' hK => ?_) (AllReadyH.cons (o := ?o10) ?i10 (fun K' hK => ?_) (AllReadyH.cons (o := ?o11) ?i11 (fun K' hK => ?_) AllReadyH.nil))
   case' i9 => simp only [g1, g2, g3]
   case i9 => rfl
   case' i10 => simp only [g1, g2, g3]
   case i10 => rfl
   case' i11 => simp only [g1, g2, g3]
   case i11 => rfl
   ·go_simp
    replace hF0 := hF0.alloc (.cells (madeCells #[.bool false] (L.length + 1)) 4)
    replace hbag := hbag.addC
    refine hK.out _ _ hF0 (fun hHeld => ?_)
    clear hK K'
    try simp only [Act.put, p1, p2, p3]
    refine rd2 5 7 (h := fun K' hK => ?_) (h' := fun K' hK => ?_)
    ·go_simp
     replace hF0 := hF0.alloc (.map #[] 0)
     replace hbag := hbag.addN
     refine hK.out _ _ hF0 (fun hHeld => ?_)
     clear hK K'
     try simp only [Act.put, p1, p2, p3]
     refine rd 7 (h := fun K' hK => ?_)
     ·go_simp
      replace hF0 := hF0.alloc (.cells (madeCells #[.slice none 0 0] (L.length + 1)) 94)
      replace hbag := hbag.addH
      refine hK.out _ _ hF0 (fun hHeld => ?_)
      clear hK K'
      try simp only [Act.put, p1, p2, p3]
      refine tk 8 (h := ?_)
      refine rd 9 (h := fun K' hK => ?_)
      go_simp
      have hmd := hbag.mind (g := g) (dh := dh) (kem := kem) hmost
      try simp only [World.size_alloc] at hmd
      refine hK.out _ _ (hF0.alloc _) (fun hHeld => ?_)
      clear hK K'
      try simp only [Act.put, p1, p2, p3]
      refine tk 10 (h := ?_)
      refine wpAnyH_done (by kernel_rfl) ?_ _
      go_wp2_with fail
      go_meet
      exact ⟨⟨_, _, _, _⟩, rfl, Lib.hid hmd.1, Lib.hid hmd.2⟩
    ·go_simp
     replace hF0 := hF0.alloc (.cells (madeCells #[.slice none 0 0] (L.length + 1)) 94)
     replace hbag := hbag.addH
     refine hK.out _ _ hF0 (fun hHeld => ?_)
     clear hK K'
     try simp only [Act.put, p1, p2, p3]
     refine rd 5 (h := fun K' hK => ?_)
     ·go_simp
      replace hF0 := hF0.alloc (.map #[] 0)
      replace hbag := hbag.addN
      refine hK.out _ _ hF0 (fun hHeld => ?_)
      clear hK K'
      try simp only [Act.put, p1, p2, p3]
      refine tk 8 (h := ?_)
      refine rd 9 (h := fun K' hK => ?_)
      go_simp
      have hmd := hbag.mind (g := g) (dh := dh) (kem := kem) hmost
      try simp only [World.size_alloc] at hmd
      refine hK.out _ _ (hF0.alloc _) (fun hHeld => ?_)
      clear hK K'
      try simp only [Act.put, p1, p2, p3]
      refine tk 10 (h := ?_)
      refine wpAnyH_done (by kernel_rfl) ?_ _
      go_wp2_with fail
      go_meet
      exact ⟨⟨_, _, _, _⟩, rfl, Lib.hid hmd.1, Lib.hid hmd.2⟩
   ·go_simp
    replace hF0 := hF0.alloc (.map #[] 0)
    replace hbag := hbag.addN
    refine hK.out _ _ hF0 (fun hHeld => ?_)
    clear hK K'
    try simp only [Act.put, p1, p2, p3]
    refine rd2 4 7 (h := fun K' hK => ?_) (h' := fun K' hK => ?_)
    ·go_simp
     replace hF0 := hF0.alloc (.cells (madeCells #[.bool false] (L.length + 1)) 4)
     replace hbag := hbag.addC
     refine hK.out _ _ hF0 (fun hHeld => ?_)
     clear hK K'
     try simp only [Act.put, p1, p2, p3]
     refine rd 7 (h := fun K' hK => ?_)
     ·go_simp
      replace hF0 := hF0.alloc (.cells (madeCells #[.slice none 0 0] (L.length + 1)) 94)
      replace hbag := hbag.addH
      refine hK.out _ _ hF0 (fun hHeld => ?_)
      clear hK K'
      try simp only [Act.put, p1, p2, p3]
      refine tk 8 (h := ?_)
      refine rd 9 (h := fun K' hK => ?_)
      go_simp
      have hmd := hbag.mind (g := g) (dh := dh) (kem := kem) hmost
      try simp only [World.size_alloc] at hmd
      refine hK.out _ _ (hF0.alloc _) (fun hHeld => ?_)
      clear hK K'
      try simp only [Act.put, p1, p2, p3]
      refine tk 10 (h := ?_)
      refine wpAnyH_done (by kernel_rfl) ?_ _
      go_wp2_with fail
      go_meet
      exact ⟨⟨_, _, _, _⟩, rfl, Lib.hid hmd.1, Lib.hid hmd.2⟩
    ·go_simp
     replace hF0 := hF0.alloc (.cells (madeCells #[.slice none 0 0] (L.length + 1)) 94)
     replace hbag := hbag.addH
     refine hK.out _ _ hF0 (fun hHeld => ?_)
     clear hK K'
     try simp only [Act.put, p1, p2, p3]
     refine rd 4 (h := fun K' hK => ?_)
     ·go_simp
      replace hF0 := hF0.alloc (.cells (madeCells #[.bool false] (L.length + 1)) 4)
      replace hbag := hbag.addC
      refine hK.out _ _ hF0 (fun hHeld => ?_)
      clear hK K'
      try simp only [Act.put, p1, p2, p3]
      refine tk 8 (h := ?_)
      refine rd 9 (h := fun K' hK => ?_)
      go_simp
      have hmd := hbag.mind (g := g) (dh := dh) (kem := kem) hmost
      try simp only [World.size_alloc] at hmd
      refine hK.out _ _ (hF0.alloc _) (fun hHeld => ?_)
      clear hK K'
      try simp only [Act.put, p1, p2, p3]
      refine tk 10 (h := ?_)
      refine wpAnyH_done (by kernel_rfl) ?_ _
      go_wp2_with fail
      go_meet
      exact ⟨⟨_, _, _, _⟩, rfl, Lib.hid hmd.1, Lib.hid hmd.2⟩
   ·go_simp
    replace hF0 := hF0.alloc (.cells (madeCells #[.slice none 0 0] (L.length + 1)) 94)
    replace hbag := hbag.addH
    refine hK.out _ _ hF0 (fun hHeld => ?_)
    clear hK K'
    try simp only [Act.put, p1, p2, p3]
    refine rd2 4 5 (h := fun K' hK => ?_) (h' := fun K' hK => ?_)
    ·go_simp
     replace hF0 := hF0.alloc (.cells (madeCells #[.bool false] (L.length + 1)) 4)
     replace hbag := hbag.addC
     refine hK.out _ _ hF0 (fun hHeld => ?_)
     clear hK K'
     try simp only [Act.put, p1, p2, p3]
     refine rd 5 (h := fun K' hK => ?_)
     ·go_simp
      replace hF0 := hF0.alloc (.map #[] 0)
      replace hbag := hbag.addN
      refine hK.out _ _ hF0 (fun hHeld => ?_)
      clear hK K'
      try simp only [Act.put, p1, p2, p3]
      refine tk 8 (h := ?_)
      refine rd 9 (h := fun K' hK => ?_)
      go_simp
      have hmd := hbag.mind (g := g) (dh := dh) (kem := kem) hmost
      try simp only [World.size_alloc] at hmd
      refine hK.out _ _ (hF0.alloc _) (fun hHeld => ?_)
      clear hK K'
      try simp only [Act.put, p1, p2, p3]
      refine tk 10 (h := ?_)
      refine wpAnyH_done (by kernel_rfl) ?_ _
      go_wp2_with fail
      go_meet
      exact ⟨⟨_, _, _, _⟩, rfl, Lib.hid hmd.1, Lib.hid hmd.2⟩
    ·go_simp
     replace hF0 := hF0.alloc (.map #[] 0)
     replace hbag := hbag.addN
     refine hK.out _ _ hF0 (fun hHeld => ?_)
     clear hK K'
     try simp only [Act.put, p1, p2, p3]
     refine rd 4 (h := fun K' hK => ?_)
     ·go_simp
      replace hF0 := hF0.alloc (.cells (madeCells #[.bool false] (L.length + 1)) 4)
      replace hbag := hbag.addC
      refine hK.out _ _ hF0 (fun hHeld => ?_)
      clear hK K'
      try simp only [Act.put, p1, p2, p3]
      refine tk 8 (h := ?_)
      refine rd 9 (h := fun K' hK => ?_)
      go_simp
      have hmd := hbag.mind (g := g) (dh := dh) (kem := kem) hmost
      try simp only [World.size_alloc] at hmd
      refine hK.out _ _ (hF0.alloc _) (fun hHeld => ?_)
      clear hK K'
      try simp only [Act.put, p1, p2, p3]
      refine tk 10 (h := ?_)
      refine wpAnyH_done (by kernel_rfl) ?_ _
      go_wp2_with fail
      go_meet
      exact ⟨⟨_, _, _, _⟩, rfl, Lib.hid hmd.1, Lib.hid hmd.2⟩
  ·go_simp
   replace hF0 := hF0.alloc (.cells (madeCells #[.bool false] (L.length + 1)) 4)
   replace hbag := hbag.addC
   refine hK.out _ _ hF0 (fun hHeld => ?_)
   clear hK K'
   try simp only [Act.put, p1, p2, p3]
   refine wpAnyH_ready (rs := [2, 5, 7]) (by kernel_rfl) (by simp) ?_
   refine AllReadyH.cons (o := ?o48) ?i48 (fun K' hK => ?_) (AllReadyH.cons (o := ?o49) ?i49 (fun K' hK => ?_) (AllReadyH.cons (o := ?o50) ?i50 (fun K' hK => ?_) AllReadyH.nil))
   case' i48 => simp only [g1, g2, g3]
   case i48 => rfl
   case' i49 => simp only [g1, g2, g3]
   case i49 => rfl
   case' i50 => simp only [g1, g2, g3]
   case i50 => rfl
   ·go_simp
    go_at_call 155
    refine (rules_a _).mono ?_
    rintro e wX ⟨rfl, hbX⟩
    replace hF0 := hF0.below hbX
    replace hbag := hbag.next hbX
    clear hbX
    go_wp2_with fail
    refine hK.out _ _ hF0 (fun hHeld => ?_)
    clear hK K'
    try simp only [Act.put, p1, p2, p3]
    refine rd2 5 7 (h := fun K' hK => ?_) (h' := fun K' hK => ?_)
    ·go_simp
     replace hF0 := hF0.alloc (.map #[] 0)
     replace hbag := hbag.addN
     refine hK.out _ _ hF0 (fun hHeld => ?_)
     clear hK K'
     try simp only [Act.put, p1, p2, p3]
     refine rd 7 (h := fun K' hK => ?_)
     ·go_simp
      replace hF0 := hF0.alloc (.cells (madeCells #[.slice none 0 0] (L.length + 1)) 94)
      replace hbag := hbag.addH
      refine hK.out _ _ hF0 (fun hHeld => ?_)
      clear hK K'
      try simp only [Act.put, p1, p2, p3]
      refine tk 8 (h := ?_)
      refine rd 9 (h := fun K' hK => ?_)
      go_simp
      have hmd := hbag.mind (g := g) (dh := dh) (kem := kem) hmost
      try simp only [World.size_alloc] at hmd
      refine hK.out _ _ (hF0.alloc _) (fun hHeld => ?_)
      clear hK K'
      try simp only [Act.put, p1, p2, p3]
      refine tk 10 (h := ?_)
      refine wpAnyH_done (by kernel_rfl) ?_ _
      go_wp2_with fail
      go_meet
      exact ⟨⟨_, _, _, _⟩, rfl, Lib.hid hmd.1, Lib.hid hmd.2⟩
    ·go_simp
     replace hF0 := hF0.alloc (.cells (madeCells #[.slice none 0 0] (L.length + 1)) 94)
     replace hbag := hbag.addH
     refine hK.out _ _ hF0 (fun hHeld => ?_)
     clear hK K'
     try simp only [Act.put, p1, p2, p3]
     refine rd 5 (h := fun K' hK => ?_)
     ·go_simp
      replace hF0 := hF0.alloc (.map #[] 0)
      replace hbag := hbag.addN
      refine hK.out _ _ hF0 (fun hHeld => ?_)
      clear hK K'
      try simp only [Act.put, p1, p2, p3]
      refine tk 8 (h := ?_)
      refine rd 9 (h := fun K' hK => ?_)
      go_simp
      have hmd := hbag.mind (g := g) (dh := dh) (kem := kem) hmost
      try simp only [World.size_alloc] at hmd
      refine hK.out _ _ (hF0.alloc _) (fun hHeld => ?_)
      clear hK K'
      try simp only [Act.put, p1, p2, p3]
      refine tk 10 (h := ?_)
      refine wpAnyH_done (by kernel_rfl) ?_ _
      go_wp2_with fail
      go_meet
      exact ⟨⟨_, _, _, _⟩, rfl, Lib.hid hmd.1, Lib.hid hmd.2⟩
   ·go_simp
    replace hF0 := hF0.alloc (.map #[] 0)
    replace hbag := hbag.addN
    refine hK.out _ _ hF0 (fun hHeld => ?_)
    clear hK K'
    try simp only [Act.put, p1, p2, p3]
    refine rd2 2 7 (h := fun K' hK => ?_) (h' := fun K' hK => ?_)
    ·go_simp
     go_at_call 155
     refine (rules_a _).mono ?_
     rintro e wX ⟨rfl, hbX⟩
     replace hF0 := hF0.below hbX
     replace hbag := hbag.next hbX
     clear hbX
     go_wp2_with fail
     refine hK.out _ _ hF0 (fun hHeld => ?_)
     clear hK K'
     try simp only [Act.put, p1, p2, p3]
     refine rd 7 (h := fun K' hK => ?_)
     ·go_simp
      replace hF0 := hF0.alloc (.cells (madeCells #[.slice none 0 0] (L.length + 1)) 94)
      replace hbag := hbag.addH
      refine hK.out _ _ hF0 (fun hHeld => ?_)
      clear hK K'
      try simp only [Act.put, p1, p2, p3]
      refine tk 8 (h := ?_)
      refine rd 9 (h := fun K' hK => ?_)
      go_simp
      have hmd := hbag.mind (g := g) (dh := dh) (kem := kem) hmost
      try simp only [World.size_alloc] at hmd
      refine hK.out _ _ (hF0.alloc _) (fun hHeld => ?_)
      clear hK K'
      try simp only [Act.put, p1, p2, p3]
      refine tk 10 (h := ?_)
      refine wpAnyH_done (by kernel_rfl) ?_ _
      go_wp2_with fail
      go_meet
      exact ⟨⟨_, _, _, _⟩, rfl, Lib.hid hmd.1, Lib.hid hmd.2⟩
    ·go_simp
     replace hF0 := hF0.alloc (.cells (madeCells #[.slice none 0 0] (L.length + 1)) 94)
     replace hbag := hbag.addH
     refine hK.out _ _ hF0 (fun hHeld => ?_)
     clear hK K'
     try simp only [Act.put, p1, p2, p3]
     refine rd 2 (h := fun K' hK => ?_)
     ·go_simp
      go_at_call 155
      refine (rules_a _).mono ?_
      rintro e wX ⟨rfl, hbX⟩
      replace hF0 := hF0.below hbX
      replace hbag := hbag.next hbX
      clear hbX
      go_wp2_with fail
      refine hK.out _ _ hF0 (fun hHeld => ?_)
      clear hK K'
      try simp only [Act.put, p1, p2, p3]
      refine tk 8 (h := ?_)
      refine rd 9 (h := fun K' hK => ?_)
      go_simp
      have hmd := hbag.mind (g := g) (dh := dh) (kem := kem) hmost
      try simp only [World.size_alloc] at hmd
      refine hK.out _ _ (hF0.alloc _) (fun hHeld => ?_)
      clear hK K'
      try simp only [Act.put, p1, p2, p3]
      refine tk 10 (h := ?_)
      refine wpAnyH_done (by kernel_rfl) ?_ _
      go_wp2_with fail
      go_meet
      exact ⟨⟨_, _, _, _⟩, rfl, Lib.hid hmd.1, Lib.hid hmd.2⟩
   ·go_simp
    replace hF0 := hF0.alloc (.cells (madeCells #[.slice none 0 0] (L.length + 1)) 94)
    replace hbag := hbag.addH
    refine hK.out _ _ hF0 (fun hHeld => ?_)
    clear hK K'
    try simp only [Act.put, p1, p2, p3]
    refine rd2 2 5 (h := fun K' hK => ?_) (h' := fun K' hK => ?_)
    ·go_simp
     go_at_call 155
     refine (rules_a _).mono ?_
     rintro e wX ⟨rfl, hbX⟩
     replace hF0 := hF0.below hbX
     replace hbag := hbag.next hbX
     clear hbX
     go_wp2_with fail
     refine hK.out _ _ hF0 (fun hHeld => ?_)
     clear hK K'
     try simp only [Act.put, p1, p2, p3]
     refine rd 5 (h := fun K' hK => ?_)
     ·go_simp
      replace hF0 := hF0.alloc (.map #[] 0)
      replace hbag := hbag.addN
      refine hK.out _ _ hF0 (fun hHeld => ?_)
      clear hK K'
      try simp only [Act.put, p1, p2, p3]
      refine tk 8 (h := ?_)
      refine rd 9 (h := fun K' hK => ?_)
      go_simp
      have hmd := hbag.mind (g := g) (dh := dh) (kem := kem) hmost
      try simp only [World.size_alloc] at hmd
      refine hK.out _ _ (hF0.alloc _) (fun hHeld => ?_)
      clear hK K'
      try simp only [Act.put, p1, p2, p3]
      refine tk 10 (h := ?_)
      refine wpAnyH_done (by kernel_rfl) ?_ _
      go_wp2_with fail
      go_meet
      exact ⟨⟨_, _, _, _⟩, rfl, Lib.hid hmd.1, Lib.hid hmd.2⟩
    ·go_simp
     replace hF0 := hF0.alloc (.map #[] 0)
     replace hbag := hbag.addN
     refine hK.out _ _ hF0 (fun hHeld => ?_)
     clear hK K'
     try simp only [Act.put, p1, p2, p3]
     refine rd 2 (h := fun K' hK => ?_)
     ·go_simp
      go_at_call 155
      refine (rules_a _).mono ?_
      rintro e wX ⟨rfl, hbX⟩
      replace hF0 := hF0.below hbX
      replace hbag := hbag.next hbX
      clear hbX
      go_wp2_with fail
      refine hK.out _ _ hF0 (fun hHeld => ?_)
      clear hK K'
      try simp only [Act.put, p1, p2, p3]
      refine tk 8 (h := ?_)
      refine rd 9 (h := fun K' hK => ?_)
      go_simp
      have hmd := hbag.mind (g := g) (dh := dh) (kem := kem) hmost
      try simp only [World.size_alloc] at hmd
      refine hK.out _ _ (hF0.alloc _) (fun hHeld => ?_)
      clear hK K'
      try simp only [Act.put, p1, p2, p3]
      refine tk 10 (h := ?_)
      refine wpAnyH_done (by kernel_rfl) ?_ _
      go_wp2_with fail
      go_meet
      exact ⟨⟨_, _, _, _⟩, rfl, Lib.hid hmd.1, Lib.hid hmd.2⟩
  ·go_simp
   replace hF0 := hF0.alloc (.map #[] 0)
   replace hbag := hbag.addN
   refine hK.out _ _ hF0 (fun hHeld => ?_)
   clear hK K'
   try simp only [Act.put, p1, p2, p3]
   refine wpAnyH_ready (rs := [2, 4, 7]) (by kernel_rfl) (by simp) ?_
   refine AllReadyH.cons (o := ?o87) ?i87 (fun K' hK => ?_) (AllReadyH.cons (o := ?o88) ?i88 (fun K' hK => ?_) (AllReadyH.cons (o := ?o89) ?i89 (fun K' hK => ?_) AllReadyH.nil))
   case' i87 => simp only [g1, g2, g3]
   case i87 => rfl
   case' i88 => simp only [g1, g2, g3]
   case i88 => rfl
   case' i89 => simp only [g1, g2, g3]
   case i89 => rfl
   ·go_simp
    go_at_call 155
    refine (rules_a _).mono ?_
    rintro e wX ⟨rfl, hbX⟩
    replace hF0 := hF0.below hbX
    replace hbag := hbag.next hbX
    clear hbX
    go_wp2_with fail
    refine hK.out _ _ hF0 (fun hHeld => ?_)
    clear hK K'
    try simp only [Act.put, p1, p2, p3]
    refine rd2 4 7 (h := fun K' hK => ?_) (h' := fun K' hK => ?_)
    ·go_simp
     replace hF0 := hF0.alloc (.cells (madeCells #[.bool false] (L.length + 1)) 4)
     replace hbag := hbag.addC
     refine hK.out _ _ hF0 (fun hHeld => ?_)
     clear hK K'
     try simp only [Act.put, p1, p2, p3]
     refine rd 7 (h := fun K' hK => ?_)
     ·go_simp
      replace hF0 := hF0.alloc (.cells (madeCells #[.slice none 0 0] (L.length + 1)) 94)
      replace hbag := hbag.addH
      refine hK.out _ _ hF0 (fun hHeld => ?_)
      clear hK K'
      try simp only [Act.put, p1, p2, p3]
      refine tk 8 (h := ?_)
      refine rd 9 (h := fun K' hK => ?_)
      go_simp
      have hmd := hbag.mind (g := g) (dh := dh) (kem := kem) hmost
      try simp only [World.size_alloc] at hmd
      refine hK.out _ _ (hF0.alloc _) (fun hHeld => ?_)
      clear hK K'
      try simp only [Act.put, p1, p2, p3]
      refine tk 10 (h := ?_)
      refine wpAnyH_done (by kernel_rfl) ?_ _
      go_wp2_with fail
      go_meet
      exact ⟨⟨_, _, _, _⟩, rfl, Lib.hid hmd.1, Lib.hid hmd.2⟩
    ·go_simp
     replace hF0 := hF0.alloc (.cells (madeCells #[.slice none 0 0] (L.length + 1)) 94)
     replace hbag := hbag.addH
     refine hK.out _ _ hF0 (fun hHeld => ?_)
     clear hK K'
     try simp only [Act.put, p1, p2, p3]
     refine rd 4 (h := fun K' hK => ?_)
     ·go_simp
      replace hF0 := hF0.alloc (.cells (madeCells #[.bool false] (L.length + 1)) 4)
      replace hbag := hbag.addC
      refine hK.out _ _ hF0 (fun hHeld => ?_)
      clear hK K'
      try simp only [Act.put, p1, p2, p3]
      refine tk 8 (h := ?_)
      refine rd 9 (h := fun K' hK => ?_)
      go_simp
      have hmd := hbag.mind (g := g) (dh := dh) (kem := kem) hmost
      try simp only [World.size_alloc] at hmd
      refine hK.out _ _ (hF0.alloc _) (fun hHeld => ?_)
      clear hK K'
      try simp only [Act.put, p1, p2, p3]
      refine tk 10 (h := ?_)
      refine wpAnyH_done (by kernel_rfl) ?_ _
      go_wp2_with fail
      go_meet
      exact ⟨⟨_, _, _, _⟩, rfl, Lib.hid hmd.1, Lib.hid hmd.2⟩
   ·go_simp
    replace hF0 := hF0.alloc (.cells (madeCells #[.bool false] (L.length + 1)) 4)
    replace hbag := hbag.addC
    refine hK.out _ _ hF0 (fun hHeld => ?_)
    clear hK K'
    try simp only [Act.put, p1, p2, p3]
    refine rd2 2 7 (h := fun K' hK => ?_) (h' := fun K' hK => ?_)
    ·go_simp
     go_at_call 155
     refine (rules_a _).mono ?_
     rintro e wX ⟨rfl, hbX⟩
     replace hF0 := hF0.below hbX
     replace hbag := hbag.next hbX
     clear hbX
     go_wp2_with fail
     refine hK.out _ _ hF0 (fun hHeld => ?_)
     clear hK K'
     try simp only [Act.put, p1, p2, p3]
     refine rd 7 (h := fun K' hK => ?_)
     ·go_simp
      replace hF0 := hF0.alloc (.cells (madeCells #[.slice none 0 0] (L.length + 1)) 94)
      replace hbag := hbag.addH
      refine hK.out _ _ hF0 (fun hHeld => ?_)
      clear hK K'
      try simp only [Act.put, p1, p2, p3]
      refine tk 8 (h := ?_)
      refine rd 9 (h := fun K' hK => ?_)
      go_simp
      have hmd := hbag.mind (g := g) (dh := dh) (kem := kem) hmost
      try simp only [World.size_alloc] at hmd
      refine hK.out _ _ (hF0.alloc _) (fun hHeld => ?_)
      clear hK K'
      try simp only [Act.put, p1, p2, p3]
      refine tk 10 (h := ?_)
      refine wpAnyH_done (by kernel_rfl) ?_ _
      go_wp2_with fail
      go_meet
      exact ⟨⟨_, _, _, _⟩, rfl, Lib.hid hmd.1, Lib.hid hmd.2⟩
    ·go_simp
     replace hF0 := hF0.alloc (.cells (madeCells #[.slice none 0 0] (L.length + 1)) 94)
     replace hbag := hbag.addH
     refine hK.out _ _ hF0 (fun hHeld => ?_)
     clear hK K'
     try simp only [Act.put, p1, p2, p3]
     refine rd 2 (h := fun K' hK => ?_)
     ·go_simp
      go_at_call 155
      refine (rules_a _).mono ?_
      rintro e wX ⟨rfl, hbX⟩
      replace hF0 := hF0.below hbX
      replace hbag := hbag.next hbX
      clear hbX
      go_wp2_with fail
      refine hK.out _ _ hF0 (fun hHeld => ?_)
      clear hK K'
      try simp only [Act.put, p1, p2, p3]
      refine tk 8 (h := ?_)
      refine rd 9 (h := fun K' hK => ?_)
      go_simp
      have hmd := hbag.mind (g := g) (dh := dh) (kem := kem) hmost
      try simp only [World.size_alloc] at hmd
      refine hK.out _ _ (hF0.alloc _) (fun hHeld => ?_)
      clear hK K'
      try simp only [Act.put, p1, p2, p3]
      refine tk 10 (h := ?_)
      refine wpAnyH_done (by kernel_rfl) ?_ _
      go_wp2_with fail
      go_meet
      exact ⟨⟨_, _, _, _⟩, rfl, Lib.hid hmd.1, Lib.hid hmd.2⟩
   ·go_simp
    replace hF0 := hF0.alloc (.cells (madeCells #[.slice none 0 0] (L.length + 1)) 94)
    replace hbag := hbag.addH
    refine hK.out _ _ hF0 (fun hHeld => ?_)
    clear hK K'
    try simp only [Act.put, p1, p2, p3]
    refine rd2 2 4 (h := fun K' hK => ?_) (h' := fun K' hK => ?_)
    ·go_simp
     go_at_call 155
     refine (rules_a _).mono ?_
     rintro e wX ⟨rfl, hbX⟩
     replace hF0 := hF0.below hbX
     replace hbag := hbag.next hbX
     clear hbX
     go_wp2_with fail
     refine hK.out _ _ hF0 (fun hHeld => ?_)
     clear hK K'
     try simp only [Act.put, p1, p2, p3]
     refine rd 4 (h := fun K' hK => ?_)
     ·go_simp
      replace hF0 := hF0.alloc (.cells (madeCells #[.bool false] (L.length + 1)) 4)
      replace hbag := hbag.addC
      refine hK.out _ _ hF0 (fun hHeld => ?_)
      clear hK K'
      try simp only [Act.put, p1, p2, p3]
      refine tk 8 (h := ?_)
      refine rd 9 (h := fun K' hK => ?_)
      go_simp
      have hmd := hbag.mind (g := g) (dh := dh) (kem := kem) hmost
      try simp only [World.size_alloc] at hmd
      refine hK.out _ _ (hF0.alloc _) (fun hHeld => ?_)
      clear hK K'
      try simp only [Act.put, p1, p2, p3]
      refine tk 10 (h := ?_)
      refine wpAnyH_done (by kernel_rfl) ?_ _
      go_wp2_with fail
      go_meet
      exact ⟨⟨_, _, _, _⟩, rfl, Lib.hid hmd.1, Lib.hid hmd.2⟩
    ·go_simp
     replace hF0 := hF0.alloc (.cells (madeCells #[.bool false] (L.length + 1)) 4)
     replace hbag := hbag.addC
     refine hK.out _ _ hF0 (fun hHeld => ?_)
     clear hK K'
     try simp only [Act.put, p1, p2, p3]
     refine rd 2 (h := fun K' hK => ?_)
     ·go_simp
      go_at_call 155
      refine (rules_a _).mono ?_
      rintro e wX ⟨rfl, hbX⟩
      replace hF0 := hF0.below hbX
      replace hbag := hbag.next hbX
      clear hbX
      go_wp2_with fail
      refine hK.out _ _ hF0 (fun hHeld => ?_)
      clear hK K'
      try simp only [Act.put, p1, p2, p3]
      refine tk 8 (h := ?_)
      refine rd 9 (h := fun K' hK => ?_)
      go_simp
      have hmd := hbag.mind (g := g) (dh := dh) (kem := kem) hmost
      try simp only [World.size_alloc] at hmd
      refine hK.out _ _ (hF0.alloc _) (fun hHeld => ?_)
      clear hK K'
      try simp only [Act.put, p1, p2, p3]
      refine tk 10 (h := ?_)
      refine wpAnyH_done (by kernel_rfl) ?_ _
      go_wp2_with fail
      go_meet
      exact ⟨⟨_, _, _, _⟩, rfl, Lib.hid hmd.1, Lib.hid hmd.2⟩
  ·go_simp
   replace hF0 := hF0.alloc (.cells (madeCells #[.slice none 0 0] (L.length + 1)) 94)
   replace hbag := hbag.addH
   refine hK.out _ _ hF0 (fun hHeld => ?_)
   clear hK K'
   try simp only [Act.put, p1, p2, p3]
   refine wpAnyH_ready (rs := [2, 4, 5]) (by kernel_rfl) (by simp) ?_
   refine AllReadyH.cons (o := ?o126) ?i126 (fun K' hK => ?_) (AllReadyH.cons (o := ?o127) ?i127 (fun K' hK => ?_) (AllReadyH.cons (o := ?o128) ?i128 (fun K' hK => ?_) AllReadyH.nil))
   case' i126 => simp only [g1, g2, g3]
   case i126 => rfl
   case' i127 => simp only [g1, g2, g3]
   case i127 => rfl
   case' i128 => simp only [g1, g2, g3]
   case i128 => rfl
   ·go_simp
    go_at_call 155
    refine (rules_a _).mono ?_
    rintro e wX ⟨rfl, hbX⟩
    replace hF0 := hF0.below hbX
    replace hbag := hbag.next hbX
    clear hbX
    go_wp2_with fail
    refine hK.out _ _ hF0 (fun hHeld => ?_)
    clear hK K'
    try simp only [Act.put, p1, p2, p3]
    refine rd2 4 5 (h := fun K' hK => ?_) (h' := fun K' hK => ?_)
    ·go_simp
     replace hF0 := hF0.alloc (.cells (madeCells #[.bool false] (L.length + 1)) 4)
     replace hbag := hbag.addC
     refine hK.out _ _ hF0 (fun hHeld => ?_)
     clear hK K'
     try simp only [Act.put, p1, p2, p3]
     refine rd 5 (h := fun K' hK => ?_)
     ·go_simp
      replace hF0 := hF0.alloc (.map #[] 0)
      replace hbag := hbag.addN
      refine hK.out _ _ hF0 (fun hHeld => ?_)
      clear hK K'
      try simp only [Act.put, p1, p2, p3]
      refine tk 8 (h := ?_)
      refine rd 9 (h := fun K' hK => ?_)
      go_simp
      have hmd := hbag.mind (g := g) (dh := dh) (kem := kem) hmost
      try simp only [World.size_alloc] at hmd
      refine hK.out _ _ (hF0.alloc _) (fun hHeld => ?_)
      clear hK K'
      try simp only [Act.put, p1, p2, p3]
      refine tk 10 (h := ?_)
      refine wpAnyH_done (by kernel_rfl) ?_ _
      go_wp2_with fail
      go_meet
      exact ⟨⟨_, _, _, _⟩, rfl, Lib.hid hmd.1, Lib.hid hmd.2⟩
    ·go_simp
     replace hF0 := hF0.alloc (.map #[] 0)
     replace hbag := hbag.addN
     refine hK.out _ _ hF0 (fun hHeld => ?_)
     clear hK K'
     try simp only [Act.put, p1, p2, p3]
     refine rd 4 (h := fun K' hK => ?_)
     ·go_simp
      replace hF0 := hF0.alloc (.cells (madeCells #[.bool false] (L.length + 1)) 4)
      replace hbag := hbag.addC
      refine hK.out _ _ hF0 (fun hHeld => ?_)
      clear hK K'
      try simp only [Act.put, p1, p2, p3]
      refine tk 8 (h := ?_)
      refine rd 9 (h := fun K' hK => ?_)
      go_simp
      have hmd := hbag.mind (g := g) (dh := dh) (kem := kem) hmost
      try simp only [World.size_alloc] at hmd
      refine hK.out _ _ (hF0.alloc _) (fun hHeld => ?_)
      clear hK K'
      try simp only [Act.put, p1, p2, p3]
      refine tk 10 (h := ?_)
      refine wpAnyH_done (by kernel_rfl) ?_ _
      go_wp2_with fail
      go_meet
      exact ⟨⟨_, _, _, _⟩, rfl, Lib.hid hmd.1, Lib.hid hmd.2⟩
   ·go_simp
    replace hF0 := hF0.alloc (.cells (madeCells #[.bool false] (L.length + 1)) 4)
    replace hbag := hbag.addC
    refine hK.out _ _ hF0 (fun hHeld => ?_)
    clear hK K'
    try simp only [Act.put, p1, p2, p3]
    refine rd2 2 5 (h := fun K' hK => ?_) (h' := fun K' hK => ?_)
    ·go_simp
     go_at_call 155
     refine (rules_a _).mono ?_
     rintro e wX ⟨rfl, hbX⟩
     replace hF0 := hF0.below hbX
     replace hbag := hbag.next hbX
     clear hbX
     go_wp2_with fail
     refine hK.out _ _ hF0 (fun hHeld => ?_)
     clear hK K'
     try simp only [Act.put, p1, p2, p3]
     refine rd 5 (h := fun K' hK => ?_)
     ·go_simp
      replace hF0 := hF0.alloc (.map #[] 0)
      replace hbag := hbag.addN
      refine hK.out _ _ hF0 (fun hHeld => ?_)
      clear hK K'
      try simp only [Act.put, p1, p2, p3]
      refine tk 8 (h := ?_)
      refine rd 9 (h := fun K' hK => ?_)
      go_simp
      have hmd := hbag.mind (g := g) (dh := dh) (kem := kem) hmost
      try simp only [World.size_alloc] at hmd
      refine hK.out _ _ (hF0.alloc _) (fun hHeld => ?_)
      clear hK K'
      try simp only [Act.put, p1, p2, p3]
      refine tk 10 (h := ?_)
      refine wpAnyH_done (by kernel_rfl) ?_ _
      go_wp2_with fail
      go_meet
      exact ⟨⟨_, _, _, _⟩, rfl, Lib.hid hmd.1, Lib.hid hmd.2⟩
    ·go_simp
     replace hF0 := hF0.alloc (.map #[] 0)
     replace hbag := hbag.addN
     refine hK.out _ _ hF0 (fun hHeld => ?_)
     clear hK K'
     try simp only [Act.put, p1, p2, p3]
     refine rd 2 (h := fun K' hK => ?_)
     ·go_simp
      go_at_call 155
      refine (rules_a _).mono ?_
      rintro e wX ⟨rfl, hbX⟩
      replace hF0 := hF0.below hbX
      replace hbag := hbag.next hbX
      clear hbX
      go_wp2_with fail
      refine hK.out _ _ hF0 (fun hHeld => ?_)
      clear hK K'
      try simp only [Act.put, p1, p2, p3]
      refine tk 8 (h := ?_)
      refine rd 9 (h := fun K' hK => ?_)
      go_simp
      have hmd := hbag.mind (g := g) (dh := dh) (kem := kem) hmost
      try simp only [World.size_alloc] at hmd
      refine hK.out _ _ (hF0.alloc _) (fun hHeld => ?_)
      clear hK K'
      try simp only [Act.put, p1, p2, p3]
      refine tk 10 (h := ?_)
      refine wpAnyH_done (by kernel_rfl) ?_ _
      go_wp2_with fail
      go_meet
      exact ⟨⟨_, _, _, _⟩, rfl, Lib.hid hmd.1, Lib.hid hmd.2⟩
   ·go_simp
    replace hF0 := hF0.alloc (.map #[] 0)
    replace hbag := hbag.addN
    refine hK.out _ _ hF0 (fun hHeld => ?_)
    clear hK K'
    try simp only [Act.put, p1, p2, p3]
    refine rd2 2 4 (h := fun K' hK => ?_) (h' := fun K' hK => ?_)
    ·go_simp
     go_at_call 155
     refine (rules_a _).mono ?_
     rintro e wX ⟨rfl, hbX⟩
     replace hF0 := hF0.below hbX
     replace hbag := hbag.next hbX
     clear hbX
     go_wp2_with fail
     refine hK.out _ _ hF0 (fun hHeld => ?_)
     clear hK K'
     try simp only [Act.put, p1, p2, p3]
     refine rd 4 (h := fun K' hK => ?_)
     ·go_simp
      replace hF0 := hF0.alloc (.cells (madeCells #[.bool false] (L.length + 1)) 4)
      replace hbag := hbag.addC
      refine hK.out _ _ hF0 (fun hHeld => ?_)
      clear hK K'
      try simp only [Act.put, p1, p2, p3]
      refine tk 8 (h := ?_)
      refine rd 9 (h := fun K' hK => ?_)
      go_simp
      have hmd := hbag.mind (g := g) (dh := dh) (kem := kem) hmost
      try simp only [World.size_alloc] at hmd
      refine hK.out _ _ (hF0.alloc _) (fun hHeld => ?_)
      clear hK K'
      try simp only [Act.put, p1, p2, p3]
      refine tk 10 (h := ?_)
      refine wpAnyH_done (by kernel_rfl) ?_ _
      go_wp2_with fail
      go_meet
      exact ⟨⟨_, _, _, _⟩, rfl, Lib.hid hmd.1, Lib.hid hmd.2⟩
    ·go_simp
     replace hF0 := hF0.alloc (.cells (madeCells #[.bool false] (L.length + 1)) 4)
     replace hbag := hbag.addC
     refine hK.out _ _ hF0 (fun hHeld => ?_)
     clear hK K'
     try simp only [Act.put, p1, p2, p3]
     refine rd 2 (h := fun K' hK => ?_)
     ·go_simp
      go_at_call 155
      refine (rules_a _).mono ?_
      rintro e wX ⟨rfl, hbX⟩
      replace hF0 := hF0.below hbX
      replace hbag := hbag.next hbX
      clear hbX
      go_wp2_with fail
      refine hK.out _ _ hF0 (fun hHeld => ?_)
      clear hK K'
      try simp only [Act.put, p1, p2, p3]
      refine tk 8 (h := ?_)
      refine rd 9 (h := fun K' hK => ?_)
      go_simp
      have hmd := hbag.mind (g := g) (dh := dh) (kem := kem) hmost
      try simp only [World.size_alloc] at hmd
      refine hK.out _ _ (hF0.alloc _) (fun hHeld => ?_)
      clear hK K'
      try simp only [Act.put, p1, p2, p3]
      refine tk 10 (h := ?_)
      refine wpAnyH_done (by kernel_rfl) ?_ _
      go_wp2_with fail
      go_meet
      exact ⟨⟨_, _, _, _⟩, rfl, Lib.hid hmd.1, Lib.hid hmd.2⟩
 case rest =>
  obtain ⟨B, rfl, HM0, HF0⟩ := hcut
  clear z0 z1 hmk1 hmk2 hmm hF0 hbag HB1
  go_wp2_with fail
  go_loopw [7] (fun s7 wr => ∃ k : Nat, k ≤ L.length ∧ s7 = .int .i64 ((k : Int) + 1) ∧ Hid (Mind w0 g L dh kem B (noteOf L k) (hangs L 0) (fun _ => .slice none 0 0) (.slice none 0 0) [] wr) ∧ Hid (Few B (noteOf L k) k wr)) (fun s7 _ => L.length + 1 - (intOf s7).toNat)
  case atStart => exact ⟨0, Nat.zero_le _, by go_num, HM0, HF0⟩
  case round =>
   clear HM0 HF0
   obtain ⟨k, hk, rfl, HM, HF⟩ := hrel
   by_cases hlt : k < L.length
   ·have e1 : decide (k < L.length) = true := by simpa using hlt
    have hkb : (k : Int) < 1048576 := by omega
    have HLT := Lib.hid hlt
    clear hk
    go_wp2_with fail
    refine (note_k HG.out HU.out HW.out k HLT.out _ HM.out HF.out).mono ?_
    rintro e w2 ⟨rfl, hm2, hf2⟩
    have HM2 := Lib.hid hm2
    have HF2 := Lib.hid hf2
    clear hm2 hf2 HM HF
    go_wp2_with fail
    go_roundw
    case rel => exact ⟨k + 1, by have := HLT.out; omega, by go_num, HM2, HF2⟩
    case measure => have := HLT.out; simp [intOf]; omega
   ·obtain rfl : k = L.length := by omega
    have e1 : decide (L.length < L.length) = false := by simp
    clear hlt hk
    go_wp2_with fail
    clear HF
    go_loopw [8] (fun s8 wr => ∃ (k : Nat) (vs : Nat → Value), k ≤ L.length ∧ s8 = .int .i64 ((k : Int) + 1) ∧ Hid (MindF w0 g L dh kem B (hangs L k) vs (.slice none 0 0) [] wr)) (fun s8 _ => L.length + 1 - (intOf s8).toNat)
    case atStart => exact ⟨0, _, Nat.zero_le _, by go_num, HM⟩
    case round =>
     clear HM e1
     obtain ⟨k, vs, hk, rfl, HM⟩ := hrel
     by_cases hlt : k < L.length
     ·have e1 : decide (k < L.length) = true := by simpa using hlt
      have hkb : (k : Int) < 1048576 := by omega
      have HLT := Lib.hid hlt
      clear hk
      go_wp2_with fail
      refine (hang_k HG.out HS.out k HLT.out _ HM.out).mono ?_
      rintro e w2 ⟨rfl, vs2, hm2⟩
      have HM2 := Lib.hid hm2
      clear hm2 HM
      go_wp2_with fail
      go_roundw
      case rel => exact ⟨k + 1, vs2, by have := HLT.out; omega, by go_num, HM2⟩
      case measure => have := HLT.out; simp [intOf]; omega
     ·obtain rfl : k = L.length := by omega
      have e1 : decide (L.length < L.length) = false := by simp
      clear hlt hk
      go_wp2_with fail
      go_ret
      exact ⟨B, vs, rfl, HM.out⟩
end
end Go.Proofs.YtgeonppckeiceaaGreatDoor
