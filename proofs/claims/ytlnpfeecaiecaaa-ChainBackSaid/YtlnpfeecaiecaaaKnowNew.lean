/- The program's newMind: a mind that can make nothing so far. -/
import Derived.Test.YtlnpfeecaiecaaaKnowHang
import Derived.Deep.OwnRows
import Derived.Deep.CutRange
import Derived.Deep.RegionHeld3
namespace Go.Proofs.Ytlnpfeecaiecaaa
open Go.RowKit
open Go.Maps
set_option linter.unusedVariables false
set_option linter.unusedSimpArgs false
set_option maxRecDepth 20000

theorem info4 : (Try.prog.info? 4).map (fun i => (i.zero, i.size, i.bytes)) = some (some (.bool false), 1, 1) := by kernel_rfl
theorem infoR : (Try.prog.info? 41).map (fun i => (i.zero, i.size, i.bytes)) = some (some (.slice none 0 0), 1, 24) := by kernel_rfl
theorem made_can (N : Nat) : madeCells #[.bool false] (N + 1) = canV N [] := by
  apply Array.ext'
  rw [toList_madeCells_one]
  simp only [canV, has_nil]
  rw [List.map_const', List.length_range]
theorem made_hang (N : Nat) : madeCells #[.slice none 0 0] (N + 1) = hangV N (fun _ => .slice none 0 0) := by
  apply Array.ext'
  rw [toList_madeCells_one]
  simp only [hangV]
  rw [List.map_const', List.length_range]
/-- Which of the mind's blocks there are so far. -/
structure Bag (w0 : World) (N : Nat) (w : World) (c n h : Option Nat) : Prop where
  below : Below w0.heap.size w0 w
  can : ∀ i, c = some i → w0.heap.size ≤ i ∧ w.heap[i]? = some (.cells (madeCells #[.bool false] (N + 1)) 4 (0, 0))
  names : ∀ i, n = some i → w0.heap.size ≤ i ∧ w.ownsMap Try.prog 59 (plainElem Try.prog 3) i 0 (.map [] : DataW Unit)
  hang : ∀ i, h = some i → w0.heap.size ≤ i ∧ w.heap[i]? = some (.cells (madeCells #[.slice none 0 0] (N + 1)) 41 (0, 0))
  ne1 : ∀ i, c = some i → n ≠ some i ∧ h ≠ some i
  ne2 : ∀ i, n = some i → h ≠ some i
theorem Bag.next {w0 w w' : World} {N : Nat} {c n h : Option Nat} (b : Bag w0 N w c n h) (hb : Below w.heap.size w w') : Bag w0 N w' c n h :=
  { below := b.below.trans (hb.mono b.below.size)
    can := fun i e => ⟨(b.can i e).1, by rw [hb.block i (blk_lt (b.can i e).2)]; exact (b.can i e).2⟩
    names := fun i e => ⟨(b.names i e).1, (Chg.of_below (S := fun _ => False) hb).own (b.names i e).2 id⟩
    hang := fun i e => ⟨(b.hang i e).1, by rw [hb.block i (blk_lt (b.hang i e).2)]; exact (b.hang i e).2⟩
    ne1 := b.ne1
    ne2 := b.ne2 }
theorem Bag.lt {w0 w : World} {N : Nat} {c n h : Option Nat} (b : Bag w0 N w c n h) : (∀ i, c = some i → i < w.heap.size) ∧ (∀ i, n = some i → i < w.heap.size) ∧ ∀ i, h = some i → i < w.heap.size :=
  ⟨fun i e => blk_lt (b.can i e).2, fun i e => (b.names i e).2.lt, fun i e => blk_lt (b.hang i e).2⟩
theorem Bag.addC {w0 w : World} {N : Nat} {n h : Option Nat} (b : Bag w0 N w none n h) : Bag w0 N (w.alloc (.cells (madeCells #[.bool false] (N + 1)) 4)) (some w.heap.size) n h := by
  have b' := b.next ((Below.refl w.heap.size w).alloc (Nat.le_refl _) (.cells (madeCells #[.bool false] (N + 1)) 4))
  exact { b' with
    can := fun i e => by injection e with e; subst e; exact ⟨b.below.size, heap_alloc_new w _⟩
    ne1 := fun i e => by
      injection e with e; subst e
      exact ⟨fun q => by have := b.lt.2.1 _ q; omega, fun q => by have := b.lt.2.2 _ q; omega⟩ }
theorem Bag.addN {w0 w : World} {N : Nat} {c h : Option Nat} (b : Bag w0 N w c none h) : Bag w0 N (w.alloc (.map #[] 0)) c (some w.heap.size) h := by
  have b' := b.next ((Below.refl w.heap.size w).alloc (Nat.le_refl _) (.map #[] 0))
  exact { b' with
    names := fun i e => by injection e with e; subst e; exact ⟨b.below.size, World.ownsMap_made _ _ _ _⟩
    ne1 := fun i e => ⟨fun q => by injection q with q; have := b.lt.1 _ e; omega, (b.ne1 i e).2⟩
    ne2 := fun i e => by
      injection e with e; subst e
      exact fun q => by have := b.lt.2.2 _ q; omega }
theorem Bag.addH {w0 w : World} {N : Nat} {c n : Option Nat} (b : Bag w0 N w c n none) : Bag w0 N (w.alloc (.cells (madeCells #[.slice none 0 0] (N + 1)) 41)) c n (some w.heap.size) := by
  have b' := b.next ((Below.refl w.heap.size w).alloc (Nat.le_refl _) (.cells (madeCells #[.slice none 0 0] (N + 1)) 41))
  exact { b' with
    hang := fun i e => by injection e with e; subst e; exact ⟨b.below.size, heap_alloc_new w _⟩
    ne1 := fun i e => ⟨(b.ne1 i e).1, fun q => by injection q with q; have := b.lt.1 _ e; omega⟩
    ne2 := fun i e q => by injection q with q; have := b.lt.2.1 _ e; omega }
theorem noteOf_none (L : List Tm) : noteOf L 0 = fun _ => 0 := funext (noteOf_zero L)
/-- The mind at its beginning. -/
theorem Bag.mind {w0 w : World} {g : Nat} {L : List Tm} {dh kem : Bool} {c n h : Nat} (b : Bag w0 L.length w (some c) (some n) (some h)) (hm : L.length ≤ 1048576) :
    Mind w0 g L dh kem ⟨w.heap.size, c, n, h⟩ (noteOf L 0) (hangs L 0) (fun _ => .slice none 0 0) (.slice none 0 0) [] (w.alloc (.cells (mindV g L.length dh kem ⟨w.heap.size, c, n, h⟩ (.slice none 0 0)) 108)) ∧ Few ⟨w.heap.size, c, n, h⟩ (noteOf L 0) 0 (w.alloc (.cells (mindV g L.length dh kem ⟨w.heap.size, c, n, h⟩ (.slice none 0 0)) 108)) := by
  have hb := (Below.refl w.heap.size w).alloc (Nat.le_refl _) (.cells (mindV g L.length dh kem ⟨w.heap.size, c, n, h⟩ (.slice none 0 0)) 108)
  have b' := b.next hb
  have l := b.lt
  have l1 := l.1 c rfl
  have l2 := l.2.1 n rfl
  have l3 := l.2.2 h rfl
  have n1 : c ≠ n := fun e => (b.ne1 c rfl).1 (by rw [e])
  have n2 : c ≠ h := fun e => (b.ne1 c rfl).2 (by rw [e])
  have n3 : n ≠ h := fun e => b.ne2 n rfl (by rw [e])
  have hn : NoteOk (.map [] : DataW Unit) (noteOf L 0) := by rw [noteOf_none]; exact NoteOk.nil
  refine ⟨{
    st := heap_alloc_new w _
    can := by rw [← made_can]; exact (b'.can c rfl).2
    row := OwnI.nil _ _
    names := ⟨0, _, (b'.names n rfl).2, Nat.zero_le _, hn⟩
    hang := by rw [← made_hang]; exact (b'.hang h rfl).2
    rows := fun i => OwnI.nil _ _
    apart := ?_
    lo := ⟨b.below.size, (b.can c rfl).1, (b.names n rfl).1, (b.hang h rfl).1⟩
    below := b'.below
    nodup := by simp
    inL := by simp
    most := hm }, ⟨0, _, (b'.names n rfl).2, Nat.le_refl _, hn⟩⟩
  intro i j k hi hj
  match i, j, hi, hj with
  | 0, 0, _, _ => rfl
  | 1, 1, _, _ => rfl
  | 2, 2, _, _ => rfl
  | 3, 3, _, _ => rfl
  | 0, 1, hi, hj => injection hi with hi; injection hj with hj; dsimp only at hi hj; omega
  | 0, 2, hi, hj => injection hi with hi; injection hj with hj; dsimp only at hi hj; omega
  | 0, 3, hi, hj => injection hi with hi; injection hj with hj; dsimp only at hi hj; omega
  | 1, 0, hi, hj => injection hi with hi; injection hj with hj; dsimp only at hi hj; omega
  | 1, 2, hi, hj => injection hi with hi; injection hj with hj; dsimp only at hi hj; omega
  | 1, 3, hi, hj => injection hi with hi; injection hj with hj; dsimp only at hi hj; omega
  | 2, 0, hi, hj => injection hi with hi; injection hj with hj; dsimp only at hi hj; omega
  | 2, 1, hi, hj => injection hi with hi; injection hj with hj; dsimp only at hi hj; omega
  | 2, 3, hi, hj => injection hi with hi; injection hj with hj; dsimp only at hi hj; omega
  | 3, 0, hi, hj => injection hi with hi; injection hj with hj; dsimp only at hi hj; omega
  | 3, 1, hi, hj => injection hi with hi; injection hj with hj; dsimp only at hi hj; omega
  | 3, 2, hi, hj => injection hi with hi; injection hj with hj; dsimp only at hi hj; omega
  | 4, _, hi, _ => cases hi
  | _ + 5, _, hi, _ => cases hi
  | _, 4, _, hj => cases hj
  | _, _ + 5, _, hj => cases hj
theorem rules_a (w : World) : Calls Try.prog 50 #[] w fun e w' => e = .returned (.agg #[.nilFunc, .func (.func 60) #[] #[], .func (.func 61) #[] #[], .func (.func 60) #[] #[], .func (.func 62) #[] #[],
    .func (.func 60) #[] #[], .func (.func 63) #[] #[], .func (.func 64) #[] #[], .func (.func 60) #[] #[], .func (.func 60) #[] #[],
    .func (.func 60) #[] #[], .func (.func 60) #[] #[]]) ∧ Below w.heap.size w w' := rules_k w
def HeldF (q : Nat) (dh kem : Bool) (w : World) : Prop := w.cell? ⟨q, 0, none⟩ = some (.bool dh) ∧ w.cell? ⟨q, 1, none⟩ = some (.bool kem)
theorem HeldF.below {q : Nat} {dh kem : Bool} {w w' : World} (h : HeldF q dh kem w) (hb : Below w.heap.size w w') : HeldF q dh kem w' := ⟨(hb.cell (block_lt_of_cell h.1)).trans h.1, (hb.cell (block_lt_of_cell h.2)).trans h.2⟩
theorem HeldF.alloc {q : Nat} {dh kem : Bool} {w : World} (h : HeldF q dh kem w) (o : Obj) : HeldF q dh kem (w.alloc o) := h.below ((Below.refl _ _).alloc (Nat.le_refl _) _)
/-- What newMind ends with. -/
def Minded (w0 : World) (g : Nat) (L : List Tm) (dh kem : Bool) (e : Ending) (W' : World) : Prop := ∃ B vs, e = .returned (.pointer (some ⟨B.m, 0, none⟩)) ∧ MindF w0 g L dh kem B (hangs L L.length) vs (.slice none 0 0) [] W'
section
variable {w0 : World} {g : Nat} {L : List Tm} {dh kem : Bool}
set_option maxHeartbeats 8000000 in
set_option maxRecDepth 100000 in
theorem newMind_k (hg : StoreAt w0 g L) (hS : Sound L) (hU : Uniq L) (hW : ∀ t, t ∈ L → Wf t) (hmost : L.length ≤ 1048576) (W : World) (hb : Below w0.heap.size w0 W) :
    Calls Try.prog 37 #[.pointer (some ⟨g, 0, none⟩), .agg #[.bool dh, .bool kem]] W (Minded w0 g L dh kem) := by
  have HLEN : Hid (∀ w', Hid (Below w0.heap.size w0 w') → Calls Try.prog 20 #[.pointer (some ⟨g, 0, none⟩)] w' fun e W' => e = .returned (.int .i64 L.length) ∧ w' = W') := Lib.hid (fun w' hb => hg.len hb.out)
  have hmk1 : ∀ w, (Instr.makeSlice 105 (.int .i64 ((L.length : Int) + 1)) (.int .i64 ((L.length : Int) + 1))).run Try.prog w = .ok (.slice (some ⟨w.heap.size, 0, none⟩) (L.length + 1) (L.length + 1)) (w.alloc (.cells (madeCells #[.bool false] (L.length + 1)) 4)) := fun w => by
    have := run_make_row' (P := Try.prog) 105 4 (.bool false) 1 Try.underlying105 info4 rfl .i64 .i64 (L.length + 1) (by omega) (by omega) w
    rwa [show (((L.length + 1 : Nat)) : Int) = (L.length : Int) + 1 from by omega] at this
  have hmk2 : ∀ w, (Instr.makeSlice 106 (.int .i64 ((L.length : Int) + 1)) (.int .i64 ((L.length : Int) + 1))).run Try.prog w = .ok (.slice (some ⟨w.heap.size, 0, none⟩) (L.length + 1) (L.length + 1)) (w.alloc (.cells (madeCells #[.slice none 0 0] (L.length + 1)) 41)) := fun w => by
    have := run_make_row' (P := Try.prog) 106 41 (.slice none 0 0) 24 Try.underlying106 infoR rfl .i64 .i64 (L.length + 1) (by omega) (by omega) w
    rwa [show (((L.length + 1 : Nat)) : Int) = (L.length : Int) + 1 from by omega] at this
  have hmm := @run_makeMap Try.prog
  have HG := Lib.hid hg
  have HS := Lib.hid hS
  have HU := Lib.hid hU
  have HW := Lib.hid hW
  obtain ⟨W1, hW1⟩ : ∃ W1, W1 = W.alloc (.cells #[.bool dh, .bool kem] 63) := ⟨_, rfl⟩
  have HB1 : Hid (Below w0.heap.size w0 W1) := Lib.hid (hb.trans (by rw [hW1]; exact ((Below.refl _ _).alloc (Nat.le_refl _) _).mono hb.size))
  have z : ∀ j, W1.cell? ⟨W.heap.size, j, none⟩ = #[Value.bool dh, .bool kem][j]? := fun j => by rw [hW1]; exact cell_of_row _ _ j _ _ _ (heap_alloc_new W _)
  have z0 := z 0
  have z1 := z 1
  simp at z0 z1
  clear z hg hS hU hW hb
  go_enter Try.func37, Try.ntmps37
  go_wp2_with fail
  rw [← hW1]
  clear hW1
  refine (HLEN.out _ HB1).mono ?_
  rintro e w1 ⟨rfl, rfl⟩
  clear HLEN
  go_wp2_with fail
  have hF0 : HeldF W.heap.size dh kem W1.drew := ⟨z0, z1⟩
  have hbag : Bag w0 L.length W1.drew none none none := ⟨HB1.out.trans ((drewN_below W1 1).mono HB1.out.size), fun _ e => (by cases e), fun _ e => (by cases e), fun _ e => (by cases e), fun _ e => (by cases e), fun _ e => (by cases e)⟩
  go_cut [6] from 12 to 21 (fun s6 wx => ∃ B : MB, s6 = .pointer (some ⟨B.m, 0, none⟩) ∧ Hid (Mind w0 g L dh kem B (noteOf L 0) (hangs L 0) (fun _ => .slice none 0 0) (.slice none 0 0) [] wx) ∧ Hid (Few B (noteOf L 0) 0 wx))
  case first =>
    clear z0 z1
    refine wp_region_held_drew (S := (fun w' => w'.cell? ⟨W.heap.size, 0, none⟩ = some (.bool dh) ∧ w'.cell? ⟨W.heap.size, 1, none⟩ = some (.bool kem))) (by kernel_rfl) hF0 (fun hHeld => ?_)
    refine wpAnyH_take (i := 0) (oi := ?o1) (v := ?v1) ?i1 (by kernel_rfl) (by kernel_rfl) (by kernel_rfl) ?q1 (Or.inl ⟨?w1, ?y1⟩) (by assumption) ?r1
    case' i1 => simp only [List.getElem?_toArray, List.getElem?_cons_succ, List.getElem?_cons_zero]
    case i1 => rfl
    case q1 => exact fun _ _ _ h => h
    case w1 => rfl
    case y1 => (intro w hSw; (try dsimp only at hSw); go_simp) <;> with_reducible rfl
    try simp only [Act.put, List.setIfInBounds_toArray, List.set_cons_zero, List.set_cons_succ]
    refine wpAnyH_take (i := 1) (oi := ?o2) (v := ?v2) ?i2 (by kernel_rfl) (by kernel_rfl) (by kernel_rfl) ?q2 (Or.inl ⟨?w2, ?y2⟩) (by assumption) ?r2
    case' i2 => simp only [List.getElem?_toArray, List.getElem?_cons_succ, List.getElem?_cons_zero]
    case i2 => rfl
    case q2 => exact fun _ _ _ h => h
    case w2 => rfl
    case y2 => (intro w hSw; (try dsimp only at hSw); go_simp) <;> with_reducible rfl
    try simp only [Act.put, List.setIfInBounds_toArray, List.set_cons_zero, List.set_cons_succ]
    refine wpAnyH_take (i := 3) (oi := ?o3) (v := ?v3) ?i3 (by kernel_rfl) (by kernel_rfl) (by kernel_rfl) ?q3 (Or.inl ⟨?w3, ?y3⟩) (by assumption) ?r3
    case' i3 => simp only [List.getElem?_toArray, List.getElem?_cons_succ, List.getElem?_cons_zero]
    case i3 => rfl
    case q3 => exact fun _ _ _ h => h
    case w3 => rfl
    case y3 => (intro w hSw; (try dsimp only at hSw); go_simp) <;> with_reducible rfl
    try simp only [Act.put, List.setIfInBounds_toArray, List.set_cons_zero, List.set_cons_succ]
    refine wpAnyH_take (i := 6) (oi := ?o4) (v := ?v4) ?i4 (by kernel_rfl) (by kernel_rfl) (by kernel_rfl) ?q4 (Or.inl ⟨?w4, ?y4⟩) (by assumption) ?r4
    case' i4 => simp only [List.getElem?_toArray, List.getElem?_cons_succ, List.getElem?_cons_zero]
    case i4 => rfl
    case q4 => exact fun _ _ _ h => h
    case w4 => rfl
    case y4 => (intro w hSw; (try dsimp only at hSw); go_simp) <;> with_reducible rfl
    try simp only [Act.put, List.setIfInBounds_toArray, List.set_cons_zero, List.set_cons_succ]
    refine wpAnyH_ready (rs := [2, 4, 5, 7]) (by kernel_rfl) (by simp) ?_
    refine AllReadyH.cons (o := ?o5) ?i5 (fun K' hK => ?_) (AllReadyH.cons (o := ?o6) ?i6 (fun K' hK => ?_) (AllReadyH.cons (o := ?o7) ?i7 (fun K' hK => ?_) (AllReadyH.cons (o := ?o8) ?i8 (fun K' hK => ?_) AllReadyH.nil)))
    case' i5 => simp only [List.getElem?_toArray, List.getElem?_cons_succ, List.getElem?_cons_zero]
    case i5 => rfl
    case' i6 => simp only [List.getElem?_toArray, List.getElem?_cons_succ, List.getElem?_cons_zero]
    case i6 => rfl
    case' i7 => simp only [List.getElem?_toArray, List.getElem?_cons_succ, List.getElem?_cons_zero]
    case i7 => rfl
    case' i8 => simp only [List.getElem?_toArray, List.getElem?_cons_succ, List.getElem?_cons_zero]
    case i8 => rfl
    · go_simp
      go_at_call 50
      refine (rules_a _).mono ?_
      rintro e wX ⟨rfl, hbX⟩
      replace hF0 := hF0.below hbX
      replace hbag := hbag.next hbX
      clear hbX
      go_wp2_with fail
      refine hK.out _ _ hF0 (fun hHeld => ?_)
      clear hK K'
      try simp only [Act.put, List.setIfInBounds_toArray, List.set_cons_zero, List.set_cons_succ]
      refine wpAnyH_ready (rs := [4, 5, 7]) (by kernel_rfl) (by simp) ?_
      refine AllReadyH.cons (o := ?o9) ?i9 (fun K' hK => ?_) (AllReadyH.cons (o := ?o10) ?i10 (fun K' hK => ?_) (AllReadyH.cons (o := ?o11) ?i11 (fun K' hK => ?_) AllReadyH.nil))
      case' i9 => simp only [List.getElem?_toArray, List.getElem?_cons_succ, List.getElem?_cons_zero]
      case i9 => rfl
      case' i10 => simp only [List.getElem?_toArray, List.getElem?_cons_succ, List.getElem?_cons_zero]
      case i10 => rfl
      case' i11 => simp only [List.getElem?_toArray, List.getElem?_cons_succ, List.getElem?_cons_zero]
      case i11 => rfl
      · go_simp
        replace hF0 := hF0.alloc (.cells (madeCells #[.bool false] (L.length + 1)) 4)
        replace hbag := hbag.addC
        refine hK.out _ _ hF0 (fun hHeld => ?_)
        clear hK K'
        try simp only [Act.put, List.setIfInBounds_toArray, List.set_cons_zero, List.set_cons_succ]
        refine wpAnyH_ready (rs := [5, 7]) (by kernel_rfl) (by simp) ?_
        refine AllReadyH.cons (o := ?o12) ?i12 (fun K' hK => ?_) (AllReadyH.cons (o := ?o13) ?i13 (fun K' hK => ?_) AllReadyH.nil)
        case' i12 => simp only [List.getElem?_toArray, List.getElem?_cons_succ, List.getElem?_cons_zero]
        case i12 => rfl
        case' i13 => simp only [List.getElem?_toArray, List.getElem?_cons_succ, List.getElem?_cons_zero]
        case i13 => rfl
        · go_simp
          replace hF0 := hF0.alloc (.map #[] 0)
          replace hbag := hbag.addN
          refine hK.out _ _ hF0 (fun hHeld => ?_)
          clear hK K'
          try simp only [Act.put, List.setIfInBounds_toArray, List.set_cons_zero, List.set_cons_succ]
          refine wpAnyH_ready (rs := [7]) (by kernel_rfl) (by simp) ?_
          refine AllReadyH.cons (o := ?o14) ?i14 (fun K' hK => ?_) AllReadyH.nil
          case' i14 => simp only [List.getElem?_toArray, List.getElem?_cons_succ, List.getElem?_cons_zero]
          case i14 => rfl
          · go_simp
            replace hF0 := hF0.alloc (.cells (madeCells #[.slice none 0 0] (L.length + 1)) 41)
            replace hbag := hbag.addH
            refine hK.out _ _ hF0 (fun hHeld => ?_)
            clear hK K'
            try simp only [Act.put, List.setIfInBounds_toArray, List.set_cons_zero, List.set_cons_succ]
            refine wpAnyH_take (i := 8) (oi := ?o16) (v := ?v16) ?i16 (by kernel_rfl) (by kernel_rfl) (by kernel_rfl) ?q16 (Or.inl ⟨?w16, ?y16⟩) (by assumption) ?r16
            case' i16 => simp only [List.getElem?_toArray, List.getElem?_cons_succ, List.getElem?_cons_zero]
            case i16 => rfl
            case q16 => exact fun _ _ _ h => h
            case w16 => rfl
            case y16 => (intro w hSw; (try dsimp only at hSw); go_simp) <;> with_reducible rfl
            try simp only [Act.put, List.setIfInBounds_toArray, List.set_cons_zero, List.set_cons_succ]
            refine wpAnyH_ready (rs := [9]) (by kernel_rfl) (by simp) ?_
            refine AllReadyH.cons (o := ?o17) ?i17 (fun K' hK => ?_) AllReadyH.nil
            case' i17 => simp only [List.getElem?_toArray, List.getElem?_cons_succ, List.getElem?_cons_zero]
            case i17 => rfl
            go_simp
            have hmd := hbag.mind (g := g) (dh := dh) (kem := kem) hmost
            try simp only [World.size_alloc] at hmd
            refine hK.out _ _ (hF0.alloc _) (fun hHeld => ?_)
            clear hK K'
            try simp only [Act.put, List.setIfInBounds_toArray, List.set_cons_zero, List.set_cons_succ]
            refine wpAnyH_take (i := 10) (oi := ?o18) (v := ?v18) ?i18 (by kernel_rfl) (by kernel_rfl) (by kernel_rfl) ?q18 (Or.inl ⟨?w18, ?y18⟩) (by assumption) ?r18
            case' i18 => simp only [List.getElem?_toArray, List.getElem?_cons_succ, List.getElem?_cons_zero]
            case i18 => rfl
            case q18 => exact fun _ _ _ h => h
            case w18 => rfl
            case y18 => (intro w hSw; (try dsimp only at hSw); go_simp) <;> with_reducible rfl
            try simp only [Act.put, List.setIfInBounds_toArray, List.set_cons_zero, List.set_cons_succ]
            refine wpAnyH_done (by kernel_rfl) ?_ _
            go_wp2_with fail
            go_meet
            exact ⟨⟨_, _, _, _⟩, rfl, Lib.hid hmd.1, Lib.hid hmd.2⟩
        · go_simp
          replace hF0 := hF0.alloc (.cells (madeCells #[.slice none 0 0] (L.length + 1)) 41)
          replace hbag := hbag.addH
          refine hK.out _ _ hF0 (fun hHeld => ?_)
          clear hK K'
          try simp only [Act.put, List.setIfInBounds_toArray, List.set_cons_zero, List.set_cons_succ]
          refine wpAnyH_ready (rs := [5]) (by kernel_rfl) (by simp) ?_
          refine AllReadyH.cons (o := ?o19) ?i19 (fun K' hK => ?_) AllReadyH.nil
          case' i19 => simp only [List.getElem?_toArray, List.getElem?_cons_succ, List.getElem?_cons_zero]
          case i19 => rfl
          · go_simp
            replace hF0 := hF0.alloc (.map #[] 0)
            replace hbag := hbag.addN
            refine hK.out _ _ hF0 (fun hHeld => ?_)
            clear hK K'
            try simp only [Act.put, List.setIfInBounds_toArray, List.set_cons_zero, List.set_cons_succ]
            refine wpAnyH_take (i := 8) (oi := ?o21) (v := ?v21) ?i21 (by kernel_rfl) (by kernel_rfl) (by kernel_rfl) ?q21 (Or.inl ⟨?w21, ?y21⟩) (by assumption) ?r21
            case' i21 => simp only [List.getElem?_toArray, List.getElem?_cons_succ, List.getElem?_cons_zero]
            case i21 => rfl
            case q21 => exact fun _ _ _ h => h
            case w21 => rfl
            case y21 => (intro w hSw; (try dsimp only at hSw); go_simp) <;> with_reducible rfl
            try simp only [Act.put, List.setIfInBounds_toArray, List.set_cons_zero, List.set_cons_succ]
            refine wpAnyH_ready (rs := [9]) (by kernel_rfl) (by simp) ?_
            refine AllReadyH.cons (o := ?o22) ?i22 (fun K' hK => ?_) AllReadyH.nil
            case' i22 => simp only [List.getElem?_toArray, List.getElem?_cons_succ, List.getElem?_cons_zero]
            case i22 => rfl
            go_simp
            have hmd := hbag.mind (g := g) (dh := dh) (kem := kem) hmost
            try simp only [World.size_alloc] at hmd
            refine hK.out _ _ (hF0.alloc _) (fun hHeld => ?_)
            clear hK K'
            try simp only [Act.put, List.setIfInBounds_toArray, List.set_cons_zero, List.set_cons_succ]
            refine wpAnyH_take (i := 10) (oi := ?o23) (v := ?v23) ?i23 (by kernel_rfl) (by kernel_rfl) (by kernel_rfl) ?q23 (Or.inl ⟨?w23, ?y23⟩) (by assumption) ?r23
            case' i23 => simp only [List.getElem?_toArray, List.getElem?_cons_succ, List.getElem?_cons_zero]
            case i23 => rfl
            case q23 => exact fun _ _ _ h => h
            case w23 => rfl
            case y23 => (intro w hSw; (try dsimp only at hSw); go_simp) <;> with_reducible rfl
            try simp only [Act.put, List.setIfInBounds_toArray, List.set_cons_zero, List.set_cons_succ]
            refine wpAnyH_done (by kernel_rfl) ?_ _
            go_wp2_with fail
            go_meet
            exact ⟨⟨_, _, _, _⟩, rfl, Lib.hid hmd.1, Lib.hid hmd.2⟩
      · go_simp
        replace hF0 := hF0.alloc (.map #[] 0)
        replace hbag := hbag.addN
        refine hK.out _ _ hF0 (fun hHeld => ?_)
        clear hK K'
        try simp only [Act.put, List.setIfInBounds_toArray, List.set_cons_zero, List.set_cons_succ]
        refine wpAnyH_ready (rs := [4, 7]) (by kernel_rfl) (by simp) ?_
        refine AllReadyH.cons (o := ?o24) ?i24 (fun K' hK => ?_) (AllReadyH.cons (o := ?o25) ?i25 (fun K' hK => ?_) AllReadyH.nil)
        case' i24 => simp only [List.getElem?_toArray, List.getElem?_cons_succ, List.getElem?_cons_zero]
        case i24 => rfl
        case' i25 => simp only [List.getElem?_toArray, List.getElem?_cons_succ, List.getElem?_cons_zero]
        case i25 => rfl
        · go_simp
          replace hF0 := hF0.alloc (.cells (madeCells #[.bool false] (L.length + 1)) 4)
          replace hbag := hbag.addC
          refine hK.out _ _ hF0 (fun hHeld => ?_)
          clear hK K'
          try simp only [Act.put, List.setIfInBounds_toArray, List.set_cons_zero, List.set_cons_succ]
          refine wpAnyH_ready (rs := [7]) (by kernel_rfl) (by simp) ?_
          refine AllReadyH.cons (o := ?o26) ?i26 (fun K' hK => ?_) AllReadyH.nil
          case' i26 => simp only [List.getElem?_toArray, List.getElem?_cons_succ, List.getElem?_cons_zero]
          case i26 => rfl
          · go_simp
            replace hF0 := hF0.alloc (.cells (madeCells #[.slice none 0 0] (L.length + 1)) 41)
            replace hbag := hbag.addH
            refine hK.out _ _ hF0 (fun hHeld => ?_)
            clear hK K'
            try simp only [Act.put, List.setIfInBounds_toArray, List.set_cons_zero, List.set_cons_succ]
            refine wpAnyH_take (i := 8) (oi := ?o28) (v := ?v28) ?i28 (by kernel_rfl) (by kernel_rfl) (by kernel_rfl) ?q28 (Or.inl ⟨?w28, ?y28⟩) (by assumption) ?r28
            case' i28 => simp only [List.getElem?_toArray, List.getElem?_cons_succ, List.getElem?_cons_zero]
            case i28 => rfl
            case q28 => exact fun _ _ _ h => h
            case w28 => rfl
            case y28 => (intro w hSw; (try dsimp only at hSw); go_simp) <;> with_reducible rfl
            try simp only [Act.put, List.setIfInBounds_toArray, List.set_cons_zero, List.set_cons_succ]
            refine wpAnyH_ready (rs := [9]) (by kernel_rfl) (by simp) ?_
            refine AllReadyH.cons (o := ?o29) ?i29 (fun K' hK => ?_) AllReadyH.nil
            case' i29 => simp only [List.getElem?_toArray, List.getElem?_cons_succ, List.getElem?_cons_zero]
            case i29 => rfl
            go_simp
            have hmd := hbag.mind (g := g) (dh := dh) (kem := kem) hmost
            try simp only [World.size_alloc] at hmd
            refine hK.out _ _ (hF0.alloc _) (fun hHeld => ?_)
            clear hK K'
            try simp only [Act.put, List.setIfInBounds_toArray, List.set_cons_zero, List.set_cons_succ]
            refine wpAnyH_take (i := 10) (oi := ?o30) (v := ?v30) ?i30 (by kernel_rfl) (by kernel_rfl) (by kernel_rfl) ?q30 (Or.inl ⟨?w30, ?y30⟩) (by assumption) ?r30
            case' i30 => simp only [List.getElem?_toArray, List.getElem?_cons_succ, List.getElem?_cons_zero]
            case i30 => rfl
            case q30 => exact fun _ _ _ h => h
            case w30 => rfl
            case y30 => (intro w hSw; (try dsimp only at hSw); go_simp) <;> with_reducible rfl
            try simp only [Act.put, List.setIfInBounds_toArray, List.set_cons_zero, List.set_cons_succ]
            refine wpAnyH_done (by kernel_rfl) ?_ _
            go_wp2_with fail
            go_meet
            exact ⟨⟨_, _, _, _⟩, rfl, Lib.hid hmd.1, Lib.hid hmd.2⟩
        · go_simp
          replace hF0 := hF0.alloc (.cells (madeCells #[.slice none 0 0] (L.length + 1)) 41)
          replace hbag := hbag.addH
          refine hK.out _ _ hF0 (fun hHeld => ?_)
          clear hK K'
          try simp only [Act.put, List.setIfInBounds_toArray, List.set_cons_zero, List.set_cons_succ]
          refine wpAnyH_ready (rs := [4]) (by kernel_rfl) (by simp) ?_
          refine AllReadyH.cons (o := ?o31) ?i31 (fun K' hK => ?_) AllReadyH.nil
          case' i31 => simp only [List.getElem?_toArray, List.getElem?_cons_succ, List.getElem?_cons_zero]
          case i31 => rfl
          · go_simp
            replace hF0 := hF0.alloc (.cells (madeCells #[.bool false] (L.length + 1)) 4)
            replace hbag := hbag.addC
            refine hK.out _ _ hF0 (fun hHeld => ?_)
            clear hK K'
            try simp only [Act.put, List.setIfInBounds_toArray, List.set_cons_zero, List.set_cons_succ]
            refine wpAnyH_take (i := 8) (oi := ?o33) (v := ?v33) ?i33 (by kernel_rfl) (by kernel_rfl) (by kernel_rfl) ?q33 (Or.inl ⟨?w33, ?y33⟩) (by assumption) ?r33
            case' i33 => simp only [List.getElem?_toArray, List.getElem?_cons_succ, List.getElem?_cons_zero]
            case i33 => rfl
            case q33 => exact fun _ _ _ h => h
            case w33 => rfl
            case y33 => (intro w hSw; (try dsimp only at hSw); go_simp) <;> with_reducible rfl
            try simp only [Act.put, List.setIfInBounds_toArray, List.set_cons_zero, List.set_cons_succ]
            refine wpAnyH_ready (rs := [9]) (by kernel_rfl) (by simp) ?_
            refine AllReadyH.cons (o := ?o34) ?i34 (fun K' hK => ?_) AllReadyH.nil
            case' i34 => simp only [List.getElem?_toArray, List.getElem?_cons_succ, List.getElem?_cons_zero]
            case i34 => rfl
            go_simp
            have hmd := hbag.mind (g := g) (dh := dh) (kem := kem) hmost
            try simp only [World.size_alloc] at hmd
            refine hK.out _ _ (hF0.alloc _) (fun hHeld => ?_)
            clear hK K'
            try simp only [Act.put, List.setIfInBounds_toArray, List.set_cons_zero, List.set_cons_succ]
            refine wpAnyH_take (i := 10) (oi := ?o35) (v := ?v35) ?i35 (by kernel_rfl) (by kernel_rfl) (by kernel_rfl) ?q35 (Or.inl ⟨?w35, ?y35⟩) (by assumption) ?r35
            case' i35 => simp only [List.getElem?_toArray, List.getElem?_cons_succ, List.getElem?_cons_zero]
            case i35 => rfl
            case q35 => exact fun _ _ _ h => h
            case w35 => rfl
            case y35 => (intro w hSw; (try dsimp only at hSw); go_simp) <;> with_reducible rfl
            try simp only [Act.put, List.setIfInBounds_toArray, List.set_cons_zero, List.set_cons_succ]
            refine wpAnyH_done (by kernel_rfl) ?_ _
            go_wp2_with fail
            go_meet
            exact ⟨⟨_, _, _, _⟩, rfl, Lib.hid hmd.1, Lib.hid hmd.2⟩
      · go_simp
        replace hF0 := hF0.alloc (.cells (madeCells #[.slice none 0 0] (L.length + 1)) 41)
        replace hbag := hbag.addH
        refine hK.out _ _ hF0 (fun hHeld => ?_)
        clear hK K'
        try simp only [Act.put, List.setIfInBounds_toArray, List.set_cons_zero, List.set_cons_succ]
        refine wpAnyH_ready (rs := [4, 5]) (by kernel_rfl) (by simp) ?_
        refine AllReadyH.cons (o := ?o36) ?i36 (fun K' hK => ?_) (AllReadyH.cons (o := ?o37) ?i37 (fun K' hK => ?_) AllReadyH.nil)
        case' i36 => simp only [List.getElem?_toArray, List.getElem?_cons_succ, List.getElem?_cons_zero]
        case i36 => rfl
        case' i37 => simp only [List.getElem?_toArray, List.getElem?_cons_succ, List.getElem?_cons_zero]
        case i37 => rfl
        · go_simp
          replace hF0 := hF0.alloc (.cells (madeCells #[.bool false] (L.length + 1)) 4)
          replace hbag := hbag.addC
          refine hK.out _ _ hF0 (fun hHeld => ?_)
          clear hK K'
          try simp only [Act.put, List.setIfInBounds_toArray, List.set_cons_zero, List.set_cons_succ]
          refine wpAnyH_ready (rs := [5]) (by kernel_rfl) (by simp) ?_
          refine AllReadyH.cons (o := ?o38) ?i38 (fun K' hK => ?_) AllReadyH.nil
          case' i38 => simp only [List.getElem?_toArray, List.getElem?_cons_succ, List.getElem?_cons_zero]
          case i38 => rfl
          · go_simp
            replace hF0 := hF0.alloc (.map #[] 0)
            replace hbag := hbag.addN
            refine hK.out _ _ hF0 (fun hHeld => ?_)
            clear hK K'
            try simp only [Act.put, List.setIfInBounds_toArray, List.set_cons_zero, List.set_cons_succ]
            refine wpAnyH_take (i := 8) (oi := ?o40) (v := ?v40) ?i40 (by kernel_rfl) (by kernel_rfl) (by kernel_rfl) ?q40 (Or.inl ⟨?w40, ?y40⟩) (by assumption) ?r40
            case' i40 => simp only [List.getElem?_toArray, List.getElem?_cons_succ, List.getElem?_cons_zero]
            case i40 => rfl
            case q40 => exact fun _ _ _ h => h
            case w40 => rfl
            case y40 => (intro w hSw; (try dsimp only at hSw); go_simp) <;> with_reducible rfl
            try simp only [Act.put, List.setIfInBounds_toArray, List.set_cons_zero, List.set_cons_succ]
            refine wpAnyH_ready (rs := [9]) (by kernel_rfl) (by simp) ?_
            refine AllReadyH.cons (o := ?o41) ?i41 (fun K' hK => ?_) AllReadyH.nil
            case' i41 => simp only [List.getElem?_toArray, List.getElem?_cons_succ, List.getElem?_cons_zero]
            case i41 => rfl
            go_simp
            have hmd := hbag.mind (g := g) (dh := dh) (kem := kem) hmost
            try simp only [World.size_alloc] at hmd
            refine hK.out _ _ (hF0.alloc _) (fun hHeld => ?_)
            clear hK K'
            try simp only [Act.put, List.setIfInBounds_toArray, List.set_cons_zero, List.set_cons_succ]
            refine wpAnyH_take (i := 10) (oi := ?o42) (v := ?v42) ?i42 (by kernel_rfl) (by kernel_rfl) (by kernel_rfl) ?q42 (Or.inl ⟨?w42, ?y42⟩) (by assumption) ?r42
            case' i42 => simp only [List.getElem?_toArray, List.getElem?_cons_succ, List.getElem?_cons_zero]
            case i42 => rfl
            case q42 => exact fun _ _ _ h => h
            case w42 => rfl
            case y42 => (intro w hSw; (try dsimp only at hSw); go_simp) <;> with_reducible rfl
            try simp only [Act.put, List.setIfInBounds_toArray, List.set_cons_zero, List.set_cons_succ]
            refine wpAnyH_done (by kernel_rfl) ?_ _
            go_wp2_with fail
            go_meet
            exact ⟨⟨_, _, _, _⟩, rfl, Lib.hid hmd.1, Lib.hid hmd.2⟩
        · go_simp
          replace hF0 := hF0.alloc (.map #[] 0)
          replace hbag := hbag.addN
          refine hK.out _ _ hF0 (fun hHeld => ?_)
          clear hK K'
          try simp only [Act.put, List.setIfInBounds_toArray, List.set_cons_zero, List.set_cons_succ]
          refine wpAnyH_ready (rs := [4]) (by kernel_rfl) (by simp) ?_
          refine AllReadyH.cons (o := ?o43) ?i43 (fun K' hK => ?_) AllReadyH.nil
          case' i43 => simp only [List.getElem?_toArray, List.getElem?_cons_succ, List.getElem?_cons_zero]
          case i43 => rfl
          · go_simp
            replace hF0 := hF0.alloc (.cells (madeCells #[.bool false] (L.length + 1)) 4)
            replace hbag := hbag.addC
            refine hK.out _ _ hF0 (fun hHeld => ?_)
            clear hK K'
            try simp only [Act.put, List.setIfInBounds_toArray, List.set_cons_zero, List.set_cons_succ]
            refine wpAnyH_take (i := 8) (oi := ?o45) (v := ?v45) ?i45 (by kernel_rfl) (by kernel_rfl) (by kernel_rfl) ?q45 (Or.inl ⟨?w45, ?y45⟩) (by assumption) ?r45
            case' i45 => simp only [List.getElem?_toArray, List.getElem?_cons_succ, List.getElem?_cons_zero]
            case i45 => rfl
            case q45 => exact fun _ _ _ h => h
            case w45 => rfl
            case y45 => (intro w hSw; (try dsimp only at hSw); go_simp) <;> with_reducible rfl
            try simp only [Act.put, List.setIfInBounds_toArray, List.set_cons_zero, List.set_cons_succ]
            refine wpAnyH_ready (rs := [9]) (by kernel_rfl) (by simp) ?_
            refine AllReadyH.cons (o := ?o46) ?i46 (fun K' hK => ?_) AllReadyH.nil
            case' i46 => simp only [List.getElem?_toArray, List.getElem?_cons_succ, List.getElem?_cons_zero]
            case i46 => rfl
            go_simp
            have hmd := hbag.mind (g := g) (dh := dh) (kem := kem) hmost
            try simp only [World.size_alloc] at hmd
            refine hK.out _ _ (hF0.alloc _) (fun hHeld => ?_)
            clear hK K'
            try simp only [Act.put, List.setIfInBounds_toArray, List.set_cons_zero, List.set_cons_succ]
            refine wpAnyH_take (i := 10) (oi := ?o47) (v := ?v47) ?i47 (by kernel_rfl) (by kernel_rfl) (by kernel_rfl) ?q47 (Or.inl ⟨?w47, ?y47⟩) (by assumption) ?r47
            case' i47 => simp only [List.getElem?_toArray, List.getElem?_cons_succ, List.getElem?_cons_zero]
            case i47 => rfl
            case q47 => exact fun _ _ _ h => h
            case w47 => rfl
            case y47 => (intro w hSw; (try dsimp only at hSw); go_simp) <;> with_reducible rfl
            try simp only [Act.put, List.setIfInBounds_toArray, List.set_cons_zero, List.set_cons_succ]
            refine wpAnyH_done (by kernel_rfl) ?_ _
            go_wp2_with fail
            go_meet
            exact ⟨⟨_, _, _, _⟩, rfl, Lib.hid hmd.1, Lib.hid hmd.2⟩
    · go_simp
      replace hF0 := hF0.alloc (.cells (madeCells #[.bool false] (L.length + 1)) 4)
      replace hbag := hbag.addC
      refine hK.out _ _ hF0 (fun hHeld => ?_)
      clear hK K'
      try simp only [Act.put, List.setIfInBounds_toArray, List.set_cons_zero, List.set_cons_succ]
      refine wpAnyH_ready (rs := [2, 5, 7]) (by kernel_rfl) (by simp) ?_
      refine AllReadyH.cons (o := ?o48) ?i48 (fun K' hK => ?_) (AllReadyH.cons (o := ?o49) ?i49 (fun K' hK => ?_) (AllReadyH.cons (o := ?o50) ?i50 (fun K' hK => ?_) AllReadyH.nil))
      case' i48 => simp only [List.getElem?_toArray, List.getElem?_cons_succ, List.getElem?_cons_zero]
      case i48 => rfl
      case' i49 => simp only [List.getElem?_toArray, List.getElem?_cons_succ, List.getElem?_cons_zero]
      case i49 => rfl
      case' i50 => simp only [List.getElem?_toArray, List.getElem?_cons_succ, List.getElem?_cons_zero]
      case i50 => rfl
      · go_simp
        go_at_call 50
        refine (rules_a _).mono ?_
        rintro e wX ⟨rfl, hbX⟩
        replace hF0 := hF0.below hbX
        replace hbag := hbag.next hbX
        clear hbX
        go_wp2_with fail
        refine hK.out _ _ hF0 (fun hHeld => ?_)
        clear hK K'
        try simp only [Act.put, List.setIfInBounds_toArray, List.set_cons_zero, List.set_cons_succ]
        refine wpAnyH_ready (rs := [5, 7]) (by kernel_rfl) (by simp) ?_
        refine AllReadyH.cons (o := ?o51) ?i51 (fun K' hK => ?_) (AllReadyH.cons (o := ?o52) ?i52 (fun K' hK => ?_) AllReadyH.nil)
        case' i51 => simp only [List.getElem?_toArray, List.getElem?_cons_succ, List.getElem?_cons_zero]
        case i51 => rfl
        case' i52 => simp only [List.getElem?_toArray, List.getElem?_cons_succ, List.getElem?_cons_zero]
        case i52 => rfl
        · go_simp
          replace hF0 := hF0.alloc (.map #[] 0)
          replace hbag := hbag.addN
          refine hK.out _ _ hF0 (fun hHeld => ?_)
          clear hK K'
          try simp only [Act.put, List.setIfInBounds_toArray, List.set_cons_zero, List.set_cons_succ]
          refine wpAnyH_ready (rs := [7]) (by kernel_rfl) (by simp) ?_
          refine AllReadyH.cons (o := ?o53) ?i53 (fun K' hK => ?_) AllReadyH.nil
          case' i53 => simp only [List.getElem?_toArray, List.getElem?_cons_succ, List.getElem?_cons_zero]
          case i53 => rfl
          · go_simp
            replace hF0 := hF0.alloc (.cells (madeCells #[.slice none 0 0] (L.length + 1)) 41)
            replace hbag := hbag.addH
            refine hK.out _ _ hF0 (fun hHeld => ?_)
            clear hK K'
            try simp only [Act.put, List.setIfInBounds_toArray, List.set_cons_zero, List.set_cons_succ]
            refine wpAnyH_take (i := 8) (oi := ?o55) (v := ?v55) ?i55 (by kernel_rfl) (by kernel_rfl) (by kernel_rfl) ?q55 (Or.inl ⟨?w55, ?y55⟩) (by assumption) ?r55
            case' i55 => simp only [List.getElem?_toArray, List.getElem?_cons_succ, List.getElem?_cons_zero]
            case i55 => rfl
            case q55 => exact fun _ _ _ h => h
            case w55 => rfl
            case y55 => (intro w hSw; (try dsimp only at hSw); go_simp) <;> with_reducible rfl
            try simp only [Act.put, List.setIfInBounds_toArray, List.set_cons_zero, List.set_cons_succ]
            refine wpAnyH_ready (rs := [9]) (by kernel_rfl) (by simp) ?_
            refine AllReadyH.cons (o := ?o56) ?i56 (fun K' hK => ?_) AllReadyH.nil
            case' i56 => simp only [List.getElem?_toArray, List.getElem?_cons_succ, List.getElem?_cons_zero]
            case i56 => rfl
            go_simp
            have hmd := hbag.mind (g := g) (dh := dh) (kem := kem) hmost
            try simp only [World.size_alloc] at hmd
            refine hK.out _ _ (hF0.alloc _) (fun hHeld => ?_)
            clear hK K'
            try simp only [Act.put, List.setIfInBounds_toArray, List.set_cons_zero, List.set_cons_succ]
            refine wpAnyH_take (i := 10) (oi := ?o57) (v := ?v57) ?i57 (by kernel_rfl) (by kernel_rfl) (by kernel_rfl) ?q57 (Or.inl ⟨?w57, ?y57⟩) (by assumption) ?r57
            case' i57 => simp only [List.getElem?_toArray, List.getElem?_cons_succ, List.getElem?_cons_zero]
            case i57 => rfl
            case q57 => exact fun _ _ _ h => h
            case w57 => rfl
            case y57 => (intro w hSw; (try dsimp only at hSw); go_simp) <;> with_reducible rfl
            try simp only [Act.put, List.setIfInBounds_toArray, List.set_cons_zero, List.set_cons_succ]
            refine wpAnyH_done (by kernel_rfl) ?_ _
            go_wp2_with fail
            go_meet
            exact ⟨⟨_, _, _, _⟩, rfl, Lib.hid hmd.1, Lib.hid hmd.2⟩
        · go_simp
          replace hF0 := hF0.alloc (.cells (madeCells #[.slice none 0 0] (L.length + 1)) 41)
          replace hbag := hbag.addH
          refine hK.out _ _ hF0 (fun hHeld => ?_)
          clear hK K'
          try simp only [Act.put, List.setIfInBounds_toArray, List.set_cons_zero, List.set_cons_succ]
          refine wpAnyH_ready (rs := [5]) (by kernel_rfl) (by simp) ?_
          refine AllReadyH.cons (o := ?o58) ?i58 (fun K' hK => ?_) AllReadyH.nil
          case' i58 => simp only [List.getElem?_toArray, List.getElem?_cons_succ, List.getElem?_cons_zero]
          case i58 => rfl
          · go_simp
            replace hF0 := hF0.alloc (.map #[] 0)
            replace hbag := hbag.addN
            refine hK.out _ _ hF0 (fun hHeld => ?_)
            clear hK K'
            try simp only [Act.put, List.setIfInBounds_toArray, List.set_cons_zero, List.set_cons_succ]
            refine wpAnyH_take (i := 8) (oi := ?o60) (v := ?v60) ?i60 (by kernel_rfl) (by kernel_rfl) (by kernel_rfl) ?q60 (Or.inl ⟨?w60, ?y60⟩) (by assumption) ?r60
            case' i60 => simp only [List.getElem?_toArray, List.getElem?_cons_succ, List.getElem?_cons_zero]
            case i60 => rfl
            case q60 => exact fun _ _ _ h => h
            case w60 => rfl
            case y60 => (intro w hSw; (try dsimp only at hSw); go_simp) <;> with_reducible rfl
            try simp only [Act.put, List.setIfInBounds_toArray, List.set_cons_zero, List.set_cons_succ]
            refine wpAnyH_ready (rs := [9]) (by kernel_rfl) (by simp) ?_
            refine AllReadyH.cons (o := ?o61) ?i61 (fun K' hK => ?_) AllReadyH.nil
            case' i61 => simp only [List.getElem?_toArray, List.getElem?_cons_succ, List.getElem?_cons_zero]
            case i61 => rfl
            go_simp
            have hmd := hbag.mind (g := g) (dh := dh) (kem := kem) hmost
            try simp only [World.size_alloc] at hmd
            refine hK.out _ _ (hF0.alloc _) (fun hHeld => ?_)
            clear hK K'
            try simp only [Act.put, List.setIfInBounds_toArray, List.set_cons_zero, List.set_cons_succ]
            refine wpAnyH_take (i := 10) (oi := ?o62) (v := ?v62) ?i62 (by kernel_rfl) (by kernel_rfl) (by kernel_rfl) ?q62 (Or.inl ⟨?w62, ?y62⟩) (by assumption) ?r62
            case' i62 => simp only [List.getElem?_toArray, List.getElem?_cons_succ, List.getElem?_cons_zero]
            case i62 => rfl
            case q62 => exact fun _ _ _ h => h
            case w62 => rfl
            case y62 => (intro w hSw; (try dsimp only at hSw); go_simp) <;> with_reducible rfl
            try simp only [Act.put, List.setIfInBounds_toArray, List.set_cons_zero, List.set_cons_succ]
            refine wpAnyH_done (by kernel_rfl) ?_ _
            go_wp2_with fail
            go_meet
            exact ⟨⟨_, _, _, _⟩, rfl, Lib.hid hmd.1, Lib.hid hmd.2⟩
      · go_simp
        replace hF0 := hF0.alloc (.map #[] 0)
        replace hbag := hbag.addN
        refine hK.out _ _ hF0 (fun hHeld => ?_)
        clear hK K'
        try simp only [Act.put, List.setIfInBounds_toArray, List.set_cons_zero, List.set_cons_succ]
        refine wpAnyH_ready (rs := [2, 7]) (by kernel_rfl) (by simp) ?_
        refine AllReadyH.cons (o := ?o63) ?i63 (fun K' hK => ?_) (AllReadyH.cons (o := ?o64) ?i64 (fun K' hK => ?_) AllReadyH.nil)
        case' i63 => simp only [List.getElem?_toArray, List.getElem?_cons_succ, List.getElem?_cons_zero]
        case i63 => rfl
        case' i64 => simp only [List.getElem?_toArray, List.getElem?_cons_succ, List.getElem?_cons_zero]
        case i64 => rfl
        · go_simp
          go_at_call 50
          refine (rules_a _).mono ?_
          rintro e wX ⟨rfl, hbX⟩
          replace hF0 := hF0.below hbX
          replace hbag := hbag.next hbX
          clear hbX
          go_wp2_with fail
          refine hK.out _ _ hF0 (fun hHeld => ?_)
          clear hK K'
          try simp only [Act.put, List.setIfInBounds_toArray, List.set_cons_zero, List.set_cons_succ]
          refine wpAnyH_ready (rs := [7]) (by kernel_rfl) (by simp) ?_
          refine AllReadyH.cons (o := ?o65) ?i65 (fun K' hK => ?_) AllReadyH.nil
          case' i65 => simp only [List.getElem?_toArray, List.getElem?_cons_succ, List.getElem?_cons_zero]
          case i65 => rfl
          · go_simp
            replace hF0 := hF0.alloc (.cells (madeCells #[.slice none 0 0] (L.length + 1)) 41)
            replace hbag := hbag.addH
            refine hK.out _ _ hF0 (fun hHeld => ?_)
            clear hK K'
            try simp only [Act.put, List.setIfInBounds_toArray, List.set_cons_zero, List.set_cons_succ]
            refine wpAnyH_take (i := 8) (oi := ?o67) (v := ?v67) ?i67 (by kernel_rfl) (by kernel_rfl) (by kernel_rfl) ?q67 (Or.inl ⟨?w67, ?y67⟩) (by assumption) ?r67
            case' i67 => simp only [List.getElem?_toArray, List.getElem?_cons_succ, List.getElem?_cons_zero]
            case i67 => rfl
            case q67 => exact fun _ _ _ h => h
            case w67 => rfl
            case y67 => (intro w hSw; (try dsimp only at hSw); go_simp) <;> with_reducible rfl
            try simp only [Act.put, List.setIfInBounds_toArray, List.set_cons_zero, List.set_cons_succ]
            refine wpAnyH_ready (rs := [9]) (by kernel_rfl) (by simp) ?_
            refine AllReadyH.cons (o := ?o68) ?i68 (fun K' hK => ?_) AllReadyH.nil
            case' i68 => simp only [List.getElem?_toArray, List.getElem?_cons_succ, List.getElem?_cons_zero]
            case i68 => rfl
            go_simp
            have hmd := hbag.mind (g := g) (dh := dh) (kem := kem) hmost
            try simp only [World.size_alloc] at hmd
            refine hK.out _ _ (hF0.alloc _) (fun hHeld => ?_)
            clear hK K'
            try simp only [Act.put, List.setIfInBounds_toArray, List.set_cons_zero, List.set_cons_succ]
            refine wpAnyH_take (i := 10) (oi := ?o69) (v := ?v69) ?i69 (by kernel_rfl) (by kernel_rfl) (by kernel_rfl) ?q69 (Or.inl ⟨?w69, ?y69⟩) (by assumption) ?r69
            case' i69 => simp only [List.getElem?_toArray, List.getElem?_cons_succ, List.getElem?_cons_zero]
            case i69 => rfl
            case q69 => exact fun _ _ _ h => h
            case w69 => rfl
            case y69 => (intro w hSw; (try dsimp only at hSw); go_simp) <;> with_reducible rfl
            try simp only [Act.put, List.setIfInBounds_toArray, List.set_cons_zero, List.set_cons_succ]
            refine wpAnyH_done (by kernel_rfl) ?_ _
            go_wp2_with fail
            go_meet
            exact ⟨⟨_, _, _, _⟩, rfl, Lib.hid hmd.1, Lib.hid hmd.2⟩
        · go_simp
          replace hF0 := hF0.alloc (.cells (madeCells #[.slice none 0 0] (L.length + 1)) 41)
          replace hbag := hbag.addH
          refine hK.out _ _ hF0 (fun hHeld => ?_)
          clear hK K'
          try simp only [Act.put, List.setIfInBounds_toArray, List.set_cons_zero, List.set_cons_succ]
          refine wpAnyH_ready (rs := [2]) (by kernel_rfl) (by simp) ?_
          refine AllReadyH.cons (o := ?o70) ?i70 (fun K' hK => ?_) AllReadyH.nil
          case' i70 => simp only [List.getElem?_toArray, List.getElem?_cons_succ, List.getElem?_cons_zero]
          case i70 => rfl
          · go_simp
            go_at_call 50
            refine (rules_a _).mono ?_
            rintro e wX ⟨rfl, hbX⟩
            replace hF0 := hF0.below hbX
            replace hbag := hbag.next hbX
            clear hbX
            go_wp2_with fail
            refine hK.out _ _ hF0 (fun hHeld => ?_)
            clear hK K'
            try simp only [Act.put, List.setIfInBounds_toArray, List.set_cons_zero, List.set_cons_succ]
            refine wpAnyH_take (i := 8) (oi := ?o72) (v := ?v72) ?i72 (by kernel_rfl) (by kernel_rfl) (by kernel_rfl) ?q72 (Or.inl ⟨?w72, ?y72⟩) (by assumption) ?r72
            case' i72 => simp only [List.getElem?_toArray, List.getElem?_cons_succ, List.getElem?_cons_zero]
            case i72 => rfl
            case q72 => exact fun _ _ _ h => h
            case w72 => rfl
            case y72 => (intro w hSw; (try dsimp only at hSw); go_simp) <;> with_reducible rfl
            try simp only [Act.put, List.setIfInBounds_toArray, List.set_cons_zero, List.set_cons_succ]
            refine wpAnyH_ready (rs := [9]) (by kernel_rfl) (by simp) ?_
            refine AllReadyH.cons (o := ?o73) ?i73 (fun K' hK => ?_) AllReadyH.nil
            case' i73 => simp only [List.getElem?_toArray, List.getElem?_cons_succ, List.getElem?_cons_zero]
            case i73 => rfl
            go_simp
            have hmd := hbag.mind (g := g) (dh := dh) (kem := kem) hmost
            try simp only [World.size_alloc] at hmd
            refine hK.out _ _ (hF0.alloc _) (fun hHeld => ?_)
            clear hK K'
            try simp only [Act.put, List.setIfInBounds_toArray, List.set_cons_zero, List.set_cons_succ]
            refine wpAnyH_take (i := 10) (oi := ?o74) (v := ?v74) ?i74 (by kernel_rfl) (by kernel_rfl) (by kernel_rfl) ?q74 (Or.inl ⟨?w74, ?y74⟩) (by assumption) ?r74
            case' i74 => simp only [List.getElem?_toArray, List.getElem?_cons_succ, List.getElem?_cons_zero]
            case i74 => rfl
            case q74 => exact fun _ _ _ h => h
            case w74 => rfl
            case y74 => (intro w hSw; (try dsimp only at hSw); go_simp) <;> with_reducible rfl
            try simp only [Act.put, List.setIfInBounds_toArray, List.set_cons_zero, List.set_cons_succ]
            refine wpAnyH_done (by kernel_rfl) ?_ _
            go_wp2_with fail
            go_meet
            exact ⟨⟨_, _, _, _⟩, rfl, Lib.hid hmd.1, Lib.hid hmd.2⟩
      · go_simp
        replace hF0 := hF0.alloc (.cells (madeCells #[.slice none 0 0] (L.length + 1)) 41)
        replace hbag := hbag.addH
        refine hK.out _ _ hF0 (fun hHeld => ?_)
        clear hK K'
        try simp only [Act.put, List.setIfInBounds_toArray, List.set_cons_zero, List.set_cons_succ]
        refine wpAnyH_ready (rs := [2, 5]) (by kernel_rfl) (by simp) ?_
        refine AllReadyH.cons (o := ?o75) ?i75 (fun K' hK => ?_) (AllReadyH.cons (o := ?o76) ?i76 (fun K' hK => ?_) AllReadyH.nil)
        case' i75 => simp only [List.getElem?_toArray, List.getElem?_cons_succ, List.getElem?_cons_zero]
        case i75 => rfl
        case' i76 => simp only [List.getElem?_toArray, List.getElem?_cons_succ, List.getElem?_cons_zero]
        case i76 => rfl
        · go_simp
          go_at_call 50
          refine (rules_a _).mono ?_
          rintro e wX ⟨rfl, hbX⟩
          replace hF0 := hF0.below hbX
          replace hbag := hbag.next hbX
          clear hbX
          go_wp2_with fail
          refine hK.out _ _ hF0 (fun hHeld => ?_)
          clear hK K'
          try simp only [Act.put, List.setIfInBounds_toArray, List.set_cons_zero, List.set_cons_succ]
          refine wpAnyH_ready (rs := [5]) (by kernel_rfl) (by simp) ?_
          refine AllReadyH.cons (o := ?o77) ?i77 (fun K' hK => ?_) AllReadyH.nil
          case' i77 => simp only [List.getElem?_toArray, List.getElem?_cons_succ, List.getElem?_cons_zero]
          case i77 => rfl
          · go_simp
            replace hF0 := hF0.alloc (.map #[] 0)
            replace hbag := hbag.addN
            refine hK.out _ _ hF0 (fun hHeld => ?_)
            clear hK K'
            try simp only [Act.put, List.setIfInBounds_toArray, List.set_cons_zero, List.set_cons_succ]
            refine wpAnyH_take (i := 8) (oi := ?o79) (v := ?v79) ?i79 (by kernel_rfl) (by kernel_rfl) (by kernel_rfl) ?q79 (Or.inl ⟨?w79, ?y79⟩) (by assumption) ?r79
            case' i79 => simp only [List.getElem?_toArray, List.getElem?_cons_succ, List.getElem?_cons_zero]
            case i79 => rfl
            case q79 => exact fun _ _ _ h => h
            case w79 => rfl
            case y79 => (intro w hSw; (try dsimp only at hSw); go_simp) <;> with_reducible rfl
            try simp only [Act.put, List.setIfInBounds_toArray, List.set_cons_zero, List.set_cons_succ]
            refine wpAnyH_ready (rs := [9]) (by kernel_rfl) (by simp) ?_
            refine AllReadyH.cons (o := ?o80) ?i80 (fun K' hK => ?_) AllReadyH.nil
            case' i80 => simp only [List.getElem?_toArray, List.getElem?_cons_succ, List.getElem?_cons_zero]
            case i80 => rfl
            go_simp
            have hmd := hbag.mind (g := g) (dh := dh) (kem := kem) hmost
            try simp only [World.size_alloc] at hmd
            refine hK.out _ _ (hF0.alloc _) (fun hHeld => ?_)
            clear hK K'
            try simp only [Act.put, List.setIfInBounds_toArray, List.set_cons_zero, List.set_cons_succ]
            refine wpAnyH_take (i := 10) (oi := ?o81) (v := ?v81) ?i81 (by kernel_rfl) (by kernel_rfl) (by kernel_rfl) ?q81 (Or.inl ⟨?w81, ?y81⟩) (by assumption) ?r81
            case' i81 => simp only [List.getElem?_toArray, List.getElem?_cons_succ, List.getElem?_cons_zero]
            case i81 => rfl
            case q81 => exact fun _ _ _ h => h
            case w81 => rfl
            case y81 => (intro w hSw; (try dsimp only at hSw); go_simp) <;> with_reducible rfl
            try simp only [Act.put, List.setIfInBounds_toArray, List.set_cons_zero, List.set_cons_succ]
            refine wpAnyH_done (by kernel_rfl) ?_ _
            go_wp2_with fail
            go_meet
            exact ⟨⟨_, _, _, _⟩, rfl, Lib.hid hmd.1, Lib.hid hmd.2⟩
        · go_simp
          replace hF0 := hF0.alloc (.map #[] 0)
          replace hbag := hbag.addN
          refine hK.out _ _ hF0 (fun hHeld => ?_)
          clear hK K'
          try simp only [Act.put, List.setIfInBounds_toArray, List.set_cons_zero, List.set_cons_succ]
          refine wpAnyH_ready (rs := [2]) (by kernel_rfl) (by simp) ?_
          refine AllReadyH.cons (o := ?o82) ?i82 (fun K' hK => ?_) AllReadyH.nil
          case' i82 => simp only [List.getElem?_toArray, List.getElem?_cons_succ, List.getElem?_cons_zero]
          case i82 => rfl
          · go_simp
            go_at_call 50
            refine (rules_a _).mono ?_
            rintro e wX ⟨rfl, hbX⟩
            replace hF0 := hF0.below hbX
            replace hbag := hbag.next hbX
            clear hbX
            go_wp2_with fail
            refine hK.out _ _ hF0 (fun hHeld => ?_)
            clear hK K'
            try simp only [Act.put, List.setIfInBounds_toArray, List.set_cons_zero, List.set_cons_succ]
            refine wpAnyH_take (i := 8) (oi := ?o84) (v := ?v84) ?i84 (by kernel_rfl) (by kernel_rfl) (by kernel_rfl) ?q84 (Or.inl ⟨?w84, ?y84⟩) (by assumption) ?r84
            case' i84 => simp only [List.getElem?_toArray, List.getElem?_cons_succ, List.getElem?_cons_zero]
            case i84 => rfl
            case q84 => exact fun _ _ _ h => h
            case w84 => rfl
            case y84 => (intro w hSw; (try dsimp only at hSw); go_simp) <;> with_reducible rfl
            try simp only [Act.put, List.setIfInBounds_toArray, List.set_cons_zero, List.set_cons_succ]
            refine wpAnyH_ready (rs := [9]) (by kernel_rfl) (by simp) ?_
            refine AllReadyH.cons (o := ?o85) ?i85 (fun K' hK => ?_) AllReadyH.nil
            case' i85 => simp only [List.getElem?_toArray, List.getElem?_cons_succ, List.getElem?_cons_zero]
            case i85 => rfl
            go_simp
            have hmd := hbag.mind (g := g) (dh := dh) (kem := kem) hmost
            try simp only [World.size_alloc] at hmd
            refine hK.out _ _ (hF0.alloc _) (fun hHeld => ?_)
            clear hK K'
            try simp only [Act.put, List.setIfInBounds_toArray, List.set_cons_zero, List.set_cons_succ]
            refine wpAnyH_take (i := 10) (oi := ?o86) (v := ?v86) ?i86 (by kernel_rfl) (by kernel_rfl) (by kernel_rfl) ?q86 (Or.inl ⟨?w86, ?y86⟩) (by assumption) ?r86
            case' i86 => simp only [List.getElem?_toArray, List.getElem?_cons_succ, List.getElem?_cons_zero]
            case i86 => rfl
            case q86 => exact fun _ _ _ h => h
            case w86 => rfl
            case y86 => (intro w hSw; (try dsimp only at hSw); go_simp) <;> with_reducible rfl
            try simp only [Act.put, List.setIfInBounds_toArray, List.set_cons_zero, List.set_cons_succ]
            refine wpAnyH_done (by kernel_rfl) ?_ _
            go_wp2_with fail
            go_meet
            exact ⟨⟨_, _, _, _⟩, rfl, Lib.hid hmd.1, Lib.hid hmd.2⟩
    · go_simp
      replace hF0 := hF0.alloc (.map #[] 0)
      replace hbag := hbag.addN
      refine hK.out _ _ hF0 (fun hHeld => ?_)
      clear hK K'
      try simp only [Act.put, List.setIfInBounds_toArray, List.set_cons_zero, List.set_cons_succ]
      refine wpAnyH_ready (rs := [2, 4, 7]) (by kernel_rfl) (by simp) ?_
      refine AllReadyH.cons (o := ?o87) ?i87 (fun K' hK => ?_) (AllReadyH.cons (o := ?o88) ?i88 (fun K' hK => ?_) (AllReadyH.cons (o := ?o89) ?i89 (fun K' hK => ?_) AllReadyH.nil))
      case' i87 => simp only [List.getElem?_toArray, List.getElem?_cons_succ, List.getElem?_cons_zero]
      case i87 => rfl
      case' i88 => simp only [List.getElem?_toArray, List.getElem?_cons_succ, List.getElem?_cons_zero]
      case i88 => rfl
      case' i89 => simp only [List.getElem?_toArray, List.getElem?_cons_succ, List.getElem?_cons_zero]
      case i89 => rfl
      · go_simp
        go_at_call 50
        refine (rules_a _).mono ?_
        rintro e wX ⟨rfl, hbX⟩
        replace hF0 := hF0.below hbX
        replace hbag := hbag.next hbX
        clear hbX
        go_wp2_with fail
        refine hK.out _ _ hF0 (fun hHeld => ?_)
        clear hK K'
        try simp only [Act.put, List.setIfInBounds_toArray, List.set_cons_zero, List.set_cons_succ]
        refine wpAnyH_ready (rs := [4, 7]) (by kernel_rfl) (by simp) ?_
        refine AllReadyH.cons (o := ?o90) ?i90 (fun K' hK => ?_) (AllReadyH.cons (o := ?o91) ?i91 (fun K' hK => ?_) AllReadyH.nil)
        case' i90 => simp only [List.getElem?_toArray, List.getElem?_cons_succ, List.getElem?_cons_zero]
        case i90 => rfl
        case' i91 => simp only [List.getElem?_toArray, List.getElem?_cons_succ, List.getElem?_cons_zero]
        case i91 => rfl
        · go_simp
          replace hF0 := hF0.alloc (.cells (madeCells #[.bool false] (L.length + 1)) 4)
          replace hbag := hbag.addC
          refine hK.out _ _ hF0 (fun hHeld => ?_)
          clear hK K'
          try simp only [Act.put, List.setIfInBounds_toArray, List.set_cons_zero, List.set_cons_succ]
          refine wpAnyH_ready (rs := [7]) (by kernel_rfl) (by simp) ?_
          refine AllReadyH.cons (o := ?o92) ?i92 (fun K' hK => ?_) AllReadyH.nil
          case' i92 => simp only [List.getElem?_toArray, List.getElem?_cons_succ, List.getElem?_cons_zero]
          case i92 => rfl
          · go_simp
            replace hF0 := hF0.alloc (.cells (madeCells #[.slice none 0 0] (L.length + 1)) 41)
            replace hbag := hbag.addH
            refine hK.out _ _ hF0 (fun hHeld => ?_)
            clear hK K'
            try simp only [Act.put, List.setIfInBounds_toArray, List.set_cons_zero, List.set_cons_succ]
            refine wpAnyH_take (i := 8) (oi := ?o94) (v := ?v94) ?i94 (by kernel_rfl) (by kernel_rfl) (by kernel_rfl) ?q94 (Or.inl ⟨?w94, ?y94⟩) (by assumption) ?r94
            case' i94 => simp only [List.getElem?_toArray, List.getElem?_cons_succ, List.getElem?_cons_zero]
            case i94 => rfl
            case q94 => exact fun _ _ _ h => h
            case w94 => rfl
            case y94 => (intro w hSw; (try dsimp only at hSw); go_simp) <;> with_reducible rfl
            try simp only [Act.put, List.setIfInBounds_toArray, List.set_cons_zero, List.set_cons_succ]
            refine wpAnyH_ready (rs := [9]) (by kernel_rfl) (by simp) ?_
            refine AllReadyH.cons (o := ?o95) ?i95 (fun K' hK => ?_) AllReadyH.nil
            case' i95 => simp only [List.getElem?_toArray, List.getElem?_cons_succ, List.getElem?_cons_zero]
            case i95 => rfl
            go_simp
            have hmd := hbag.mind (g := g) (dh := dh) (kem := kem) hmost
            try simp only [World.size_alloc] at hmd
            refine hK.out _ _ (hF0.alloc _) (fun hHeld => ?_)
            clear hK K'
            try simp only [Act.put, List.setIfInBounds_toArray, List.set_cons_zero, List.set_cons_succ]
            refine wpAnyH_take (i := 10) (oi := ?o96) (v := ?v96) ?i96 (by kernel_rfl) (by kernel_rfl) (by kernel_rfl) ?q96 (Or.inl ⟨?w96, ?y96⟩) (by assumption) ?r96
            case' i96 => simp only [List.getElem?_toArray, List.getElem?_cons_succ, List.getElem?_cons_zero]
            case i96 => rfl
            case q96 => exact fun _ _ _ h => h
            case w96 => rfl
            case y96 => (intro w hSw; (try dsimp only at hSw); go_simp) <;> with_reducible rfl
            try simp only [Act.put, List.setIfInBounds_toArray, List.set_cons_zero, List.set_cons_succ]
            refine wpAnyH_done (by kernel_rfl) ?_ _
            go_wp2_with fail
            go_meet
            exact ⟨⟨_, _, _, _⟩, rfl, Lib.hid hmd.1, Lib.hid hmd.2⟩
        · go_simp
          replace hF0 := hF0.alloc (.cells (madeCells #[.slice none 0 0] (L.length + 1)) 41)
          replace hbag := hbag.addH
          refine hK.out _ _ hF0 (fun hHeld => ?_)
          clear hK K'
          try simp only [Act.put, List.setIfInBounds_toArray, List.set_cons_zero, List.set_cons_succ]
          refine wpAnyH_ready (rs := [4]) (by kernel_rfl) (by simp) ?_
          refine AllReadyH.cons (o := ?o97) ?i97 (fun K' hK => ?_) AllReadyH.nil
          case' i97 => simp only [List.getElem?_toArray, List.getElem?_cons_succ, List.getElem?_cons_zero]
          case i97 => rfl
          · go_simp
            replace hF0 := hF0.alloc (.cells (madeCells #[.bool false] (L.length + 1)) 4)
            replace hbag := hbag.addC
            refine hK.out _ _ hF0 (fun hHeld => ?_)
            clear hK K'
            try simp only [Act.put, List.setIfInBounds_toArray, List.set_cons_zero, List.set_cons_succ]
            refine wpAnyH_take (i := 8) (oi := ?o99) (v := ?v99) ?i99 (by kernel_rfl) (by kernel_rfl) (by kernel_rfl) ?q99 (Or.inl ⟨?w99, ?y99⟩) (by assumption) ?r99
            case' i99 => simp only [List.getElem?_toArray, List.getElem?_cons_succ, List.getElem?_cons_zero]
            case i99 => rfl
            case q99 => exact fun _ _ _ h => h
            case w99 => rfl
            case y99 => (intro w hSw; (try dsimp only at hSw); go_simp) <;> with_reducible rfl
            try simp only [Act.put, List.setIfInBounds_toArray, List.set_cons_zero, List.set_cons_succ]
            refine wpAnyH_ready (rs := [9]) (by kernel_rfl) (by simp) ?_
            refine AllReadyH.cons (o := ?o100) ?i100 (fun K' hK => ?_) AllReadyH.nil
            case' i100 => simp only [List.getElem?_toArray, List.getElem?_cons_succ, List.getElem?_cons_zero]
            case i100 => rfl
            go_simp
            have hmd := hbag.mind (g := g) (dh := dh) (kem := kem) hmost
            try simp only [World.size_alloc] at hmd
            refine hK.out _ _ (hF0.alloc _) (fun hHeld => ?_)
            clear hK K'
            try simp only [Act.put, List.setIfInBounds_toArray, List.set_cons_zero, List.set_cons_succ]
            refine wpAnyH_take (i := 10) (oi := ?o101) (v := ?v101) ?i101 (by kernel_rfl) (by kernel_rfl) (by kernel_rfl) ?q101 (Or.inl ⟨?w101, ?y101⟩) (by assumption) ?r101
            case' i101 => simp only [List.getElem?_toArray, List.getElem?_cons_succ, List.getElem?_cons_zero]
            case i101 => rfl
            case q101 => exact fun _ _ _ h => h
            case w101 => rfl
            case y101 => (intro w hSw; (try dsimp only at hSw); go_simp) <;> with_reducible rfl
            try simp only [Act.put, List.setIfInBounds_toArray, List.set_cons_zero, List.set_cons_succ]
            refine wpAnyH_done (by kernel_rfl) ?_ _
            go_wp2_with fail
            go_meet
            exact ⟨⟨_, _, _, _⟩, rfl, Lib.hid hmd.1, Lib.hid hmd.2⟩
      · go_simp
        replace hF0 := hF0.alloc (.cells (madeCells #[.bool false] (L.length + 1)) 4)
        replace hbag := hbag.addC
        refine hK.out _ _ hF0 (fun hHeld => ?_)
        clear hK K'
        try simp only [Act.put, List.setIfInBounds_toArray, List.set_cons_zero, List.set_cons_succ]
        refine wpAnyH_ready (rs := [2, 7]) (by kernel_rfl) (by simp) ?_
        refine AllReadyH.cons (o := ?o102) ?i102 (fun K' hK => ?_) (AllReadyH.cons (o := ?o103) ?i103 (fun K' hK => ?_) AllReadyH.nil)
        case' i102 => simp only [List.getElem?_toArray, List.getElem?_cons_succ, List.getElem?_cons_zero]
        case i102 => rfl
        case' i103 => simp only [List.getElem?_toArray, List.getElem?_cons_succ, List.getElem?_cons_zero]
        case i103 => rfl
        · go_simp
          go_at_call 50
          refine (rules_a _).mono ?_
          rintro e wX ⟨rfl, hbX⟩
          replace hF0 := hF0.below hbX
          replace hbag := hbag.next hbX
          clear hbX
          go_wp2_with fail
          refine hK.out _ _ hF0 (fun hHeld => ?_)
          clear hK K'
          try simp only [Act.put, List.setIfInBounds_toArray, List.set_cons_zero, List.set_cons_succ]
          refine wpAnyH_ready (rs := [7]) (by kernel_rfl) (by simp) ?_
          refine AllReadyH.cons (o := ?o104) ?i104 (fun K' hK => ?_) AllReadyH.nil
          case' i104 => simp only [List.getElem?_toArray, List.getElem?_cons_succ, List.getElem?_cons_zero]
          case i104 => rfl
          · go_simp
            replace hF0 := hF0.alloc (.cells (madeCells #[.slice none 0 0] (L.length + 1)) 41)
            replace hbag := hbag.addH
            refine hK.out _ _ hF0 (fun hHeld => ?_)
            clear hK K'
            try simp only [Act.put, List.setIfInBounds_toArray, List.set_cons_zero, List.set_cons_succ]
            refine wpAnyH_take (i := 8) (oi := ?o106) (v := ?v106) ?i106 (by kernel_rfl) (by kernel_rfl) (by kernel_rfl) ?q106 (Or.inl ⟨?w106, ?y106⟩) (by assumption) ?r106
            case' i106 => simp only [List.getElem?_toArray, List.getElem?_cons_succ, List.getElem?_cons_zero]
            case i106 => rfl
            case q106 => exact fun _ _ _ h => h
            case w106 => rfl
            case y106 => (intro w hSw; (try dsimp only at hSw); go_simp) <;> with_reducible rfl
            try simp only [Act.put, List.setIfInBounds_toArray, List.set_cons_zero, List.set_cons_succ]
            refine wpAnyH_ready (rs := [9]) (by kernel_rfl) (by simp) ?_
            refine AllReadyH.cons (o := ?o107) ?i107 (fun K' hK => ?_) AllReadyH.nil
            case' i107 => simp only [List.getElem?_toArray, List.getElem?_cons_succ, List.getElem?_cons_zero]
            case i107 => rfl
            go_simp
            have hmd := hbag.mind (g := g) (dh := dh) (kem := kem) hmost
            try simp only [World.size_alloc] at hmd
            refine hK.out _ _ (hF0.alloc _) (fun hHeld => ?_)
            clear hK K'
            try simp only [Act.put, List.setIfInBounds_toArray, List.set_cons_zero, List.set_cons_succ]
            refine wpAnyH_take (i := 10) (oi := ?o108) (v := ?v108) ?i108 (by kernel_rfl) (by kernel_rfl) (by kernel_rfl) ?q108 (Or.inl ⟨?w108, ?y108⟩) (by assumption) ?r108
            case' i108 => simp only [List.getElem?_toArray, List.getElem?_cons_succ, List.getElem?_cons_zero]
            case i108 => rfl
            case q108 => exact fun _ _ _ h => h
            case w108 => rfl
            case y108 => (intro w hSw; (try dsimp only at hSw); go_simp) <;> with_reducible rfl
            try simp only [Act.put, List.setIfInBounds_toArray, List.set_cons_zero, List.set_cons_succ]
            refine wpAnyH_done (by kernel_rfl) ?_ _
            go_wp2_with fail
            go_meet
            exact ⟨⟨_, _, _, _⟩, rfl, Lib.hid hmd.1, Lib.hid hmd.2⟩
        · go_simp
          replace hF0 := hF0.alloc (.cells (madeCells #[.slice none 0 0] (L.length + 1)) 41)
          replace hbag := hbag.addH
          refine hK.out _ _ hF0 (fun hHeld => ?_)
          clear hK K'
          try simp only [Act.put, List.setIfInBounds_toArray, List.set_cons_zero, List.set_cons_succ]
          refine wpAnyH_ready (rs := [2]) (by kernel_rfl) (by simp) ?_
          refine AllReadyH.cons (o := ?o109) ?i109 (fun K' hK => ?_) AllReadyH.nil
          case' i109 => simp only [List.getElem?_toArray, List.getElem?_cons_succ, List.getElem?_cons_zero]
          case i109 => rfl
          · go_simp
            go_at_call 50
            refine (rules_a _).mono ?_
            rintro e wX ⟨rfl, hbX⟩
            replace hF0 := hF0.below hbX
            replace hbag := hbag.next hbX
            clear hbX
            go_wp2_with fail
            refine hK.out _ _ hF0 (fun hHeld => ?_)
            clear hK K'
            try simp only [Act.put, List.setIfInBounds_toArray, List.set_cons_zero, List.set_cons_succ]
            refine wpAnyH_take (i := 8) (oi := ?o111) (v := ?v111) ?i111 (by kernel_rfl) (by kernel_rfl) (by kernel_rfl) ?q111 (Or.inl ⟨?w111, ?y111⟩) (by assumption) ?r111
            case' i111 => simp only [List.getElem?_toArray, List.getElem?_cons_succ, List.getElem?_cons_zero]
            case i111 => rfl
            case q111 => exact fun _ _ _ h => h
            case w111 => rfl
            case y111 => (intro w hSw; (try dsimp only at hSw); go_simp) <;> with_reducible rfl
            try simp only [Act.put, List.setIfInBounds_toArray, List.set_cons_zero, List.set_cons_succ]
            refine wpAnyH_ready (rs := [9]) (by kernel_rfl) (by simp) ?_
            refine AllReadyH.cons (o := ?o112) ?i112 (fun K' hK => ?_) AllReadyH.nil
            case' i112 => simp only [List.getElem?_toArray, List.getElem?_cons_succ, List.getElem?_cons_zero]
            case i112 => rfl
            go_simp
            have hmd := hbag.mind (g := g) (dh := dh) (kem := kem) hmost
            try simp only [World.size_alloc] at hmd
            refine hK.out _ _ (hF0.alloc _) (fun hHeld => ?_)
            clear hK K'
            try simp only [Act.put, List.setIfInBounds_toArray, List.set_cons_zero, List.set_cons_succ]
            refine wpAnyH_take (i := 10) (oi := ?o113) (v := ?v113) ?i113 (by kernel_rfl) (by kernel_rfl) (by kernel_rfl) ?q113 (Or.inl ⟨?w113, ?y113⟩) (by assumption) ?r113
            case' i113 => simp only [List.getElem?_toArray, List.getElem?_cons_succ, List.getElem?_cons_zero]
            case i113 => rfl
            case q113 => exact fun _ _ _ h => h
            case w113 => rfl
            case y113 => (intro w hSw; (try dsimp only at hSw); go_simp) <;> with_reducible rfl
            try simp only [Act.put, List.setIfInBounds_toArray, List.set_cons_zero, List.set_cons_succ]
            refine wpAnyH_done (by kernel_rfl) ?_ _
            go_wp2_with fail
            go_meet
            exact ⟨⟨_, _, _, _⟩, rfl, Lib.hid hmd.1, Lib.hid hmd.2⟩
      · go_simp
        replace hF0 := hF0.alloc (.cells (madeCells #[.slice none 0 0] (L.length + 1)) 41)
        replace hbag := hbag.addH
        refine hK.out _ _ hF0 (fun hHeld => ?_)
        clear hK K'
        try simp only [Act.put, List.setIfInBounds_toArray, List.set_cons_zero, List.set_cons_succ]
        refine wpAnyH_ready (rs := [2, 4]) (by kernel_rfl) (by simp) ?_
        refine AllReadyH.cons (o := ?o114) ?i114 (fun K' hK => ?_) (AllReadyH.cons (o := ?o115) ?i115 (fun K' hK => ?_) AllReadyH.nil)
        case' i114 => simp only [List.getElem?_toArray, List.getElem?_cons_succ, List.getElem?_cons_zero]
        case i114 => rfl
        case' i115 => simp only [List.getElem?_toArray, List.getElem?_cons_succ, List.getElem?_cons_zero]
        case i115 => rfl
        · go_simp
          go_at_call 50
          refine (rules_a _).mono ?_
          rintro e wX ⟨rfl, hbX⟩
          replace hF0 := hF0.below hbX
          replace hbag := hbag.next hbX
          clear hbX
          go_wp2_with fail
          refine hK.out _ _ hF0 (fun hHeld => ?_)
          clear hK K'
          try simp only [Act.put, List.setIfInBounds_toArray, List.set_cons_zero, List.set_cons_succ]
          refine wpAnyH_ready (rs := [4]) (by kernel_rfl) (by simp) ?_
          refine AllReadyH.cons (o := ?o116) ?i116 (fun K' hK => ?_) AllReadyH.nil
          case' i116 => simp only [List.getElem?_toArray, List.getElem?_cons_succ, List.getElem?_cons_zero]
          case i116 => rfl
          · go_simp
            replace hF0 := hF0.alloc (.cells (madeCells #[.bool false] (L.length + 1)) 4)
            replace hbag := hbag.addC
            refine hK.out _ _ hF0 (fun hHeld => ?_)
            clear hK K'
            try simp only [Act.put, List.setIfInBounds_toArray, List.set_cons_zero, List.set_cons_succ]
            refine wpAnyH_take (i := 8) (oi := ?o118) (v := ?v118) ?i118 (by kernel_rfl) (by kernel_rfl) (by kernel_rfl) ?q118 (Or.inl ⟨?w118, ?y118⟩) (by assumption) ?r118
            case' i118 => simp only [List.getElem?_toArray, List.getElem?_cons_succ, List.getElem?_cons_zero]
            case i118 => rfl
            case q118 => exact fun _ _ _ h => h
            case w118 => rfl
            case y118 => (intro w hSw; (try dsimp only at hSw); go_simp) <;> with_reducible rfl
            try simp only [Act.put, List.setIfInBounds_toArray, List.set_cons_zero, List.set_cons_succ]
            refine wpAnyH_ready (rs := [9]) (by kernel_rfl) (by simp) ?_
            refine AllReadyH.cons (o := ?o119) ?i119 (fun K' hK => ?_) AllReadyH.nil
            case' i119 => simp only [List.getElem?_toArray, List.getElem?_cons_succ, List.getElem?_cons_zero]
            case i119 => rfl
            go_simp
            have hmd := hbag.mind (g := g) (dh := dh) (kem := kem) hmost
            try simp only [World.size_alloc] at hmd
            refine hK.out _ _ (hF0.alloc _) (fun hHeld => ?_)
            clear hK K'
            try simp only [Act.put, List.setIfInBounds_toArray, List.set_cons_zero, List.set_cons_succ]
            refine wpAnyH_take (i := 10) (oi := ?o120) (v := ?v120) ?i120 (by kernel_rfl) (by kernel_rfl) (by kernel_rfl) ?q120 (Or.inl ⟨?w120, ?y120⟩) (by assumption) ?r120
            case' i120 => simp only [List.getElem?_toArray, List.getElem?_cons_succ, List.getElem?_cons_zero]
            case i120 => rfl
            case q120 => exact fun _ _ _ h => h
            case w120 => rfl
            case y120 => (intro w hSw; (try dsimp only at hSw); go_simp) <;> with_reducible rfl
            try simp only [Act.put, List.setIfInBounds_toArray, List.set_cons_zero, List.set_cons_succ]
            refine wpAnyH_done (by kernel_rfl) ?_ _
            go_wp2_with fail
            go_meet
            exact ⟨⟨_, _, _, _⟩, rfl, Lib.hid hmd.1, Lib.hid hmd.2⟩
        · go_simp
          replace hF0 := hF0.alloc (.cells (madeCells #[.bool false] (L.length + 1)) 4)
          replace hbag := hbag.addC
          refine hK.out _ _ hF0 (fun hHeld => ?_)
          clear hK K'
          try simp only [Act.put, List.setIfInBounds_toArray, List.set_cons_zero, List.set_cons_succ]
          refine wpAnyH_ready (rs := [2]) (by kernel_rfl) (by simp) ?_
          refine AllReadyH.cons (o := ?o121) ?i121 (fun K' hK => ?_) AllReadyH.nil
          case' i121 => simp only [List.getElem?_toArray, List.getElem?_cons_succ, List.getElem?_cons_zero]
          case i121 => rfl
          · go_simp
            go_at_call 50
            refine (rules_a _).mono ?_
            rintro e wX ⟨rfl, hbX⟩
            replace hF0 := hF0.below hbX
            replace hbag := hbag.next hbX
            clear hbX
            go_wp2_with fail
            refine hK.out _ _ hF0 (fun hHeld => ?_)
            clear hK K'
            try simp only [Act.put, List.setIfInBounds_toArray, List.set_cons_zero, List.set_cons_succ]
            refine wpAnyH_take (i := 8) (oi := ?o123) (v := ?v123) ?i123 (by kernel_rfl) (by kernel_rfl) (by kernel_rfl) ?q123 (Or.inl ⟨?w123, ?y123⟩) (by assumption) ?r123
            case' i123 => simp only [List.getElem?_toArray, List.getElem?_cons_succ, List.getElem?_cons_zero]
            case i123 => rfl
            case q123 => exact fun _ _ _ h => h
            case w123 => rfl
            case y123 => (intro w hSw; (try dsimp only at hSw); go_simp) <;> with_reducible rfl
            try simp only [Act.put, List.setIfInBounds_toArray, List.set_cons_zero, List.set_cons_succ]
            refine wpAnyH_ready (rs := [9]) (by kernel_rfl) (by simp) ?_
            refine AllReadyH.cons (o := ?o124) ?i124 (fun K' hK => ?_) AllReadyH.nil
            case' i124 => simp only [List.getElem?_toArray, List.getElem?_cons_succ, List.getElem?_cons_zero]
            case i124 => rfl
            go_simp
            have hmd := hbag.mind (g := g) (dh := dh) (kem := kem) hmost
            try simp only [World.size_alloc] at hmd
            refine hK.out _ _ (hF0.alloc _) (fun hHeld => ?_)
            clear hK K'
            try simp only [Act.put, List.setIfInBounds_toArray, List.set_cons_zero, List.set_cons_succ]
            refine wpAnyH_take (i := 10) (oi := ?o125) (v := ?v125) ?i125 (by kernel_rfl) (by kernel_rfl) (by kernel_rfl) ?q125 (Or.inl ⟨?w125, ?y125⟩) (by assumption) ?r125
            case' i125 => simp only [List.getElem?_toArray, List.getElem?_cons_succ, List.getElem?_cons_zero]
            case i125 => rfl
            case q125 => exact fun _ _ _ h => h
            case w125 => rfl
            case y125 => (intro w hSw; (try dsimp only at hSw); go_simp) <;> with_reducible rfl
            try simp only [Act.put, List.setIfInBounds_toArray, List.set_cons_zero, List.set_cons_succ]
            refine wpAnyH_done (by kernel_rfl) ?_ _
            go_wp2_with fail
            go_meet
            exact ⟨⟨_, _, _, _⟩, rfl, Lib.hid hmd.1, Lib.hid hmd.2⟩
    · go_simp
      replace hF0 := hF0.alloc (.cells (madeCells #[.slice none 0 0] (L.length + 1)) 41)
      replace hbag := hbag.addH
      refine hK.out _ _ hF0 (fun hHeld => ?_)
      clear hK K'
      try simp only [Act.put, List.setIfInBounds_toArray, List.set_cons_zero, List.set_cons_succ]
      refine wpAnyH_ready (rs := [2, 4, 5]) (by kernel_rfl) (by simp) ?_
      refine AllReadyH.cons (o := ?o126) ?i126 (fun K' hK => ?_) (AllReadyH.cons (o := ?o127) ?i127 (fun K' hK => ?_) (AllReadyH.cons (o := ?o128) ?i128 (fun K' hK => ?_) AllReadyH.nil))
      case' i126 => simp only [List.getElem?_toArray, List.getElem?_cons_succ, List.getElem?_cons_zero]
      case i126 => rfl
      case' i127 => simp only [List.getElem?_toArray, List.getElem?_cons_succ, List.getElem?_cons_zero]
      case i127 => rfl
      case' i128 => simp only [List.getElem?_toArray, List.getElem?_cons_succ, List.getElem?_cons_zero]
      case i128 => rfl
      · go_simp
        go_at_call 50
        refine (rules_a _).mono ?_
        rintro e wX ⟨rfl, hbX⟩
        replace hF0 := hF0.below hbX
        replace hbag := hbag.next hbX
        clear hbX
        go_wp2_with fail
        refine hK.out _ _ hF0 (fun hHeld => ?_)
        clear hK K'
        try simp only [Act.put, List.setIfInBounds_toArray, List.set_cons_zero, List.set_cons_succ]
        refine wpAnyH_ready (rs := [4, 5]) (by kernel_rfl) (by simp) ?_
        refine AllReadyH.cons (o := ?o129) ?i129 (fun K' hK => ?_) (AllReadyH.cons (o := ?o130) ?i130 (fun K' hK => ?_) AllReadyH.nil)
        case' i129 => simp only [List.getElem?_toArray, List.getElem?_cons_succ, List.getElem?_cons_zero]
        case i129 => rfl
        case' i130 => simp only [List.getElem?_toArray, List.getElem?_cons_succ, List.getElem?_cons_zero]
        case i130 => rfl
        · go_simp
          replace hF0 := hF0.alloc (.cells (madeCells #[.bool false] (L.length + 1)) 4)
          replace hbag := hbag.addC
          refine hK.out _ _ hF0 (fun hHeld => ?_)
          clear hK K'
          try simp only [Act.put, List.setIfInBounds_toArray, List.set_cons_zero, List.set_cons_succ]
          refine wpAnyH_ready (rs := [5]) (by kernel_rfl) (by simp) ?_
          refine AllReadyH.cons (o := ?o131) ?i131 (fun K' hK => ?_) AllReadyH.nil
          case' i131 => simp only [List.getElem?_toArray, List.getElem?_cons_succ, List.getElem?_cons_zero]
          case i131 => rfl
          · go_simp
            replace hF0 := hF0.alloc (.map #[] 0)
            replace hbag := hbag.addN
            refine hK.out _ _ hF0 (fun hHeld => ?_)
            clear hK K'
            try simp only [Act.put, List.setIfInBounds_toArray, List.set_cons_zero, List.set_cons_succ]
            refine wpAnyH_take (i := 8) (oi := ?o133) (v := ?v133) ?i133 (by kernel_rfl) (by kernel_rfl) (by kernel_rfl) ?q133 (Or.inl ⟨?w133, ?y133⟩) (by assumption) ?r133
            case' i133 => simp only [List.getElem?_toArray, List.getElem?_cons_succ, List.getElem?_cons_zero]
            case i133 => rfl
            case q133 => exact fun _ _ _ h => h
            case w133 => rfl
            case y133 => (intro w hSw; (try dsimp only at hSw); go_simp) <;> with_reducible rfl
            try simp only [Act.put, List.setIfInBounds_toArray, List.set_cons_zero, List.set_cons_succ]
            refine wpAnyH_ready (rs := [9]) (by kernel_rfl) (by simp) ?_
            refine AllReadyH.cons (o := ?o134) ?i134 (fun K' hK => ?_) AllReadyH.nil
            case' i134 => simp only [List.getElem?_toArray, List.getElem?_cons_succ, List.getElem?_cons_zero]
            case i134 => rfl
            go_simp
            have hmd := hbag.mind (g := g) (dh := dh) (kem := kem) hmost
            try simp only [World.size_alloc] at hmd
            refine hK.out _ _ (hF0.alloc _) (fun hHeld => ?_)
            clear hK K'
            try simp only [Act.put, List.setIfInBounds_toArray, List.set_cons_zero, List.set_cons_succ]
            refine wpAnyH_take (i := 10) (oi := ?o135) (v := ?v135) ?i135 (by kernel_rfl) (by kernel_rfl) (by kernel_rfl) ?q135 (Or.inl ⟨?w135, ?y135⟩) (by assumption) ?r135
            case' i135 => simp only [List.getElem?_toArray, List.getElem?_cons_succ, List.getElem?_cons_zero]
            case i135 => rfl
            case q135 => exact fun _ _ _ h => h
            case w135 => rfl
            case y135 => (intro w hSw; (try dsimp only at hSw); go_simp) <;> with_reducible rfl
            try simp only [Act.put, List.setIfInBounds_toArray, List.set_cons_zero, List.set_cons_succ]
            refine wpAnyH_done (by kernel_rfl) ?_ _
            go_wp2_with fail
            go_meet
            exact ⟨⟨_, _, _, _⟩, rfl, Lib.hid hmd.1, Lib.hid hmd.2⟩
        · go_simp
          replace hF0 := hF0.alloc (.map #[] 0)
          replace hbag := hbag.addN
          refine hK.out _ _ hF0 (fun hHeld => ?_)
          clear hK K'
          try simp only [Act.put, List.setIfInBounds_toArray, List.set_cons_zero, List.set_cons_succ]
          refine wpAnyH_ready (rs := [4]) (by kernel_rfl) (by simp) ?_
          refine AllReadyH.cons (o := ?o136) ?i136 (fun K' hK => ?_) AllReadyH.nil
          case' i136 => simp only [List.getElem?_toArray, List.getElem?_cons_succ, List.getElem?_cons_zero]
          case i136 => rfl
          · go_simp
            replace hF0 := hF0.alloc (.cells (madeCells #[.bool false] (L.length + 1)) 4)
            replace hbag := hbag.addC
            refine hK.out _ _ hF0 (fun hHeld => ?_)
            clear hK K'
            try simp only [Act.put, List.setIfInBounds_toArray, List.set_cons_zero, List.set_cons_succ]
            refine wpAnyH_take (i := 8) (oi := ?o138) (v := ?v138) ?i138 (by kernel_rfl) (by kernel_rfl) (by kernel_rfl) ?q138 (Or.inl ⟨?w138, ?y138⟩) (by assumption) ?r138
            case' i138 => simp only [List.getElem?_toArray, List.getElem?_cons_succ, List.getElem?_cons_zero]
            case i138 => rfl
            case q138 => exact fun _ _ _ h => h
            case w138 => rfl
            case y138 => (intro w hSw; (try dsimp only at hSw); go_simp) <;> with_reducible rfl
            try simp only [Act.put, List.setIfInBounds_toArray, List.set_cons_zero, List.set_cons_succ]
            refine wpAnyH_ready (rs := [9]) (by kernel_rfl) (by simp) ?_
            refine AllReadyH.cons (o := ?o139) ?i139 (fun K' hK => ?_) AllReadyH.nil
            case' i139 => simp only [List.getElem?_toArray, List.getElem?_cons_succ, List.getElem?_cons_zero]
            case i139 => rfl
            go_simp
            have hmd := hbag.mind (g := g) (dh := dh) (kem := kem) hmost
            try simp only [World.size_alloc] at hmd
            refine hK.out _ _ (hF0.alloc _) (fun hHeld => ?_)
            clear hK K'
            try simp only [Act.put, List.setIfInBounds_toArray, List.set_cons_zero, List.set_cons_succ]
            refine wpAnyH_take (i := 10) (oi := ?o140) (v := ?v140) ?i140 (by kernel_rfl) (by kernel_rfl) (by kernel_rfl) ?q140 (Or.inl ⟨?w140, ?y140⟩) (by assumption) ?r140
            case' i140 => simp only [List.getElem?_toArray, List.getElem?_cons_succ, List.getElem?_cons_zero]
            case i140 => rfl
            case q140 => exact fun _ _ _ h => h
            case w140 => rfl
            case y140 => (intro w hSw; (try dsimp only at hSw); go_simp) <;> with_reducible rfl
            try simp only [Act.put, List.setIfInBounds_toArray, List.set_cons_zero, List.set_cons_succ]
            refine wpAnyH_done (by kernel_rfl) ?_ _
            go_wp2_with fail
            go_meet
            exact ⟨⟨_, _, _, _⟩, rfl, Lib.hid hmd.1, Lib.hid hmd.2⟩
      · go_simp
        replace hF0 := hF0.alloc (.cells (madeCells #[.bool false] (L.length + 1)) 4)
        replace hbag := hbag.addC
        refine hK.out _ _ hF0 (fun hHeld => ?_)
        clear hK K'
        try simp only [Act.put, List.setIfInBounds_toArray, List.set_cons_zero, List.set_cons_succ]
        refine wpAnyH_ready (rs := [2, 5]) (by kernel_rfl) (by simp) ?_
        refine AllReadyH.cons (o := ?o141) ?i141 (fun K' hK => ?_) (AllReadyH.cons (o := ?o142) ?i142 (fun K' hK => ?_) AllReadyH.nil)
        case' i141 => simp only [List.getElem?_toArray, List.getElem?_cons_succ, List.getElem?_cons_zero]
        case i141 => rfl
        case' i142 => simp only [List.getElem?_toArray, List.getElem?_cons_succ, List.getElem?_cons_zero]
        case i142 => rfl
        · go_simp
          go_at_call 50
          refine (rules_a _).mono ?_
          rintro e wX ⟨rfl, hbX⟩
          replace hF0 := hF0.below hbX
          replace hbag := hbag.next hbX
          clear hbX
          go_wp2_with fail
          refine hK.out _ _ hF0 (fun hHeld => ?_)
          clear hK K'
          try simp only [Act.put, List.setIfInBounds_toArray, List.set_cons_zero, List.set_cons_succ]
          refine wpAnyH_ready (rs := [5]) (by kernel_rfl) (by simp) ?_
          refine AllReadyH.cons (o := ?o143) ?i143 (fun K' hK => ?_) AllReadyH.nil
          case' i143 => simp only [List.getElem?_toArray, List.getElem?_cons_succ, List.getElem?_cons_zero]
          case i143 => rfl
          · go_simp
            replace hF0 := hF0.alloc (.map #[] 0)
            replace hbag := hbag.addN
            refine hK.out _ _ hF0 (fun hHeld => ?_)
            clear hK K'
            try simp only [Act.put, List.setIfInBounds_toArray, List.set_cons_zero, List.set_cons_succ]
            refine wpAnyH_take (i := 8) (oi := ?o145) (v := ?v145) ?i145 (by kernel_rfl) (by kernel_rfl) (by kernel_rfl) ?q145 (Or.inl ⟨?w145, ?y145⟩) (by assumption) ?r145
            case' i145 => simp only [List.getElem?_toArray, List.getElem?_cons_succ, List.getElem?_cons_zero]
            case i145 => rfl
            case q145 => exact fun _ _ _ h => h
            case w145 => rfl
            case y145 => (intro w hSw; (try dsimp only at hSw); go_simp) <;> with_reducible rfl
            try simp only [Act.put, List.setIfInBounds_toArray, List.set_cons_zero, List.set_cons_succ]
            refine wpAnyH_ready (rs := [9]) (by kernel_rfl) (by simp) ?_
            refine AllReadyH.cons (o := ?o146) ?i146 (fun K' hK => ?_) AllReadyH.nil
            case' i146 => simp only [List.getElem?_toArray, List.getElem?_cons_succ, List.getElem?_cons_zero]
            case i146 => rfl
            go_simp
            have hmd := hbag.mind (g := g) (dh := dh) (kem := kem) hmost
            try simp only [World.size_alloc] at hmd
            refine hK.out _ _ (hF0.alloc _) (fun hHeld => ?_)
            clear hK K'
            try simp only [Act.put, List.setIfInBounds_toArray, List.set_cons_zero, List.set_cons_succ]
            refine wpAnyH_take (i := 10) (oi := ?o147) (v := ?v147) ?i147 (by kernel_rfl) (by kernel_rfl) (by kernel_rfl) ?q147 (Or.inl ⟨?w147, ?y147⟩) (by assumption) ?r147
            case' i147 => simp only [List.getElem?_toArray, List.getElem?_cons_succ, List.getElem?_cons_zero]
            case i147 => rfl
            case q147 => exact fun _ _ _ h => h
            case w147 => rfl
            case y147 => (intro w hSw; (try dsimp only at hSw); go_simp) <;> with_reducible rfl
            try simp only [Act.put, List.setIfInBounds_toArray, List.set_cons_zero, List.set_cons_succ]
            refine wpAnyH_done (by kernel_rfl) ?_ _
            go_wp2_with fail
            go_meet
            exact ⟨⟨_, _, _, _⟩, rfl, Lib.hid hmd.1, Lib.hid hmd.2⟩
        · go_simp
          replace hF0 := hF0.alloc (.map #[] 0)
          replace hbag := hbag.addN
          refine hK.out _ _ hF0 (fun hHeld => ?_)
          clear hK K'
          try simp only [Act.put, List.setIfInBounds_toArray, List.set_cons_zero, List.set_cons_succ]
          refine wpAnyH_ready (rs := [2]) (by kernel_rfl) (by simp) ?_
          refine AllReadyH.cons (o := ?o148) ?i148 (fun K' hK => ?_) AllReadyH.nil
          case' i148 => simp only [List.getElem?_toArray, List.getElem?_cons_succ, List.getElem?_cons_zero]
          case i148 => rfl
          · go_simp
            go_at_call 50
            refine (rules_a _).mono ?_
            rintro e wX ⟨rfl, hbX⟩
            replace hF0 := hF0.below hbX
            replace hbag := hbag.next hbX
            clear hbX
            go_wp2_with fail
            refine hK.out _ _ hF0 (fun hHeld => ?_)
            clear hK K'
            try simp only [Act.put, List.setIfInBounds_toArray, List.set_cons_zero, List.set_cons_succ]
            refine wpAnyH_take (i := 8) (oi := ?o150) (v := ?v150) ?i150 (by kernel_rfl) (by kernel_rfl) (by kernel_rfl) ?q150 (Or.inl ⟨?w150, ?y150⟩) (by assumption) ?r150
            case' i150 => simp only [List.getElem?_toArray, List.getElem?_cons_succ, List.getElem?_cons_zero]
            case i150 => rfl
            case q150 => exact fun _ _ _ h => h
            case w150 => rfl
            case y150 => (intro w hSw; (try dsimp only at hSw); go_simp) <;> with_reducible rfl
            try simp only [Act.put, List.setIfInBounds_toArray, List.set_cons_zero, List.set_cons_succ]
            refine wpAnyH_ready (rs := [9]) (by kernel_rfl) (by simp) ?_
            refine AllReadyH.cons (o := ?o151) ?i151 (fun K' hK => ?_) AllReadyH.nil
            case' i151 => simp only [List.getElem?_toArray, List.getElem?_cons_succ, List.getElem?_cons_zero]
            case i151 => rfl
            go_simp
            have hmd := hbag.mind (g := g) (dh := dh) (kem := kem) hmost
            try simp only [World.size_alloc] at hmd
            refine hK.out _ _ (hF0.alloc _) (fun hHeld => ?_)
            clear hK K'
            try simp only [Act.put, List.setIfInBounds_toArray, List.set_cons_zero, List.set_cons_succ]
            refine wpAnyH_take (i := 10) (oi := ?o152) (v := ?v152) ?i152 (by kernel_rfl) (by kernel_rfl) (by kernel_rfl) ?q152 (Or.inl ⟨?w152, ?y152⟩) (by assumption) ?r152
            case' i152 => simp only [List.getElem?_toArray, List.getElem?_cons_succ, List.getElem?_cons_zero]
            case i152 => rfl
            case q152 => exact fun _ _ _ h => h
            case w152 => rfl
            case y152 => (intro w hSw; (try dsimp only at hSw); go_simp) <;> with_reducible rfl
            try simp only [Act.put, List.setIfInBounds_toArray, List.set_cons_zero, List.set_cons_succ]
            refine wpAnyH_done (by kernel_rfl) ?_ _
            go_wp2_with fail
            go_meet
            exact ⟨⟨_, _, _, _⟩, rfl, Lib.hid hmd.1, Lib.hid hmd.2⟩
      · go_simp
        replace hF0 := hF0.alloc (.map #[] 0)
        replace hbag := hbag.addN
        refine hK.out _ _ hF0 (fun hHeld => ?_)
        clear hK K'
        try simp only [Act.put, List.setIfInBounds_toArray, List.set_cons_zero, List.set_cons_succ]
        refine wpAnyH_ready (rs := [2, 4]) (by kernel_rfl) (by simp) ?_
        refine AllReadyH.cons (o := ?o153) ?i153 (fun K' hK => ?_) (AllReadyH.cons (o := ?o154) ?i154 (fun K' hK => ?_) AllReadyH.nil)
        case' i153 => simp only [List.getElem?_toArray, List.getElem?_cons_succ, List.getElem?_cons_zero]
        case i153 => rfl
        case' i154 => simp only [List.getElem?_toArray, List.getElem?_cons_succ, List.getElem?_cons_zero]
        case i154 => rfl
        · go_simp
          go_at_call 50
          refine (rules_a _).mono ?_
          rintro e wX ⟨rfl, hbX⟩
          replace hF0 := hF0.below hbX
          replace hbag := hbag.next hbX
          clear hbX
          go_wp2_with fail
          refine hK.out _ _ hF0 (fun hHeld => ?_)
          clear hK K'
          try simp only [Act.put, List.setIfInBounds_toArray, List.set_cons_zero, List.set_cons_succ]
          refine wpAnyH_ready (rs := [4]) (by kernel_rfl) (by simp) ?_
          refine AllReadyH.cons (o := ?o155) ?i155 (fun K' hK => ?_) AllReadyH.nil
          case' i155 => simp only [List.getElem?_toArray, List.getElem?_cons_succ, List.getElem?_cons_zero]
          case i155 => rfl
          · go_simp
            replace hF0 := hF0.alloc (.cells (madeCells #[.bool false] (L.length + 1)) 4)
            replace hbag := hbag.addC
            refine hK.out _ _ hF0 (fun hHeld => ?_)
            clear hK K'
            try simp only [Act.put, List.setIfInBounds_toArray, List.set_cons_zero, List.set_cons_succ]
            refine wpAnyH_take (i := 8) (oi := ?o157) (v := ?v157) ?i157 (by kernel_rfl) (by kernel_rfl) (by kernel_rfl) ?q157 (Or.inl ⟨?w157, ?y157⟩) (by assumption) ?r157
            case' i157 => simp only [List.getElem?_toArray, List.getElem?_cons_succ, List.getElem?_cons_zero]
            case i157 => rfl
            case q157 => exact fun _ _ _ h => h
            case w157 => rfl
            case y157 => (intro w hSw; (try dsimp only at hSw); go_simp) <;> with_reducible rfl
            try simp only [Act.put, List.setIfInBounds_toArray, List.set_cons_zero, List.set_cons_succ]
            refine wpAnyH_ready (rs := [9]) (by kernel_rfl) (by simp) ?_
            refine AllReadyH.cons (o := ?o158) ?i158 (fun K' hK => ?_) AllReadyH.nil
            case' i158 => simp only [List.getElem?_toArray, List.getElem?_cons_succ, List.getElem?_cons_zero]
            case i158 => rfl
            go_simp
            have hmd := hbag.mind (g := g) (dh := dh) (kem := kem) hmost
            try simp only [World.size_alloc] at hmd
            refine hK.out _ _ (hF0.alloc _) (fun hHeld => ?_)
            clear hK K'
            try simp only [Act.put, List.setIfInBounds_toArray, List.set_cons_zero, List.set_cons_succ]
            refine wpAnyH_take (i := 10) (oi := ?o159) (v := ?v159) ?i159 (by kernel_rfl) (by kernel_rfl) (by kernel_rfl) ?q159 (Or.inl ⟨?w159, ?y159⟩) (by assumption) ?r159
            case' i159 => simp only [List.getElem?_toArray, List.getElem?_cons_succ, List.getElem?_cons_zero]
            case i159 => rfl
            case q159 => exact fun _ _ _ h => h
            case w159 => rfl
            case y159 => (intro w hSw; (try dsimp only at hSw); go_simp) <;> with_reducible rfl
            try simp only [Act.put, List.setIfInBounds_toArray, List.set_cons_zero, List.set_cons_succ]
            refine wpAnyH_done (by kernel_rfl) ?_ _
            go_wp2_with fail
            go_meet
            exact ⟨⟨_, _, _, _⟩, rfl, Lib.hid hmd.1, Lib.hid hmd.2⟩
        · go_simp
          replace hF0 := hF0.alloc (.cells (madeCells #[.bool false] (L.length + 1)) 4)
          replace hbag := hbag.addC
          refine hK.out _ _ hF0 (fun hHeld => ?_)
          clear hK K'
          try simp only [Act.put, List.setIfInBounds_toArray, List.set_cons_zero, List.set_cons_succ]
          refine wpAnyH_ready (rs := [2]) (by kernel_rfl) (by simp) ?_
          refine AllReadyH.cons (o := ?o160) ?i160 (fun K' hK => ?_) AllReadyH.nil
          case' i160 => simp only [List.getElem?_toArray, List.getElem?_cons_succ, List.getElem?_cons_zero]
          case i160 => rfl
          · go_simp
            go_at_call 50
            refine (rules_a _).mono ?_
            rintro e wX ⟨rfl, hbX⟩
            replace hF0 := hF0.below hbX
            replace hbag := hbag.next hbX
            clear hbX
            go_wp2_with fail
            refine hK.out _ _ hF0 (fun hHeld => ?_)
            clear hK K'
            try simp only [Act.put, List.setIfInBounds_toArray, List.set_cons_zero, List.set_cons_succ]
            refine wpAnyH_take (i := 8) (oi := ?o162) (v := ?v162) ?i162 (by kernel_rfl) (by kernel_rfl) (by kernel_rfl) ?q162 (Or.inl ⟨?w162, ?y162⟩) (by assumption) ?r162
            case' i162 => simp only [List.getElem?_toArray, List.getElem?_cons_succ, List.getElem?_cons_zero]
            case i162 => rfl
            case q162 => exact fun _ _ _ h => h
            case w162 => rfl
            case y162 => (intro w hSw; (try dsimp only at hSw); go_simp) <;> with_reducible rfl
            try simp only [Act.put, List.setIfInBounds_toArray, List.set_cons_zero, List.set_cons_succ]
            refine wpAnyH_ready (rs := [9]) (by kernel_rfl) (by simp) ?_
            refine AllReadyH.cons (o := ?o163) ?i163 (fun K' hK => ?_) AllReadyH.nil
            case' i163 => simp only [List.getElem?_toArray, List.getElem?_cons_succ, List.getElem?_cons_zero]
            case i163 => rfl
            go_simp
            have hmd := hbag.mind (g := g) (dh := dh) (kem := kem) hmost
            try simp only [World.size_alloc] at hmd
            refine hK.out _ _ (hF0.alloc _) (fun hHeld => ?_)
            clear hK K'
            try simp only [Act.put, List.setIfInBounds_toArray, List.set_cons_zero, List.set_cons_succ]
            refine wpAnyH_take (i := 10) (oi := ?o164) (v := ?v164) ?i164 (by kernel_rfl) (by kernel_rfl) (by kernel_rfl) ?q164 (Or.inl ⟨?w164, ?y164⟩) (by assumption) ?r164
            case' i164 => simp only [List.getElem?_toArray, List.getElem?_cons_succ, List.getElem?_cons_zero]
            case i164 => rfl
            case q164 => exact fun _ _ _ h => h
            case w164 => rfl
            case y164 => (intro w hSw; (try dsimp only at hSw); go_simp) <;> with_reducible rfl
            try simp only [Act.put, List.setIfInBounds_toArray, List.set_cons_zero, List.set_cons_succ]
            refine wpAnyH_done (by kernel_rfl) ?_ _
            go_wp2_with fail
            go_meet
            exact ⟨⟨_, _, _, _⟩, rfl, Lib.hid hmd.1, Lib.hid hmd.2⟩
  case rest =>
    obtain ⟨B, rfl, HM0, HF0⟩ := hcut
    clear z0 z1 hmk1 hmk2 hmm hF0 hbag HB1
    go_wp2_with fail
    go_loopw [7] (fun s7 wr => ∃ k : Nat, k ≤ L.length ∧ s7 = .int .i64 ((k : Int) + 1) ∧ Hid (Mind w0 g L dh kem B (noteOf L k) (hangs L 0) (fun _ => .slice none 0 0) (.slice none 0 0) [] wr) ∧ Hid (Few B (noteOf L k) k wr)) (fun s7 _ => L.length + 1 - (intOf s7).toNat)
    case atStart => exact ⟨0, Nat.zero_le _, by go_num, HM0, HF0⟩
    case round =>
      clear HM0 HF0
      obtain ⟨k, hk, rfl, HM, HF⟩ := hrel
      by_cases hlt : k < L.length
      · have e1 : decide (k < L.length) = true := by simpa using hlt
        have hkb : (k : Int) < 1048576 := by omega
        have HLT := Lib.hid hlt
        clear hk
        go_wp2_with fail
        refine (note_k HG.out HU.out HW.out k HLT.out _ HM.out HF.out).mono ?_
        rintro e w2 ⟨rfl, hm2, hf2⟩
        have HM2 := Lib.hid hm2
        have HF2 := Lib.hid hf2
        clear hm2 hf2 HM HF
        go_wp2_with fail
        go_roundw
        case rel => exact ⟨k + 1, by have := HLT.out; omega, by go_num, HM2, HF2⟩
        case measure => have := HLT.out; simp [intOf]; omega
      · obtain rfl : k = L.length := by omega
        have e1 : decide (L.length < L.length) = false := by simp
        clear hlt hk
        go_wp2_with fail
        clear HF
        go_loopw [8] (fun s8 wr => ∃ (k : Nat) (vs : Nat → Value), k ≤ L.length ∧ s8 = .int .i64 ((k : Int) + 1) ∧ Hid (MindF w0 g L dh kem B (hangs L k) vs (.slice none 0 0) [] wr)) (fun s8 _ => L.length + 1 - (intOf s8).toNat)
        case atStart => exact ⟨0, _, Nat.zero_le _, by go_num, HM⟩
        case round =>
          clear HM e1
          obtain ⟨k, vs, hk, rfl, HM⟩ := hrel
          by_cases hlt : k < L.length
          · have e1 : decide (k < L.length) = true := by simpa using hlt
            have hkb : (k : Int) < 1048576 := by omega
            have HLT := Lib.hid hlt
            clear hk
            go_wp2_with fail
            refine (hang_k HG.out HS.out k HLT.out _ HM.out).mono ?_
            rintro e w2 ⟨rfl, vs2, hm2⟩
            have HM2 := Lib.hid hm2
            clear hm2 HM
            go_wp2_with fail
            go_roundw
            case rel => exact ⟨k + 1, vs2, by have := HLT.out; omega, by go_num, HM2⟩
            case measure => have := HLT.out; simp [intOf]; omega
          · obtain rfl : k = L.length := by omega
            have e1 : decide (L.length < L.length) = false := by simp
            clear hlt hk
            go_wp2_with fail
            go_ret
            exact ⟨B, vs, rfl, HM.out⟩
end
end Go.Proofs.Ytlnpfeecaiecaaa
