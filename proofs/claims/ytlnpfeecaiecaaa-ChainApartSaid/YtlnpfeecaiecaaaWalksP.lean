/- The document's Put, for every store that the call owns and every term. -/
import Derived.Test.YtlnpfeecaiecaaaWalksG
import Derived.Deep.AppendLies
import Derived.Deep.RegionLaw
import Derived.Deep.RegionHeld3
namespace Go.Proofs.Ytlnpfeecaiecaaa
open Go.RowKit
set_option linter.unusedVariables false
set_option maxRecDepth 20000

def eqB (u t : Tm) : Bool := u.K == t.K && (u.S.toList == t.S.toList && (u.N == t.N && (u.A == t.A && (u.B == t.B && u.C == t.C))))
theorem eqB_iff (u t : Tm) : eqB u t = true ↔ u = t := by
  obtain ⟨K', S', N', A', B', C'⟩ := u
  obtain ⟨K, S, N, A, B, C⟩ := t
  simp only [eqB, Bool.and_eq_true, beq_iff_eq, Tm.mk.injEq]
  have : S'.toList = S.toList ↔ S' = S := by
    rw [ByteArray.toList_eq, ByteArray.toList_eq]
    constructor
    · intro h; apply ByteArray.ext; apply Array.ext'; exact h
    · rintro rfl; rfl
  rw [this]
theorem held37 : Try.prog.stoodInHeld 74 = false := by kernel_rfl
theorem guard37 : Try.prog.eqGuardType Try.prog.depth 74 = false := by kernel_rfl
theorem fields37 : Try.prog.underlying 74 = some (.struct (Try.prog.fieldsOf 74)) := by kernel_rfl
theorem eql_term (u t : Tm) (w : World) : (binOp .eql 74 u.v t.v).run Try.prog w = .ok (.bool (eqB u t)) w := by
  unfold Tm.v
  rw [run_eql_struct, run_equalIn_agg _ _ _ _ _ fields37 held37]
  have hf : (Try.prog.fieldsOf 74).toList = (match Try.prog.underlying 74 with | some (.struct fs) => fs.toList | _ => []) := by kernel_rfl
  rw [hf, Try.underlying74]
  have i3 := fun (w : World) (a b : Int) => run_equalIn_int (P := Try.prog) w 9998 3 .i64 .i64 a b Try.underlying3
  have i30 := fun (w : World) (a b : Int) => run_equalIn_int (P := Try.prog) w 9998 57 .u64 .u64 a b Try.underlying57
  have i9 := fun (w : World) (a b : ByteArray) => run_equalIn_string (P := Try.prog) w 9998 9 a b Try.underlying9
  simp only [Op.eqFields, eqB]
  cases h1 : (u.K == t.K)
  · go_simp
  cases h2 : (u.S.toList == t.S.toList)
  · go_simp
  cases h3 : (u.N == t.N)
  · go_simp
  cases h4 : (u.A == t.A)
  · go_simp
  cases h5 : (u.B == t.B)
  · go_simp
  cases h6 : (u.C == t.C)
  · go_simp
  go_simp

theorem RS.below {base g : Nat} {sv : Value} {L : List Tm} {most : Int} {w w' : World} (h : RS base g sv L most w) (hb : Below w.heap.size w w') : RS base g sv L most w' := by
  obtain ⟨h1, h2, h3, h4, h5⟩ := h
  have hg : g < w.heap.size := by
    rcases Nat.lt_or_ge g w.heap.size with q | q
    · exact q
    · rw [Array.getElem?_eq_none q] at h1; cases h1
  refine ⟨by rw [hb.block g hg]; exact h1, h2.kept (row := none) ⟨hb.os, hb.tape, hb.output, hb.size, fun k hk _ => hb.block k hk⟩ (by cases sv.ownBlock <;> simp), h3, h4, h5⟩

/-- The world has turned at the blocks of S alone, and may have new ones. -/
structure Chg (S : Nat → Prop) (w w' : World) : Prop where
  os : w'.os = w.os
  tape : w'.tape = w.tape
  output : w'.output = w.output
  size : w.heap.size ≤ w'.heap.size
  block : ∀ k, k < w.heap.size → ¬ S k → w'.heap[k]? = w.heap[k]?
theorem Chg.of_below {S : Nat → Prop} {w w' : World} (h : Below w.heap.size w w') : Chg S w w' := ⟨h.os, h.tape, h.output, h.size, fun k hk _ => h.block k hk⟩
theorem Chg.trans {S : Nat → Prop} {a b c : World} (h : Chg S a b) (k : Chg S b c) : Chg S a c :=
  ⟨k.os.trans h.os, k.tape.trans h.tape, k.output.trans h.output, Nat.le_trans h.size k.size, fun j hj hs => (k.block j (Nat.lt_of_lt_of_le hj h.size) hs).trans (h.block j hj hs)⟩

/-- What the document's Put answers, and what is there then. -/
def PutIs (L : List Tm) (most : Int) (t : Tm) (name err : Int) (L' : List Tm) : Prop :=
  (¬ May L.length t.K t.S t.N t.A t.B t.C ∧ name = 0 ∧ err = 1 ∧ L' = L) ∨
  (May L.length t.K t.S t.N t.A t.B t.C ∧ ∃ k, k < L.length ∧ L.getD k zeroT = t ∧ (∀ j, j < k → L.getD j zeroT ≠ t) ∧ name = (k : Int) + 1 ∧ err = 0 ∧ L' = L) ∨
  (May L.length t.K t.S t.N t.A t.B t.C ∧ (∀ j, j < L.length → L.getD j zeroT ≠ t) ∧ most ≤ (L.length : Int) ∧ name = 0 ∧ err = 4 ∧ L' = L) ∨
  (May L.length t.K t.S t.N t.A t.B t.C ∧ (∀ j, j < L.length → L.getD j zeroT ≠ t) ∧ (L.length : Int) < most ∧ name = (L.length : Int) + 1 ∧ err = 0 ∧ L' = L ++ [t])
def PutPost (base g : Nat) (sv : Value) (L : List Tm) (most : Int) (t : Tm) (w : World) (e : Ending) (w' : World) : Prop :=
  ∃ sv' name err L', e = .returned (.tuple #[.int .i64 name, .int .i64 err]) ∧ PutIs L most t name err L' ∧ RS base g sv' L' most w' ∧ Chg (fun k => k = g ∨ some k = sv.ownBlock) w w' ∧
    (sv'.ownBlock = sv.ownBlock ∨ ∃ k, sv'.ownBlock = some k ∧ w.heap.size ≤ k)

/-- The cells of the term that was handed in, where the call has laid them. -/
def Box (w : World) (t : Tm) (wr : World) : Prop := wr.heap[w.heap.size]? = some (.cells #[.int .i64 t.K, .string t.S, .int .u64 t.N, .int .i64 t.A, .int .i64 t.B, .int .i64 t.C] 74 (0, 0)) ∧ Below w.heap.size w wr
theorem Box.at {w wr : World} {t : Tm} (h : Box w t wr) (j : Nat) : wr.cell? ⟨w.heap.size, j, none⟩ = #[Value.int .i64 t.K, .string t.S, .int .u64 t.N, .int .i64 t.A, .int .i64 t.B, .int .i64 t.C][j]? := cell_of_row wr _ j _ _ _ h.1
theorem Box.drewN {w wr : World} {t : Tm} (h : Box w t wr) (q : Nat) : Box w t (wr.drewN q) := ⟨h.1, h.2.trans ⟨rfl, rfl, rfl, Nat.le_refl _, fun _ _ => rfl⟩⟩
theorem same_post {base g : Nat} {sv : Value} {L : List Tm} {most : Int} {t : Tm} {w w' : World} {name err : Int} (h : RS base g sv L most w) (hb : Below w.heap.size w w') (hp : PutIs L most t name err L) :
    PutPost base g sv L most t w (.returned (.tuple #[.int .i64 name, .int .i64 err])) w' :=
  ⟨sv, name, err, L, rfl, hp, h.below hb, .of_below hb, .inl rfl⟩

theorem info37 : (Try.prog.info? 74).map (fun i => (i.zero, i.size, i.bytes)) = some (some (.agg #[.int .i64 0, .string ⟨#[]⟩, .int .u64 0, .int .i64 0, .int .i64 0, .int .i64 0]), 6, 56) := by kernel_rfl

theorem far_cell {wq w1 : World} {o : Obj} {row : Option Nat} {g : Nat} {v : Value} (hg : g < wq.heap.size) (hgrow : ((wq.alloc o).drew).grownBy w1 row) (hne : row ≠ some g) (c : wq.cell? ⟨g, 0, none⟩ = some v) : w1.cell? ⟨g, 0, none⟩ = some v := by
  have hsz : ((wq.alloc o).drew).heap.size = wq.heap.size + 1 := by show (wq.heap.push _).size = _; simp
  rw [hgrow.cell_far ⟨g, 0, none⟩ (by rw [hsz]; dsimp only; omega) (Ne.symm hne)]
  show (wq.alloc o).cell? _ = _
  rw [World.cell?_alloc_past (hn := hg)]; exact c
theorem far_free {wq w1 : World} {o : Obj} {row : Option Nat} {g : Nat} (hg : g < wq.heap.size) (hgrow : ((wq.alloc o).drew).grownBy w1 row) (hne : row ≠ some g) (c : wq.frozen? ⟨g, 0, none⟩ = false) : w1.frozen? ⟨g, 0, none⟩ = false := by
  have hsz : ((wq.alloc o).drew).heap.size = wq.heap.size + 1 := by show (wq.heap.push _).size = _; simp
  rw [hgrow.frozen_far ⟨g, 0, none⟩ (by rw [hsz]; dsimp only; omega) (Ne.symm hne)]
  show (wq.alloc o).frozen? _ = _
  rw [World.frozen?_alloc_past (hn := hg)]; exact c
theorem grown_post {base g : Nat} {a : Option Addr} {cap : Nat} {L : List Tm} {most : Int} {t : Tm} {w wq w1 : World} {gg cap' : Nat} (hR : RS base g (.slice a L.length cap) L most w) (hB : Box w t wq) (hmost : most ≤ 1048576) (hlen : (L.length : Int) < most)
    (hmay : May L.length t.K t.S t.N t.A t.B t.C) (hj : ∀ j, j < L.length → L.getD j zeroT ≠ t)
    (hown : w1.ownsRow base 74 6 (.slice (some ⟨gg, 0, none⟩) (L.length + 1) cap') (L.length + 1) (cellsL L ++ t.cl)) (hgrow : ((wq.alloc (.cells #[.int .i64 t.K, .string t.S, .int .u64 t.N, .int .i64 t.A, .int .i64 t.B, .int .i64 t.C] 74)).drew).grownBy w1 (Value.slice a L.length cap).ownBlock)
    (hat : (Value.slice a L.length cap).ownBlock = some gg ∨ gg = wq.heap.size + 1) :
    PutPost base g (.slice a L.length cap) L most t w (.returned (.tuple #[.int .i64 ((L.length : Int) + 1), .int .i64 0])) (w1.setCell ⟨g, 0, none⟩ (.slice (some ⟨gg, 0, none⟩) (L.length + 1) cap')) := by
  obtain ⟨h1, h2, h3, h4, h5⟩ := hR
  have hg : g < w.heap.size := by
    rcases Nat.lt_or_ge g w.heap.size with q | q
    · exact q
    · rw [Array.getElem?_eq_none q] at h1; cases h1
  have hgq : g < wq.heap.size := Nat.lt_of_lt_of_le hg hB.2.size
  have hne : gg ≠ g := by
    rcases hat with hat | hat
    · intro e; subst e; exact h4 hat
    · omega
  have hq : wq.heap[g]? = some (.cells #[.slice a L.length cap, .int .i64 most] 84 (0, 0)) := by rw [hB.2.block g hg]; exact h1
  have hsz : ((wq.alloc (.cells #[.int .i64 t.K, .string t.S, .int .u64 t.N, .int .i64 t.A, .int .i64 t.B, .int .i64 t.C] 74)).drew).heap.size = wq.heap.size + 1 := by
    show (wq.heap.push _).size = _; simp
  have hold : ∀ k, k < wq.heap.size → some k ≠ (Value.slice a L.length cap).ownBlock → w1.heap[k]? = wq.heap[k]? := fun k hk hs => by
    rw [hgrow.block k (by rw [hsz]; omega) hs]
    exact heap_alloc_old wq _ hk
  have hw1 : w1.heap[g]? = some (.cells #[.slice a L.length cap, .int .i64 most] 84 (0, 0)) := by rw [hold g hgq (Ne.symm h4)]; exact hq
  refine ⟨.slice (some ⟨gg, 0, none⟩) (L.length + 1) cap', _, _, L ++ [t], rfl, .inr (.inr (.inr ⟨hmay, hj, hlen, rfl, rfl, rfl⟩)), ⟨?_, ?_, h3, ?_, ?_⟩, ⟨?_, ?_, ?_, ?_, ?_⟩, ?_⟩
  · have := heap_setCell_same w1 g 0 _ _ (.slice (some ⟨gg, 0, none⟩) (L.length + 1) cap') hw1
    simpa using this
  · have e : cellsL (L ++ [t]) = cellsL L ++ t.cl := by simp [cellsL]
    rw [e, List.length_append]
    exact ownsRow_setCell_other hown (by simpa [Value.ownBlock] using hne) _
  · simpa [Value.ownBlock] using hne
  · simp; omega
  · exact (hgrow.os).trans (hB.2.os)
  · exact (hgrow.tape).trans (hB.2.tape)
  · exact (hgrow.output).trans (hB.2.output)
  · have := hgrow.size
    rw [hsz] at this
    have := hB.2.size
    simp; omega
  · intro k hk hS
    have hkg : k ≠ g := fun e => hS (.inl e)
    rw [heap_setCell_other _ _ _ _ hkg, hold k (Nat.lt_of_lt_of_le hk hB.2.size) (fun e => hS (.inr e)), hB.2.block k hk]
  · rcases hat with hat | hat
    · exact .inl hat.symm
    · exact .inr ⟨gg, rfl, by have := hB.2.size; omega⟩
set_option maxHeartbeats 2000000 in
set_option maxRecDepth 100000 in
theorem put_any (base g : Nat) (sv : Value) (L : List Tm) (most : Int) (t : Tm) (w : World) (h : RS base g sv L most w) (hS : t.S.size ≤ maxLen) (hmost : most ≤ 1048576) (hbase : base ≤ w.heap.size) :
    Calls Try.prog 27 #[.pointer (some ⟨g, 0, none⟩), t.v] w (PutPost base g sv L most t w) := by
  obtain ⟨a, cap, rfl, c0, c1⟩ := h.head
  have HR := Lib.hid h
  have hgb := block_lt_of_cell c0
  dsimp only at hgb
  obtain ⟨K, S, N, A, B, C⟩ := t
  have hmay := fun (W : World) (hW : W.cell? ⟨g, 0, none⟩ = some (.slice a L.length cap)) => may_any g L.length cap a K S N A B C W hW hS
  have HM := Lib.hid hmay
  clear hmay h
  unfold Tm.v
  go_enter Try.func27, Try.ntmps27
  go_wp2_with fail
  refine (HM.out _ (by rw [World.cell?_alloc_past (hn := hgb)]; exact c0)).mono ?_
  rintro e w1 ⟨b, rfl, hiff, hb1⟩
  have HB : Hid (Box w ⟨K, S, N, A, B, C⟩ w1) := Lib.hid ⟨by rw [hb1.block _ (by simp)]; exact heap_alloc_new w _, ((Below.refl _ _).alloc (Nat.le_refl _) _).trans (hb1.mono (by simp))⟩
  have HI := Lib.hid hiff
  clear hb1 hiff c0 c1
  cases b
  · go_wp2
    go_ret2
    exact same_post HR.out HB.out.2 (.inl ⟨fun h => by simpa using HI.out.2 h, rfl, rfl, rfl⟩)
  · go_wp2
    go_loopw [6] (fun i wr => ∃ k : Nat, k ≤ L.length ∧ i = .int .i64 k ∧ Hid (∀ j, j < k → L.getD j zeroT ≠ ⟨K, S, N, A, B, C⟩) ∧ Hid (Box w ⟨K, S, N, A, B, C⟩ wr)) (fun i _ => L.length - (intOf i).toNat)
    case atStart => exact ⟨0, Nat.zero_le _, rfl, Lib.hid (fun j h => absurd h (Nat.not_lt_zero _)), HB⟩
    case round =>
      obtain ⟨k, hk, rfl, HJ, HX⟩ := hrel
      clear HB
      have HRr := Lib.hid (HR.out.below HX.out.2)
      have hLn := HR.out.2.2.2.2
      by_cases hlt : k < L.length
      · obtain ⟨b, cap', hsv', hrow⟩ := HRr.out.row k hlt
        injection hsv' with p1 p2 p3
        subst p1 p3
        obtain ⟨a', cap'', hsv'', c0, c1⟩ := HRr.out.head
        injection hsv'' with p1 p2 p3
        subst p1 p3
        clear p2
        obtain ⟨⟨K', S', N', A', B', C'⟩, ht⟩ : ∃ u, u = L.getD k zeroT := ⟨_, rfl⟩
        rw [← ht] at hrow
        have q0 := hrow 0 _ rfl
        have q1 := hrow 1 _ rfl
        have q2 := hrow 2 _ rfl
        have q3 := hrow 3 _ rfl
        have q4 := hrow 4 _ rfl
        have q5 := hrow 5 _ rfl
        have z0 := HX.out.at 0
        have z1 := HX.out.at 1
        have z2 := HX.out.at 2
        have z3 := HX.out.at 3
        have z4 := HX.out.at 4
        have z5 := HX.out.at 5
        simp at q0 q1 q2 q3 q4 q5 z0 z1 z2 z3 z4 z5
        have Ht := Lib.hid ht
        have Hlt := Lib.hid hlt
        have hlt' : (k : Int) < L.length := by omega
        have hE := eql_term ⟨K', S', N', A', B', C'⟩ ⟨K, S, N, A, B, C⟩
        have hgd := guard37
        unfold Tm.v at hE
        clear hrow ht
        by_cases hq : eqB ⟨K', S', N', A', B', C'⟩ ⟨K, S, N, A, B, C⟩ = true
        · have HQ := Lib.hid ((eqB_iff _ _).1 hq)
          rw [hq] at hE
          clear hq
          go_wp2
          go_quiet (fail)
          go_wp2
          go_ret2
          exact same_post HR.out (HX.out.drewN _).2 (.inr (.inl ⟨HI.out.1 trivial, k, Hlt.out, Ht.out.symm.trans HQ.out, HJ.out, rfl, rfl, rfl⟩))
        · have HQ := Lib.hid (fun h => hq ((eqB_iff _ _).2 h))
          have hq' : eqB ⟨K', S', N', A', B', C'⟩ ⟨K, S, N, A, B, C⟩ = false := by simpa using hq
          rw [hq'] at hE
          clear hq hq'
          go_wp2
          go_quiet (fail)
          go_wp2
          go_roundw
          case rel => exact ⟨k + 1, by have := Hlt.out; omega, by go_num, Lib.hid (fun j hj => by
            rcases Nat.lt_succ_iff_lt_or_eq.1 hj with h | rfl
            · exact HJ.out j h
            · rw [← Ht.out]; exact HQ.out), Lib.hid (HX.out.drewN _)⟩
          case measure => have := Hlt.out; simp [intOf]; omega
      · obtain rfl : k = L.length := by omega
        obtain ⟨a', cap'', hsv'', c0, c1⟩ := HRr.out.head
        injection hsv'' with p1 p2 p3
        subst p1 p3
        clear p2
        clear hlt
        by_cases hfull : most ≤ (L.length : Int)
        · have HF := Lib.hid hfull
          have e1 : decide (most ≤ (L.length : Int)) = true := by simpa using hfull
          clear hfull
          go_wp2
          go_quiet (fail)
          go_wp2
          go_ret2
          exact same_post HR.out (HX.out.drewN _).2 (.inr (.inr (.inl ⟨HI.out.1 trivial, HJ.out, HF.out, rfl, rfl, rfl⟩)))
        · have HF := Lib.hid hfull
          have e1 : decide (most ≤ (L.length : Int)) = false := by simpa using hfull
          clear hfull
          go_wp2
          go_quiet (fail)
          go_wp2
          have hB0 : Hid (Box w ⟨K, S, N, A, B, C⟩ (wr.drewN nq)) := Lib.hid (HX.out.drewN _)
          have hR0 : Hid (RS base g (.slice a L.length cap) L most (wr.drewN nq)) := Lib.hid (HR.out.below hB0.out.2)
          clear HRr HX c0 c1
          generalize wr.drewN nq = wq at hB0 hR0
          obtain ⟨a', cap'', hsv'', c0, c1⟩ := hR0.out.head
          injection hsv'' with p1 p2 p3
          subst p1 p3
          clear p2 c1
          have f0 : wq.frozen? ⟨g, 0, none⟩ = false := frozen_of_row wq g 0 _ _ hR0.out.1
          have z0 := hB0.out.at 0
          have z1 := hB0.out.at 1
          have z2 := hB0.out.at 2
          have z3 := hB0.out.at 3
          have z4 := hB0.out.at 4
          have z5 := hB0.out.at 5
          simp at z0 z1 z2 z3 z4 z5
          have hgq : g < wq.heap.size := Nat.lt_of_lt_of_le hgb hB0.out.2.size
          have hbq : w.heap.size < wq.heap.size := block_lt_of_cell z0
          have hbs : base ≤ wq.heap.size := Nat.le_trans hbase hB0.out.2.size
          have hown := Lib.hid hR0.out.2.1
          have ag : Hid ((Value.slice a L.length cap).ownBlock ≠ some g) := Lib.hid hR0.out.2.2.2.1
          have aw : Hid ((Value.slice a L.length cap).ownBlock ≠ some w.heap.size) := Lib.hid (fun e => by
            have := (HR.out.2.1).lt _ e
            omega)
          obtain ⟨i0, hi0, hz0, hz1, hz2⟩ := info_parts info37
          have H37 := Lib.hid Try.underlying74
          go_region_law
            ((refine step_append_lies _ (by rfl) _ _ _ (by rfl) base 74 i0 _ 6 56 Try.underlying82 hi0 hz0 hz1 hz2 rfl (by omega) (.slice a L.length cap) L.length (cellsL L) (by rfl) ((hown.out.alloc _).drew)
                ⟨wq.heap.size, 0, none⟩ 1 1 [.int .i64 K, .string S, .int .u64 N, .int .i64 A, .int .i64 B, .int .i64 C] (by rfl) (by rfl) (World.news_of_block (cs := #[.int .i64 K, .string S, .int .u64 N, .int .i64 A, .int .i64 B, .int .i64 C]) (t := 74) (fr := (0, 0)) (heap_alloc_new wq _)) (by simp [Value.oneCell'])
                (by omega) (by unfold maxLen; omega) (by omega) (by simp; omega) (wq.heap.size + 1) (by simp) ?_; intro gg cap' w1 hown1 hgrow hat hlt2; have y0 := far_cell hgq hgrow ag.out c0; have y1 := far_free hgq hgrow ag.out f0; have O1 := Lib.hid hown1; have O2 := Lib.hid hgrow; have O3 := Lib.hid hat; clear hown1 hgrow hat))
          all_goals
            go_wp2
            go_ret2
            exact grown_post (t := ⟨K, S, N, A, B, C⟩) HR.out hB0.out hmost HF.out (HI.out.1 trivial) HJ.out O1.out O2.out O3.out
end Go.Proofs.Ytlnpfeecaiecaaa
