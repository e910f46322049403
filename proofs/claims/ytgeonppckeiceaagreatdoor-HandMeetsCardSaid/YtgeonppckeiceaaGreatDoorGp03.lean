/- The program's store in memory, and its New, Get, Depth, Len, for every store and every name. -/
/- A library contract at this program: that a copy of a text of at most 2^48 bytes is that text, and nothing that was there turns. -/
import Derived.Test.YtgeonppckeiceaaGreatDoorGp02
import Derived.Shelf.LaysM
import Derived.Shelf.Strconv.Clone
import Derived.Test.YtgeonppckeiceaaGreatDoorProg
namespace Go.Proofs.YtgeonppckeiceaaGreatDoor
open Go.RowKit
open Go.Maps
set_option linter.unusedVariables false
set_option maxRecDepth 20000

/-- The program's store: its struct at block g, its log, all in the blocks of F. -/
structure PSx (base g gl bm : Nat) (tv dv : Value) (D : DataW Unit) (F : Nat → Prop) (L : List Tm) (most : Int) (w : World) : Prop where
  st : w.heap[g]? = some (.cells #[.int .i64 most, .int .i64 L.length, .pointer (some ⟨gl, 0, none⟩)] 164 (0, 0))
  log : LG base gl bm tv dv D L w
  gb : base ≤ g
  e1 : g ≠ gl
  e2 : g ≠ bm
  e3 : tv.ownBlock ≠ some g
  e4 : dv.ownBlock ≠ some g
  room : (L.length : Int) ≤ most
  most : most ≤ 1048576
  fit : Fit L
  f1 : F g
  f2 : F gl
  f3 : F bm
  f4 : ∀ k, tv.ownBlock = some k → F k
  f5 : ∀ k, dv.ownBlock = some k → F k
  f6 : ∀ k, F k → base ≤ k ∧ k < w.heap.size
def PS (base g : Nat) (F : Nat → Prop) (L : List Tm) (most : Int) (w : World) : Prop := ∃ gl bm tv dv D, PSx base g gl bm tv dv D F L most w

theorem PSx.chg {base g gl bm : Nat} {tv dv : Value} {D : DataW Unit} {F S : Nat → Prop} {L : List Tm} {most : Int} {w w' : World} (h : PSx base g gl bm tv dv D F L most w) (hc : Chg S w w') (hn : ∀ k, F k → ¬ S k) :
    PSx base g gl bm tv dv D F L most w' where
  st := hc.blk h.st (hn g h.f1)
  log := { h.log with
    lg := hc.blk h.log.lg (hn gl h.f2)
    terms := hc.row h.log.terms (fun k hk => hn k (h.f4 k hk))
    depthsR := hc.row h.log.depthsR (fun k hk => hn k (h.f5 k hk))
    names := hc.own h.log.names (hn bm h.f3) }
  gb := h.gb
  e1 := h.e1
  e2 := h.e2
  e3 := h.e3
  e4 := h.e4
  room := h.room
  most := h.most
  fit := h.fit
  f1 := h.f1
  f2 := h.f2
  f3 := h.f3
  f4 := h.f4
  f5 := h.f5
  f6 := fun k hk => ⟨(h.f6 k hk).1, Nat.lt_of_lt_of_le (h.f6 k hk).2 hc.size⟩
theorem PSx.below {base g gl bm : Nat} {tv dv : Value} {D : DataW Unit} {F : Nat → Prop} {L : List Tm} {most : Int} {w w' : World} (h : PSx base g gl bm tv dv D F L most w) (hb : Below w.heap.size w w') :
    PSx base g gl bm tv dv D F L most w' := h.chg (S := fun _ => False) (.of_below hb) (fun _ _ q => q)
theorem PSx.cells {base g gl bm : Nat} {tv dv : Value} {D : DataW Unit} {F : Nat → Prop} {L : List Tm} {most : Int} {w : World} (h : PSx base g gl bm tv dv D F L most w) :
    w.cell? ⟨g, 0, none⟩ = some (.int .i64 most) ∧ w.cell? ⟨g, 1, none⟩ = some (.int .i64 L.length) ∧ w.cell? ⟨g, 2, none⟩ = some (.pointer (some ⟨gl, 0, none⟩)) ∧
    w.cell? ⟨gl, 0, none⟩ = some tv ∧ w.cell? ⟨gl, 1, none⟩ = some dv ∧ w.cell? ⟨gl, 2, none⟩ = some (.map (some bm)) := by
  refine ⟨?_, ?_, ?_, ?_, ?_, ?_⟩
  · rw [cell_of_row w g 0 _ _ _ h.st]; rfl
  · rw [cell_of_row w g 1 _ _ _ h.st]; rfl
  · rw [cell_of_row w g 2 _ _ _ h.st]; rfl
  · rw [cell_of_row w gl 0 _ _ _ h.log.lg]; rfl
  · rw [cell_of_row w gl 1 _ _ _ h.log.lg]; rfl
  · rw [cell_of_row w gl 2 _ _ _ h.log.lg]; rfl

theorem depths_prefix (L : List Tm) (q : Nat) : ∀ k, q ≤ k → k ≤ L.length → (depths (L.take k)).getD q 0 = (depths (L.take q)).getD q 0 := by
  intro k
  induction k with
  | zero =>
    intro h _
    have e : q = 0 := by omega
    rw [e]
  | succ k ih =>
    intro h hk
    by_cases e : q = k + 1
    · rw [e]
    · rw [← ih (by omega) (by omega), take_snocT L k (by omega), depths_snoc, stepD]
      have hl : q < (depths (L.take k)).length := by rw [depths_length, List.length_take]; omega
      simp [List.getD, List.getElem?_append_left hl]
theorem depthOf_in (L : List Tm) (q : Nat) (h1 : 1 ≤ q) (h2 : q ≤ L.length) : depthOf L (q : Int) = ((depths L).getD q 0 : Nat) := by
  unfold depthOf
  rw [if_pos (by omega)]
  have := depths_prefix L q L.length h2 (Nat.le_refl _)
  rw [List.take_length] at this
  rw [this]; simp
theorem deps_at (L : List Tm) (k : Nat) (hk : k < L.length) : (deps L)[k]? = some (.int .i64 (((depths L).getD (k + 1) 0 : Nat))) := by
  have hl : k + 1 < (depths L).length := by rw [depths_length]; omega
  simp [deps, intsV, List.getD, List.getElem?_eq_getElem hl]
theorem addr_add (b k : Nat) : (⟨b, 0, none⟩ : Addr).add k = ⟨b, k, none⟩ := by unfold Addr.add; split <;> simp_all

theorem row_cells {base b n : Nat} {v : Value} {L : List Tm} {w : World} (h : w.ownsRow base 116 6 v L.length (cellsL L)) (hv : v.ownBlock = some b) (k : Nat) (hk : k < L.length) :
    ∀ j u, (L.getD k zeroT).cl[j]? = some u → w.cell? ⟨b, k * 6 + j, none⟩ = some u := by
  intro j u hj
  have hj6 : j < 6 := by
    rcases Nat.lt_or_ge j 6 with q | q
    · exact q
    · rw [List.getElem?_eq_none (by simp [Tm.cl]; omega)] at hj; cases hj
  have := h.cells hv (k * 6 + j) u (by rw [cellsL_at L k j hj6 hk]; exact hj)
  rwa [addr_add] at this

set_option maxHeartbeats 1000000 in
theorem getP_any {base g gl bm : Nat} {tv dv : Value} {D : DataW Unit} {F : Nat → Prop} {L : List Tm} {most : Int} (w : World) (h : PSx base g gl bm tv dv D F L most w) (name : Int) :
    Calls Tryz.prog 102 #[.pointer (some ⟨g, 0, none⟩), .int .i64 name] w fun e w' => e = .returned (.tuple #[(getT L name).1.v, .bool (getT L name).2]) ∧ Below w.heap.size w w' := by
  obtain ⟨a0, a1, a2, c0, c1, c2⟩ := h.cells
  have hgb := block_lt_of_cell a1
  have hglb := block_lt_of_cell c0
  dsimp only at hgb hglb
  have hm := h.log.most
  by_cases hin : 1 ≤ name ∧ name ≤ (L.length : Int)
  · obtain ⟨k, rfl⟩ : ∃ k : Nat, name = (k : Int) + 1 := ⟨(name - 1).toNat, by omega⟩
    have hk : k < L.length := by omega
    obtain ⟨b, cap, rfl, hb1, hb2⟩ := h.log.terms.form (by omega)
    have hrow := row_cells (n := 0) h.log.terms (b := b) rfl k hk
    have e : getT L ((k : Int) + 1) = (L.getD k zeroT, true) := by unfold getT; rw [if_pos (by omega), show ((k : Int) + 1 - 1).toNat = k from by omega]
    rw [e]
    obtain ⟨⟨K, S, N, A, B, C⟩, ht⟩ : ∃ u, u = L.getD k zeroT := ⟨_, rfl⟩
    rw [← ht] at hrow ⊢
    have q0 := hrow 0 _ rfl
    have q1 := hrow 1 _ rfl
    have q2 := hrow 2 _ rfl
    have q3 := hrow 3 _ rfl
    have q4 := hrow 4 _ rfl
    have q5 := hrow 5 _ rfl
    simp at q0 q1 q2 q3 q4 q5
    have hd : decide (1 ≤ (k : Int) + 1 ∧ (k : Int) + 1 ≤ (L.length : Int)) = true := decide_eq_true hin
    have hk3 : (k : Int) < L.length := by omega
    have e4 : (k : Int) + 1 - 1 = k := by omega
    have a1w := fun (o : Obj) => (World.cell?_alloc_past o g 1 hgb).trans a1
    clear hrow ht e h c1 c2 a0 hin
    go_enter Tryz.func102, Tryz.ntmps102
    go_wp2_with fail
    refine (has_any g L.length _ _ (a1w _)).mono ?_
    rintro e w1 ⟨rfl, rfl⟩
    rw [hd]
    go_wp2
    exact bodyPost_ret (v := .tuple #[Tm.v ⟨K, S, N, A, B, C⟩, .bool true]) (by simp [results, Tryz.results102, go_sem, Tm.v]) rfl ⟨rfl, (Below.refl _ _).alloc (Nat.le_refl _) _⟩
  · have e : getT L name = (zeroT, false) := by unfold getT; rw [if_neg hin]
    rw [e]
    have hd : decide (1 ≤ name ∧ name ≤ (L.length : Int)) = false := decide_eq_false hin
    have a1w := fun (o : Obj) => (World.cell?_alloc_past o g 1 hgb).trans a1
    clear e h c0 c1 c2 a0 a2 hin
    go_enter Tryz.func102, Tryz.ntmps102
    go_wp2_with fail
    refine (has_any g L.length _ _ (a1w _)).mono ?_
    rintro e w1 ⟨rfl, rfl⟩
    rw [hd]
    go_wp2
    exact bodyPost_ret (v := .tuple #[zeroT.v, .bool false]) (by simp [results, Tryz.results102, go_sem, zeroT, Tm.v]) rfl ⟨rfl, (Below.refl _ _).alloc (Nat.le_refl _) _⟩

set_option maxHeartbeats 1000000 in
theorem depthP_any {base g gl bm : Nat} {tv dv : Value} {D : DataW Unit} {F : Nat → Prop} {L : List Tm} {most : Int} (w : World) (h : PSx base g gl bm tv dv D F L most w) (name : Int) :
    Calls Tryz.prog 163 #[.pointer (some ⟨g, 0, none⟩), .int .i64 name] w fun e w' => e = .returned (.int .i64 (depthOf L name)) ∧ w = w' := by
  obtain ⟨a0, a1, a2, c0, c1, c2⟩ := h.cells
  have hm := h.log.most
  by_cases hin : 1 ≤ name ∧ name ≤ (L.length : Int)
  · obtain ⟨k, rfl⟩ : ∃ k : Nat, name = (k : Int) + 1 := ⟨(name - 1).toNat, by omega⟩
    have hk : k < L.length := by omega
    obtain ⟨b, cap, rfl, hb1, hb2⟩ := h.log.depthsR.form (by omega)
    have q0 : w.cell? ⟨b, k, none⟩ = some (.int .i64 (((depths L).getD (k + 1) 0 : Nat))) := by
      have := h.log.depthsR.cells (g := b) rfl k _ (deps_at L k hk)
      rwa [addr_add] at this
    have hdo := depthOf_in L (k + 1) (by omega) (by omega)
    rw [show ((k + 1 : Nat) : Int) = (k : Int) + 1 from by omega] at hdo
    rw [hdo]
    have hd : decide (1 ≤ (k : Int) + 1 ∧ (k : Int) + 1 ≤ (L.length : Int)) = true := decide_eq_true hin
    have hk3 : (k : Int) < L.length := by omega
    have e4 : (k : Int) + 1 - 1 = k := by omega
    clear hdo h c0 c2 a0 hin
    go_enter Tryz.func163, Tryz.ntmps163
    go_wp2_with fail
    refine (has_any g L.length _ _ a1).mono ?_
    rintro e w1 ⟨rfl, rfl⟩
    rw [hd]
    go_wp2
    go_ret
    exact ⟨by simp, rfl⟩
  · have e : depthOf L name = 0 := by unfold depthOf; rw [if_neg hin]
    rw [e]
    have hd : decide (1 ≤ name ∧ name ≤ (L.length : Int)) = false := decide_eq_false hin
    clear e h c0 c1 c2 a0 a2 hin
    go_enter Tryz.func163, Tryz.ntmps163
    go_wp2_with fail
    refine (has_any g L.length _ _ a1).mono ?_
    rintro e w1 ⟨rfl, rfl⟩
    rw [hd]
    go_wp2
    go_ret
    exact ⟨by rfl, rfl⟩

theorem lenP_any {base g gl bm : Nat} {tv dv : Value} {D : DataW Unit} {F : Nat → Prop} {L : List Tm} {most : Int} (w : World) (h : PSx base g gl bm tv dv D F L most w) :
    Calls Tryz.prog 36 #[.pointer (some ⟨g, 0, none⟩)] w fun e w' => e = .returned (.int .i64 L.length) ∧ w = w' := len_any g L.length w h.cells.2.1

theorem made (base : Nat) (most : Int) (w : World) (h1 : 0 ≤ most) (h2 : most ≤ 1048576) (hb : base ≤ w.heap.size) :
    PS base (w.heap.size + 2) (fun k => w.heap.size ≤ k ∧ k < (((w.alloc (.map #[] 0)).alloc (.cells #[.slice none 0 0, .slice none 0 0, .map (some w.heap.size)] 192)).alloc (.cells #[.int .i64 most, .int .i64 0, .pointer (some ⟨w.heap.size + 1, 0, none⟩)] 164)).heap.size) [] most
      (((w.alloc (.map #[] 0)).alloc (.cells #[.slice none 0 0, .slice none 0 0, .map (some w.heap.size)] 192)).alloc (.cells #[.int .i64 most, .int .i64 0, .pointer (some ⟨w.heap.size + 1, 0, none⟩)] 164)) := by
  have hs1 : (w.alloc (.map #[] 0)).heap.size = w.heap.size + 1 := by simp
  obtain ⟨W1, hW1⟩ : ∃ W1, W1 = w.alloc (.map #[] 0) := ⟨_, rfl⟩
  have m1 : W1.ownsMap Tryz.prog 116 (plainElem Tryz.prog 3) w.heap.size 0 (.map [] : DataW Unit) := by rw [hW1]; exact World.ownsMap_made _ _ _ _
  rw [← hW1] at hs1 ⊢
  clear hW1
  obtain ⟨W2, hW2⟩ : ∃ W2, W2 = W1.alloc (.cells #[.slice none 0 0, .slice none 0 0, .map (some w.heap.size)] 192) := ⟨_, rfl⟩
  have hs2 : W2.heap.size = w.heap.size + 2 := by rw [hW2]; simp [hs1]
  have m2 : W2.ownsMap Tryz.prog 116 (plainElem Tryz.prog 3) w.heap.size 0 (.map [] : DataW Unit) := by rw [hW2]; exact m1.alloc _
  have l2 : W2.heap[w.heap.size + 1]? = some (.cells #[.slice none 0 0, .slice none 0 0, .map (some w.heap.size)] 192 (0, 0)) := by rw [hW2, ← hs1]; exact heap_alloc_new W1 _
  rw [← hW2]
  clear hW2 m1
  obtain ⟨W3, hW3⟩ : ∃ W3, W3 = W2.alloc (.cells #[.int .i64 most, .int .i64 0, .pointer (some ⟨w.heap.size + 1, 0, none⟩)] 164) := ⟨_, rfl⟩
  have hs3 : W3.heap.size = w.heap.size + 3 := by rw [hW3]; simp [hs2]
  have m3 : W3.ownsMap Tryz.prog 116 (plainElem Tryz.prog 3) w.heap.size 0 (.map [] : DataW Unit) := by rw [hW3]; exact m2.alloc _
  have l3 : W3.heap[w.heap.size + 1]? = some (.cells #[.slice none 0 0, .slice none 0 0, .map (some w.heap.size)] 192 (0, 0)) := by
    rw [hW3]; exact (Chg.alloc W2 _ (fun _ => False)).blk l2 (fun q => q)
  have g3 : W3.heap[w.heap.size + 2]? = some (.cells #[.int .i64 most, .int .i64 0, .pointer (some ⟨w.heap.size + 1, 0, none⟩)] 164 (0, 0)) := by rw [hW3, ← hs2]; exact heap_alloc_new W2 _
  rw [← hW3]
  clear hW3 m2 l2
  refine ⟨w.heap.size + 1, w.heap.size, .slice none 0 0, .slice none 0 0, .map [], {
    st := g3, log := {
      lg := l3, terms := ⟨rfl, .inl ⟨rfl, rfl⟩⟩, depthsR := ⟨rfl, .inl ⟨rfl, rfl⟩⟩, names := m3, ok := NameOk.nil, gb := by omega, bb := hb, n1 := by omega,
      n2 := by simp [Value.ownBlock], n3 := by simp [Value.ownBlock], n4 := by simp [Value.ownBlock], n5 := by simp [Value.ownBlock], n6 := by simp [Value.ownBlock], most := by simp },
    gb := by omega, e1 := by omega, e2 := by omega, e3 := by simp [Value.ownBlock], e4 := by simp [Value.ownBlock], room := by simpa using h1, most := h2,
    fit := fun k hk => by simp at hk,
    f1 := by omega, f2 := by omega, f3 := by omega, f4 := by simp [Value.ownBlock], f5 := by simp [Value.ownBlock], f6 := fun k hk => ⟨by omega, hk.2⟩ }⟩

set_option maxHeartbeats 400000 in
theorem newP_good (base : Nat) (most : Int) (w : World) (h1 : 0 ≤ most) (h2 : most ≤ 1048576) (hb : base ≤ w.heap.size) :
    Calls Tryz.prog 40 #[.int .i64 most] w fun e w' => ∃ g, e = .returned (.tuple #[.pointer (some ⟨g, 0, none⟩), .int .i64 0]) ∧ PS base g (fun k => w.heap.size ≤ k ∧ k < w'.heap.size) [] most w' ∧ Below w.heap.size w w' := by
  have e1 : decide (most < 0) = false := by simp; omega
  have e2 : decide ((1048576 : Int) < most) = false := by simp; omega
  have hmm := @run_makeMap Tryz.prog
  go_enter Tryz.func40, Tryz.ntmps40
  go_wp2
  go_ret2
  exact ⟨w.heap.size + 2, by simp, made base most w h1 h2 hb, (((Below.refl _ _).alloc (Nat.le_refl _) _).alloc (by simp) _).alloc (by simp; omega) _⟩
end Go.Proofs.YtgeonppckeiceaaGreatDoor
namespace Go.Proofs
open Go.Shelf
def Tryz.laysM316_ren : Go.Shelf.Ren := ⟨fun | 316 => 197 | n => n, fun | 9 => 9 | 3 => 3 | 4 => 4 | 37 => 89 | 0 => 0 | 127 => 276 | 5 => 5 | n => n, fun | n => n⟩
theorem Tryz.laysM316 : Go.Proofs.LaysM.n316 Tryz.prog Tryz.laysM316_ren := {
  mixed := by kernel_rfl
  f316 := Tryz.func197.trans (congrArg some (by kernel_rfl))
  t0 := Tryz.underlying0
  a0 := Tryz.isAgg0
  z0 := Tryz.sizeOf0
  v0 := Tryz.zeroValue0
  t3 := Tryz.underlying3
  a3 := Tryz.isAgg3
  z3 := Tryz.sizeOf3
  v3 := Tryz.zeroValue3
  t4 := Tryz.underlying4
  a4 := Tryz.isAgg4
  z4 := Tryz.sizeOf4
  v4 := Tryz.zeroValue4
  t9 := Tryz.underlying9
  a9 := Tryz.isAgg9
  z9 := Tryz.sizeOf9
  v9 := Tryz.zeroValue9
  t37 := Tryz.underlying89
  a37 := Tryz.isAgg89
  z37 := Tryz.sizeOf89
  v37 := Tryz.zeroValue89
  t127 := Tryz.underlying276
  a127 := Tryz.isAgg276
  z127 := Tryz.sizeOf276
  v127 := Tryz.zeroValue276
  t5 := Tryz.underlying5
  a5 := Tryz.isAgg5
  z5 := Tryz.sizeOf5
  v5 := Tryz.zeroValue5
  i0 := by kernel_rfl
  i3 := by kernel_rfl
  i4 := by kernel_rfl
  i5 := by kernel_rfl
  i9 := by kernel_rfl
  i37 := by kernel_rfl
  i127 := by kernel_rfl }
open Go.RowKit in
theorem Tryz.stringslite_Clone (s : ByteArray) (w : World) (hlim : s.size ≤ 281474976710656) :
    Calls Tryz.prog 197 #[.string s] w fun e w' => e = .returned (.string s) ∧ Below w.heap.size w w' := Any.stringslite_Clone Tryz.laysM316 s w hlim
end Go.Proofs
