/- The program's pool in memory: two maps by ID, a map by Index for each message; what its small helpers do. -/
import Derived.Test.YtjcgckhheegonaaPoolM
import Derived.Test.YtjcgckhheegonaaFragP
import Derived.Test.YtjcgckhheegonaaShelfB
import Derived.Test.YtjcgckhheegonaaMapL
import Derived.Shelf.SlMaps.Clone
import Derived.Deep.RegionWith
import Derived.Deep.RegionHeld3
import Derived.BigRegion
import Derived.BigQuiet
namespace Go.Proofs.Ytjcgckhheegonaa
open Go.RowKit
set_option linter.unusedVariables false
set_option linter.unusedSimpArgs false
set_option maxRecDepth 20000
/-- A number of 64 bits. -/
def U64 (x : Int) : Prop := 0 ≤ x ∧ x ≤ 18446744073709551615
theorem U64.wrap {x : Int} (h : U64 x) : IntKind.u64.wrap x = x := by
  obtain ⟨h1, h2⟩ := h
  simp only [IntKind.wrap]
  first | omega | (simp [IntKind.wrap, IntKind.bits, IntKind.signed]; omega)
theorem cell_atA {w : World} {g : Nat} (j : Nat) {cs : Array Value} {t : TypeId} {p : Nat × Nat} (h : w.heap[g]? = some (.cells cs t p)) : w.cell? ⟨g, j, none⟩ = cs[j]? := by simp [World.cell?, h]
theorem frz_atA {w : World} {g : Nat} (j : Nat) {cs : Array Value} {t : TypeId} (h : w.heap[g]? = some (.cells cs t (0, 0))) : w.frozen? ⟨g, j, none⟩ = false := by simp [World.frozen?, h]
theorem Chg.mono {S T : Nat → Prop} {w w' : World} (h : Chg S w w') (hs : ∀ k, S k → T k) : Chg T w w' := ⟨h.os, h.tape, h.output, h.size, fun k hk ht => h.block k hk (fun q => ht (hs k q))⟩
theorem Chg.wide {S T : Nat → Prop} {a b c : World} (h : Chg S a b) (k : Chg T b c) (hs : ∀ j, T j → S j ∨ a.heap.size ≤ j) : Chg S a c :=
  ⟨k.os.trans h.os, k.tape.trans h.tape, k.output.trans h.output, Nat.le_trans h.size k.size, fun j hj hn => (k.block j (Nat.lt_of_lt_of_le hj h.size) (fun q => by rcases hs j q with r | r; exact hn r; omega)).trans (h.block j hj hn)⟩
theorem Chg.drew {S : Nat → Prop} (w : World) (n : Nat) : Chg S w (w.drewN n) := ⟨rfl, rfl, rfl, Nat.le_refl _, fun _ _ _ => rfl⟩
theorem clone_any (s : ByteArray) (w : World) (hs : s.size ≤ 1000000) :
    Calls Try.prog 26 #[.string s] w fun e w' => e = .returned (.string s) ∧ Below w.heap.size w w' := by
  go_enter Try.func26, Try.ntmps26
  go_wp2_with (go_at_call 37; go_must (refine (Try.stringslite_Clone _ _ (by omega)).mono ?_); rintro e w' ⟨rfl, hb⟩)
  go_ret
  exact ⟨rfl, hb⟩
/-! ### What the maps hold -/
def keyH (m : Ms) : Int := (headM m).id
def encH (m : Ms) : Value := .agg #[.int .i64 (headM m).ct, .int .u64 m.since]
def keyP (x : Ms × Nat) : Int := (headM x.1).id
def encP (x : Ms × Nat) : Value := .map (some x.2)
def encS (f : Fr) : Value := .string f.s
/-- The pool's block, and the two maps. -/
structure PAt (w : World) (p bh bp : Nat) (s b : Int) (l : List Ms) (ps : List (Ms × Nat)) : Prop where
  blk : w.heap[p]? = some (.cells #[.int .i64 s, .int .i64 b, .map (some bh), .map (some bp)] 61 (0, 0))
  heads : MapL .u64 keyH encH w bh l
  parts : MapL .u64 keyP encP w bp ps
  fst : ps.map Prod.fst = l
  each : ∀ x, x ∈ ps → MapL .i64 Fr.ix encS w x.2 x.1.parts
  ne : bh ≠ bp
  off : ∀ x, x ∈ ps → x.2 ≠ bh ∧ x.2 ≠ bp
/-- The blocks that are the pool's. -/
def Its (p bh bp : Nat) (ps : List (Ms × Nat)) (k : Nat) : Prop := k = p ∨ k = bh ∨ k = bp ∨ ∃ x, x ∈ ps ∧ k = x.2
section
variable {w w' : World} {p bh bp : Nat} {s b : Int} {l : List Ms} {ps : List (Ms × Nat)}
theorem PAt.lt (h : PAt w p bh bp s b l ps) : ∀ k, Its p bh bp ps k → k < w.heap.size := by
  rintro k (rfl | rfl | rfl | ⟨x, hx, rfl⟩)
  · exact blk_lt h.blk
  · exact h.heads.lt
  · exact h.parts.lt
  · exact (h.each x hx).lt
theorem PAt.chg {S : Nat → Prop} (h : PAt w p bh bp s b l ps) (hc : Chg S w w') (hn : ∀ k, Its p bh bp ps k → ¬ S k) : PAt w' p bh bp s b l ps :=
  ⟨hc.blk h.blk (hn p (.inl rfl)), h.heads.chg hc (hn bh (.inr (.inl rfl))), h.parts.chg hc (hn bp (.inr (.inr (.inl rfl)))), h.fst, fun x hx => (h.each x hx).chg hc (hn x.2 (.inr (.inr (.inr ⟨x, hx, rfl⟩)))), h.ne, h.off⟩
theorem PAt.below (h : PAt w p bh bp s b l ps) (hb : Below w.heap.size w w') : PAt w' p bh bp s b l ps := h.chg (Chg.of_below (S := fun _ => False) hb) (fun _ _ q => q)
theorem PAt.apart (h : PAt w p bh bp s b l ps) : p ≠ bh ∧ p ≠ bp ∧ ∀ x, x ∈ ps → x.2 ≠ p :=
  ⟨fun e => h.heads.kind (e ▸ h.blk), fun e => h.parts.kind (e ▸ h.blk), fun x hx e => (h.each x hx).kind (e ▸ h.blk)⟩
theorem PAt.cells (h : PAt w p bh bp s b l ps) : w.cell? ⟨p, 0, none⟩ = some (.int .i64 s) ∧ w.cell? ⟨p, 1, none⟩ = some (.int .i64 b) ∧ w.cell? ⟨p, 2, none⟩ = some (.map (some bh)) ∧ w.cell? ⟨p, 3, none⟩ = some (.map (some bp)) ∧ w.frozen? ⟨p, 2, none⟩ = false ∧ w.frozen? ⟨p, 3, none⟩ = false :=
  ⟨by rw [cell_atA 0 h.blk]; rfl, by rw [cell_atA 1 h.blk]; rfl, by rw [cell_atA 2 h.blk]; rfl, by rw [cell_atA 3 h.blk]; rfl, frz_atA 2 h.blk, frz_atA 3 h.blk⟩
theorem PAt.mem (h : PAt w p bh bp s b l ps) {m : Ms} (hm : m ∈ l) : ∃ x, x ∈ ps ∧ x.1 = m := by
  rw [← h.fst] at hm
  obtain ⟨x, hx, e⟩ := List.mem_map.1 hm
  exact ⟨x, hx, e⟩
theorem PAt.mem' (h : PAt w p bh bp s b l ps) {x : Ms × Nat} (hx : x ∈ ps) : x.1 ∈ l := by
  rw [← h.fst]; exact List.mem_map.2 ⟨x, hx, rfl⟩
end
/-! ### Copies of maps -/
theorem cloned {β : Type} {q : IntKind} {key : β → Int} {enc : β → Value} {w : World} {m : Nat} {l : List β} (h : MapL q key enc w m l) : ∃ es c, w.heap[m]? = some (.map es c) ∧ MapL q key enc (w.alloc (.map es c)) w.heap.size l := by
  obtain ⟨es, c, h1, h2, h3⟩ := h
  exact ⟨es, c, h1, es, c, (MapKept.heap_alloc w _).1, h2, h3⟩
set_option maxHeartbeats 2000000 in
theorem clone_h (b : Nat) (es : Array MapEntry) (clock : Nat) (w : World) (hb : w.heap[b]? = some (.map es clock)) :
    Calls Try.prog 35 #[.map (some b)] w fun e w' => e = .returned (.map (some w.heap.size)) ∧ w' = w.alloc (.map es clock) := by
  have hq := fun w => run_eql_map_nil_sl (P := Try.prog) w 58 _ _ (some b) Try.underlying58
  go_enter Try.func35, Try.ntmps35
  go_wp2
  rw [run_callFunc_extern Try.func41 (by kernel_rfl) (by kernel_rfl) (by kernel_rfl) (e := Extern.MapsClone.clone) (by kernel_rfl), run_maps_clone_sl w 58 hb]
  simp only [Result.andThen]
  rw [Oper.upon_value]
  go_wp2
  rw [run_typeAssert_map_sl _ 58 20 _ _ _ Try.underlying58]
  simp only [Result.andThen]
  rw [Oper.upon_value]
  go_wp2
  go_ret
  exact ⟨rfl, rfl⟩
set_option maxHeartbeats 2000000 in
theorem clone_p (b : Nat) (es : Array MapEntry) (clock : Nat) (w : World) (hb : w.heap[b]? = some (.map es clock)) :
    Calls Try.prog 36 #[.map (some b)] w fun e w' => e = .returned (.map (some w.heap.size)) ∧ w' = w.alloc (.map es clock) := by
  have hq := fun w => run_eql_map_nil_sl (P := Try.prog) w 59 _ _ (some b) Try.underlying59
  go_enter Try.func36, Try.ntmps36
  go_wp2
  rw [run_callFunc_extern Try.func41 (by kernel_rfl) (by kernel_rfl) (by kernel_rfl) (e := Extern.MapsClone.clone) (by kernel_rfl), run_maps_clone_sl w 59 hb]
  simp only [Result.andThen]
  rw [Oper.upon_value]
  go_wp2
  rw [run_typeAssert_map_sl _ 59 20 _ _ _ Try.underlying59]
  simp only [Result.andThen]
  rw [Oper.upon_value]
  go_wp2
  go_ret
  exact ⟨rfl, rfl⟩
/-! ### The helpers -/
set_option maxHeartbeats 1000000 in
theorem old_k (c s now : Int) (m : Ms) (hs : m.since = s) (hu : U64 s) (hn : U64 now) (b : Bool) (hb : oldM now m = b) (w : World) :
    Calls Try.prog 22 #[.agg #[.int .i64 c, .int .u64 s], .int .u64 now] w fun e w' => e = .returned (.bool b) ∧ Below w.heap.size w w' := by
  subst hb
  have HE : Hid (oldM now m = (decide (s < now) && decide (50 < now - s))) := Lib.hid (by unfold oldM; rw [hs])
  cases q0 : decide (s < now) with
  | false =>
    have hl : ¬ s < now := by simpa using q0
    have HE2 : Hid (oldM now m = false) := Lib.hid (by rw [HE.out, q0]; rfl)
    clear q0 HE hs
    go_enter Try.func22, Try.ntmps22
    go_wp2
    go_ret
    exact ⟨by rw [HE2.out]; rfl, below_alloc w _⟩
  | true =>
    have hl : s < now := by simpa using q0
    have hw : IntKind.u64.wrap (now - s) = now - s := U64.wrap ⟨by have := hu.1; omega, by have := hu.1; have := hn.2; omega⟩
    cases q1 : decide (50 < now - s) with
    | false =>
      have hl2 : ¬ 50 < now - s := by simpa using q1
      have HE2 : Hid (oldM now m = false) := Lib.hid (by rw [HE.out, q0, q1]; rfl)
      clear q0 q1 HE hs
      go_enter Try.func22, Try.ntmps22
      go_wp2
      go_ret
      exact ⟨by rw [HE2.out]; rfl, below_alloc w _⟩
    | true =>
      have hl2 : 50 < now - s := by simpa using q1
      have HE2 : Hid (oldM now m = true) := Lib.hid (by rw [HE.out, q0, q1]; rfl)
      clear q0 q1 HE hs
      go_enter Try.func22, Try.ntmps22
      go_wp2
      go_ret
      exact ⟨by rw [HE2.out]; rfl, below_alloc w _⟩
set_option maxHeartbeats 1000000 in
/-- A message forgotten, in a round over the heads. -/
theorem forget_r (p bh bp r : Nat) (k : Int) (l left : List Ms) (ps : List (Ms × Nat)) (w : World) (h2 : w.cell? ⟨p, 2, none⟩ = some (.map (some bh))) (h3 : w.cell? ⟨p, 3, none⟩ = some (.map (some bp))) (hr : Rng .u64 keyH encH w bh r l left) (hp : MapL .u64 keyP encP w bp ps) (hne : bh ≠ bp) (hpb : p ≠ bh) (hrp : r ≠ bp) :
    Calls Try.prog 23 #[.pointer (some ⟨p, 0, none⟩), .int .u64 k] w fun e w' => e = .returned (.tuple #[]) ∧ Rng .u64 keyH encH w' bh r (l.filter (fun y => !(keyH y == k))) (left.filter (fun y => !(keyH y == k))) ∧ MapL .u64 keyP encP w' bp (ps.filter (fun y => !(keyP y == k))) ∧ Chg (fun j => j = bh ∨ j = bp) w w' := by
  have HR := Lib.hid hr
  have HP := Lib.hid hp
  have h3' : ∀ w', Chg (fun j => j = bh) w w' → w'.cell? ⟨p, 3, none⟩ = some (.map (some bp)) := fun w' hc => by
    have e := hc.block p (block_lt_of_cell h3) (fun e => hpb e)
    unfold World.cell? at h3 ⊢
    rw [e]; exact h3
  clear hr hp
  go_enter Try.func23, Try.ntmps23
  go_wp2_with (first | (at_delete; refine wpList_delR rfl _ _ _ _ _ rfl Try.underlying58 Try.underlying32 k rfl rfl HR.out ?_; intro w1 hr1 hc1; have h31 := h3' w1 hc1; have HP1 := Lib.hid (HP.out.chg hc1 (fun e => hne e.symm)); have HR1 := Lib.hid hr1; have HC1 := Lib.hid hc1; clear hr1 hc1) | (at_delete; refine wpList_delL rfl _ _ _ _ _ rfl Try.underlying59 Try.underlying32 k rfl rfl HP1.out ?_; intro w2 hp2 hc2) | go_in)
  go_end0
  exact ⟨rfl, HR1.out.chg hc2 (fun e => hne e) (fun e => hrp e), hp2, (HC1.out.mono (fun _ e => .inl e)).trans (hc2.mono (fun _ e => .inr e))⟩
set_option maxHeartbeats 1000000 in
/-- A message forgotten. -/
theorem forget_k (p bh bp : Nat) (k : Int) (l : List Ms) (ps : List (Ms × Nat)) (w : World) (h2 : w.cell? ⟨p, 2, none⟩ = some (.map (some bh))) (h3 : w.cell? ⟨p, 3, none⟩ = some (.map (some bp))) (hr : MapL .u64 keyH encH w bh l) (hp : MapL .u64 keyP encP w bp ps) (hne : bh ≠ bp) (hpb : p ≠ bh) :
    Calls Try.prog 23 #[.pointer (some ⟨p, 0, none⟩), .int .u64 k] w fun e w' => e = .returned (.tuple #[]) ∧ MapL .u64 keyH encH w' bh (l.filter (fun y => !(keyH y == k))) ∧ MapL .u64 keyP encP w' bp (ps.filter (fun y => !(keyP y == k))) ∧ Chg (fun j => j = bh ∨ j = bp) w w' := by
  have HR := Lib.hid hr
  have HP := Lib.hid hp
  have h3' : ∀ w', Chg (fun j => j = bh) w w' → w'.cell? ⟨p, 3, none⟩ = some (.map (some bp)) := fun w' hc => by
    have e := hc.block p (block_lt_of_cell h3) (fun e => hpb e)
    unfold World.cell? at h3 ⊢
    rw [e]; exact h3
  clear hr hp
  go_enter Try.func23, Try.ntmps23
  go_wp2_with (first | (at_delete; refine wpList_delL rfl _ _ _ _ _ rfl Try.underlying58 Try.underlying32 k rfl rfl HR.out ?_; intro w1 hr1 hc1; have h31 := h3' w1 hc1; have HP1 := Lib.hid (HP.out.chg hc1 (fun e => hne e.symm)); have HR1 := Lib.hid hr1; have HC1 := Lib.hid hc1; clear hr1 hc1) | (at_delete; refine wpList_delL rfl _ _ _ _ _ rfl Try.underlying59 Try.underlying32 k rfl rfl HP1.out ?_; intro w2 hp2 hc2) | go_in)
  go_end0
  exact ⟨rfl, HR1.out.chg hc2 (fun e => hne e), hp2, (HC1.out.mono (fun _ e => .inl e)).trans (hc2.mono (fun _ e => .inr e))⟩
end Go.Proofs.Ytjcgckhheegonaa
