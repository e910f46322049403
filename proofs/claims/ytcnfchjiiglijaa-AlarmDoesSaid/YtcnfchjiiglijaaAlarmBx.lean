/- Both sets beside a row of three numbers in a box. -/
import Derived.Test.YtcnfchjiiglijaaAlarmB
namespace Go.Proofs.Ytcnfchjiiglijaa
open Go.RowKit
set_option linter.unusedVariables false
set_option linter.unusedSimpArgs false
set_option maxRecDepth 20000

structure Bx (w0 : World) (F : Nat → Prop) (w : World) (p q x : Nat) (L M : List On) (most u0 u1 u2 : Int) : Prop where
  bo : Bo w0 F w p q L M most
  box : w.heap[x]? = some (.cells #[.int .u64 u0, .int .u64 u1, .int .u64 u2] 30 (0, 0))
  off : ¬ F x
  ne : x ≠ q
section
variable {w0 w w' : World} {F F' : Nat → Prop} {p q x : Nat} {L L' M M' : List On} {most u0 u1 u2 : Int}
theorem Bx.one (h : Bx w0 F w p q x L M most u0 u1 u2) (ha : AlS w0 F' w' p L' most) (hf : FSub F F' w) (hc : Chg F w w') : Bx w0 F' w' p q x L' M most u0 u1 u2 :=
  ⟨h.bo.one ha hc, hc.blk h.box h.off, fun k => by
    have hl := blk_lt h.box
    rcases hf x k with j | j
    · exact h.off j
    · omega, h.ne⟩
theorem Bx.two (h : Bx w0 F w p q x L M most u0 u1 u2) (hr : RAl w' q M' most) (hc : Chg (fun k => k = q) w w') : Bx w0 F w' p q x L M' most u0 u1 u2 :=
  ⟨h.bo.two hr hc, hc.blk h.box h.ne, h.off, h.ne⟩
theorem Bx.drewn (h : Bx w0 F w p q x L M most u0 u1 u2) : Bx w0 F w.drew p q x L M most u0 u1 u2 := ⟨h.bo.drewn, h.box, h.off, h.ne⟩
def Cx (w : World) (x : Nat) (u1 u2 : Int) : Prop := w.cell? ⟨x, 1, none⟩ = some (.int .u64 u1) ∧ w.cell? ⟨x, 2, none⟩ = some (.int .u64 u2)
theorem Bx.cells (h : Bx w0 F w p q x L M most u0 u1 u2) : w.cell? ⟨x, 1, none⟩ = some (.int .u64 u1) ∧ w.cell? ⟨x, 2, none⟩ = some (.int .u64 u2) := ⟨cell_atA 1 h.box, cell_atA 2 h.box⟩
theorem Bo.boxed (h : Bo w0 F w p q L M most) (u0 u1 u2 : Int) : Bx w0 F (w.alloc (.cells #[.int .u64 u0, .int .u64 u1, .int .u64 u2] 30)) p q w.heap.size L M most u0 u1 u2 :=
  ⟨h.below (below_alloc _ _), heap_alloc_new w _, fun k => by have := h.al.al.lt _ k; omega, by have := h.ra.lt; omega⟩
theorem Bx.below (h : Bx w0 F w p q x L M most u0 u1 u2) (hb : Below w.heap.size w w') : Bx w0 F w' p q x L M most u0 u1 u2 := ⟨h.bo.below hb, (hb.block x (blk_lt h.box)).trans h.box, h.off, h.ne⟩
theorem put_x (h : Bx w0 F w p q x L M most u0 u1 u2) (id at_ : Int) (L' : List On) (E : Int) (hL : L.length ≤ 1000) (hid : U64 id) (hat : U64 at_) (hd : (putD most id at_ L).1 = L') (he : ((putD most id at_ L).2 : Int) = E) :
    Calls Try.prog 10 #[.pointer (some ⟨p, 0, none⟩), .int .u64 id, .int .u64 at_] w fun e w' => ∃ F', e = .returned (.int .i64 E) ∧ Bx w0 F' w' p q x L' M most u0 u1 u2 :=
  (put_s h.bo.al id at_ E L' _ hL hid hat (by rw [← hd]) he).mono fun e w' ⟨F', h1, ha, hf, hc⟩ => ⟨F', h1, h.one ha hf hc⟩
theorem rput_x (h : Bx w0 F w p q x L M most u0 u1 u2) (id at_ : Int) (M' : List On) (E : Int) (hM : M.length ≤ 1000) (hm : -9223372036854775808 ≤ most ∧ most ≤ 9223372036854775807) (hd : (putD most id at_ M).1 = M') (he : ((putD most id at_ M).2 : Int) = E) :
    Calls Try.prog 11 #[.pointer (some ⟨q, 0, none⟩), .int .u64 id, .int .u64 at_] w fun e w' => e = .returned (.int .i64 E) ∧ Bx w0 F w' p q x L M' most u0 u1 u2 := by
  subst hd he
  exact (rput_k q id at_ most M w h.bo.ra hM hm).mono fun e w' ⟨h1, hr, hc⟩ => ⟨h1, h.two hr hc⟩
theorem drop_x (h : Bx w0 F w p q x L M most u0 u1 u2) (id : Int) (L' : List On) (b : Bool) (hL : L.length ≤ 1000) (hid : U64 id) (hd : dropD id L = L') (hb : hasD id L = b) :
    Calls Try.prog 12 #[.pointer (some ⟨p, 0, none⟩), .int .u64 id] w fun e w' => ∃ F', e = .returned (.bool b) ∧ Bx w0 F' w' p q x L' M most u0 u1 u2 :=
  (drop_s h.bo.al id L' b hL hid hd hb).mono fun e w' ⟨F', h1, ha, hf, hc⟩ => ⟨F', h1, h.one ha hf hc⟩
theorem rdrop_x (h : Bx w0 F w p q x L M most u0 u1 u2) (id : Int) (M' : List On) (b : Bool) (hM : M.length ≤ 1000) (hd : dropD id M = M') (hb : hasD id M = b) :
    Calls Try.prog 13 #[.pointer (some ⟨q, 0, none⟩), .int .u64 id] w fun e w' => e = .returned (.bool b) ∧ Bx w0 F w' p q x L M' most u0 u1 u2 := by
  subst hd hb
  exact (rdrop_k q id most M w h.bo.ra hM).mono fun e w' ⟨h1, hr, hc⟩ => ⟨h1, h.two hr hc⟩
theorem due_x (h : Bx w0 F w p q x L M most u0 u1 u2) (now : Int) (L' : List On) (ks : List Int) (hL : L.length ≤ 1000) (hn : U64 now) (hd : restD now L = L') (hk : dueD now L = ks) :
    Calls Try.prog 15 #[.pointer (some ⟨p, 0, none⟩), .int .u64 now] w fun e w' => ∃ F' a c, e = .returned (.slice a ks.length c) ∧ Due w.heap.size F' w' (.slice a ks.length c) ks ∧ q < w.heap.size ∧ Bx w0 F' w' p q x L' M most u0 u1 u2 :=
  (due_s h.bo.al now L' ks hL hn hd hk).mono fun e w' ⟨F', v, h1, hu, ha, hf, hc⟩ => by
    obtain ⟨a, c, hv, _⟩ := hu.at
    subst hv
    exact ⟨F', a, c, h1, hu, h.bo.ra.lt, h.one ha hf hc⟩
theorem rdue_x (h : Bx w0 F w p q x L M most u0 u1 u2) (now : Int) (M' : List On) (ks : List Int) (hM : M.length ≤ 1000) (hd : restD now M = M') (hk : dueD now M = ks) {base n : Nat} {a : Option Addr} {c : Nat} {xs : List Int} (hx : Due base F w (.slice a n c) xs) (hqb : q < base) :
    Calls Try.prog 16 #[.pointer (some ⟨q, 0, none⟩), .int .u64 now] w fun e w' => ∃ a2 c2, e = .returned (.slice a2 ks.length c2) ∧ RowAt .u64 w' a2 c2 ks ∧ RowAt .u64 w' a c xs ∧ Bx w0 F w' p q x L M' most u0 u1 u2 := by
  subst hd hk
  exact (rdue_k q now most M w h.bo.ra hM).mono fun e w' ⟨v, h1, ho, hr, hc⟩ => by
    obtain ⟨a2, c2, hv, hw⟩ := ho.at
    subst hv
    obtain ⟨a3, c3, hv3, hw3⟩ := (hx.doc hqb hc).at
    injection hv3 with e1 e2 e3
    subst e1; subst e3
    exact ⟨a2, c2, h1, hw, hw3, h.two hr hc⟩
end
theorem putD_len (most id at_ : Int) (L : List On) : (putD most id at_ L).1.length ≤ L.length + 1 := by
  unfold putD
  split
  · exact Nat.le_succ _
  · simp only; rw [put_len]; split <;> omega
theorem ral_new (w : World) (most : Int) : RAl (w.alloc (.cells #[.slice none 0 0, .int .i64 most] 28)) w.heap.size [] most :=
  ⟨none, 0, heap_alloc_new w _, ⟨Nat.le_refl _, Nat.zero_le _, 0, 0, fun j hj => absurd hj (by simp)⟩, fun p hp => by cases hp⟩
end Go.Proofs.Ytcnfchjiiglijaa
