/- A look at a term, what its walks share. The program's there: whether there is a term of each of some names. -/
import Derived.Test.YtlnpfeecaiecaaaKnowS
namespace Go.Proofs.Ytlnpfeecaiecaaa
open Go.RowKit
open Go.Maps
set_option linter.unusedVariables false
set_option linter.unusedSimpArgs false
set_option maxRecDepth 20000

theorem ints_kept {base : Nat} {a : Option Addr} {cap : Nat} {ks : List Int} {W : World} {S : Nat → Prop} (h : OwnI base (.slice a ks.length cap) ks W) (hS : ∀ k, S k → k < base) : ∀ W', Chg S W W' → IntsAt W' a cap ks := fun W' hc => by
  have h' : OwnI base (.slice a ks.length cap) ks W' := h.chg hc (fun k hk q => by have := (World.ownsRow.lt h k hk).1; have := hS k q; omega)
  obtain ⟨a', cap', e, hi⟩ := h'.at
  injection e with e1 e2 e3
  subst e1; subst e3
  exact hi
theorem Mind.sm {w0 w : World} {g : Nat} {L : List Tm} {dh kem : Bool} {B : MB} {nm : Tm → Int} {H : Nat → List Int} {vs : Nat → Value} {v : Value} {M : List Int} (h : Mind w0 g L dh kem B nm H vs v M w) : ∀ k, SM B v k → k < w.heap.size := by
  rintro k (e | e | e)
  · rw [e]; exact (h.at 0 _ rfl).2
  · rw [e]; exact (h.at 1 _ rfl).2
  · exact (h.at 4 k e.symm).2
/-- What stays where only memory is made: a term's box with all its fields, its rule. -/
def HeldL (W : World) (q : Nat) (B : MB) (i : Nat) (f : Value) (K : Int) (S : ByteArray) (N A Bx C : Int) (w : World) : Prop := w.cell? ⟨q, 0, none⟩ = some (.int .i64 K) ∧ w.cell? ⟨q, 1, none⟩ = some (.string S) ∧ w.cell? ⟨q, 2, none⟩ = some (.int .u64 N) ∧ w.cell? ⟨q, 3, none⟩ = some (.int .i64 A) ∧ w.cell? ⟨q, 4, none⟩ = some (.int .i64 Bx) ∧ w.cell? ⟨q, 5, none⟩ = some (.int .i64 C) ∧
  w.cell? ⟨B.m, i, none⟩ = some f ∧ Hid (Below W.heap.size W w)
theorem HeldL.below {W w w' : World} {q : Nat} {B : MB} {i : Nat} {f : Value} {K : Int} {S : ByteArray} {N A Bx C : Int} (hb : Below w.heap.size w w') (h : HeldL W q B i f K S N A Bx C w) : HeldL W q B i f K S N A Bx C w' := by
  obtain ⟨a1, a2, a3, a4, a5, a6, a7, a11⟩ := h
  exact ⟨(hb.cell (block_lt_of_cell a1)).trans a1, (hb.cell (block_lt_of_cell a2)).trans a2, (hb.cell (block_lt_of_cell a3)).trans a3, (hb.cell (block_lt_of_cell a4)).trans a4, (hb.cell (block_lt_of_cell a5)).trans a5, (hb.cell (block_lt_of_cell a6)).trans a6, (hb.cell (block_lt_of_cell a7)).trans a7, Lib.hid (a11.out.trans (hb.mono a11.out.size))⟩
/-- The program's store, wherever this call has come to. -/
def StoreAt (w0 : World) (g : Nat) (L : List Tm) : Prop := ∃ b F most, PS b g F L most w0
theorem StoreAt.get {w0 w : World} {g : Nat} {L : List Tm} (h : StoreAt w0 g L) (hb : Below w0.heap.size w0 w) (x : Int) :
    Calls Try.prog 32 #[.pointer (some ⟨g, 0, none⟩), .int .i64 x] w fun e w' => e = .returned (.tuple #[(getT L x).1.v, .bool (getT L x).2]) ∧ Below w.heap.size w w' := by
  obtain ⟨b, F, most, gl, bm, tv, dv, D, hp⟩ := h
  exact getP_any w (hp.below hb) x
theorem StoreAt.len {w0 w : World} {g : Nat} {L : List Tm} (h : StoreAt w0 g L) (hb : Below w0.heap.size w0 w) :
    Calls Try.prog 20 #[.pointer (some ⟨g, 0, none⟩)] w fun e w' => e = .returned (.int .i64 L.length) ∧ w = w' := by
  obtain ⟨b, F, most, gl, bm, tv, dv, D, hp⟩ := h
  exact lenP_any w (hp.below hb)
/-- A look, behind its rule: what is made, and what is found in it. -/
theorem look_true {L : List Tm} {dh kem : Bool} {M : List Int} {x : Int} (h : ruleB L (has M) dh kem (tm L x) = true) : look1 L dh kem M x = addAll M [x] := by unfold look1; rw [if_pos h]; rfl
theorem look_false {L : List Tm} {dh kem : Bool} {M : List Int} {x : Int} (h : ruleB L (has M) dh kem (tm L x) = false) : look1 L dh kem M x = M := by unfold look1; rw [if_neg (by rw [h]; decide)]
theorem lookF_true {L : List Tm} {dh kem : Bool} {M M1 : List Int} {x : Int} (e : look1 L dh kem M x = M1) (h : has M1 x = true) : lookF L dh kem M x = addAll M1 (openL (has M1) (tm L x)) := by unfold lookF; rw [e, if_pos h]
theorem lookF_false {L : List Tm} {dh kem : Bool} {M M1 : List Int} {x : Int} (e : look1 L dh kem M x = M1) (h : has M1 x = false) : lookF L dh kem M x = M1 := by unfold lookF; rw [e, if_neg (by rw [h]; decide)]
end Go.Proofs.Ytlnpfeecaiecaaa

namespace Go.Proofs.Ytlnpfeecaiecaaa
open Go.RowKit
open Go.Maps
set_option linter.unusedVariables false
set_option linter.unusedSimpArgs false
set_option maxRecDepth 20000

set_option maxHeartbeats 2000000 in
set_option maxRecDepth 100000 in
theorem there_k {w0 : World} {g : Nat} {L : List Tm} (hg : StoreAt w0 g L) (a : Option Addr) (cap : Nat) (ks : List Int) (W : World) (hb : Below w0.heap.size w0 W) (h : IntsAt W a cap ks) :
    Calls Try.prog 36 #[.pointer (some ⟨g, 0, none⟩), .slice a ks.length cap] W fun e W' => e = .returned (.bool (ks.all (allB L))) ∧ Below W.heap.size W W' := by
  have hlen := h.len
  have HI := Lib.hid h
  have HG : Hid (∀ w', Hid (Below W.heap.size W w') → ∀ x : Int, Calls Try.prog 32 #[.pointer (some ⟨g, 0, none⟩), .int .i64 x] w' fun e W' => e = .returned (.tuple #[(getT L x).1.v, .bool (getT L x).2]) ∧ Below w'.heap.size w' W') := Lib.hid (fun w' hb' x => hg.get (hb.trans (hb'.out.mono hb.size)) x)
  obtain ⟨n, hn⟩ : ∃ n, n = ks.length := ⟨_, rfl⟩
  rw [← hn] at hlen ⊢
  have HN := Lib.hid hn
  clear h hg hb hn
  go_enter Try.func36, Try.ntmps36
  go_wp2
  go_loopw [6, 7, 8, 11] (fun _ _ _ i wr => ∃ k : Nat, k ≤ n ∧ i = .int .i64 k ∧ Hid ((ks.take k).all (allB L) = true) ∧ Hid (Below W.heap.size W wr)) (fun _ _ _ i _ => n - (intOf i).toNat)
  case atStart => exact ⟨0, Nat.zero_le _, rfl, Lib.hid (by simp), Lib.hid (Below.refl _ _)⟩
  case round =>
    obtain ⟨k, hk, rfl, HJ, HB⟩ := hrel
    by_cases hlt : k < n
    · obtain ⟨_, _, b, off, hc⟩ := HI.out.below HB.out
      obtain ⟨rfl, q0⟩ := hc k (by rw [← HN.out]; exact hlt)
      obtain ⟨y, hy⟩ : ∃ y, y = ks.getD k 0 := ⟨_, rfl⟩
      rw [← hy] at q0
      have HY := Lib.hid hy
      have HS : Hid ((ks.take (k + 1)).all (allB L) = allB L y) := Lib.hid (by
        rw [take_getD (by rw [← HN.out]; exact hlt), List.all_append, HJ.out, ← hy]; simp)
      have Hlt := Lib.hid hlt
      have hlt1 : (k : Int) < n := by omega
      have HGY : Hid (Calls Try.prog 32 #[.pointer (some ⟨g, 0, none⟩), .int .i64 y] wr fun e W' => e = .returned (.tuple #[(getT L y).1.v, .bool (getT L y).2]) ∧ Below wr.heap.size wr W') := Lib.hid (HG.out wr HB y)
      have hok : (getT L y).2 = allB L y := by
        unfold getT allB InL
        split
        · rename_i q; rw [decide_eq_true q]
        · rename_i q; rw [decide_eq_false q]
      rw [hok] at HGY
      obtain ⟨⟨TK, TS, TN, TA, TB, TC⟩, ht⟩ : ∃ t, t = (getT L y).1 := ⟨_, rfl⟩
      rw [← ht] at HGY
      unfold Tm.v at HGY
      obtain ⟨o, ho⟩ : ∃ o, o = allB L y := ⟨_, rfl⟩
      rw [← ho] at HGY HS
      have HO := Lib.hid ho
      clear ht ho hok hy hc hk hlt
      cases o
      all_goals
        go_wp2_with fail
        refine HGY.out.mono ?_
        rintro e w1 ⟨rfl, hb1⟩
        have HB1 : Hid (Below W.heap.size W w1) := Lib.hid (HB.out.trans (hb1.mono HB.out.size))
        clear hb1 HGY
        go_wp2_with fail
      · go_ret
        have e : ks.all (allB L) = false := by
          rw [List.all_eq_false]
          exact ⟨_, getD_mem (ks := ks) (k := k) (by rw [← HN.out]; exact Hlt.out), by rw [← HY.out, ← HO.out]; decide⟩
        rw [e]
        exact ⟨rfl, HB1.out.alloc HB1.out.size _⟩
      · go_roundw
        case rel => exact ⟨k + 1, by have := Hlt.out; omega, by go_num, HS, Lib.hid (HB1.out.alloc HB1.out.size _)⟩
        case measure => have := Hlt.out; simp [intOf]; omega
    · obtain rfl : k = n := by omega
      have hlt1 : decide ((k : Int) < k) = false := by simp
      clear hlt hk
      go_wp2
      go_ret
      have e : ks.all (allB L) = true := by have := HJ.out; rw [HN.out, List.take_length] at this; exact this
      rw [e]
      exact ⟨rfl, HB.out⟩
end Go.Proofs.Ytlnpfeecaiecaaa
