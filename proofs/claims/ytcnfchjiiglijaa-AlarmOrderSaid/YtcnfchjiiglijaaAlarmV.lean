/- Two rows of numbers compared; the program's set of alarms, as the laws carry it. -/
import Derived.Test.YtcnfchjiiglijaaAlarmU
import Derived.Test.YtcnfchjiiglijaaAlsD
namespace Go.Proofs.Ytcnfchjiiglijaa
open Go.RowKit
set_option linter.unusedVariables false
set_option linter.unusedSimpArgs false
set_option maxRecDepth 20000

set_option maxHeartbeats 4000000 in
set_option maxRecDepth 100000 in
theorem rsame_true (a1 a2 : Option Addr) (n c1 c2 : Nat) (ks : List Int) (w : World) (hn : n = ks.length) (h1 : RowAt .u64 w a1 c1 ks) (h2 : RowAt .u64 w a2 c2 ks) :
    Calls Try.prog 14 #[.slice a1 n c1, .slice a2 n c2] w fun e w' => e = .returned (.bool true) ∧ Below w.heap.size w w' := by
  have hlen := h1.len
  rw [← hn] at hlen
  have HR1 := Lib.hid h1
  have HR2 := Lib.hid h2
  have HN := Lib.hid hn
  clear h1 h2 hn
  go_enter Try.func14, Try.ntmps14
  go_wp2_with fail
  go_loopw [5] (fun i wr => ∃ (k : Nat), k ≤ n ∧ i = .int .i64 k ∧ Hid (Below w.heap.size w wr)) (fun i _ => n - (intOf i).toNat)
  case atStart => exact ⟨0, Nat.zero_le _, rfl, Lib.hid (Below.refl _ _)⟩
  case round =>
    obtain ⟨k, hk, rfl, HB⟩ := hrel
    by_cases hlt : k < n
    · have hlt' : (k : Int) < (n : Int) := by omega
      obtain ⟨_, _, b1, f1, hr1⟩ := HR1.out.below HB.out
      obtain ⟨e1, x1⟩ := hr1 k (by rw [← HN.out]; exact hlt)
      obtain ⟨_, _, b2, f2, hr2⟩ := HR2.out.below HB.out
      obtain ⟨e2, x2⟩ := hr2 k (by rw [← HN.out]; exact hlt)
      subst e1; subst e2
      generalize ks.getD k 0 = z at x1 x2
      have hz : (z != z) = false := by simp
      have HK := Lib.hid hlt
      clear hr1 hr2
      go_wp2_with fail
      go_quiet (fail)
      go_wp2_with fail
      go_roundw
      case rel => exact ⟨k + 1, by omega, by go_num, Lib.hid (HB.out.trans (drewN_belowA HB.out.size _))⟩
      case measure => simp [intOf]; omega
    · obtain rfl : k = n := by omega
      have e1 : decide (k < k) = false := decide_eq_false (Nat.lt_irrefl _)
      clear hlt
      go_wp2_with fail
      go_ret
      exact ⟨rfl, HB.out⟩
/-! ### What the laws carry: the set, made in the call -/
structure AlS (w0 : World) (F : Nat → Prop) (w : World) (p : Nat) (L : List On) (most : Int) : Prop where
  al : Als F w p L most
  own : ∀ k, F k → w0.heap.size ≤ k
  low : Below w0.heap.size w0 w
/-- A row of numbers that a call handed back, beside the set. -/
structure Due (base : Nat) (F : Nat → Prop) (w : World) (v : Value) (ks : List Int) : Prop where
  row : Own 29 .u64 base v ks w
  off : ∀ k, v.ownBlock = some k → ¬ F k
theorem Due.keep {base : Nat} {F F' : Nat → Prop} {w w' : World} {v : Value} {ks : List Int} (h : Due base F w v ks) (hc : Chg F w w') (hf : FSub F F' w) : Due base F' w' v ks :=
  ⟨h.row.chg hc h.off, fun k hk q => by
    rcases hf k q with a | a
    · exact h.off k hk a
    · have := (World.ownsRow.lt h.row k hk).2; omega⟩
theorem Due.below {base : Nat} {F : Nat → Prop} {w w' : World} {v : Value} {ks : List Int} (h : Due base F w v ks) (hb : Below w.heap.size w w') : Due base F w' v ks := ⟨h.row.below hb, h.off⟩
theorem Due.at {base : Nat} {F : Nat → Prop} {w : World} {v : Value} {ks : List Int} (h : Due base F w v ks) : ∃ a c, v = .slice a ks.length c ∧ RowAt .u64 w a c ks := h.row.at
section
variable {w0 w w' : World} {F : Nat → Prop} {p : Nat} {L : List On} {most : Int}
theorem AlS.below (h : AlS w0 F w p L most) (hb : Below w.heap.size w w') : AlS w0 F w' p L most :=
  ⟨h.al.keep (Chg.of_below (S := fun _ => False) hb) (fun _ _ q => q), h.own, h.low.trans (hb.mono h.low.size)⟩
theorem AlS.next {F' : Nat → Prop} {L' : List On} (h : AlS w0 F w p L most) (ha : Als F' w' p L' most) (hf : FSub F F' w) (hc : Chg F w w') : AlS w0 F' w' p L' most :=
  ⟨ha, fun k hk => by rcases hf k hk with a | a; exact h.own k a; exact Nat.le_trans h.low.size a, h.low.trans (hc.below h.own h.low.size)⟩
/-- Kept where another call turns what is not its own. -/
theorem AlS.keep {S : Nat → Prop} (h : AlS w0 F w p L most) (hc : Chg S w w') (hn : ∀ k, F k → ¬ S k) (hS : ∀ k, S k → w0.heap.size ≤ k) : AlS w0 F w' p L most :=
  ⟨h.al.keep hc hn, h.own, h.low.trans (hc.below hS h.low.size)⟩
theorem new_s (most er : Int) (w0 w : World) (hl : Below w0.heap.size w0 w) (he : most = er) : Calls Try.prog 9 #[.int .i64 er] w fun e w' => ∃ p F, e = .returned (.pointer (some ⟨p, 0, none⟩)) ∧ AlS w0 F w' p [] most ∧ (∀ k, F k → w.heap.size ≤ k) ∧ Below w.heap.size w w' := by
  subst he
  refine (new_k most w).mono ?_
  rintro e w' ⟨p, F, he, ha, hf, hb⟩
  exact ⟨p, F, he, ⟨ha, fun k hk => Nat.le_trans hl.size (hf k hk), hl.trans (hb.mono hl.size)⟩, hf, hb⟩
theorem put_s (h : AlS w0 F w p L most) (id at_ er : Int) (L' : List On) (E : Nat) (hL : L.length ≤ 1000) (hid : U64 id) (hat : U64 at_) (hd : putD most id at_ L = (L', E)) (he : (E : Int) = er) :
    Calls Try.prog 10 #[.pointer (some ⟨p, 0, none⟩), .int .u64 id, .int .u64 at_] w fun e w' => ∃ F', e = .returned (.int .i64 er) ∧ AlS w0 F' w' p L' most ∧ FSub F F' w ∧ Chg F w w' := by
  subst he
  refine (put_k F p id at_ most L w h.al hL hid hat).mono ?_
  rintro e w' ⟨F', he, ha, hf, hc⟩
  rw [hd] at he ha
  exact ⟨F', he, h.next ha hf hc, hf, hc⟩
theorem drop_s (h : AlS w0 F w p L most) (id : Int) (L' : List On) (b : Bool) (hL : L.length ≤ 1000) (hid : U64 id) (hd : dropD id L = L') (hb : hasD id L = b) :
    Calls Try.prog 12 #[.pointer (some ⟨p, 0, none⟩), .int .u64 id] w fun e w' => ∃ F', e = .returned (.bool b) ∧ AlS w0 F' w' p L' most ∧ FSub F F' w ∧ Chg F w w' := by
  subst hd hb
  refine (drop_k F p id most L w h.al hL hid).mono ?_
  rintro e w' ⟨F', he, ha, hf, hc⟩
  exact ⟨F', he, h.next ha hf hc, hf, hc⟩
theorem due_s (h : AlS w0 F w p L most) (now : Int) (L' : List On) (ks : List Int) (hL : L.length ≤ 1000) (hnow : U64 now) (hd : restD now L = L') (hk : dueD now L = ks) :
    Calls Try.prog 15 #[.pointer (some ⟨p, 0, none⟩), .int .u64 now] w fun e w' => ∃ F' v, e = .returned v ∧ Due w.heap.size F' w' v ks ∧ AlS w0 F' w' p L' most ∧ FSub F F' w ∧ Chg F w w' := by
  subst hd hk
  refine (due_k F p now most L w h.al hL hnow).mono ?_
  rintro e w' ⟨F', v, he, ho, hv, ha, hf, hc⟩
  exact ⟨F', v, he, ⟨ho, hv⟩, h.next ha hf hc, hf, hc⟩
theorem first_s (h : AlS w0 F w p L most) (at_ : Int) (b : Bool) (hL : L.length ≤ 1000) (hd : firstD L = (at_, b)) :
    Calls Try.prog 17 #[.pointer (some ⟨p, 0, none⟩)] w fun e w' => e = .returned (.tuple #[.int .u64 at_, .bool b]) ∧ Below w.heap.size w w' := by
  have := first_k F p most L w h.al hL
  rw [hd] at this
  exact this
theorem len_s (h : AlS w0 F w p L most) (n : Int) (hL : L.length ≤ 1000) (hd : (L.length : Int) = n) :
    Calls Try.prog 19 #[.pointer (some ⟨p, 0, none⟩)] w fun e w' => e = .returned (.int .i64 n) ∧ Below w.heap.size w w' := by
  subst hd
  exact len_k F p most L w h.al hL
end
end Go.Proofs.Ytcnfchjiiglijaa
