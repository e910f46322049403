/- The document's helpers: whether a name is on a list, and whether a term of some kind and parts can be made. The document's helpers: whether a name is what a term of a list is taken apart to, and whether a term is made at once of those of a list. -/
import Derived.Test.YtdhfnbajmjmlbaaKnowM
import Derived.BigRegion
import Derived.Test.YtdhfnbajmjmlbaaSameL
namespace Go.Proofs.Ytdhfnbajmjmlbaa
open Go.RowKit
set_option linter.unusedVariables false
set_option linter.unusedSimpArgs false
set_option maxRecDepth 20000

set_option maxHeartbeats 1000000 in
theorem in_any (a : Option Addr) (cap : Nat) (ks : List Int) (x : Int) (w : World) (h : IntsAt w a cap ks) :
    Calls Try.prog 35 #[.slice a ks.length cap, .int .i64 x] w fun e w' => e = .returned (.bool (has ks x)) ∧ w = w' := by
  have hlen := h.len
  obtain ⟨hl, hm, b, off, hc⟩ := h
  have HC := Lib.hid hc
  obtain ⟨n, hn⟩ : ∃ n, n = ks.length := ⟨_, rfl⟩
  rw [← hn] at hlen ⊢
  have HN := Lib.hid hn
  clear hc hl hm hn
  go_enter Try.func35, Try.ntmps35
  go_wp2
  go_loop [5] (fun i => ∃ k : Nat, k ≤ n ∧ i = .int .i64 k ∧ Hid (has (ks.take k) x = false)) (fun i => n - (intOf i).toNat)
  case atStart => exact ⟨0, Nat.zero_le _, rfl, Lib.hid (by simp [has])⟩
  case round =>
    obtain ⟨k, hk, rfl, HJ⟩ := hrel
    by_cases hlt : k < n
    · obtain ⟨rfl, q0⟩ := HC.out k (by rw [← HN.out]; exact hlt)
      obtain ⟨y, hy⟩ : ∃ y, y = ks.getD k 0 := ⟨_, rfl⟩
      rw [← hy] at q0
      have HY := Lib.hid hy
      have Hlt := Lib.hid hlt
      have hlt1 : (k : Int) < n := by omega
      clear hy hk hlt
      by_cases hx : y = x
      · have e1 : (y == x) = true := by simpa using hx
        have HX := Lib.hid hx
        clear hx
        go_wp2
        go_ret
        have e : has ks x = true := has_iff.2 (by rw [← HX.out, HY.out]; exact getD_mem (by rw [← HN.out]; exact Hlt.out))
        rw [e]
        exact ⟨rfl, rfl⟩
      · have e1 : (y == x) = false := by simpa using hx
        have HX := Lib.hid hx
        clear hx
        go_wp2
        go_round
        case rel => exact ⟨k + 1, by have := Hlt.out; omega, by go_num, Lib.hid (by
          rw [has_take (by rw [← HN.out]; exact Hlt.out), HJ.out, ← HY.out]
          simpa using (fun h => HX.out h.symm))⟩
        case measure => have := Hlt.out; simp [intOf]; omega
    · obtain rfl : k = n := by omega
      clear hlt hk
      go_wp2
      go_ret
      have e : has ks x = false := by have := HJ.out; rw [HN.out, List.take_length] at this; exact this
      rw [e]
      exact ⟨rfl, rfl⟩

/-- Is there on a list a term of that kind and these parts. -/
def isOf (L : List Tm) (x kind a b : Int) : Bool := (tm L x).K == kind && (tm L x).A == a && (tm L x).B == b
def ofB (L : List Tm) (ks : List Int) (kind a b : Int) : Bool := ks.any fun x => isOf L x kind a b
theorem any_take {f : Int → Bool} {ks : List Int} {k : Nat} (h : k < ks.length) : (ks.take (k + 1)).any f = ((ks.take k).any f || f (ks.getD k 0)) := by rw [take_getD h]; simp
theorem any_at {f : Int → Bool} {ks : List Int} {k : Nat} (h : k < ks.length) (hf : f (ks.getD k 0) = true) : ks.any f = true := List.any_eq_true.2 ⟨_, getD_mem h, hf⟩

set_option maxHeartbeats 2000000 in
set_option maxRecDepth 100000 in
theorem of_any {g : Nat} {L : List Tm} {w : World} (hA : AtR g L w) (a : Option Addr) (cap : Nat) (ks : List Int) (kind x y : Int) (h : IntsAt w a cap ks) (hin : ∀ n, n ∈ ks → InL L n) :
    Calls Try.prog 54 #[.pointer (some ⟨g, 0, none⟩), .slice a ks.length cap, .int .i64 kind, .int .i64 x, .int .i64 y] w fun e w' => e = .returned (.bool (ofB L ks kind x y)) ∧ Below w.heap.size w w' := by
  have hlen := h.len
  have HI := Lib.hid h
  have HA := Lib.hid hA
  have HIN := Lib.hid hin
  obtain ⟨n, hn⟩ : ∃ n, n = ks.length := ⟨_, rfl⟩
  rw [← hn] at hlen ⊢
  have HN := Lib.hid hn
  clear h hA hin hn
  go_enter Try.func54, Try.ntmps54
  go_wp2
  go_loopw [11] (fun i wr => ∃ k : Nat, k ≤ n ∧ i = .int .i64 k ∧ Hid (ofB L (ks.take k) kind x y = false) ∧ Hid (Below w.heap.size w wr)) (fun i _ => n - (intOf i).toNat)
  case atStart => exact ⟨0, Nat.zero_le _, rfl, Lib.hid (by simp [ofB]), Lib.hid (Below.refl _ _)⟩
  case round =>
    obtain ⟨k, hk, rfl, HJ, HB⟩ := hrel
    by_cases hlt : k < n
    · have hin := HIN.out _ (getD_mem (by rw [← HN.out]; exact hlt))
      obtain ⟨_, _, b, off, hc⟩ := HI.out.below HB.out
      obtain ⟨rfl, q0⟩ := hc k (by rw [← HN.out]; exact hlt)
      obtain ⟨z, hz⟩ : ∃ z, z = ks.getD k 0 := ⟨_, rfl⟩
      rw [← hz] at q0 hin
      have hg := getT_tm hin
      obtain ⟨⟨TK, TS, TN, TA, TB, TC⟩, ht⟩ : ∃ t, t = tm L z := ⟨_, rfl⟩
      rw [← ht] at hg
      obtain ⟨j, bb, cp, rfl, hj, hl, c0, hq⟩ := (HA.out.below HB.out).at hg
      have HZ := Lib.hid hz
      have HT := Lib.hid ht
      have Hlt := Lib.hid hlt
      have hlt1 : (k : Int) < n := by omega
      have hj1 : (j : Int) < L.length := by omega
      have e4 : (j : Int) + 1 - 1 = j := by omega
      have r0 : wr.cell? ⟨bb, j * 6, none⟩ = some (.int .i64 TK) := hq 0 _ rfl
      have r1 : wr.cell? ⟨bb, j * 6 + 1, none⟩ = some (.string TS) := hq 1 _ rfl
      have r2 : wr.cell? ⟨bb, j * 6 + 2, none⟩ = some (.int .u64 TN) := hq 2 _ rfl
      have r3 : wr.cell? ⟨bb, j * 6 + 3, none⟩ = some (.int .i64 TA) := hq 3 _ rfl
      have r4 : wr.cell? ⟨bb, j * 6 + 4, none⟩ = some (.int .i64 TB) := hq 4 _ rfl
      have r5 : wr.cell? ⟨bb, j * 6 + 5, none⟩ = some (.int .i64 TC) := hq 5 _ rfl
      have hgs : g < wr.heap.size := block_lt_of_cell c0
      have hbs : b < wr.heap.size := block_lt_of_cell q0
      have hbbs : bb < wr.heap.size := block_lt_of_cell r0
      have hj0 : (0 : Int) ≤ (j : Int) := by omega
      have e5 : IntKind.i64.wrap (j : Int) = j := wrap_small _ (by omega) (by omega)
      clear hz ht hg hq hin hc hk hlt
      have HS : Hid (isOf L ((j : Int) + 1) kind x y = (TK == kind && TA == x && TB == y)) := Lib.hid (by unfold isOf; rw [← HT.out])
      go_wp2
      go_region
      have HB2 : Hid (Below w.heap.size w (wr.alloc (.cells #[.int .i64 TK, .string TS, .int .u64 TN, .int .i64 TA, .int .i64 TB, .int .i64 TC] 61)).drew) := Lib.hid ((HB.out.alloc HB.out.size _).drew)
      have z : ∀ i, ((wr.alloc (.cells #[.int .i64 TK, .string TS, .int .u64 TN, .int .i64 TA, .int .i64 TB, .int .i64 TC] 61)).drew).cell? ⟨wr.heap.size, i, none⟩ = #[Value.int .i64 TK, .string TS, .int .u64 TN, .int .i64 TA, .int .i64 TB, .int .i64 TC][i]? := fun i => cell_of_row _ _ i _ _ _ (heap_alloc_new wr _)
      generalize (wr.alloc (.cells #[.int .i64 TK, .string TS, .int .u64 TN, .int .i64 TA, .int .i64 TB, .int .i64 TC] 61)).drew = w1 at HB2 z ⊢
      have z0 := z 0
      have z3 := z 3
      have z4 := z 4
      simp at z0 z3 z4
      clear z q0 r0 r1 r2 r3 r4 r5 c0 HB
      have hw : ((TK == kind) = true ∧ (TA == x) = true ∧ (TB == y) = true) ∨ (((TK == kind) = false ∨ ((TK == kind) = true ∧ (TA == x) = false) ∨ ((TK == kind) = true ∧ (TA == x) = true ∧ (TB == y) = false))) := by
        cases (TK == kind) <;> cases (TA == x) <;> cases (TB == y) <;> simp
      rcases hw with ⟨e1, e2, e3⟩ | hw
      · have HE : Hid (isOf L ((j : Int) + 1) kind x y = true) := Lib.hid (by rw [HS.out, e1, e2, e3]; rfl)
        go_wp2
        go_ret
        have e : ofB L ks kind x y = true := any_at (by rw [← HN.out]; exact Hlt.out) (by rw [← HZ.out]; exact HE.out)
        rw [e]
        exact ⟨rfl, HB2.out⟩
      · have HE : Hid (isOf L ((j : Int) + 1) kind x y = false) := Lib.hid (by
          rw [HS.out]
          rcases hw with e1 | ⟨e1, e2⟩ | ⟨e1, e2, e3⟩
          · rw [e1]; rfl
          · rw [e1, e2]; rfl
          · rw [e1, e2, e3]; rfl)
        rcases hw with e1 | ⟨e1, e2⟩ | ⟨e1, e2, e3⟩
        all_goals
          go_wp2
          go_roundw
          case rel => exact ⟨k + 1, by have := Hlt.out; omega, by go_num, Lib.hid (by
            have h1 := HJ.out
            unfold ofB at h1 ⊢
            rw [any_take (by rw [← HN.out]; exact Hlt.out), h1, ← HZ.out, HE.out]; rfl), HB2⟩
          case measure => have := Hlt.out; simp [intOf]; omega
    · obtain rfl : k = n := by omega
      clear hlt hk
      go_wp2
      go_ret
      have e : ofB L ks kind x y = false := by have := HJ.out; rw [HN.out, List.take_length] at this; exact this
      rw [e]
      exact ⟨rfl, HB.out⟩
end Go.Proofs.Ytdhfnbajmjmlbaa

namespace Go.Proofs.Ytdhfnbajmjmlbaa
open Go.RowKit
set_option linter.unusedVariables false
set_option linter.unusedSimpArgs false
set_option maxRecDepth 20000

def apartB (L : List Tm) (ks : List Int) (n : Int) : Bool := ks.any fun x => openB (has ks) (tm L x) n
/-- Each term there has one name alone. -/
def Uniq (L : List Tm) : Prop := ∀ k, k < L.length → nameOf L (L.getD k zeroT) = (k : Int) + 1
theorem Uniq.nil : Uniq [] := fun k hk => absurd hk (Nat.not_lt_zero _)
theorem Uniq.put {L : List Tm} (h : Uniq L) (most : Int) (t : Tm) : Uniq (putF L most t).2.2 := by
  rcases putF_cases L most t with ⟨hp, hm⟩ | ⟨j, hj, hp, hjt, hm, hn⟩ | ⟨hr, hp, hm, hn⟩ | ⟨hr, hp, hm, hn⟩
  all_goals rw [hp]
  · exact h
  · exact h
  · exact h
  · intro k hk
    have hk' : k < L.length + 1 := by simpa using hk
    show nameOf (L ++ [t]) ((L ++ [t]).getD k zeroT) = (k : Int) + 1
    rcases Nat.lt_succ_iff_lt_or_eq.1 hk' with q | q
    · rw [getD_snoc_lt L t k q, nameOf_snoc_old L t _ (by rw [h k q]; omega), h k q]
    · rw [q, getD_snoc_eq, nameOf_snoc_same L t hn]
theorem Uniq.tm {L : List Tm} (h : Uniq L) {n : Int} (hn : InL L n) : nameOf L (tm L n) = n := by
  have h1 := hn.1
  have h2 := hn.2
  have := h (n - 1).toNat (by omega)
  unfold Go.Proofs.Ytdhfnbajmjmlbaa.tm
  rw [this]; omega
theorem nameOf_tm {L : List Tm} {t : Tm} (h : nameOf L t ≠ 0) : InL L (nameOf L t) ∧ tm L (nameOf L t) = t := by
  rcases nameOf_cases L t with ⟨h0, _⟩ | ⟨k, hk, h1, h2, _⟩
  · exact absurd h0 h
  · rw [h1]
    exact ⟨⟨by omega, by omega⟩, by rw [tm_nat, h2]⟩
/-- The fields of a term that its kind has not. -/
theorem bare_tm {L : List Tm} (hS : Sound L) {n : Int} (hn : InL L n) : 1 ≤ (tm L n).K ∧ (tm L n).K ≤ 11 ∧ ((tm L n).K ≠ 1 → (tm L n).S = ⟨#[]⟩) ∧ ((tm L n).K ≠ 2 → (tm L n).K ≠ 9 → (tm L n).K ≠ 10 → (tm L n).N = 0) ∧ (∀ j, j < 3 → many (tm L n).K ≤ j → prt (tm L n).A (tm L n).B (tm L n).C j = 0) ∧ ∀ j, j < many (tm L n).K → InL L (prt (tm L n).A (tm L n).B (tm L n).C j) := by
  have h := hS (n - 1).toNat (by have := hn.1; have := hn.2; omega)
  rw [may_iff] at h
  obtain ⟨h1, h2, h3, h4, h5, h6, h7⟩ := h
  refine ⟨h1, h2, fun k => (empty_iff _).1 (h3 k), h4, fun j hj hm => ?_, fun j hm => ?_⟩
  · have := h6 j hj
    unfold BadP at this
    unfold Go.Proofs.Ytdhfnbajmjmlbaa.tm at hm ⊢
    omega
  · have hj : j < 3 := Nat.lt_of_lt_of_le hm (many_le _)
    have := h6 j hj
    unfold BadP at this
    unfold Go.Proofs.Ytdhfnbajmjmlbaa.tm at hm ⊢
    unfold InL
    omega
theorem tm_eq {t u : Tm} (h1 : t.K = u.K) (h2 : t.S = u.S) (h3 : t.N = u.N) (h4 : t.A = u.A) (h5 : t.B = u.B) (h6 : t.C = u.C) : t = u := by
  cases t; cases u; simp_all
theorem of_has {L : List Tm} (hU : Uniq L) {ks : List Int} (hin : ∀ n, n ∈ ks → InL L n) {u : Tm} {kind a b : Int} (h1 : ∀ n, InL L n → isOf L n kind a b = true → tm L n = u) (h2 : u.K = kind ∧ u.A = a ∧ u.B = b) : ofB L ks kind a b = hasT L (has ks) u := by
  rw [Bool.eq_iff_iff]
  unfold ofB hasT
  rw [List.any_eq_true, has_iff]
  constructor
  · rintro ⟨x, hx, hi⟩
    have e := h1 x (hin x hx) hi
    rw [← e, hU.tm (hin x hx)]
    exact hx
  · intro h
    have hne : nameOf L u ≠ 0 := fun e => by have := (hin _ h).1; omega
    obtain ⟨_, e⟩ := nameOf_tm hne
    exact ⟨_, h, by unfold isOf; rw [e]; simp [h2.1, h2.2.1, h2.2.2]⟩
theorem isOf_iff {L : List Tm} {x kind a b : Int} : isOf L x kind a b = true ↔ (tm L x).K = kind ∧ (tm L x).A = a ∧ (tm L x).B = b := by
  unfold isOf; simp [and_assoc]
theorem of_pub {L : List Tm} (hS : Sound L) (hU : Uniq L) {ks : List Int} (hin : ∀ n, n ∈ ks → InL L n) (a : Int) : ofB L ks 3 a 0 = hasT L (has ks) (pubT a) := by
  refine of_has hU hin (fun n hn hi => ?_) ⟨rfl, rfl, rfl⟩
  obtain ⟨i1, i2, i3⟩ := isOf_iff.1 hi
  obtain ⟨b1, b2, b3, b4, b5, b6⟩ := bare_tm hS hn
  rw [i1] at b5
  exact tm_eq i1 (b3 (by omega)) (b4 (by omega) (by omega) (by omega)) i2 i3 (b5 2 (by omega) (by decide))
theorem of_kpub {L : List Tm} (hS : Sound L) (hU : Uniq L) {ks : List Int} (hin : ∀ n, n ∈ ks → InL L n) (a : Int) : ofB L ks 5 a 0 = hasT L (has ks) (kpubT a) := by
  refine of_has hU hin (fun n hn hi => ?_) ⟨rfl, rfl, rfl⟩
  obtain ⟨i1, i2, i3⟩ := isOf_iff.1 hi
  obtain ⟨b1, b2, b3, b4, b5, b6⟩ := bare_tm hS hn
  rw [i1] at b5
  exact tm_eq i1 (b3 (by omega)) (b4 (by omega) (by omega) (by omega)) i2 i3 (b5 2 (by omega) (by decide))
theorem of_box {L : List Tm} (hS : Sound L) (hU : Uniq L) {ks : List Int} (hin : ∀ n, n ∈ ks → InL L n) (a b : Int) : ofB L ks 6 a b = hasT L (has ks) (boxT a b) := by
  refine of_has hU hin (fun n hn hi => ?_) ⟨rfl, rfl, rfl⟩
  obtain ⟨i1, i2, i3⟩ := isOf_iff.1 hi
  obtain ⟨b1, b2, b3, b4, b5, b6⟩ := bare_tm hS hn
  rw [i1] at b5
  exact tm_eq i1 (b3 (by omega)) (b4 (by omega) (by omega) (by omega)) i2 i3 (b5 2 (by omega) (by decide))

set_option maxHeartbeats 2000000 in
set_option maxRecDepth 100000 in
theorem apart_any {g : Nat} {L : List Tm} {w : World} (hA : AtR g L w) (a : Option Addr) (cap : Nat) (ks : List Int) (x : Int) (h : IntsAt w a cap ks) (hin : ∀ n, n ∈ ks → InL L n) :
    Calls Try.prog 37 #[.pointer (some ⟨g, 0, none⟩), .slice a ks.length cap, .int .i64 x] w fun e w' => e = .returned (.bool (apartB L ks x)) ∧ Below w.heap.size w w' := by
  have hlen := h.len
  have HI := Lib.hid h
  have HA := Lib.hid hA
  have HIN := Lib.hid hin
  obtain ⟨n, hn⟩ : ∃ n, n = ks.length := ⟨_, rfl⟩
  have HCI : Hid (∀ W, Below w.heap.size w W → ∀ y, Calls Try.prog 35 #[.slice a n cap, .int .i64 y] W fun e w' => e = .returned (.bool (has ks y)) ∧ W = w') := Lib.hid (fun W hb y => by rw [hn]; exact in_any a cap ks y W (HI.out.below hb))
  rw [← hn] at hlen ⊢
  have HN := Lib.hid hn
  clear h hA hin hn
  go_enter Try.func37, Try.ntmps37
  go_wp2
  go_loopw [7] (fun i wr => ∃ k : Nat, k ≤ n ∧ i = .int .i64 k ∧ Hid ((ks.take k).any (fun y => openB (has ks) (tm L y) x) = false) ∧ Hid (Below w.heap.size w wr)) (fun i _ => n - (intOf i).toNat)
  case atStart => exact ⟨0, Nat.zero_le _, rfl, Lib.hid (by simp), Lib.hid (Below.refl _ _)⟩
  case round =>
    obtain ⟨k, hk, rfl, HJ, HB⟩ := hrel
    by_cases hlt : k < n
    · have hin := HIN.out _ (getD_mem (by rw [← HN.out]; exact hlt))
      obtain ⟨_, _, b, off, hc⟩ := HI.out.below HB.out
      obtain ⟨rfl, q0⟩ := hc k (by rw [← HN.out]; exact hlt)
      obtain ⟨z, hz⟩ : ∃ z, z = ks.getD k 0 := ⟨_, rfl⟩
      rw [← hz] at q0 hin
      have hg := getT_tm hin
      obtain ⟨⟨TK, TS, TN, TA, TB, TC⟩, ht⟩ : ∃ t, t = tm L z := ⟨_, rfl⟩
      rw [← ht] at hg
      obtain ⟨j, bb, cp, rfl, hj, hl, c0, hq⟩ := (HA.out.below HB.out).at hg
      have HZ := Lib.hid hz
      have HT := Lib.hid ht
      have Hlt := Lib.hid hlt
      have hlt1 : (k : Int) < n := by omega
      have hj1 : (j : Int) < L.length := by omega
      have e4 : (j : Int) + 1 - 1 = j := by omega
      have r0 : wr.cell? ⟨bb, j * 6, none⟩ = some (.int .i64 TK) := hq 0 _ rfl
      have r1 : wr.cell? ⟨bb, j * 6 + 1, none⟩ = some (.string TS) := hq 1 _ rfl
      have r2 : wr.cell? ⟨bb, j * 6 + 2, none⟩ = some (.int .u64 TN) := hq 2 _ rfl
      have r3 : wr.cell? ⟨bb, j * 6 + 3, none⟩ = some (.int .i64 TA) := hq 3 _ rfl
      have r4 : wr.cell? ⟨bb, j * 6 + 4, none⟩ = some (.int .i64 TB) := hq 4 _ rfl
      have r5 : wr.cell? ⟨bb, j * 6 + 5, none⟩ = some (.int .i64 TC) := hq 5 _ rfl
      have hgs : g < wr.heap.size := block_lt_of_cell c0
      have hbs : b < wr.heap.size := block_lt_of_cell q0
      have hbbs : bb < wr.heap.size := block_lt_of_cell r0
      have hj0 : (0 : Int) ≤ (j : Int) := by omega
      have e5 : IntKind.i64.wrap (j : Int) = j := wrap_small _ (by omega) (by omega)
      clear hz ht hg hq hin hc hk hlt
      obtain ⟨bi, hbi⟩ : ∃ q, q = has ks TA := ⟨_, rfl⟩
      have HIN2 : Hid (∀ W, Below w.heap.size w W → Calls Try.prog 35 #[.slice (some ⟨b, off, none⟩) n cap, .int .i64 TA] W fun e w' => e = .returned (.bool bi) ∧ W = w') := Lib.hid (fun W hb => by rw [hbi]; exact HCI.out W hb TA)
      have HS : Hid (openB (has ks) (tm L ((j : Int) + 1)) x = (((TK == 11) && (TA == x || TB == x)) || ((TK == 10) && TC == x && bi))) := Lib.hid (by unfold openB; rw [← HT.out, hbi]; rfl)
      have hk1110 : (TK == 11) = true → (TK == 10) = false := fun h => by simp at h ⊢; omega
      clear hbi
      go_wp2
      go_region
      have HB2 : Hid (Below w.heap.size w (wr.alloc (.cells #[.int .i64 TK, .string TS, .int .u64 TN, .int .i64 TA, .int .i64 TB, .int .i64 TC] 61)).drew) := Lib.hid ((HB.out.alloc HB.out.size _).drew)
      have z : ∀ i, ((wr.alloc (.cells #[.int .i64 TK, .string TS, .int .u64 TN, .int .i64 TA, .int .i64 TB, .int .i64 TC] 61)).drew).cell? ⟨wr.heap.size, i, none⟩ = #[Value.int .i64 TK, .string TS, .int .u64 TN, .int .i64 TA, .int .i64 TB, .int .i64 TC][i]? := fun i => cell_of_row _ _ i _ _ _ (heap_alloc_new wr _)
      generalize (wr.alloc (.cells #[.int .i64 TK, .string TS, .int .u64 TN, .int .i64 TA, .int .i64 TB, .int .i64 TC] 61)).drew = w1 at HB2 z ⊢
      have z0 := z 0
      have z3 := z 3
      have z4 := z 4
      have z5 := z 5
      simp at z0 z3 z4 z5
      clear z q0 r0 r1 r2 r3 r4 r5 c0 HB
      have hw : ((TK == 11) = true ∧ (TA == x) = true) ∨ ((TK == 11) = true ∧ (TA == x) = false ∧ (TB == x) = true) ∨ ((TK == 11) = true ∧ (TA == x) = false ∧ (TB == x) = false ∧ (TK == 10) = false) ∨ ((TK == 11) = false ∧ (TK == 10) = false) ∨ ((TK == 11) = false ∧ (TK == 10) = true ∧ (TC == x) = false) ∨ ((TK == 11) = false ∧ (TK == 10) = true ∧ (TC == x) = true ∧ bi = false) ∨ ((TK == 11) = false ∧ (TK == 10) = true ∧ (TC == x) = true ∧ bi = true) := by
        revert hk1110
        cases (TK == 11) <;> cases (TK == 10) <;> cases (TA == x) <;> cases (TB == x) <;> cases (TC == x) <;> cases bi <;> simp
      clear hk1110
      rcases hw with ⟨e1, e2⟩ | ⟨e1, e2, e3⟩ | ⟨e1, e2, e3, e6⟩ | ⟨e1, e2⟩ | ⟨e1, e2, e3⟩ | ⟨e1, e2, e3, rfl⟩ | ⟨e1, e2, e3, rfl⟩
      · have HE : Hid (openB (has ks) (tm L ((j : Int) + 1)) x = true) := Lib.hid (by rw [HS.out, e1, e2]; rfl)
        go_wp2
        go_ret
        have e : apartB L ks x = true := any_at (by rw [← HN.out]; exact Hlt.out) (by rw [← HZ.out]; exact HE.out)
        rw [e]
        exact ⟨rfl, HB2.out⟩
      · have HE : Hid (openB (has ks) (tm L ((j : Int) + 1)) x = true) := Lib.hid (by rw [HS.out, e1, e2, e3]; rfl)
        go_wp2
        go_ret
        have e : apartB L ks x = true := any_at (by rw [← HN.out]; exact Hlt.out) (by rw [← HZ.out]; exact HE.out)
        rw [e]
        exact ⟨rfl, HB2.out⟩
      · have HE : Hid (openB (has ks) (tm L ((j : Int) + 1)) x = false) := Lib.hid (by rw [HS.out, e1, e2, e3, e6]; rfl)
        go_wp2
        go_roundw
        case rel => exact ⟨k + 1, by have := Hlt.out; omega, by go_num, Lib.hid (by rw [any_take (by rw [← HN.out]; exact Hlt.out), HJ.out, ← HZ.out, HE.out]; rfl), HB2⟩
        case measure => have := Hlt.out; simp [intOf]; omega
      · have HE : Hid (openB (has ks) (tm L ((j : Int) + 1)) x = false) := Lib.hid (by rw [HS.out, e1, e2]; rfl)
        go_wp2
        go_roundw
        case rel => exact ⟨k + 1, by have := Hlt.out; omega, by go_num, Lib.hid (by rw [any_take (by rw [← HN.out]; exact Hlt.out), HJ.out, ← HZ.out, HE.out]; rfl), HB2⟩
        case measure => have := Hlt.out; simp [intOf]; omega
      · have HE : Hid (openB (has ks) (tm L ((j : Int) + 1)) x = false) := Lib.hid (by rw [HS.out, e1, e2, e3]; rfl)
        go_wp2
        go_roundw
        case rel => exact ⟨k + 1, by have := Hlt.out; omega, by go_num, Lib.hid (by rw [any_take (by rw [← HN.out]; exact Hlt.out), HJ.out, ← HZ.out, HE.out]; rfl), HB2⟩
        case measure => have := Hlt.out; simp [intOf]; omega
      · have HE : Hid (openB (has ks) (tm L ((j : Int) + 1)) x = false) := Lib.hid (by rw [HS.out, e1, e2, e3]; rfl)
        go_wp2_with fail
        refine (HIN2.out _ HB2.out).mono ?_
        rintro e w2 ⟨rfl, rfl⟩
        go_wp2
        go_roundw
        case rel => exact ⟨k + 1, by have := Hlt.out; omega, by go_num, Lib.hid (by rw [any_take (by rw [← HN.out]; exact Hlt.out), HJ.out, ← HZ.out, HE.out]; rfl), HB2⟩
        case measure => have := Hlt.out; simp [intOf]; omega
      · have HE : Hid (openB (has ks) (tm L ((j : Int) + 1)) x = true) := Lib.hid (by rw [HS.out, e1, e2, e3]; rfl)
        go_wp2_with fail
        refine (HIN2.out _ HB2.out).mono ?_
        rintro e w2 ⟨rfl, rfl⟩
        go_wp2
        go_ret
        have e : apartB L ks x = true := any_at (by rw [← HN.out]; exact Hlt.out) (by rw [← HZ.out]; exact HE.out)
        rw [e]
        exact ⟨rfl, HB2.out⟩
    · obtain rfl : k = n := by omega
      clear hlt hk
      go_wp2
      go_ret
      have e : apartB L ks x = false := by have := HJ.out; rw [HN.out, List.take_length] at this; exact this
      rw [e]
      exact ⟨rfl, HB.out⟩
end Go.Proofs.Ytdhfnbajmjmlbaa
