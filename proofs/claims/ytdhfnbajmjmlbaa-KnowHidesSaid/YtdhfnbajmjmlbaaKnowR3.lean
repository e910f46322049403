/- The document's helper: whether a term is made at once of those of a list. -/
import Derived.Test.YtdhfnbajmjmlbaaKnowR
import Derived.Deep.RegionHeld3
namespace Go.Proofs.Ytdhfnbajmjmlbaa
open Go.RowKit
set_option linter.unusedVariables false
set_option linter.unusedSimpArgs false
set_option maxRecDepth 20000

/-- The box of the term, and what was there. -/
def HeldM (w0 : World) (b : Nat) (A B : Int) (w : World) : Prop := w.cell? ⟨b, 3, none⟩ = some (.int .i64 A) ∧ w.cell? ⟨b, 4, none⟩ = some (.int .i64 B) ∧ Hid (Below w0.heap.size w0 w)
theorem HeldM.below {w0 w w' : World} {b : Nat} {A B : Int} (hb : Below w.heap.size w w') (h : HeldM w0 b A B w) : HeldM w0 b A B w' :=
  ⟨(hb.cell (block_lt_of_cell h.1)).trans h.1, (hb.cell (block_lt_of_cell h.2.1)).trans h.2.1, Lib.hid (h.2.2.out.trans (hb.mono h.2.2.out.size))⟩

set_option maxHeartbeats 2000000 in
set_option maxRecDepth 100000 in
theorem makes1 {g : Nat} {L : List Tm} {w : World} (hA : AtR g L w) (hS : Sound L) (hU : Uniq L) (a : Option Addr) (cap : Nat) (ks : List Int) (h : IntsAt w a cap ks) (hin : ∀ n, n ∈ ks → InL L n) (dh kem : Bool) (S : ByteArray) (N A B C : Int) :
    Calls Try.prog 36 #[.pointer (some ⟨g, 0, none⟩), .slice a ks.length cap, .bool dh, .bool kem, .agg #[.int .i64 1, .string S, .int .u64 N, .int .i64 A, .int .i64 B, .int .i64 C]] w fun e w' => e = .returned (.bool (ruleB L (has ks) dh kem ⟨1, S, N, A, B, C⟩)) ∧ Below w.heap.size w w' := by
  have HR : Hid (ruleB L (has ks) dh kem ⟨1, S, N, A, B, C⟩ = true) := Lib.hid (by simp [ruleB])
  obtain ⟨n, hn⟩ : ∃ n, n = ks.length := ⟨_, rfl⟩
  have HIN : Hid (∀ W, Hid (Below w.heap.size w W) → ∀ y, Calls Try.prog 35 #[.slice a n cap, .int .i64 y] W fun e w' => e = .returned (.bool (has ks y)) ∧ W = w') := Lib.hid (fun W hb y => by rw [hn]; exact in_any a cap ks y W (h.below hb.out))
  have HOF : Hid (∀ W, HeldM w w.heap.size A B W → ∀ kind x y, Calls Try.prog 54 #[.pointer (some ⟨g, 0, none⟩), .slice a n cap, .int .i64 kind, .int .i64 x, .int .i64 y] W fun e w' => e = .returned (.bool (ofB L ks kind x y)) ∧ Below W.heap.size W w') := Lib.hid (fun W hb kind x y => by rw [hn]; exact of_any (hA.below hb.2.2.out) a cap ks kind x y (h.below hb.2.2.out) hin)
  rw [HR.out, ← hn]
  clear HR h hA hS hU hin hn
  go_enter Try.func36, Try.ntmps36
  go_wp2
  obtain ⟨W, hW⟩ : ∃ W, W = w.alloc (.cells #[.int .i64 1, .string S, .int .u64 N, .int .i64 A, .int .i64 B, .int .i64 C] 61) := ⟨_, rfl⟩
  have z : ∀ j, W.cell? ⟨w.heap.size, j, none⟩ = #[Value.int .i64 1, .string S, .int .u64 N, .int .i64 A, .int .i64 B, .int .i64 C][j]? := fun j => by rw [hW]; exact cell_of_row _ _ j _ _ _ (heap_alloc_new w _)
  have HBW : Hid (Below w.heap.size w W) := Lib.hid (by rw [hW]; exact (Below.refl _ _).alloc (Nat.le_refl _) _)
  rw [← hW]
  clear hW
  have z0 := z 0
  have z3 := z 3
  have z4 := z 4
  have z5 := z 5
  simp at z0 z3 z4 z5
  clear z
  have HQ : Hid (∀ m y, Calls Try.prog 35 #[.slice a n cap, .int .i64 y] (W.drewN m) fun e w' => e = .returned (.bool (has ks y)) ∧ ∃ q, w' = W.drewN q) := Lib.hid (fun m y => quiet_of (HIN.out _ (Lib.hid (HBW.out.trans ((drewN_below W m).mono HBW.out.size))) y))
  go_quiet (first | (go_at_call 35; exact HQ.out _ _))
  have HB1 : Hid (Below w.heap.size w (W.drewN nq)) := Lib.hid (HBW.out.trans ((drewN_below W nq).mono HBW.out.size))
  have z0 : (W.drewN nq).cell? ⟨w.heap.size, 0, none⟩ = some (.int .i64 1) := z0
  have z3 : (W.drewN nq).cell? ⟨w.heap.size, 3, none⟩ = some (.int .i64 A) := z3
  have z4 : (W.drewN nq).cell? ⟨w.heap.size, 4, none⟩ = some (.int .i64 B) := z4
  have z5 : (W.drewN nq).cell? ⟨w.heap.size, 5, none⟩ = some (.int .i64 C) := z5
  generalize W.drewN nq = w1 at HB1 z0 z3 z4 z5 ⊢
  clear HQ HBW
  go_wp2
  go_ret
  exact ⟨rfl, HB1.out⟩

set_option maxHeartbeats 2000000 in
set_option maxRecDepth 100000 in
theorem makes2 {g : Nat} {L : List Tm} {w : World} (hA : AtR g L w) (hS : Sound L) (hU : Uniq L) (a : Option Addr) (cap : Nat) (ks : List Int) (h : IntsAt w a cap ks) (hin : ∀ n, n ∈ ks → InL L n) (dh kem : Bool) (S : ByteArray) (N A B C : Int) :
    Calls Try.prog 36 #[.pointer (some ⟨g, 0, none⟩), .slice a ks.length cap, .bool dh, .bool kem, .agg #[.int .i64 2, .string S, .int .u64 N, .int .i64 A, .int .i64 B, .int .i64 C]] w fun e w' => e = .returned (.bool (ruleB L (has ks) dh kem ⟨2, S, N, A, B, C⟩)) ∧ Below w.heap.size w w' := by
  have HR : Hid (ruleB L (has ks) dh kem ⟨2, S, N, A, B, C⟩ = false) := Lib.hid (by simp [ruleB])
  obtain ⟨n, hn⟩ : ∃ n, n = ks.length := ⟨_, rfl⟩
  have HIN : Hid (∀ W, Hid (Below w.heap.size w W) → ∀ y, Calls Try.prog 35 #[.slice a n cap, .int .i64 y] W fun e w' => e = .returned (.bool (has ks y)) ∧ W = w') := Lib.hid (fun W hb y => by rw [hn]; exact in_any a cap ks y W (h.below hb.out))
  have HOF : Hid (∀ W, HeldM w w.heap.size A B W → ∀ kind x y, Calls Try.prog 54 #[.pointer (some ⟨g, 0, none⟩), .slice a n cap, .int .i64 kind, .int .i64 x, .int .i64 y] W fun e w' => e = .returned (.bool (ofB L ks kind x y)) ∧ Below W.heap.size W w') := Lib.hid (fun W hb kind x y => by rw [hn]; exact of_any (hA.below hb.2.2.out) a cap ks kind x y (h.below hb.2.2.out) hin)
  rw [HR.out, ← hn]
  clear HR h hA hS hU hin hn
  go_enter Try.func36, Try.ntmps36
  go_wp2
  obtain ⟨W, hW⟩ : ∃ W, W = w.alloc (.cells #[.int .i64 2, .string S, .int .u64 N, .int .i64 A, .int .i64 B, .int .i64 C] 61) := ⟨_, rfl⟩
  have z : ∀ j, W.cell? ⟨w.heap.size, j, none⟩ = #[Value.int .i64 2, .string S, .int .u64 N, .int .i64 A, .int .i64 B, .int .i64 C][j]? := fun j => by rw [hW]; exact cell_of_row _ _ j _ _ _ (heap_alloc_new w _)
  have HBW : Hid (Below w.heap.size w W) := Lib.hid (by rw [hW]; exact (Below.refl _ _).alloc (Nat.le_refl _) _)
  rw [← hW]
  clear hW
  have z0 := z 0
  have z3 := z 3
  have z4 := z 4
  have z5 := z 5
  simp at z0 z3 z4 z5
  clear z
  have HQ : Hid (∀ m y, Calls Try.prog 35 #[.slice a n cap, .int .i64 y] (W.drewN m) fun e w' => e = .returned (.bool (has ks y)) ∧ ∃ q, w' = W.drewN q) := Lib.hid (fun m y => quiet_of (HIN.out _ (Lib.hid (HBW.out.trans ((drewN_below W m).mono HBW.out.size))) y))
  go_quiet (first | (go_at_call 35; exact HQ.out _ _))
  have HB1 : Hid (Below w.heap.size w (W.drewN nq)) := Lib.hid (HBW.out.trans ((drewN_below W nq).mono HBW.out.size))
  have z0 : (W.drewN nq).cell? ⟨w.heap.size, 0, none⟩ = some (.int .i64 2) := z0
  have z3 : (W.drewN nq).cell? ⟨w.heap.size, 3, none⟩ = some (.int .i64 A) := z3
  have z4 : (W.drewN nq).cell? ⟨w.heap.size, 4, none⟩ = some (.int .i64 B) := z4
  have z5 : (W.drewN nq).cell? ⟨w.heap.size, 5, none⟩ = some (.int .i64 C) := z5
  generalize W.drewN nq = w1 at HB1 z0 z3 z4 z5 ⊢
  clear HQ HBW
  go_wp2
  go_ret
  exact ⟨rfl, HB1.out⟩

set_option maxHeartbeats 2000000 in
set_option maxRecDepth 100000 in
theorem makes3 {g : Nat} {L : List Tm} {w : World} (hA : AtR g L w) (hS : Sound L) (hU : Uniq L) (a : Option Addr) (cap : Nat) (ks : List Int) (h : IntsAt w a cap ks) (hin : ∀ n, n ∈ ks → InL L n) (dh kem : Bool) (S : ByteArray) (N A B C : Int) :
    Calls Try.prog 36 #[.pointer (some ⟨g, 0, none⟩), .slice a ks.length cap, .bool dh, .bool kem, .agg #[.int .i64 3, .string S, .int .u64 N, .int .i64 A, .int .i64 B, .int .i64 C]] w fun e w' => e = .returned (.bool (ruleB L (has ks) dh kem ⟨3, S, N, A, B, C⟩)) ∧ Below w.heap.size w w' := by
  have HR : Hid (ruleB L (has ks) dh kem ⟨3, S, N, A, B, C⟩ = has ks A) := Lib.hid (by simp [ruleB])
  obtain ⟨n, hn⟩ : ∃ n, n = ks.length := ⟨_, rfl⟩
  have HIN : Hid (∀ W, Hid (Below w.heap.size w W) → ∀ y, Calls Try.prog 35 #[.slice a n cap, .int .i64 y] W fun e w' => e = .returned (.bool (has ks y)) ∧ W = w') := Lib.hid (fun W hb y => by rw [hn]; exact in_any a cap ks y W (h.below hb.out))
  have HOF : Hid (∀ W, HeldM w w.heap.size A B W → ∀ kind x y, Calls Try.prog 54 #[.pointer (some ⟨g, 0, none⟩), .slice a n cap, .int .i64 kind, .int .i64 x, .int .i64 y] W fun e w' => e = .returned (.bool (ofB L ks kind x y)) ∧ Below W.heap.size W w') := Lib.hid (fun W hb kind x y => by rw [hn]; exact of_any (hA.below hb.2.2.out) a cap ks kind x y (h.below hb.2.2.out) hin)
  rw [HR.out, ← hn]
  obtain ⟨ba, hba⟩ : ∃ q, q = has ks A := ⟨_, rfl⟩
  rw [← hba]
  have Hba := Lib.hid hba
  clear hba
  clear HR h hA hS hU hin hn
  go_enter Try.func36, Try.ntmps36
  go_wp2
  obtain ⟨W, hW⟩ : ∃ W, W = w.alloc (.cells #[.int .i64 3, .string S, .int .u64 N, .int .i64 A, .int .i64 B, .int .i64 C] 61) := ⟨_, rfl⟩
  have z : ∀ j, W.cell? ⟨w.heap.size, j, none⟩ = #[Value.int .i64 3, .string S, .int .u64 N, .int .i64 A, .int .i64 B, .int .i64 C][j]? := fun j => by rw [hW]; exact cell_of_row _ _ j _ _ _ (heap_alloc_new w _)
  have HBW : Hid (Below w.heap.size w W) := Lib.hid (by rw [hW]; exact (Below.refl _ _).alloc (Nat.le_refl _) _)
  rw [← hW]
  clear hW
  have z0 := z 0
  have z3 := z 3
  have z4 := z 4
  have z5 := z 5
  simp at z0 z3 z4 z5
  clear z
  have HQ : Hid (∀ m y, Calls Try.prog 35 #[.slice a n cap, .int .i64 y] (W.drewN m) fun e w' => e = .returned (.bool (has ks y)) ∧ ∃ q, w' = W.drewN q) := Lib.hid (fun m y => quiet_of (HIN.out _ (Lib.hid (HBW.out.trans ((drewN_below W m).mono HBW.out.size))) y))
  go_quiet (first | (go_at_call 35; exact HQ.out _ _))
  have HB1 : Hid (Below w.heap.size w (W.drewN nq)) := Lib.hid (HBW.out.trans ((drewN_below W nq).mono HBW.out.size))
  have z0 : (W.drewN nq).cell? ⟨w.heap.size, 0, none⟩ = some (.int .i64 3) := z0
  have z3 : (W.drewN nq).cell? ⟨w.heap.size, 3, none⟩ = some (.int .i64 A) := z3
  have z4 : (W.drewN nq).cell? ⟨w.heap.size, 4, none⟩ = some (.int .i64 B) := z4
  have z5 : (W.drewN nq).cell? ⟨w.heap.size, 5, none⟩ = some (.int .i64 C) := z5
  generalize W.drewN nq = w1 at HB1 z0 z3 z4 z5 ⊢
  clear HQ HBW
  rw [← Hba.out]
  go_wp2
  go_ret
  exact ⟨rfl, HB1.out⟩

set_option maxHeartbeats 2000000 in
set_option maxRecDepth 100000 in
theorem makes5 {g : Nat} {L : List Tm} {w : World} (hA : AtR g L w) (hS : Sound L) (hU : Uniq L) (a : Option Addr) (cap : Nat) (ks : List Int) (h : IntsAt w a cap ks) (hin : ∀ n, n ∈ ks → InL L n) (dh kem : Bool) (S : ByteArray) (N A B C : Int) :
    Calls Try.prog 36 #[.pointer (some ⟨g, 0, none⟩), .slice a ks.length cap, .bool dh, .bool kem, .agg #[.int .i64 5, .string S, .int .u64 N, .int .i64 A, .int .i64 B, .int .i64 C]] w fun e w' => e = .returned (.bool (ruleB L (has ks) dh kem ⟨5, S, N, A, B, C⟩)) ∧ Below w.heap.size w w' := by
  have HR : Hid (ruleB L (has ks) dh kem ⟨5, S, N, A, B, C⟩ = has ks A) := Lib.hid (by simp [ruleB])
  obtain ⟨n, hn⟩ : ∃ n, n = ks.length := ⟨_, rfl⟩
  have HIN : Hid (∀ W, Hid (Below w.heap.size w W) → ∀ y, Calls Try.prog 35 #[.slice a n cap, .int .i64 y] W fun e w' => e = .returned (.bool (has ks y)) ∧ W = w') := Lib.hid (fun W hb y => by rw [hn]; exact in_any a cap ks y W (h.below hb.out))
  have HOF : Hid (∀ W, HeldM w w.heap.size A B W → ∀ kind x y, Calls Try.prog 54 #[.pointer (some ⟨g, 0, none⟩), .slice a n cap, .int .i64 kind, .int .i64 x, .int .i64 y] W fun e w' => e = .returned (.bool (ofB L ks kind x y)) ∧ Below W.heap.size W w') := Lib.hid (fun W hb kind x y => by rw [hn]; exact of_any (hA.below hb.2.2.out) a cap ks kind x y (h.below hb.2.2.out) hin)
  rw [HR.out, ← hn]
  obtain ⟨ba, hba⟩ : ∃ q, q = has ks A := ⟨_, rfl⟩
  rw [← hba]
  have Hba := Lib.hid hba
  clear hba
  clear HR h hA hS hU hin hn
  go_enter Try.func36, Try.ntmps36
  go_wp2
  obtain ⟨W, hW⟩ : ∃ W, W = w.alloc (.cells #[.int .i64 5, .string S, .int .u64 N, .int .i64 A, .int .i64 B, .int .i64 C] 61) := ⟨_, rfl⟩
  have z : ∀ j, W.cell? ⟨w.heap.size, j, none⟩ = #[Value.int .i64 5, .string S, .int .u64 N, .int .i64 A, .int .i64 B, .int .i64 C][j]? := fun j => by rw [hW]; exact cell_of_row _ _ j _ _ _ (heap_alloc_new w _)
  have HBW : Hid (Below w.heap.size w W) := Lib.hid (by rw [hW]; exact (Below.refl _ _).alloc (Nat.le_refl _) _)
  rw [← hW]
  clear hW
  have z0 := z 0
  have z3 := z 3
  have z4 := z 4
  have z5 := z 5
  simp at z0 z3 z4 z5
  clear z
  have HQ : Hid (∀ m y, Calls Try.prog 35 #[.slice a n cap, .int .i64 y] (W.drewN m) fun e w' => e = .returned (.bool (has ks y)) ∧ ∃ q, w' = W.drewN q) := Lib.hid (fun m y => quiet_of (HIN.out _ (Lib.hid (HBW.out.trans ((drewN_below W m).mono HBW.out.size))) y))
  go_quiet (first | (go_at_call 35; exact HQ.out _ _))
  have HB1 : Hid (Below w.heap.size w (W.drewN nq)) := Lib.hid (HBW.out.trans ((drewN_below W nq).mono HBW.out.size))
  have z0 : (W.drewN nq).cell? ⟨w.heap.size, 0, none⟩ = some (.int .i64 5) := z0
  have z3 : (W.drewN nq).cell? ⟨w.heap.size, 3, none⟩ = some (.int .i64 A) := z3
  have z4 : (W.drewN nq).cell? ⟨w.heap.size, 4, none⟩ = some (.int .i64 B) := z4
  have z5 : (W.drewN nq).cell? ⟨w.heap.size, 5, none⟩ = some (.int .i64 C) := z5
  generalize W.drewN nq = w1 at HB1 z0 z3 z4 z5 ⊢
  clear HQ HBW
  rw [← Hba.out]
  go_wp2
  go_ret
  exact ⟨rfl, HB1.out⟩

set_option maxHeartbeats 2000000 in
set_option maxRecDepth 100000 in
theorem makes9 {g : Nat} {L : List Tm} {w : World} (hA : AtR g L w) (hS : Sound L) (hU : Uniq L) (a : Option Addr) (cap : Nat) (ks : List Int) (h : IntsAt w a cap ks) (hin : ∀ n, n ∈ ks → InL L n) (dh kem : Bool) (S : ByteArray) (N A B C : Int) :
    Calls Try.prog 36 #[.pointer (some ⟨g, 0, none⟩), .slice a ks.length cap, .bool dh, .bool kem, .agg #[.int .i64 9, .string S, .int .u64 N, .int .i64 A, .int .i64 B, .int .i64 C]] w fun e w' => e = .returned (.bool (ruleB L (has ks) dh kem ⟨9, S, N, A, B, C⟩)) ∧ Below w.heap.size w w' := by
  have HR : Hid (ruleB L (has ks) dh kem ⟨9, S, N, A, B, C⟩ = has ks A) := Lib.hid (by simp [ruleB])
  obtain ⟨n, hn⟩ : ∃ n, n = ks.length := ⟨_, rfl⟩
  have HIN : Hid (∀ W, Hid (Below w.heap.size w W) → ∀ y, Calls Try.prog 35 #[.slice a n cap, .int .i64 y] W fun e w' => e = .returned (.bool (has ks y)) ∧ W = w') := Lib.hid (fun W hb y => by rw [hn]; exact in_any a cap ks y W (h.below hb.out))
  have HOF : Hid (∀ W, HeldM w w.heap.size A B W → ∀ kind x y, Calls Try.prog 54 #[.pointer (some ⟨g, 0, none⟩), .slice a n cap, .int .i64 kind, .int .i64 x, .int .i64 y] W fun e w' => e = .returned (.bool (ofB L ks kind x y)) ∧ Below W.heap.size W w') := Lib.hid (fun W hb kind x y => by rw [hn]; exact of_any (hA.below hb.2.2.out) a cap ks kind x y (h.below hb.2.2.out) hin)
  rw [HR.out, ← hn]
  obtain ⟨ba, hba⟩ : ∃ q, q = has ks A := ⟨_, rfl⟩
  rw [← hba]
  have Hba := Lib.hid hba
  clear hba
  clear HR h hA hS hU hin hn
  go_enter Try.func36, Try.ntmps36
  go_wp2
  obtain ⟨W, hW⟩ : ∃ W, W = w.alloc (.cells #[.int .i64 9, .string S, .int .u64 N, .int .i64 A, .int .i64 B, .int .i64 C] 61) := ⟨_, rfl⟩
  have z : ∀ j, W.cell? ⟨w.heap.size, j, none⟩ = #[Value.int .i64 9, .string S, .int .u64 N, .int .i64 A, .int .i64 B, .int .i64 C][j]? := fun j => by rw [hW]; exact cell_of_row _ _ j _ _ _ (heap_alloc_new w _)
  have HBW : Hid (Below w.heap.size w W) := Lib.hid (by rw [hW]; exact (Below.refl _ _).alloc (Nat.le_refl _) _)
  rw [← hW]
  clear hW
  have z0 := z 0
  have z3 := z 3
  have z4 := z 4
  have z5 := z 5
  simp at z0 z3 z4 z5
  clear z
  have HQ : Hid (∀ m y, Calls Try.prog 35 #[.slice a n cap, .int .i64 y] (W.drewN m) fun e w' => e = .returned (.bool (has ks y)) ∧ ∃ q, w' = W.drewN q) := Lib.hid (fun m y => quiet_of (HIN.out _ (Lib.hid (HBW.out.trans ((drewN_below W m).mono HBW.out.size))) y))
  go_quiet (first | (go_at_call 35; exact HQ.out _ _))
  have HB1 : Hid (Below w.heap.size w (W.drewN nq)) := Lib.hid (HBW.out.trans ((drewN_below W nq).mono HBW.out.size))
  have z0 : (W.drewN nq).cell? ⟨w.heap.size, 0, none⟩ = some (.int .i64 9) := z0
  have z3 : (W.drewN nq).cell? ⟨w.heap.size, 3, none⟩ = some (.int .i64 A) := z3
  have z4 : (W.drewN nq).cell? ⟨w.heap.size, 4, none⟩ = some (.int .i64 B) := z4
  have z5 : (W.drewN nq).cell? ⟨w.heap.size, 5, none⟩ = some (.int .i64 C) := z5
  generalize W.drewN nq = w1 at HB1 z0 z3 z4 z5 ⊢
  clear HQ HBW
  rw [← Hba.out]
  go_wp2
  go_ret
  exact ⟨rfl, HB1.out⟩

set_option maxHeartbeats 2000000 in
set_option maxRecDepth 100000 in
theorem makes8 {g : Nat} {L : List Tm} {w : World} (hA : AtR g L w) (hS : Sound L) (hU : Uniq L) (a : Option Addr) (cap : Nat) (ks : List Int) (h : IntsAt w a cap ks) (hin : ∀ n, n ∈ ks → InL L n) (dh kem : Bool) (S : ByteArray) (N A B C : Int) :
    Calls Try.prog 36 #[.pointer (some ⟨g, 0, none⟩), .slice a ks.length cap, .bool dh, .bool kem, .agg #[.int .i64 8, .string S, .int .u64 N, .int .i64 A, .int .i64 B, .int .i64 C]] w fun e w' => e = .returned (.bool (ruleB L (has ks) dh kem ⟨8, S, N, A, B, C⟩)) ∧ Below w.heap.size w w' := by
  have HR : Hid (ruleB L (has ks) dh kem ⟨8, S, N, A, B, C⟩ = (has ks A && has ks B)) := Lib.hid (by simp [ruleB])
  obtain ⟨n, hn⟩ : ∃ n, n = ks.length := ⟨_, rfl⟩
  have HIN : Hid (∀ W, Hid (Below w.heap.size w W) → ∀ y, Calls Try.prog 35 #[.slice a n cap, .int .i64 y] W fun e w' => e = .returned (.bool (has ks y)) ∧ W = w') := Lib.hid (fun W hb y => by rw [hn]; exact in_any a cap ks y W (h.below hb.out))
  have HOF : Hid (∀ W, HeldM w w.heap.size A B W → ∀ kind x y, Calls Try.prog 54 #[.pointer (some ⟨g, 0, none⟩), .slice a n cap, .int .i64 kind, .int .i64 x, .int .i64 y] W fun e w' => e = .returned (.bool (ofB L ks kind x y)) ∧ Below W.heap.size W w') := Lib.hid (fun W hb kind x y => by rw [hn]; exact of_any (hA.below hb.2.2.out) a cap ks kind x y (h.below hb.2.2.out) hin)
  rw [HR.out, ← hn]
  obtain ⟨ba, hba⟩ : ∃ q, q = has ks A := ⟨_, rfl⟩
  rw [← hba]
  have Hba := Lib.hid hba
  clear hba
  obtain ⟨bb, hbb⟩ : ∃ q, q = has ks B := ⟨_, rfl⟩
  rw [← hbb]
  have Hbb := Lib.hid hbb
  clear hbb
  clear HR h hA hS hU hin hn
  go_enter Try.func36, Try.ntmps36
  go_wp2
  obtain ⟨W, hW⟩ : ∃ W, W = w.alloc (.cells #[.int .i64 8, .string S, .int .u64 N, .int .i64 A, .int .i64 B, .int .i64 C] 61) := ⟨_, rfl⟩
  have z : ∀ j, W.cell? ⟨w.heap.size, j, none⟩ = #[Value.int .i64 8, .string S, .int .u64 N, .int .i64 A, .int .i64 B, .int .i64 C][j]? := fun j => by rw [hW]; exact cell_of_row _ _ j _ _ _ (heap_alloc_new w _)
  have HBW : Hid (Below w.heap.size w W) := Lib.hid (by rw [hW]; exact (Below.refl _ _).alloc (Nat.le_refl _) _)
  rw [← hW]
  clear hW
  have z0 := z 0
  have z3 := z 3
  have z4 := z 4
  have z5 := z 5
  simp at z0 z3 z4 z5
  clear z
  have HQ : Hid (∀ m y, Calls Try.prog 35 #[.slice a n cap, .int .i64 y] (W.drewN m) fun e w' => e = .returned (.bool (has ks y)) ∧ ∃ q, w' = W.drewN q) := Lib.hid (fun m y => quiet_of (HIN.out _ (Lib.hid (HBW.out.trans ((drewN_below W m).mono HBW.out.size))) y))
  go_quiet (first | (go_at_call 35; exact HQ.out _ _))
  have HB1 : Hid (Below w.heap.size w (W.drewN nq)) := Lib.hid (HBW.out.trans ((drewN_below W nq).mono HBW.out.size))
  have z0 : (W.drewN nq).cell? ⟨w.heap.size, 0, none⟩ = some (.int .i64 8) := z0
  have z3 : (W.drewN nq).cell? ⟨w.heap.size, 3, none⟩ = some (.int .i64 A) := z3
  have z4 : (W.drewN nq).cell? ⟨w.heap.size, 4, none⟩ = some (.int .i64 B) := z4
  have z5 : (W.drewN nq).cell? ⟨w.heap.size, 5, none⟩ = some (.int .i64 C) := z5
  generalize W.drewN nq = w1 at HB1 z0 z3 z4 z5 ⊢
  clear HQ HBW
  rw [← Hba.out, ← Hbb.out]
  cases ba <;> cases bb
  all_goals
    go_wp2
    go_ret
    exact ⟨rfl, HB1.out⟩

set_option maxHeartbeats 2000000 in
set_option maxRecDepth 100000 in
theorem makes11 {g : Nat} {L : List Tm} {w : World} (hA : AtR g L w) (hS : Sound L) (hU : Uniq L) (a : Option Addr) (cap : Nat) (ks : List Int) (h : IntsAt w a cap ks) (hin : ∀ n, n ∈ ks → InL L n) (dh kem : Bool) (S : ByteArray) (N A B C : Int) :
    Calls Try.prog 36 #[.pointer (some ⟨g, 0, none⟩), .slice a ks.length cap, .bool dh, .bool kem, .agg #[.int .i64 11, .string S, .int .u64 N, .int .i64 A, .int .i64 B, .int .i64 C]] w fun e w' => e = .returned (.bool (ruleB L (has ks) dh kem ⟨11, S, N, A, B, C⟩)) ∧ Below w.heap.size w w' := by
  have HR : Hid (ruleB L (has ks) dh kem ⟨11, S, N, A, B, C⟩ = (has ks A && has ks B)) := Lib.hid (by simp [ruleB])
  obtain ⟨n, hn⟩ : ∃ n, n = ks.length := ⟨_, rfl⟩
  have HIN : Hid (∀ W, Hid (Below w.heap.size w W) → ∀ y, Calls Try.prog 35 #[.slice a n cap, .int .i64 y] W fun e w' => e = .returned (.bool (has ks y)) ∧ W = w') := Lib.hid (fun W hb y => by rw [hn]; exact in_any a cap ks y W (h.below hb.out))
  have HOF : Hid (∀ W, HeldM w w.heap.size A B W → ∀ kind x y, Calls Try.prog 54 #[.pointer (some ⟨g, 0, none⟩), .slice a n cap, .int .i64 kind, .int .i64 x, .int .i64 y] W fun e w' => e = .returned (.bool (ofB L ks kind x y)) ∧ Below W.heap.size W w') := Lib.hid (fun W hb kind x y => by rw [hn]; exact of_any (hA.below hb.2.2.out) a cap ks kind x y (h.below hb.2.2.out) hin)
  rw [HR.out, ← hn]
  obtain ⟨ba, hba⟩ : ∃ q, q = has ks A := ⟨_, rfl⟩
  rw [← hba]
  have Hba := Lib.hid hba
  clear hba
  obtain ⟨bb, hbb⟩ : ∃ q, q = has ks B := ⟨_, rfl⟩
  rw [← hbb]
  have Hbb := Lib.hid hbb
  clear hbb
  clear HR h hA hS hU hin hn
  go_enter Try.func36, Try.ntmps36
  go_wp2
  obtain ⟨W, hW⟩ : ∃ W, W = w.alloc (.cells #[.int .i64 11, .string S, .int .u64 N, .int .i64 A, .int .i64 B, .int .i64 C] 61) := ⟨_, rfl⟩
  have z : ∀ j, W.cell? ⟨w.heap.size, j, none⟩ = #[Value.int .i64 11, .string S, .int .u64 N, .int .i64 A, .int .i64 B, .int .i64 C][j]? := fun j => by rw [hW]; exact cell_of_row _ _ j _ _ _ (heap_alloc_new w _)
  have HBW : Hid (Below w.heap.size w W) := Lib.hid (by rw [hW]; exact (Below.refl _ _).alloc (Nat.le_refl _) _)
  rw [← hW]
  clear hW
  have z0 := z 0
  have z3 := z 3
  have z4 := z 4
  have z5 := z 5
  simp at z0 z3 z4 z5
  clear z
  have HQ : Hid (∀ m y, Calls Try.prog 35 #[.slice a n cap, .int .i64 y] (W.drewN m) fun e w' => e = .returned (.bool (has ks y)) ∧ ∃ q, w' = W.drewN q) := Lib.hid (fun m y => quiet_of (HIN.out _ (Lib.hid (HBW.out.trans ((drewN_below W m).mono HBW.out.size))) y))
  go_quiet (first | (go_at_call 35; exact HQ.out _ _))
  have HB1 : Hid (Below w.heap.size w (W.drewN nq)) := Lib.hid (HBW.out.trans ((drewN_below W nq).mono HBW.out.size))
  have z0 : (W.drewN nq).cell? ⟨w.heap.size, 0, none⟩ = some (.int .i64 11) := z0
  have z3 : (W.drewN nq).cell? ⟨w.heap.size, 3, none⟩ = some (.int .i64 A) := z3
  have z4 : (W.drewN nq).cell? ⟨w.heap.size, 4, none⟩ = some (.int .i64 B) := z4
  have z5 : (W.drewN nq).cell? ⟨w.heap.size, 5, none⟩ = some (.int .i64 C) := z5
  generalize W.drewN nq = w1 at HB1 z0 z3 z4 z5 ⊢
  clear HQ HBW
  rw [← Hba.out, ← Hbb.out]
  cases ba <;> cases bb
  all_goals
    go_wp2
    go_ret
    exact ⟨rfl, HB1.out⟩

set_option maxHeartbeats 2000000 in
set_option maxRecDepth 100000 in
theorem makes10 {g : Nat} {L : List Tm} {w : World} (hA : AtR g L w) (hS : Sound L) (hU : Uniq L) (a : Option Addr) (cap : Nat) (ks : List Int) (h : IntsAt w a cap ks) (hin : ∀ n, n ∈ ks → InL L n) (dh kem : Bool) (S : ByteArray) (N A B C : Int) :
    Calls Try.prog 36 #[.pointer (some ⟨g, 0, none⟩), .slice a ks.length cap, .bool dh, .bool kem, .agg #[.int .i64 10, .string S, .int .u64 N, .int .i64 A, .int .i64 B, .int .i64 C]] w fun e w' => e = .returned (.bool (ruleB L (has ks) dh kem ⟨10, S, N, A, B, C⟩)) ∧ Below w.heap.size w w' := by
  have HR : Hid (ruleB L (has ks) dh kem ⟨10, S, N, A, B, C⟩ = (has ks A && has ks B && has ks C)) := Lib.hid (by simp [ruleB])
  obtain ⟨n, hn⟩ : ∃ n, n = ks.length := ⟨_, rfl⟩
  have HIN : Hid (∀ W, Hid (Below w.heap.size w W) → ∀ y, Calls Try.prog 35 #[.slice a n cap, .int .i64 y] W fun e w' => e = .returned (.bool (has ks y)) ∧ W = w') := Lib.hid (fun W hb y => by rw [hn]; exact in_any a cap ks y W (h.below hb.out))
  have HOF : Hid (∀ W, HeldM w w.heap.size A B W → ∀ kind x y, Calls Try.prog 54 #[.pointer (some ⟨g, 0, none⟩), .slice a n cap, .int .i64 kind, .int .i64 x, .int .i64 y] W fun e w' => e = .returned (.bool (ofB L ks kind x y)) ∧ Below W.heap.size W w') := Lib.hid (fun W hb kind x y => by rw [hn]; exact of_any (hA.below hb.2.2.out) a cap ks kind x y (h.below hb.2.2.out) hin)
  rw [HR.out, ← hn]
  obtain ⟨ba, hba⟩ : ∃ q, q = has ks A := ⟨_, rfl⟩
  rw [← hba]
  have Hba := Lib.hid hba
  clear hba
  obtain ⟨bb, hbb⟩ : ∃ q, q = has ks B := ⟨_, rfl⟩
  rw [← hbb]
  have Hbb := Lib.hid hbb
  clear hbb
  obtain ⟨bc, hbc⟩ : ∃ q, q = has ks C := ⟨_, rfl⟩
  rw [← hbc]
  have Hbc := Lib.hid hbc
  clear hbc
  clear HR h hA hS hU hin hn
  go_enter Try.func36, Try.ntmps36
  go_wp2
  obtain ⟨W, hW⟩ : ∃ W, W = w.alloc (.cells #[.int .i64 10, .string S, .int .u64 N, .int .i64 A, .int .i64 B, .int .i64 C] 61) := ⟨_, rfl⟩
  have z : ∀ j, W.cell? ⟨w.heap.size, j, none⟩ = #[Value.int .i64 10, .string S, .int .u64 N, .int .i64 A, .int .i64 B, .int .i64 C][j]? := fun j => by rw [hW]; exact cell_of_row _ _ j _ _ _ (heap_alloc_new w _)
  have HBW : Hid (Below w.heap.size w W) := Lib.hid (by rw [hW]; exact (Below.refl _ _).alloc (Nat.le_refl _) _)
  rw [← hW]
  clear hW
  have z0 := z 0
  have z3 := z 3
  have z4 := z 4
  have z5 := z 5
  simp at z0 z3 z4 z5
  clear z
  have HQ : Hid (∀ m y, Calls Try.prog 35 #[.slice a n cap, .int .i64 y] (W.drewN m) fun e w' => e = .returned (.bool (has ks y)) ∧ ∃ q, w' = W.drewN q) := Lib.hid (fun m y => quiet_of (HIN.out _ (Lib.hid (HBW.out.trans ((drewN_below W m).mono HBW.out.size))) y))
  go_quiet (first | (go_at_call 35; exact HQ.out _ _))
  have HB1 : Hid (Below w.heap.size w (W.drewN nq)) := Lib.hid (HBW.out.trans ((drewN_below W nq).mono HBW.out.size))
  have z0 : (W.drewN nq).cell? ⟨w.heap.size, 0, none⟩ = some (.int .i64 10) := z0
  have z3 : (W.drewN nq).cell? ⟨w.heap.size, 3, none⟩ = some (.int .i64 A) := z3
  have z4 : (W.drewN nq).cell? ⟨w.heap.size, 4, none⟩ = some (.int .i64 B) := z4
  have z5 : (W.drewN nq).cell? ⟨w.heap.size, 5, none⟩ = some (.int .i64 C) := z5
  generalize W.drewN nq = w1 at HB1 z0 z3 z4 z5 ⊢
  clear HQ HBW
  rw [← Hba.out, ← Hbb.out]
  cases ba <;> cases bb
  iterate 3
    · go_wp2
      go_ret
      exact ⟨rfl, HB1.out⟩
  go_wp2_with fail
  refine (HIN.out _ HB1 C).mono ?_
  rintro e w2 ⟨rfl, rfl⟩
  rw [← Hbc.out]
  cases bc
  all_goals
    go_wp2
    go_ret
    exact ⟨rfl, HB1.out⟩

set_option maxHeartbeats 2000000 in
set_option maxRecDepth 100000 in
theorem makes4 {g : Nat} {L : List Tm} {w : World} (hA : AtR g L w) (hS : Sound L) (hU : Uniq L) (a : Option Addr) (cap : Nat) (ks : List Int) (h : IntsAt w a cap ks) (hin : ∀ n, n ∈ ks → InL L n) (dh kem : Bool) (S : ByteArray) (N A B C : Int) :
    Calls Try.prog 36 #[.pointer (some ⟨g, 0, none⟩), .slice a ks.length cap, .bool dh, .bool kem, .agg #[.int .i64 4, .string S, .int .u64 N, .int .i64 A, .int .i64 B, .int .i64 C]] w fun e w' => e = .returned (.bool (ruleB L (has ks) dh kem ⟨4, S, N, A, B, C⟩)) ∧ Below w.heap.size w w' := by
  have HR : Hid (ruleB L (has ks) dh kem ⟨4, S, N, A, B, C⟩ = ((has ks A && (has ks B || ofB L ks 3 B 0)) || (has ks B && ofB L ks 3 A 0) || (dh && ofB L ks 3 A 0 && ofB L ks 3 B 0))) := Lib.hid (by simp [ruleB, of_pub hS hU hin])
  obtain ⟨n, hn⟩ : ∃ n, n = ks.length := ⟨_, rfl⟩
  have HIN : Hid (∀ W, Hid (Below w.heap.size w W) → ∀ y, Calls Try.prog 35 #[.slice a n cap, .int .i64 y] W fun e w' => e = .returned (.bool (has ks y)) ∧ W = w') := Lib.hid (fun W hb y => by rw [hn]; exact in_any a cap ks y W (h.below hb.out))
  have HOF : Hid (∀ W, HeldM w w.heap.size A B W → ∀ kind x y, Calls Try.prog 54 #[.pointer (some ⟨g, 0, none⟩), .slice a n cap, .int .i64 kind, .int .i64 x, .int .i64 y] W fun e w' => e = .returned (.bool (ofB L ks kind x y)) ∧ Below W.heap.size W w') := Lib.hid (fun W hb kind x y => by rw [hn]; exact of_any (hA.below hb.2.2.out) a cap ks kind x y (h.below hb.2.2.out) hin)
  rw [HR.out, ← hn]
  obtain ⟨ba, hba⟩ : ∃ q, q = has ks A := ⟨_, rfl⟩
  rw [← hba]
  have Hba := Lib.hid hba
  clear hba
  obtain ⟨bb, hbb⟩ : ∃ q, q = has ks B := ⟨_, rfl⟩
  rw [← hbb]
  have Hbb := Lib.hid hbb
  clear hbb
  obtain ⟨bp, hbp⟩ : ∃ q, q = ofB L ks 3 A 0 := ⟨_, rfl⟩
  rw [← hbp]
  have Hbp := Lib.hid hbp
  clear hbp
  obtain ⟨bq, hbq⟩ : ∃ q, q = ofB L ks 3 B 0 := ⟨_, rfl⟩
  rw [← hbq]
  have Hbq := Lib.hid hbq
  clear hbq
  clear HR h hA hS hU hin hn
  go_enter Try.func36, Try.ntmps36
  go_wp2
  obtain ⟨W, hW⟩ : ∃ W, W = w.alloc (.cells #[.int .i64 4, .string S, .int .u64 N, .int .i64 A, .int .i64 B, .int .i64 C] 61) := ⟨_, rfl⟩
  have z : ∀ j, W.cell? ⟨w.heap.size, j, none⟩ = #[Value.int .i64 4, .string S, .int .u64 N, .int .i64 A, .int .i64 B, .int .i64 C][j]? := fun j => by rw [hW]; exact cell_of_row _ _ j _ _ _ (heap_alloc_new w _)
  have HBW : Hid (Below w.heap.size w W) := Lib.hid (by rw [hW]; exact (Below.refl _ _).alloc (Nat.le_refl _) _)
  rw [← hW]
  clear hW
  have z0 := z 0
  have z3 := z 3
  have z4 := z 4
  have z5 := z 5
  simp at z0 z3 z4 z5
  clear z
  have HQ : Hid (∀ m y, Calls Try.prog 35 #[.slice a n cap, .int .i64 y] (W.drewN m) fun e w' => e = .returned (.bool (has ks y)) ∧ ∃ q, w' = W.drewN q) := Lib.hid (fun m y => quiet_of (HIN.out _ (Lib.hid (HBW.out.trans ((drewN_below W m).mono HBW.out.size))) y))
  go_quiet (first | (go_at_call 35; exact HQ.out _ _))
  have HB1 : Hid (Below w.heap.size w (W.drewN nq)) := Lib.hid (HBW.out.trans ((drewN_below W nq).mono HBW.out.size))
  have z0 : (W.drewN nq).cell? ⟨w.heap.size, 0, none⟩ = some (.int .i64 4) := z0
  have z3 : (W.drewN nq).cell? ⟨w.heap.size, 3, none⟩ = some (.int .i64 A) := z3
  have z4 : (W.drewN nq).cell? ⟨w.heap.size, 4, none⟩ = some (.int .i64 B) := z4
  have z5 : (W.drewN nq).cell? ⟨w.heap.size, 5, none⟩ = some (.int .i64 C) := z5
  generalize W.drewN nq = w1 at HB1 z0 z3 z4 z5 ⊢
  clear HQ HBW
  rw [← Hba.out, ← Hbb.out]
  go_wp2
  have HB1d : Hid (Below w.heap.size w w1.drew) := Lib.hid HB1.out.drew
  have hS0 : HeldM w w.heap.size A B w1.drew := ⟨z3, z4, HB1d⟩
  go_region_held3 (fun w' => w'.cell? ⟨w.heap.size, 3, none⟩ = some (.int .i64 A) ∧ w'.cell? ⟨w.heap.size, 4, none⟩ = some (.int .i64 B) ∧ Hid (Below w.heap.size w w')) (first | assumption | go_keep) (first | (go_at_call 54; refine (HOF.out _ (by assumption) _ _ _).mono ?_; rintro e W13 ⟨rfl, hb13⟩; have hS13 : HeldM w w.heap.size A B W13 := HeldM.below hb13 (by assumption)))
  have HB2 := hS13.2.2
  rw [← Hbp.out, ← Hbq.out]
  clear hS0 HB1d hS13 z0 z3 z4 z5 HB1
  cases ba <;> cases bb <;> cases bp <;> cases bq <;> cases dh
  all_goals
    go_wp2
    go_ret
    exact ⟨rfl, HB2.out⟩

set_option maxHeartbeats 2000000 in
set_option maxRecDepth 100000 in
theorem makes6 {g : Nat} {L : List Tm} {w : World} (hA : AtR g L w) (hS : Sound L) (hU : Uniq L) (a : Option Addr) (cap : Nat) (ks : List Int) (h : IntsAt w a cap ks) (hin : ∀ n, n ∈ ks → InL L n) (dh kem : Bool) (S : ByteArray) (N A B C : Int) :
    Calls Try.prog 36 #[.pointer (some ⟨g, 0, none⟩), .slice a ks.length cap, .bool dh, .bool kem, .agg #[.int .i64 6, .string S, .int .u64 N, .int .i64 A, .int .i64 B, .int .i64 C]] w fun e w' => e = .returned (.bool (ruleB L (has ks) dh kem ⟨6, S, N, A, B, C⟩)) ∧ Below w.heap.size w w' := by
  have HR : Hid (ruleB L (has ks) dh kem ⟨6, S, N, A, B, C⟩ = (has ks B && (has ks A || ofB L ks 5 A 0))) := Lib.hid (by simp [ruleB, of_kpub hS hU hin])
  obtain ⟨n, hn⟩ : ∃ n, n = ks.length := ⟨_, rfl⟩
  have HIN : Hid (∀ W, Hid (Below w.heap.size w W) → ∀ y, Calls Try.prog 35 #[.slice a n cap, .int .i64 y] W fun e w' => e = .returned (.bool (has ks y)) ∧ W = w') := Lib.hid (fun W hb y => by rw [hn]; exact in_any a cap ks y W (h.below hb.out))
  have HOF : Hid (∀ W, HeldM w w.heap.size A B W → ∀ kind x y, Calls Try.prog 54 #[.pointer (some ⟨g, 0, none⟩), .slice a n cap, .int .i64 kind, .int .i64 x, .int .i64 y] W fun e w' => e = .returned (.bool (ofB L ks kind x y)) ∧ Below W.heap.size W w') := Lib.hid (fun W hb kind x y => by rw [hn]; exact of_any (hA.below hb.2.2.out) a cap ks kind x y (h.below hb.2.2.out) hin)
  rw [HR.out, ← hn]
  obtain ⟨ba, hba⟩ : ∃ q, q = has ks A := ⟨_, rfl⟩
  rw [← hba]
  have Hba := Lib.hid hba
  clear hba
  obtain ⟨bb, hbb⟩ : ∃ q, q = has ks B := ⟨_, rfl⟩
  rw [← hbb]
  have Hbb := Lib.hid hbb
  clear hbb
  obtain ⟨bk, hbk⟩ : ∃ q, q = ofB L ks 5 A 0 := ⟨_, rfl⟩
  rw [← hbk]
  have Hbk := Lib.hid hbk
  clear hbk
  clear HR h hA hS hU hin hn
  go_enter Try.func36, Try.ntmps36
  go_wp2
  obtain ⟨W, hW⟩ : ∃ W, W = w.alloc (.cells #[.int .i64 6, .string S, .int .u64 N, .int .i64 A, .int .i64 B, .int .i64 C] 61) := ⟨_, rfl⟩
  have z : ∀ j, W.cell? ⟨w.heap.size, j, none⟩ = #[Value.int .i64 6, .string S, .int .u64 N, .int .i64 A, .int .i64 B, .int .i64 C][j]? := fun j => by rw [hW]; exact cell_of_row _ _ j _ _ _ (heap_alloc_new w _)
  have HBW : Hid (Below w.heap.size w W) := Lib.hid (by rw [hW]; exact (Below.refl _ _).alloc (Nat.le_refl _) _)
  rw [← hW]
  clear hW
  have z0 := z 0
  have z3 := z 3
  have z4 := z 4
  have z5 := z 5
  simp at z0 z3 z4 z5
  clear z
  have HQ : Hid (∀ m y, Calls Try.prog 35 #[.slice a n cap, .int .i64 y] (W.drewN m) fun e w' => e = .returned (.bool (has ks y)) ∧ ∃ q, w' = W.drewN q) := Lib.hid (fun m y => quiet_of (HIN.out _ (Lib.hid (HBW.out.trans ((drewN_below W m).mono HBW.out.size))) y))
  go_quiet (first | (go_at_call 35; exact HQ.out _ _))
  have HB1 : Hid (Below w.heap.size w (W.drewN nq)) := Lib.hid (HBW.out.trans ((drewN_below W nq).mono HBW.out.size))
  have z0 : (W.drewN nq).cell? ⟨w.heap.size, 0, none⟩ = some (.int .i64 6) := z0
  have z3 : (W.drewN nq).cell? ⟨w.heap.size, 3, none⟩ = some (.int .i64 A) := z3
  have z4 : (W.drewN nq).cell? ⟨w.heap.size, 4, none⟩ = some (.int .i64 B) := z4
  have z5 : (W.drewN nq).cell? ⟨w.heap.size, 5, none⟩ = some (.int .i64 C) := z5
  generalize W.drewN nq = w1 at HB1 z0 z3 z4 z5 ⊢
  clear HQ HBW
  rw [← Hba.out, ← Hbb.out]
  cases bb
  · go_wp2
    go_ret
    exact ⟨rfl, HB1.out⟩
  cases ba
  · go_wp2_with fail
    refine (HOF.out _ ⟨z3, z4, HB1⟩ _ _ _).mono ?_
    rintro e w2 ⟨rfl, hb2⟩
    rw [← Hbk.out]
    have HB2 : Hid (Below w.heap.size w w2) := Lib.hid (HB1.out.trans (hb2.mono HB1.out.size))
    clear hb2 z0 z3 z4 z5 HB1
    cases bk
    all_goals
      go_wp2
      go_ret
      exact ⟨rfl, HB2.out⟩
  · go_wp2
    go_ret
    exact ⟨rfl, HB1.out⟩

set_option maxHeartbeats 2000000 in
set_option maxRecDepth 100000 in
theorem makes7 {g : Nat} {L : List Tm} {w : World} (hA : AtR g L w) (hS : Sound L) (hU : Uniq L) (a : Option Addr) (cap : Nat) (ks : List Int) (h : IntsAt w a cap ks) (hin : ∀ n, n ∈ ks → InL L n) (dh kem : Bool) (S : ByteArray) (N A B C : Int) :
    Calls Try.prog 36 #[.pointer (some ⟨g, 0, none⟩), .slice a ks.length cap, .bool dh, .bool kem, .agg #[.int .i64 7, .string S, .int .u64 N, .int .i64 A, .int .i64 B, .int .i64 C]] w fun e w' => e = .returned (.bool (ruleB L (has ks) dh kem ⟨7, S, N, A, B, C⟩)) ∧ Below w.heap.size w w' := by
  have HR : Hid (ruleB L (has ks) dh kem ⟨7, S, N, A, B, C⟩ = ((has ks B && (has ks A || ofB L ks 5 A 0)) || (ofB L ks 6 A B && (has ks A || kem)))) := Lib.hid (by simp [ruleB, of_kpub hS hU hin, of_box hS hU hin])
  obtain ⟨n, hn⟩ : ∃ n, n = ks.length := ⟨_, rfl⟩
  have HIN : Hid (∀ W, Hid (Below w.heap.size w W) → ∀ y, Calls Try.prog 35 #[.slice a n cap, .int .i64 y] W fun e w' => e = .returned (.bool (has ks y)) ∧ W = w') := Lib.hid (fun W hb y => by rw [hn]; exact in_any a cap ks y W (h.below hb.out))
  have HOF : Hid (∀ W, HeldM w w.heap.size A B W → ∀ kind x y, Calls Try.prog 54 #[.pointer (some ⟨g, 0, none⟩), .slice a n cap, .int .i64 kind, .int .i64 x, .int .i64 y] W fun e w' => e = .returned (.bool (ofB L ks kind x y)) ∧ Below W.heap.size W w') := Lib.hid (fun W hb kind x y => by rw [hn]; exact of_any (hA.below hb.2.2.out) a cap ks kind x y (h.below hb.2.2.out) hin)
  rw [HR.out, ← hn]
  obtain ⟨ba, hba⟩ : ∃ q, q = has ks A := ⟨_, rfl⟩
  rw [← hba]
  have Hba := Lib.hid hba
  clear hba
  obtain ⟨bb, hbb⟩ : ∃ q, q = has ks B := ⟨_, rfl⟩
  rw [← hbb]
  have Hbb := Lib.hid hbb
  clear hbb
  obtain ⟨bk, hbk⟩ : ∃ q, q = ofB L ks 5 A 0 := ⟨_, rfl⟩
  rw [← hbk]
  have Hbk := Lib.hid hbk
  clear hbk
  obtain ⟨bx, hbx⟩ : ∃ q, q = ofB L ks 6 A B := ⟨_, rfl⟩
  rw [← hbx]
  have Hbx := Lib.hid hbx
  clear hbx
  clear HR h hA hS hU hin hn
  go_enter Try.func36, Try.ntmps36
  go_wp2
  obtain ⟨W, hW⟩ : ∃ W, W = w.alloc (.cells #[.int .i64 7, .string S, .int .u64 N, .int .i64 A, .int .i64 B, .int .i64 C] 61) := ⟨_, rfl⟩
  have z : ∀ j, W.cell? ⟨w.heap.size, j, none⟩ = #[Value.int .i64 7, .string S, .int .u64 N, .int .i64 A, .int .i64 B, .int .i64 C][j]? := fun j => by rw [hW]; exact cell_of_row _ _ j _ _ _ (heap_alloc_new w _)
  have HBW : Hid (Below w.heap.size w W) := Lib.hid (by rw [hW]; exact (Below.refl _ _).alloc (Nat.le_refl _) _)
  rw [← hW]
  clear hW
  have z0 := z 0
  have z3 := z 3
  have z4 := z 4
  have z5 := z 5
  simp at z0 z3 z4 z5
  clear z
  have HQ : Hid (∀ m y, Calls Try.prog 35 #[.slice a n cap, .int .i64 y] (W.drewN m) fun e w' => e = .returned (.bool (has ks y)) ∧ ∃ q, w' = W.drewN q) := Lib.hid (fun m y => quiet_of (HIN.out _ (Lib.hid (HBW.out.trans ((drewN_below W m).mono HBW.out.size))) y))
  go_quiet (first | (go_at_call 35; exact HQ.out _ _))
  have HB1 : Hid (Below w.heap.size w (W.drewN nq)) := Lib.hid (HBW.out.trans ((drewN_below W nq).mono HBW.out.size))
  have z0 : (W.drewN nq).cell? ⟨w.heap.size, 0, none⟩ = some (.int .i64 7) := z0
  have z3 : (W.drewN nq).cell? ⟨w.heap.size, 3, none⟩ = some (.int .i64 A) := z3
  have z4 : (W.drewN nq).cell? ⟨w.heap.size, 4, none⟩ = some (.int .i64 B) := z4
  have z5 : (W.drewN nq).cell? ⟨w.heap.size, 5, none⟩ = some (.int .i64 C) := z5
  generalize W.drewN nq = w1 at HB1 z0 z3 z4 z5 ⊢
  clear HQ HBW
  rw [← Hba.out, ← Hbb.out]
  go_wp2_with fail
  refine (HOF.out _ ⟨z3, z4, HB1⟩ _ _ _).mono ?_
  rintro e w2 ⟨rfl, hb2⟩
  rw [← Hbx.out]
  have hH2 := HeldM.below hb2 ⟨z3, z4, HB1⟩
  have HB2 := hH2.2.2
  have y3 := hH2.1
  have y4 := hH2.2.1
  clear hb2 hH2 z0 z3 z4 z5 HB1
  cases bb
  · cases bx <;> cases ba <;> cases kem
    all_goals
      go_wp2
      go_ret
      exact ⟨rfl, HB2.out⟩
  cases ba
  · go_wp2_with fail
    refine (HOF.out _ ⟨y3, y4, HB2⟩ _ _ _).mono ?_
    rintro e w3 ⟨rfl, hb3⟩
    rw [← Hbk.out]
    have HB3 : Hid (Below w.heap.size w w3) := Lib.hid (HB2.out.trans (hb3.mono HB2.out.size))
    clear hb3 y3 y4 HB2
    cases bk <;> cases bx <;> cases kem
    all_goals
      go_wp2
      go_ret
      exact ⟨rfl, HB3.out⟩
  · go_wp2
    go_ret
    exact ⟨rfl, HB2.out⟩
theorem makes_any {g : Nat} {L : List Tm} {w : World} (hA : AtR g L w) (hS : Sound L) (hU : Uniq L) (a : Option Addr) (cap : Nat) (ks : List Int) (h : IntsAt w a cap ks) (hin : ∀ n, n ∈ ks → InL L n) (dh kem : Bool) (t : Tm) (hK : 1 ≤ t.K ∧ t.K ≤ 11) :
    Calls Try.prog 36 #[.pointer (some ⟨g, 0, none⟩), .slice a ks.length cap, .bool dh, .bool kem, t.v] w fun e w' => e = .returned (.bool (ruleB L (has ks) dh kem t)) ∧ Below w.heap.size w w' := by
  obtain ⟨K, S, N, A, B, C⟩ := t
  have hK' : K = 1 ∨ K = 2 ∨ K = 3 ∨ K = 4 ∨ K = 5 ∨ K = 6 ∨ K = 7 ∨ K = 8 ∨ K = 9 ∨ K = 10 ∨ K = 11 := by have h1 : 1 ≤ K := hK.1; have h2 : K ≤ 11 := hK.2; omega
  rcases hK' with rfl | rfl | rfl | rfl | rfl | rfl | rfl | rfl | rfl | rfl | rfl
  · exact makes1 hA hS hU a cap ks h hin dh kem S N A B C
  · exact makes2 hA hS hU a cap ks h hin dh kem S N A B C
  · exact makes3 hA hS hU a cap ks h hin dh kem S N A B C
  · exact makes4 hA hS hU a cap ks h hin dh kem S N A B C
  · exact makes5 hA hS hU a cap ks h hin dh kem S N A B C
  · exact makes6 hA hS hU a cap ks h hin dh kem S N A B C
  · exact makes7 hA hS hU a cap ks h hin dh kem S N A B C
  · exact makes8 hA hS hU a cap ks h hin dh kem S N A B C
  · exact makes9 hA hS hU a cap ks h hin dh kem S N A B C
  · exact makes10 hA hS hU a cap ks h hin dh kem S N A B C
  · exact makes11 hA hS hU a cap ks h hin dh kem S N A B C
end Go.Proofs.Ytdhfnbajmjmlbaa
