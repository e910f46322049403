/- The steps of Seal and of Open, one behind the other up to the first error: a label that loops goto. -/
/- States compared. -/
/- What Seal and Open work on; whether they may begin, and that they count. -/
/- The step that opens. -/
/- The step that seals. -/
import Derived.Test.YtgeonppckeiceaaGreatDoorGq14
import Derived.BigQuiet
namespace Go.Proofs.YtgeonppckeiceaaGreatDoor
open Go.RowKit
set_option linter.unusedVariables false
set_option linter.unusedSimpArgs false
def set7 (w : World) (b : Nat) (v0 v1 v2 v3 v4 v5 v6 : Value) : World := (((((((w.setCell ⟨b, 0, none⟩ v0).setCell ⟨b, 1, none⟩ v1).setCell ⟨b, 2, none⟩ v2).setCell ⟨b, 3, none⟩ v3).setCell ⟨b, 4, none⟩ v4).setCell ⟨b, 5, none⟩ v5).setCell ⟨b, 6, none⟩ v6)
def StepC (f : FuncId) (B : Nat) (P Q : World → Prop) (E : Int → World → Prop) : Prop := ∀ W, P W → Calls Tryz.prog f #[.pointer (some ⟨B, 0, none⟩)] W fun e W' => ∃ er : Int, e = .returned (.int .i64 er) ∧ ((er = 0 ∧ Q W') ∨ (er ≠ 0 ∧ E er W'))
def TurnPost (B : Nat) (P4 : World → Prop) (E : Int → World → Prop) (e : Ending) (w' : World) : Prop :=
 (∃ W, ∃ (x0 : Option Addr) (x1 x2 x3 x4 x5 x6 : Int), P4 W ∧ W.heap[B]? = some (.cells #[.pointer x0, .int .i64 x1, .int .i64 x2, .int .i64 x3, .int .u64 x4, .int .i64 x5, .int .i64 x6] 270 (0, 0)) ∧ e = .returned (.tuple #[.agg #[.pointer x0, .int .i64 x1, .int .i64 x2, .int .i64 x3, .int .u64 x4, .int .i64 x5, .int .i64 x6], .int .i64 0]) ∧ w' = set7 W (B + 1) (.pointer x0) (.int .i64 x1) (.int .i64 x2) (.int .i64 x3) (.int .u64 x4) (.int .i64 x5) (.int .i64 x6)) ∨
 (∃ W er, E er W ∧ er ≠ 0 ∧ e = .returned (.tuple #[.agg #[.pointer none, .int .i64 0, .int .i64 0, .int .i64 0, .int .u64 0, .int .i64 0, .int .i64 0], .int .i64 er]) ∧ w' = set7 W (B + 1) (.pointer none) (.int .i64 0) (.int .i64 0) (.int .i64 0) (.int .u64 0) (.int .i64 0) (.int .i64 0))
set_option maxHeartbeats 4000000 in
set_option maxRecDepth 100000 in
theorem inTurn_seal (v0 v1 v2 v3 v4 v5 v6 : Value) (A : Nat) (P0 P1 P2 P3 P4 : World → Prop) (E : Int → World → Prop) (w : World)
  (hs0 : StepC 206 w.heap.size P0 P1 E) (hs1 : StepC 207 w.heap.size P1 P2 E) (hs2 : StepC 208 w.heap.size P2 P3 E) (hs3 : StepC 209 w.heap.size P3 P4 E)
  (hA : ∀ W, P0 W ∨ P1 W ∨ P2 W ∨ P3 W → W.heap[A]? = some (.cells #[.func (.func 206) #[] #[], .func (.func 207) #[] #[], .func (.func 208) #[] #[], .func (.func 209) #[] #[]] 279 (0, 0)))
  (hB : ∀ W, P4 W → ∃ (x0 : Option Addr) (x1 x2 x3 x4 x5 x6 : Int), W.heap[w.heap.size]? = some (.cells #[.pointer x0, .int .i64 x1, .int .i64 x2, .int .i64 x3, .int .u64 x4, .int .i64 x5, .int .i64 x6] 270 (0, 0)))
  (hR : ∀ W, P4 W ∨ (∃ er, E er W) → W.heap[w.heap.size + 1]? = some (.cells #[.pointer none, .int .i64 0, .int .i64 0, .int .i64 0, .int .u64 0, .int .i64 0, .int .i64 0] 270 (0, 0)))
  (h0 : P0 ((w.alloc (.cells #[v0, v1, v2, v3, v4, v5, v6] 270)).alloc (.cells #[.pointer none, .int .i64 0, .int .i64 0, .int .i64 0, .int .u64 0, .int .i64 0, .int .i64 0] 270))) :
  Calls Tryz.prog 205 #[.agg #[v0, v1, v2, v3, v4, v5, v6], .slice (some ⟨A, 0, none⟩) 4 4] w (TurnPost w.heap.size P4 E) := by
 have HS0 := Lib.hid hs0
 have HS1 := Lib.hid hs1
 have HS2 := Lib.hid hs2
 have HS3 := Lib.hid hs3
 have HA := Lib.hid hA
 have HB := Lib.hid hB
 have HR := Lib.hid hR
 have H0 := Lib.hid h0
 have c0 := cell_of_row _ _ 0 _ _ _ (hA _ (.inl h0))
 simp at c0
 clear hs0 hs1 hs2 hs3 hA hB hR h0
 go_enter Tryz.func205, Tryz.ntmps205
 go_wp2
 refine wp_scope_jumps 0 (fun a' W => ∃ (i : Nat) (u7 u8 u9 u10 u11 u12 u13 u14 u15 u16 u17 u18 u19 u20 u21 u22 u23 : Value), a' = { tmps := #[.agg #[v0, v1, v2, v3, v4, v5, v6], .slice (some ⟨A, 0, none⟩) 4 4, .pointer (some ⟨w.heap.size, 0, none⟩), undef, .pointer (some ⟨w.heap.size + 1, 0, none⟩), .int .i64 0, .int .i64 (i : Nat), u7, u8, u9, u10, u11, u12, u13, u14, u15, u16, u17, u18, u19, u20, u21, u22, u23], defers := [] } ∧ ((i = 1 ∧ P1 W) ∨ (i = 2 ∧ P2 W) ∨ (i = 3 ∧ P3 W) ∨ (i = 4 ∧ P4 W))) (fun a' _ => 4 - (intOf (a'.tmps.getD 6 undef)).toNat) rfl ?_ ?_
 ·go_wp2
  go_step3
  go_wp2_with fail
  refine (HS0.out _ H0.out).mono ?_
  rintro e w1 ⟨er, rfl, ⟨rfl, hP⟩ | ⟨hne, hE⟩⟩
  ·clear c0
   have HP := Lib.hid hP
   clear hP
   go_wp2
   go_step3
   exact ⟨rfl, ⟨1, _, _, _, _, _, _, _, _, _, _, _, _, _, _, _, _, _, rfl, .inl ⟨rfl, HP.out⟩⟩⟩
  ·clear c0
   have hr := HR.out w1 (.inr ⟨er, hE⟩)
   have hne1 : (er != 0) = true := by simpa using hne
   have HE := Lib.hid hE
   have HNE := Lib.hid hne
   have z0 := cell_of_row w1 _ 0 _ _ _ hr
   have z1 := cell_of_row w1 _ 1 _ _ _ hr
   have z2 := cell_of_row w1 _ 2 _ _ _ hr
   have z3 := cell_of_row w1 _ 3 _ _ _ hr
   have z4 := cell_of_row w1 _ 4 _ _ _ hr
   have z5 := cell_of_row w1 _ 5 _ _ _ hr
   have z6 := cell_of_row w1 _ 6 _ _ _ hr
   simp at z0 z1 z2 z3 z4 z5 z6
   have fz0 := frz_of_row 0 hr
   have fz1 := frz_of_row 1 hr
   have fz2 := frz_of_row 2 hr
   have fz3 := frz_of_row 3 hr
   have fz4 := frz_of_row 4 hr
   have fz5 := frz_of_row 5 hr
   have fz6 := frz_of_row 6 hr
   clear hr hE hne
   go_wp2_with fail
   try simp only [Exit.jump]
   exact bodyPost_ret (v := .tuple #[.agg #[.pointer none, .int .i64 0, .int .i64 0, .int .i64 0, .int .u64 0, .int .i64 0, .int .i64 0], .int .i64 er]) (by simp [results, Tryz.results205, go_sem, z0, z1, z2, z3, z4, z5, z6]) rfl (.inr ⟨_, er, HE.out, HNE.out, rfl, rfl⟩)
 ·rintro a' W ⟨i, u7, u8, u9, u10, u11, u12, u13, u14, u15, u16, u17, u18, u19, u20, u21, u22, u23, rfl, ⟨rfl, hP⟩ | ⟨rfl, hP⟩ | ⟨rfl, hP⟩ | ⟨rfl, hP⟩⟩
  ·have c := cell_of_row _ _ 1 _ _ _ (HA.out _ (.inr (.inl hP)))
   simp at c
   have HPi := Lib.hid hP
   clear hP
   go_wp2_with fail
   refine (HS1.out _ HPi.out).mono ?_
   rintro e w1 ⟨er, rfl, ⟨rfl, hP⟩ | ⟨hne, hE⟩⟩
   ·clear c
    have HP := Lib.hid hP
    clear hP
    go_wp2
    go_step3
    exact ⟨rfl, ⟨2, _, _, _, _, _, _, _, _, _, _, _, _, _, _, _, _, _, rfl, .inr (.inl ⟨rfl, HP.out⟩)⟩, by simp [intOf]⟩
   ·clear c
    have hr := HR.out w1 (.inr ⟨er, hE⟩)
    have hne1 : (er != 0) = true := by simpa using hne
    have HE := Lib.hid hE
    have HNE := Lib.hid hne
    have z0 := cell_of_row w1 _ 0 _ _ _ hr
    have z1 := cell_of_row w1 _ 1 _ _ _ hr
    have z2 := cell_of_row w1 _ 2 _ _ _ hr
    have z3 := cell_of_row w1 _ 3 _ _ _ hr
    have z4 := cell_of_row w1 _ 4 _ _ _ hr
    have z5 := cell_of_row w1 _ 5 _ _ _ hr
    have z6 := cell_of_row w1 _ 6 _ _ _ hr
    simp at z0 z1 z2 z3 z4 z5 z6
    have fz0 := frz_of_row 0 hr
    have fz1 := frz_of_row 1 hr
    have fz2 := frz_of_row 2 hr
    have fz3 := frz_of_row 3 hr
    have fz4 := frz_of_row 4 hr
    have fz5 := frz_of_row 5 hr
    have fz6 := frz_of_row 6 hr
    clear hr hE hne
    go_wp2_with fail
    try simp only [Exit.jump]
    exact bodyPost_ret (v := .tuple #[.agg #[.pointer none, .int .i64 0, .int .i64 0, .int .i64 0, .int .u64 0, .int .i64 0, .int .i64 0], .int .i64 er]) (by simp [results, Tryz.results205, go_sem, z0, z1, z2, z3, z4, z5, z6]) rfl (.inr ⟨_, er, HE.out, HNE.out, rfl, rfl⟩)
  ·have c := cell_of_row _ _ 2 _ _ _ (HA.out _ (.inr (.inr (.inl hP))))
   simp at c
   have HPi := Lib.hid hP
   clear hP
   go_wp2_with fail
   refine (HS2.out _ HPi.out).mono ?_
   rintro e w1 ⟨er, rfl, ⟨rfl, hP⟩ | ⟨hne, hE⟩⟩
   ·clear c
    have HP := Lib.hid hP
    clear hP
    go_wp2
    go_step3
    exact ⟨rfl, ⟨3, _, _, _, _, _, _, _, _, _, _, _, _, _, _, _, _, _, rfl, .inr (.inr (.inl ⟨rfl, HP.out⟩))⟩, by simp [intOf]⟩
   ·clear c
    have hr := HR.out w1 (.inr ⟨er, hE⟩)
    have hne1 : (er != 0) = true := by simpa using hne
    have HE := Lib.hid hE
    have HNE := Lib.hid hne
    have z0 := cell_of_row w1 _ 0 _ _ _ hr
    have z1 := cell_of_row w1 _ 1 _ _ _ hr
    have z2 := cell_of_row w1 _ 2 _ _ _ hr
    have z3 := cell_of_row w1 _ 3 _ _ _ hr
    have z4 := cell_of_row w1 _ 4 _ _ _ hr
    have z5 := cell_of_row w1 _ 5 _ _ _ hr
    have z6 := cell_of_row w1 _ 6 _ _ _ hr
    simp at z0 z1 z2 z3 z4 z5 z6
    have fz0 := frz_of_row 0 hr
    have fz1 := frz_of_row 1 hr
    have fz2 := frz_of_row 2 hr
    have fz3 := frz_of_row 3 hr
    have fz4 := frz_of_row 4 hr
    have fz5 := frz_of_row 5 hr
    have fz6 := frz_of_row 6 hr
    clear hr hE hne
    go_wp2_with fail
    try simp only [Exit.jump]
    exact bodyPost_ret (v := .tuple #[.agg #[.pointer none, .int .i64 0, .int .i64 0, .int .i64 0, .int .u64 0, .int .i64 0, .int .i64 0], .int .i64 er]) (by simp [results, Tryz.results205, go_sem, z0, z1, z2, z3, z4, z5, z6]) rfl (.inr ⟨_, er, HE.out, HNE.out, rfl, rfl⟩)
  ·have c := cell_of_row _ _ 3 _ _ _ (HA.out _ (.inr (.inr (.inr hP))))
   simp at c
   have HPi := Lib.hid hP
   clear hP
   go_wp2_with fail
   refine (HS3.out _ HPi.out).mono ?_
   rintro e w1 ⟨er, rfl, ⟨rfl, hP⟩ | ⟨hne, hE⟩⟩
   ·clear c
    have HP := Lib.hid hP
    clear hP
    go_wp2
    go_step3
    exact ⟨rfl, ⟨4, _, _, _, _, _, _, _, _, _, _, _, _, _, _, _, _, _, rfl, .inr (.inr (.inr ⟨rfl, HP.out⟩))⟩, by simp [intOf]⟩
   ·clear c
    have hr := HR.out w1 (.inr ⟨er, hE⟩)
    have hne1 : (er != 0) = true := by simpa using hne
    have HE := Lib.hid hE
    have HNE := Lib.hid hne
    have z0 := cell_of_row w1 _ 0 _ _ _ hr
    have z1 := cell_of_row w1 _ 1 _ _ _ hr
    have z2 := cell_of_row w1 _ 2 _ _ _ hr
    have z3 := cell_of_row w1 _ 3 _ _ _ hr
    have z4 := cell_of_row w1 _ 4 _ _ _ hr
    have z5 := cell_of_row w1 _ 5 _ _ _ hr
    have z6 := cell_of_row w1 _ 6 _ _ _ hr
    simp at z0 z1 z2 z3 z4 z5 z6
    have fz0 := frz_of_row 0 hr
    have fz1 := frz_of_row 1 hr
    have fz2 := frz_of_row 2 hr
    have fz3 := frz_of_row 3 hr
    have fz4 := frz_of_row 4 hr
    have fz5 := frz_of_row 5 hr
    have fz6 := frz_of_row 6 hr
    clear hr hE hne
    go_wp2_with fail
    try simp only [Exit.jump]
    exact bodyPost_ret (v := .tuple #[.agg #[.pointer none, .int .i64 0, .int .i64 0, .int .i64 0, .int .u64 0, .int .i64 0, .int .i64 0], .int .i64 er]) (by simp [results, Tryz.results205, go_sem, z0, z1, z2, z3, z4, z5, z6]) rfl (.inr ⟨_, er, HE.out, HNE.out, rfl, rfl⟩)
  ·obtain ⟨x0, x1, x2, x3, x4, x5, x6, hb⟩ := HB.out _ hP
   have hr := HR.out _ (.inl hP)
   have HP := Lib.hid hP
   have HBB := Lib.hid hb
   have b0 := cell_of_row W _ 0 _ _ _ hb
   have b1 := cell_of_row W _ 1 _ _ _ hb
   have b2 := cell_of_row W _ 2 _ _ _ hb
   have b3 := cell_of_row W _ 3 _ _ _ hb
   have b4 := cell_of_row W _ 4 _ _ _ hb
   have b5 := cell_of_row W _ 5 _ _ _ hb
   have b6 := cell_of_row W _ 6 _ _ _ hb
   simp at b0 b1 b2 b3 b4 b5 b6
   have z0 := cell_of_row W _ 0 _ _ _ hr
   have z1 := cell_of_row W _ 1 _ _ _ hr
   have z2 := cell_of_row W _ 2 _ _ _ hr
   have z3 := cell_of_row W _ 3 _ _ _ hr
   have z4 := cell_of_row W _ 4 _ _ _ hr
   have z5 := cell_of_row W _ 5 _ _ _ hr
   have z6 := cell_of_row W _ 6 _ _ _ hr
   simp at z0 z1 z2 z3 z4 z5 z6
   have fz0 := frz_of_row 0 hr
   have fz1 := frz_of_row 1 hr
   have fz2 := frz_of_row 2 hr
   have fz3 := frz_of_row 3 hr
   have fz4 := frz_of_row 4 hr
   have fz5 := frz_of_row 5 hr
   have fz6 := frz_of_row 6 hr
   clear hr hb hP
   go_wp2_with fail
   try simp only [Exit.jump]
   exact bodyPost_ret (v := .tuple #[.agg #[.pointer x0, .int .i64 x1, .int .i64 x2, .int .i64 x3, .int .u64 x4, .int .i64 x5, .int .i64 x6], .int .i64 0]) (by simp [results, Tryz.results205, go_sem, z0, z1, z2, z3, z4, z5, z6, b0, b1, b2, b3, b4, b5, b6]) rfl (.inl ⟨_, x0, x1, x2, x3, x4, x5, x6, HP.out, HBB.out, rfl, rfl⟩)
set_option maxHeartbeats 4000000 in
set_option maxRecDepth 100000 in
theorem inTurn_open (v0 v1 v2 v3 v4 v5 v6 : Value) (A : Nat) (P0 P1 P2 P3 P4 : World → Prop) (E : Int → World → Prop) (w : World)
  (hs0 : StepC 206 w.heap.size P0 P1 E) (hs1 : StepC 212 w.heap.size P1 P2 E) (hs2 : StepC 208 w.heap.size P2 P3 E) (hs3 : StepC 209 w.heap.size P3 P4 E)
  (hA : ∀ W, P0 W ∨ P1 W ∨ P2 W ∨ P3 W → W.heap[A]? = some (.cells #[.func (.func 206) #[] #[], .func (.func 212) #[] #[], .func (.func 208) #[] #[], .func (.func 209) #[] #[]] 279 (0, 0)))
  (hB : ∀ W, P4 W → ∃ (x0 : Option Addr) (x1 x2 x3 x4 x5 x6 : Int), W.heap[w.heap.size]? = some (.cells #[.pointer x0, .int .i64 x1, .int .i64 x2, .int .i64 x3, .int .u64 x4, .int .i64 x5, .int .i64 x6] 270 (0, 0)))
  (hR : ∀ W, P4 W ∨ (∃ er, E er W) → W.heap[w.heap.size + 1]? = some (.cells #[.pointer none, .int .i64 0, .int .i64 0, .int .i64 0, .int .u64 0, .int .i64 0, .int .i64 0] 270 (0, 0)))
  (h0 : P0 ((w.alloc (.cells #[v0, v1, v2, v3, v4, v5, v6] 270)).alloc (.cells #[.pointer none, .int .i64 0, .int .i64 0, .int .i64 0, .int .u64 0, .int .i64 0, .int .i64 0] 270))) :
  Calls Tryz.prog 205 #[.agg #[v0, v1, v2, v3, v4, v5, v6], .slice (some ⟨A, 0, none⟩) 4 4] w (TurnPost w.heap.size P4 E) := by
 have HS0 := Lib.hid hs0
 have HS1 := Lib.hid hs1
 have HS2 := Lib.hid hs2
 have HS3 := Lib.hid hs3
 have HA := Lib.hid hA
 have HB := Lib.hid hB
 have HR := Lib.hid hR
 have H0 := Lib.hid h0
 have c0 := cell_of_row _ _ 0 _ _ _ (hA _ (.inl h0))
 simp at c0
 clear hs0 hs1 hs2 hs3 hA hB hR h0
 go_enter Tryz.func205, Tryz.ntmps205
 go_wp2
 refine wp_scope_jumps 0 (fun a' W => ∃ (i : Nat) (u7 u8 u9 u10 u11 u12 u13 u14 u15 u16 u17 u18 u19 u20 u21 u22 u23 : Value), a' = { tmps := #[.agg #[v0, v1, v2, v3, v4, v5, v6], .slice (some ⟨A, 0, none⟩) 4 4, .pointer (some ⟨w.heap.size, 0, none⟩), undef, .pointer (some ⟨w.heap.size + 1, 0, none⟩), .int .i64 0, .int .i64 (i : Nat), u7, u8, u9, u10, u11, u12, u13, u14, u15, u16, u17, u18, u19, u20, u21, u22, u23], defers := [] } ∧ ((i = 1 ∧ P1 W) ∨ (i = 2 ∧ P2 W) ∨ (i = 3 ∧ P3 W) ∨ (i = 4 ∧ P4 W))) (fun a' _ => 4 - (intOf (a'.tmps.getD 6 undef)).toNat) rfl ?_ ?_
 ·go_wp2
  go_step3
  go_wp2_with fail
  refine (HS0.out _ H0.out).mono ?_
  rintro e w1 ⟨er, rfl, ⟨rfl, hP⟩ | ⟨hne, hE⟩⟩
  ·clear c0
   have HP := Lib.hid hP
   clear hP
   go_wp2
   go_step3
   exact ⟨rfl, ⟨1, _, _, _, _, _, _, _, _, _, _, _, _, _, _, _, _, _, rfl, .inl ⟨rfl, HP.out⟩⟩⟩
  ·clear c0
   have hr := HR.out w1 (.inr ⟨er, hE⟩)
   have hne1 : (er != 0) = true := by simpa using hne
   have HE := Lib.hid hE
   have HNE := Lib.hid hne
   have z0 := cell_of_row w1 _ 0 _ _ _ hr
   have z1 := cell_of_row w1 _ 1 _ _ _ hr
   have z2 := cell_of_row w1 _ 2 _ _ _ hr
   have z3 := cell_of_row w1 _ 3 _ _ _ hr
   have z4 := cell_of_row w1 _ 4 _ _ _ hr
   have z5 := cell_of_row w1 _ 5 _ _ _ hr
   have z6 := cell_of_row w1 _ 6 _ _ _ hr
   simp at z0 z1 z2 z3 z4 z5 z6
   have fz0 := frz_of_row 0 hr
   have fz1 := frz_of_row 1 hr
   have fz2 := frz_of_row 2 hr
   have fz3 := frz_of_row 3 hr
   have fz4 := frz_of_row 4 hr
   have fz5 := frz_of_row 5 hr
   have fz6 := frz_of_row 6 hr
   clear hr hE hne
   go_wp2_with fail
   try simp only [Exit.jump]
   exact bodyPost_ret (v := .tuple #[.agg #[.pointer none, .int .i64 0, .int .i64 0, .int .i64 0, .int .u64 0, .int .i64 0, .int .i64 0], .int .i64 er]) (by simp [results, Tryz.results205, go_sem, z0, z1, z2, z3, z4, z5, z6]) rfl (.inr ⟨_, er, HE.out, HNE.out, rfl, rfl⟩)
 ·rintro a' W ⟨i, u7, u8, u9, u10, u11, u12, u13, u14, u15, u16, u17, u18, u19, u20, u21, u22, u23, rfl, ⟨rfl, hP⟩ | ⟨rfl, hP⟩ | ⟨rfl, hP⟩ | ⟨rfl, hP⟩⟩
  ·have c := cell_of_row _ _ 1 _ _ _ (HA.out _ (.inr (.inl hP)))
   simp at c
   have HPi := Lib.hid hP
   clear hP
   go_wp2_with fail
   refine (HS1.out _ HPi.out).mono ?_
   rintro e w1 ⟨er, rfl, ⟨rfl, hP⟩ | ⟨hne, hE⟩⟩
   ·clear c
    have HP := Lib.hid hP
    clear hP
    go_wp2
    go_step3
    exact ⟨rfl, ⟨2, _, _, _, _, _, _, _, _, _, _, _, _, _, _, _, _, _, rfl, .inr (.inl ⟨rfl, HP.out⟩)⟩, by simp [intOf]⟩
   ·clear c
    have hr := HR.out w1 (.inr ⟨er, hE⟩)
    have hne1 : (er != 0) = true := by simpa using hne
    have HE := Lib.hid hE
    have HNE := Lib.hid hne
    have z0 := cell_of_row w1 _ 0 _ _ _ hr
    have z1 := cell_of_row w1 _ 1 _ _ _ hr
    have z2 := cell_of_row w1 _ 2 _ _ _ hr
    have z3 := cell_of_row w1 _ 3 _ _ _ hr
    have z4 := cell_of_row w1 _ 4 _ _ _ hr
    have z5 := cell_of_row w1 _ 5 _ _ _ hr
    have z6 := cell_of_row w1 _ 6 _ _ _ hr
    simp at z0 z1 z2 z3 z4 z5 z6
    have fz0 := frz_of_row 0 hr
    have fz1 := frz_of_row 1 hr
    have fz2 := frz_of_row 2 hr
    have fz3 := frz_of_row 3 hr
    have fz4 := frz_of_row 4 hr
    have fz5 := frz_of_row 5 hr
    have fz6 := frz_of_row 6 hr
    clear hr hE hne
    go_wp2_with fail
    try simp only [Exit.jump]
    exact bodyPost_ret (v := .tuple #[.agg #[.pointer none, .int .i64 0, .int .i64 0, .int .i64 0, .int .u64 0, .int .i64 0, .int .i64 0], .int .i64 er]) (by simp [results, Tryz.results205, go_sem, z0, z1, z2, z3, z4, z5, z6]) rfl (.inr ⟨_, er, HE.out, HNE.out, rfl, rfl⟩)
  ·have c := cell_of_row _ _ 2 _ _ _ (HA.out _ (.inr (.inr (.inl hP))))
   simp at c
   have HPi := Lib.hid hP
   clear hP
   go_wp2_with fail
   refine (HS2.out _ HPi.out).mono ?_
   rintro e w1 ⟨er, rfl, ⟨rfl, hP⟩ | ⟨hne, hE⟩⟩
   ·clear c
    have HP := Lib.hid hP
    clear hP
    go_wp2
    go_step3
    exact ⟨rfl, ⟨3, _, _, _, _, _, _, _, _, _, _, _, _, _, _, _, _, _, rfl, .inr (.inr (.inl ⟨rfl, HP.out⟩))⟩, by simp [intOf]⟩
   ·clear c
    have hr := HR.out w1 (.inr ⟨er, hE⟩)
    have hne1 : (er != 0) = true := by simpa using hne
    have HE := Lib.hid hE
    have HNE := Lib.hid hne
    have z0 := cell_of_row w1 _ 0 _ _ _ hr
    have z1 := cell_of_row w1 _ 1 _ _ _ hr
    have z2 := cell_of_row w1 _ 2 _ _ _ hr
    have z3 := cell_of_row w1 _ 3 _ _ _ hr
    have z4 := cell_of_row w1 _ 4 _ _ _ hr
    have z5 := cell_of_row w1 _ 5 _ _ _ hr
    have z6 := cell_of_row w1 _ 6 _ _ _ hr
    simp at z0 z1 z2 z3 z4 z5 z6
    have fz0 := frz_of_row 0 hr
    have fz1 := frz_of_row 1 hr
    have fz2 := frz_of_row 2 hr
    have fz3 := frz_of_row 3 hr
    have fz4 := frz_of_row 4 hr
    have fz5 := frz_of_row 5 hr
    have fz6 := frz_of_row 6 hr
    clear hr hE hne
    go_wp2_with fail
    try simp only [Exit.jump]
    exact bodyPost_ret (v := .tuple #[.agg #[.pointer none, .int .i64 0, .int .i64 0, .int .i64 0, .int .u64 0, .int .i64 0, .int .i64 0], .int .i64 er]) (by simp [results, Tryz.results205, go_sem, z0, z1, z2, z3, z4, z5, z6]) rfl (.inr ⟨_, er, HE.out, HNE.out, rfl, rfl⟩)
  ·have c := cell_of_row _ _ 3 _ _ _ (HA.out _ (.inr (.inr (.inr hP))))
   simp at c
   have HPi := Lib.hid hP
   clear hP
   go_wp2_with fail
   refine (HS3.out _ HPi.out).mono ?_
   rintro e w1 ⟨er, rfl, ⟨rfl, hP⟩ | ⟨hne, hE⟩⟩
   ·clear c
    have HP := Lib.hid hP
    clear hP
    go_wp2
    go_step3
    exact ⟨rfl, ⟨4, _, _, _, _, _, _, _, _, _, _, _, _, _, _, _, _, _, rfl, .inr (.inr (.inr ⟨rfl, HP.out⟩))⟩, by simp [intOf]⟩
   ·clear c
    have hr := HR.out w1 (.inr ⟨er, hE⟩)
    have hne1 : (er != 0) = true := by simpa using hne
    have HE := Lib.hid hE
    have HNE := Lib.hid hne
    have z0 := cell_of_row w1 _ 0 _ _ _ hr
    have z1 := cell_of_row w1 _ 1 _ _ _ hr
    have z2 := cell_of_row w1 _ 2 _ _ _ hr
    have z3 := cell_of_row w1 _ 3 _ _ _ hr
    have z4 := cell_of_row w1 _ 4 _ _ _ hr
    have z5 := cell_of_row w1 _ 5 _ _ _ hr
    have z6 := cell_of_row w1 _ 6 _ _ _ hr
    simp at z0 z1 z2 z3 z4 z5 z6
    have fz0 := frz_of_row 0 hr
    have fz1 := frz_of_row 1 hr
    have fz2 := frz_of_row 2 hr
    have fz3 := frz_of_row 3 hr
    have fz4 := frz_of_row 4 hr
    have fz5 := frz_of_row 5 hr
    have fz6 := frz_of_row 6 hr
    clear hr hE hne
    go_wp2_with fail
    try simp only [Exit.jump]
    exact bodyPost_ret (v := .tuple #[.agg #[.pointer none, .int .i64 0, .int .i64 0, .int .i64 0, .int .u64 0, .int .i64 0, .int .i64 0], .int .i64 er]) (by simp [results, Tryz.results205, go_sem, z0, z1, z2, z3, z4, z5, z6]) rfl (.inr ⟨_, er, HE.out, HNE.out, rfl, rfl⟩)
  ·obtain ⟨x0, x1, x2, x3, x4, x5, x6, hb⟩ := HB.out _ hP
   have hr := HR.out _ (.inl hP)
   have HP := Lib.hid hP
   have HBB := Lib.hid hb
   have b0 := cell_of_row W _ 0 _ _ _ hb
   have b1 := cell_of_row W _ 1 _ _ _ hb
   have b2 := cell_of_row W _ 2 _ _ _ hb
   have b3 := cell_of_row W _ 3 _ _ _ hb
   have b4 := cell_of_row W _ 4 _ _ _ hb
   have b5 := cell_of_row W _ 5 _ _ _ hb
   have b6 := cell_of_row W _ 6 _ _ _ hb
   simp at b0 b1 b2 b3 b4 b5 b6
   have z0 := cell_of_row W _ 0 _ _ _ hr
   have z1 := cell_of_row W _ 1 _ _ _ hr
   have z2 := cell_of_row W _ 2 _ _ _ hr
   have z3 := cell_of_row W _ 3 _ _ _ hr
   have z4 := cell_of_row W _ 4 _ _ _ hr
   have z5 := cell_of_row W _ 5 _ _ _ hr
   have z6 := cell_of_row W _ 6 _ _ _ hr
   simp at z0 z1 z2 z3 z4 z5 z6
   have fz0 := frz_of_row 0 hr
   have fz1 := frz_of_row 1 hr
   have fz2 := frz_of_row 2 hr
   have fz3 := frz_of_row 3 hr
   have fz4 := frz_of_row 4 hr
   have fz5 := frz_of_row 5 hr
   have fz6 := frz_of_row 6 hr
   clear hr hb hP
   go_wp2_with fail
   try simp only [Exit.jump]
   exact bodyPost_ret (v := .tuple #[.agg #[.pointer x0, .int .i64 x1, .int .i64 x2, .int .i64 x3, .int .u64 x4, .int .i64 x5, .int .i64 x6], .int .i64 0]) (by simp [results, Tryz.results205, go_sem, z0, z1, z2, z3, z4, z5, z6, b0, b1, b2, b3, b4, b5, b6]) rfl (.inl ⟨_, x0, x1, x2, x3, x4, x5, x6, HP.out, HBB.out, rfl, rfl⟩)
set_option maxRecDepth 20000
def eqY (u t : Sy) : Bool := u.CK == t.CK && (u.K == t.K && (u.H == t.H && u.N == t.N))
theorem heldY : Tryz.prog.stoodInHeld 45 = false := by kernel_rfl
theorem guardY : Tryz.prog.eqGuardType Tryz.prog.depth 45 = false := by kernel_rfl
theorem fieldsY : Tryz.prog.underlying 45 = some (.struct (Tryz.prog.fieldsOf 45)) := by kernel_rfl
theorem equal_Y (u t : Sy) (w : World) : (Op.equalIn 10000 45 u.v t.v).run Tryz.prog w = .ok (eqY u t) w := by
 unfold Sy.v
 rw [run_equalIn_agg _ _ _ _ _ fieldsY heldY]
 have hf : (Tryz.prog.fieldsOf 45).toList = (match Tryz.prog.underlying 45 with | some (.struct fs) => fs.toList | _ => []) := by kernel_rfl
 rw [hf, Tryz.underlying45]
 have i3 := fun (w : World) (a b : Int) => run_equalIn_int (P := Tryz.prog) w 9998 3 .i64 .i64 a b Tryz.underlying3
 have i30 := fun (w : World) (a b : Int) => run_equalIn_int (P := Tryz.prog) w 9998 23 .u64 .u64 a b Tryz.underlying23
 simp only [Op.eqFields, eqY]
 cases h1 : (u.CK == t.CK)
 ·go_simp
 cases h2 : (u.K == t.K)
 ·go_simp
 cases h3 : (u.H == t.H)
 ·go_simp
 cases h4 : (u.N == t.N)
 ·go_simp
 go_simp
theorem eql_Y (u t : Sy) (w : World) : (binOp .eql 45 u.v t.v).run Tryz.prog w = .ok (.bool (eqY u t)) w := by
 have h := equal_Y u t w
 unfold Sy.v at *
 rw [run_eql_struct, h]; rfl
def Wk (B g : Nat) (y : Sy) (p s : Int) (w : World) : Prop := w.heap[B]? = some (.cells #[.pointer (some ⟨g, 0, none⟩), .int .i64 y.CK, .int .i64 y.K, .int .i64 y.H, .int .u64 y.N, .int .i64 p, .int .i64 s] 270 (0, 0))
set_option maxHeartbeats 1000000 in
theorem check_c {B g : Nat} {y : Sy} {p s er : Int} {w : World} (hw : Wk B g y p s w) (her : (if y.K = 0 ∨ y.N = lastN then 7 else 0) = er) :
  Calls Tryz.prog 206 #[.pointer (some ⟨B, 0, none⟩)] w fun e w' => e = .returned (.int .i64 er) ∧ Below w.heap.size w w' := by
 obtain ⟨yc, yk, yh, yn⟩ := y
 unfold Wk at hw
 have hlt := lt_of_block hw
 have c1 := cell_of_row w _ 1 _ _ _ hw
 have c2 := cell_of_row w _ 2 _ _ _ hw
 have c3 := cell_of_row w _ 3 _ _ _ hw
 have c4 := cell_of_row w _ 4 _ _ _ hw
 simp at c1 c2 c3 c4
 have HWK := Lib.hid hw
 clear hw
 have hE1 := eql_Y ⟨yc, yk, yh, yn⟩ ⟨yc, 0, yh, yn⟩
 have hE2 := eql_Y ⟨yc, yk, yh, yn⟩ ⟨yc, yk, yh, 18446744073709551615⟩
 have hgd := guardY
 obtain ⟨t1, h1⟩ : ∃ t, eqY ⟨yc, yk, yh, yn⟩ ⟨yc, 0, yh, yn⟩ = t := ⟨_, rfl⟩
 obtain ⟨t2, h2⟩ : ∃ t, eqY ⟨yc, yk, yh, yn⟩ ⟨yc, yk, yh, 18446744073709551615⟩ = t := ⟨_, rfl⟩
 rw [h1] at hE1
 rw [h2] at hE2
 unfold Sy.v at hE1 hE2
 simp only [] at hE1 hE2
 have e1 : t1 = (yk == 0) := by rw [← h1]; simp [eqY]
 have e2 : t2 = (yn == lastN) := by rw [← h2]; simp [eqY, lastN]
 have HV : Hid ((if t1 = true ∨ t2 = true then 7 else 0) = er) := Lib.hid (by rw [← her, e1, e2]; simp)
 clear h1 h2 e1 e2 her
 go_enter Tryz.func206, Tryz.ntmps206
 go_wp2
 go_region
 all_goals
  generalize hW : World.drew (World.alloc (World.alloc w _) _) = W
  have hb : Below w.heap.size w W := by rw [← hW]; exact (((Below.refl _ _).alloc (Nat.le_refl _) _).alloc (by simp) _).drew
  have r0 : W.heap[w.heap.size]? = some (.cells #[.int .i64 yc, .int .i64 yk, .int .i64 yh, .int .u64 yn] 45 (0, 0)) := by
   rw [← hW]; show (World.alloc (World.alloc w _) _).heap[w.heap.size]? = _
   rw [heap_alloc_old _ _ (by simp)]; exact heap_alloc_new w _
  have r1 : W.heap[w.heap.size + 1]? = some (.cells #[.int .i64 yc, .int .i64 yk, .int .i64 yh, .int .u64 yn] 45 (0, 0)) := by
   rw [← hW]
   show (World.alloc (World.alloc w _) _).heap[w.heap.size + 1]? = _
   have := heap_alloc_new (w.alloc (.cells #[.int .i64 yc, .int .i64 yk, .int .i64 yh, .int .u64 yn] 45)) (.cells #[.int .i64 yc, .int .i64 yk, .int .i64 yh, .int .u64 yn] 45)
   simpa using this
  rw [← hb.cell (by exact hlt)] at c1 c2 c3 c4
  have p0 := cell_of_row W _ 0 _ _ _ r0
  have p1 := cell_of_row W _ 1 _ _ _ r0
  have p2 := cell_of_row W _ 2 _ _ _ r0
  have p3 := cell_of_row W _ 3 _ _ _ r0
  have q0 := cell_of_row W _ 0 _ _ _ r1
  have q1 := cell_of_row W _ 1 _ _ _ r1
  have q2 := cell_of_row W _ 2 _ _ _ r1
  have q3 := cell_of_row W _ 3 _ _ _ r1
  simp at p0 p1 p2 p3 q0 q1 q2 q3
  have fp1 := frz_of_row 1 r0
  have fp3 := frz_of_row 3 r0
  have fq1 := frz_of_row 1 r1
  have fq3 := frz_of_row 3 r1
  have HB := Lib.hid hb
  have hB1 : ¬ B = w.heap.size := by omega
  have hB2 : ¬ B = w.heap.size + 1 := by omega
  have hB3 : ¬ w.heap.size = B := by omega
  have hB4 : ¬ w.heap.size + 1 = B := by omega
  clear hW hb r0 r1
  cases t1 with
  | true =>
   have hv := HV.out
   simp at hv
   subst hv
   clear HV
   go_wp2
   go_quiet (fail)
   go_wp2
   go_ret
   exact ⟨rfl, ((HB.out.setCell (by dsimp only; omega) _).setCell (by dsimp only; omega) _).trans ⟨rfl, rfl, rfl, Nat.le_refl _, fun _ _ => rfl⟩⟩
  | false =>
   cases t2 with
   | true =>
    have hv := HV.out
    simp at hv
    subst hv
    clear HV
    go_wp2
    go_quiet (fail)
    go_wp2
    go_ret
    exact ⟨rfl, ((HB.out.setCell (by dsimp only; omega) _).setCell (by dsimp only; omega) _).trans ⟨rfl, rfl, rfl, Nat.le_refl _, fun _ _ => rfl⟩⟩
   | false =>
    have hv := HV.out
    simp at hv
    subst hv
    clear HV
    go_wp2
    go_quiet (fail)
    go_wp2
    go_ret
    exact ⟨rfl, ((HB.out.setCell (by dsimp only; omega) _).setCell (by dsimp only; omega) _).trans ⟨rfl, rfl, rfl, Nat.le_refl _, fun _ _ => rfl⟩⟩
section
variable {base g : Nat} {most : Int} {Q2 : (Nat → Prop) → List Tm → World → Prop} {L L2 : List Tm} {K : Nat → Prop} {w0 w : World}
theorem Wk.of {B : Nat} {y : Sy} {p s : Int} {w w' : World} (h : Wk B g y p s w) (hk : w'.heap[B]? = w.heap[B]?) : Wk B g y p s w' := by unfold Wk at *; rw [hk]; exact h
def Stp (K : Nat → Prop) (B g : Nat) (e : Int) (y : Sy) (p s : Int) (P : World → Prop) (w : World) (e' : Ending) (w' : World) : Prop :=
 e' = .returned (.int .i64 e) ∧ P w' ∧ Wk B g y p s w' ∧ ∀ k, K k → k ≠ B → w'.heap[k]? = w.heap[k]?
theorem u64_in {n : Int} (h : U64 n) : 0 ≤ n ∧ n ≤ 18446744073709551615 := by
 have e1 : IntKind.u64.min = 0 := by decide
 have e2 : IntKind.u64.max = 18446744073709551615 := by decide
 simpa only [U64, Lit.wf, e1, e2, Bool.and_eq_true, decide_eq_true_eq] using h
set_option maxHeartbeats 1000000 in
theorem Pair.countS {B : Nat} {y : Sy} {p s : Int} (g2 : Good base Q2) (h : Pair base (PSq base g most) Q2 L L2 K w0 w) (hB : K B) (hbB : base ≤ B) (hw : Wk B g y p s w) (hn : U64 y.N) (hl : y.N ≠ lastN) :
  Calls Tryz.prog 208 #[.pointer (some ⟨B, 0, none⟩)] w (Stp K B g 0 ⟨y.CK, y.K, y.H, y.N + 1⟩ p s (Pair base (PSq base g most) Q2 L L2 K w0) w) := by
 have gS := PSq.good base g most
 obtain ⟨yc, yk, yh, yn⟩ := y
 have H := Lib.hid h
 have HW := Lib.hid hw
 have c4 := cell_of_row w _ 4 _ _ _ hw
 have f4 := frz_of_row 4 hw
 simp at c4
 have hb := u64_in hn
 simp only [lastN] at hl
 have HBK := Lib.hid hB
 have HBb := Lib.hid hbB
 have e1 : IntKind.u64.wrap (yn + 1) = yn + 1 := by
  have h1 := hb.1
  have h2 := hb.2
  simp only at hl h1 h2
  simp [IntKind.wrap, IntKind.signed, IntKind.bits]
  omega
 have HE := Lib.hid e1
 clear h hw hn hB hbB hl hb e1
 go_enter Tryz.func208, Tryz.ntmps208
 go_wp2
 rw [HE.out]
 go_ret
 have r := row_set 4 (.int .u64 (yn + 1)) HW.out
 simp at r
 exact ⟨rfl, H.out.setAt gS g2 HBK.out HBb.out 4 _, r, fun k q hk => heap_setCell_other _ _ _ _ (by exact hk)⟩
end
section
variable {base g : Nat} {most : Int} {Q2 : (Nat → Prop) → List Tm → World → Prop} {L L2 : List Tm} {K : Nat → Prop} {w0 w : World}
set_option maxHeartbeats 2000000 in
theorem Pair.openS {B : Nat} {y : Sy} {p s a e : Int} (g2 : Good base Q2) (h : Pair base (PSq base g most) Q2 L L2 K w0 w) (hB : K B) (hbB : base ≤ B) (hw : Wk B g y p s w) (hf : openF L y.K y.N y.H s = (a, e)) :
  Calls Tryz.prog 212 #[.pointer (some ⟨B, 0, none⟩)] w (Stp K B g e y a s (Pair base (PSq base g most) Q2 L L2 K w0) w) := by
 have gS := PSq.good base g most
 obtain ⟨yc, yk, yh, yn⟩ := y
 have hd : Below w.heap.size w w.drew := (Below.refl _ _).drew
 have HPd := Lib.hid (h.below gS g2 hd)
 have HKl := Lib.hid h.klt
 have hlt := lt_of_block hw
 have hw' : Wk B g ⟨yc, yk, yh, yn⟩ p s w.drew := hw.of (hd.block B hlt)
 have HW := Lib.hid hw'
 have HBK := Lib.hid hB
 have HBb := Lib.hid hbB
 have hS : w.drew.cell? ⟨B, 0, none⟩ = some (.pointer (some ⟨g, 0, none⟩)) ∧ w.drew.cell? ⟨B, 2, none⟩ = some (.int .i64 yk) ∧ w.drew.cell? ⟨B, 3, none⟩ = some (.int .i64 yh) ∧ w.drew.cell? ⟨B, 4, none⟩ = some (.int .u64 yn) ∧ w.drew.cell? ⟨B, 6, none⟩ = some (.int .i64 s) :=
  ⟨cell_of_row _ _ 0 _ _ _ hw', cell_of_row _ _ 2 _ _ _ hw', cell_of_row _ _ 3 _ _ _ hw', cell_of_row _ _ 4 _ _ _ hw', cell_of_row _ _ 6 _ _ _ hw'⟩
 have hS' := hS
 have HC : Hid (∀ W, Pair base (PSq base g most) Q2 L L2 K w0 W → Calls Tryz.prog 222 #[.pointer (some ⟨g, 0, none⟩), .int .i64 yk, .int .u64 yn, .int .i64 yh, .int .i64 s] W (Two (.int .i64 a) (.int .i64 e) (Pair base (PSq base g most) Q2 L L2 K w0) W)) :=
  Lib.hid (fun W h => h.aopenP g2 hf)
 clear h hw hw' hf hB hbB hd
 go_enter Tryz.func212, Tryz.ntmps212
 go_wp2
 go_region_held3 (fun w' => w'.cell? ⟨B, 0, none⟩ = some (.pointer (some ⟨g, 0, none⟩)) ∧ w'.cell? ⟨B, 2, none⟩ = some (.int .i64 yk) ∧ w'.cell? ⟨B, 3, none⟩ = some (.int .i64 yh) ∧ w'.cell? ⟨B, 4, none⟩ = some (.int .u64 yn) ∧ w'.cell? ⟨B, 6, none⟩ = some (.int .i64 s)) (first | assumption | go_keep | (refine ⟨?_, ?_, ?_, ?_, ?_⟩ <;> (rw [World.cell?_setCell_other _ _ _ _ (by simp)]; simp [hS2]))) ((go_at_call 222; refine (HC.out _ HPd.out).mono ?_; rintro e1 w2 ⟨rfl, hp2, hk2⟩; have hw2 := HW.out.of (hk2.block B (by exact hlt)); have hS2 : w2.cell? ⟨B, 0, none⟩ = some (.pointer (some ⟨g, 0, none⟩)) ∧ w2.cell? ⟨B, 2, none⟩ = some (.int .i64 yk) ∧ w2.cell? ⟨B, 3, none⟩ = some (.int .i64 yh) ∧ w2.cell? ⟨B, 4, none⟩ = some (.int .u64 yn) ∧ w2.cell? ⟨B, 6, none⟩ = some (.int .i64 s) := ⟨cell_of_row _ _ 0 _ _ _ hw2, cell_of_row _ _ 2 _ _ _ hw2, cell_of_row _ _ 3 _ _ _ hw2, cell_of_row _ _ 4 _ _ _ hw2, cell_of_row _ _ 6 _ _ _ hw2⟩; have h62 : w2.cell? ⟨B, 5, none⟩ = some (.int .i64 p) := cell_of_row _ _ 5 _ _ _ hw2; have hfz2 := frz_of_row (w := w2) 5 hw2; have HP2 := Lib.hid hp2; have HK2 := Lib.hid hk2; have HW2 := Lib.hid hw2; clear hp2 hk2 hw2))
 go_wp2
 go_ret
 have r := row_set 5 (.int .i64 a) HW2.out
 simp at r
 exact ⟨rfl, HP2.out.setAt gS g2 HBK.out HBb.out 5 _, r, fun k q hk => (heap_setCell_other _ _ _ _ (by exact hk)).trans (HK2.out.block k (HKl.out k q))⟩
end
section
variable {base g : Nat} {most : Int} {Q2 : (Nat → Prop) → List Tm → World → Prop} {L L2 : List Tm} {K : Nat → Prop} {w0 w : World}
set_option maxHeartbeats 2000000 in
theorem Pair.sealS {L' : List Tm} {B : Nat} {y : Sy} {p s a e : Int} (g2 : Good base Q2) (h : Pair base (PSq base g most) Q2 L L2 K w0 w) (hB : K B) (hbB : base ≤ B) (hw : Wk B g y p s w) (hy : y.Wf) (hp : I64 p) (hf : putF L most (sealT y.K y.N y.H p) = (a, e, L')) :
  Calls Tryz.prog 207 #[.pointer (some ⟨B, 0, none⟩)] w (Stp K B g e y p a (Pair base (PSq base g most) Q2 L' L2 K w0) w) := by
 have gS := PSq.good base g most
 obtain ⟨yc, yk, yh, yn⟩ := y
 have hd : Below w.heap.size w w.drew := (Below.refl _ _).drew
 have HPd := Lib.hid (h.below gS g2 hd)
 have HKl := Lib.hid h.klt
 have hlt := lt_of_block hw
 have hw' : Wk B g ⟨yc, yk, yh, yn⟩ p s w.drew := hw.of (hd.block B hlt)
 have HW := Lib.hid hw'
 have HBK := Lib.hid hB
 have HBb := Lib.hid hbB
 have hS : w.drew.cell? ⟨B, 0, none⟩ = some (.pointer (some ⟨g, 0, none⟩)) ∧ w.drew.cell? ⟨B, 2, none⟩ = some (.int .i64 yk) ∧ w.drew.cell? ⟨B, 3, none⟩ = some (.int .i64 yh) ∧ w.drew.cell? ⟨B, 4, none⟩ = some (.int .u64 yn) ∧ w.drew.cell? ⟨B, 5, none⟩ = some (.int .i64 p) :=
  ⟨cell_of_row _ _ 0 _ _ _ hw', cell_of_row _ _ 2 _ _ _ hw', cell_of_row _ _ 3 _ _ _ hw', cell_of_row _ _ 4 _ _ _ hw', cell_of_row _ _ 5 _ _ _ hw'⟩
 have hS' := hS
 have HC : Hid (∀ W, Pair base (PSq base g most) Q2 L L2 K w0 W → Calls Tryz.prog 220 #[.pointer (some ⟨g, 0, none⟩), .int .i64 yk, .int .u64 yn, .int .i64 yh, .int .i64 p] W (TwoK (.int .i64 a) (.int .i64 e) (Pair base (PSq base g most) Q2 L' L2 K w0) K W)) :=
  Lib.hid (fun W h => h.sealP g2 hy.k hy.n hy.h hp hf)
 clear h hw hw' hy hp hf hB hbB hd
 go_enter Tryz.func207, Tryz.ntmps207
 go_wp2
 go_region_held3 (fun w' => w'.cell? ⟨B, 0, none⟩ = some (.pointer (some ⟨g, 0, none⟩)) ∧ w'.cell? ⟨B, 2, none⟩ = some (.int .i64 yk) ∧ w'.cell? ⟨B, 3, none⟩ = some (.int .i64 yh) ∧ w'.cell? ⟨B, 4, none⟩ = some (.int .u64 yn) ∧ w'.cell? ⟨B, 5, none⟩ = some (.int .i64 p)) (first | assumption | go_keep | (refine ⟨?_, ?_, ?_, ?_, ?_⟩ <;> (rw [World.cell?_setCell_other _ _ _ _ (by simp)]; simp [hS2]))) ((go_at_call 220; refine (HC.out _ HPd.out).mono ?_; rintro e1 w2 ⟨rfl, hp2, hk2⟩; have hw2 := HW.out.of (hk2 B HBK.out); have hS2 : w2.cell? ⟨B, 0, none⟩ = some (.pointer (some ⟨g, 0, none⟩)) ∧ w2.cell? ⟨B, 2, none⟩ = some (.int .i64 yk) ∧ w2.cell? ⟨B, 3, none⟩ = some (.int .i64 yh) ∧ w2.cell? ⟨B, 4, none⟩ = some (.int .u64 yn) ∧ w2.cell? ⟨B, 5, none⟩ = some (.int .i64 p) := ⟨cell_of_row _ _ 0 _ _ _ hw2, cell_of_row _ _ 2 _ _ _ hw2, cell_of_row _ _ 3 _ _ _ hw2, cell_of_row _ _ 4 _ _ _ hw2, cell_of_row _ _ 5 _ _ _ hw2⟩; have h62 : w2.cell? ⟨B, 6, none⟩ = some (.int .i64 s) := cell_of_row _ _ 6 _ _ _ hw2; have hfz2 := frz_of_row (w := w2) 6 hw2; have HP2 := Lib.hid hp2; have HK2 := Lib.hid hk2; have HW2 := Lib.hid hw2; clear hp2 hk2 hw2))
 go_wp2
 go_ret
 have r := row_set 6 (.int .i64 a) HW2.out
 simp at r
 exact ⟨rfl, HP2.out.setAt gS g2 HBK.out HBb.out 6 _, r, fun k q hk => (heap_setCell_other _ _ _ _ (by exact hk)).trans (HK2.out k q)⟩
end
end Go.Proofs.YtgeonppckeiceaaGreatDoor
