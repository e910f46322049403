/- The steps of Seal and of Open, one behind the other up to the first error: a label that loops goto. -/
import Derived.Test.YtlejejeflgnglaaSymH
namespace Go.Proofs.Ytlejejeflgnglaa
open Go.RowKit
set_option linter.unusedVariables false
set_option linter.unusedSimpArgs false
/-- Seven cells of a block set, one by one. -/
def set7 (w : World) (b : Nat) (v0 v1 v2 v3 v4 v5 v6 : Value) : World := (((((((w.setCell ⟨b, 0, none⟩ v0).setCell ⟨b, 1, none⟩ v1).setCell ⟨b, 2, none⟩ v2).setCell ⟨b, 3, none⟩ v3).setCell ⟨b, 4, none⟩ v4).setCell ⟨b, 5, none⟩ v5).setCell ⟨b, 6, none⟩ v6)
def StepC (f : FuncId) (B : Nat) (P Q : World → Prop) (E : Int → World → Prop) : Prop := ∀ W, P W → Calls Try.prog f #[.pointer (some ⟨B, 0, none⟩)] W fun e W' => ∃ er : Int, e = .returned (.int .i64 er) ∧ ((er = 0 ∧ Q W') ∨ (er ≠ 0 ∧ E er W'))
def TurnPost (B : Nat) (P4 : World → Prop) (E : Int → World → Prop) (e : Ending) (w' : World) : Prop :=
  (∃ W, ∃ (x0 : Option Addr) (x1 x2 x3 x4 x5 x6 : Int), P4 W ∧ W.heap[B]? = some (.cells #[.pointer x0, .int .i64 x1, .int .i64 x2, .int .i64 x3, .int .u64 x4, .int .i64 x5, .int .i64 x6] 79 (0, 0)) ∧ e = .returned (.tuple #[.agg #[.pointer x0, .int .i64 x1, .int .i64 x2, .int .i64 x3, .int .u64 x4, .int .i64 x5, .int .i64 x6], .int .i64 0]) ∧ w' = set7 W (B + 1) (.pointer x0) (.int .i64 x1) (.int .i64 x2) (.int .i64 x3) (.int .u64 x4) (.int .i64 x5) (.int .i64 x6)) ∨
  (∃ W er, E er W ∧ er ≠ 0 ∧ e = .returned (.tuple #[.agg #[.pointer none, .int .i64 0, .int .i64 0, .int .i64 0, .int .u64 0, .int .i64 0, .int .i64 0], .int .i64 er]) ∧ w' = set7 W (B + 1) (.pointer none) (.int .i64 0) (.int .i64 0) (.int .i64 0) (.int .u64 0) (.int .i64 0) (.int .i64 0))

set_option maxHeartbeats 4000000 in
set_option maxRecDepth 100000 in
theorem inTurn_seal (v0 v1 v2 v3 v4 v5 v6 : Value) (A : Nat) (P0 P1 P2 P3 P4 : World → Prop) (E : Int → World → Prop) (w : World)
    (hs0 : StepC 39 w.heap.size P0 P1 E) (hs1 : StepC 40 w.heap.size P1 P2 E) (hs2 : StepC 41 w.heap.size P2 P3 E) (hs3 : StepC 42 w.heap.size P3 P4 E)
    (hA : ∀ W, P0 W ∨ P1 W ∨ P2 W ∨ P3 W → W.heap[A]? = some (.cells #[.func (.func 39) #[] #[], .func (.func 40) #[] #[], .func (.func 41) #[] #[], .func (.func 42) #[] #[]] 103 (0, 0)))
    (hB : ∀ W, P4 W → ∃ (x0 : Option Addr) (x1 x2 x3 x4 x5 x6 : Int), W.heap[w.heap.size]? = some (.cells #[.pointer x0, .int .i64 x1, .int .i64 x2, .int .i64 x3, .int .u64 x4, .int .i64 x5, .int .i64 x6] 79 (0, 0)))
    (hR : ∀ W, P4 W ∨ (∃ er, E er W) → W.heap[w.heap.size + 1]? = some (.cells #[.pointer none, .int .i64 0, .int .i64 0, .int .i64 0, .int .u64 0, .int .i64 0, .int .i64 0] 79 (0, 0)))
    (h0 : P0 ((w.alloc (.cells #[v0, v1, v2, v3, v4, v5, v6] 79)).alloc (.cells #[.pointer none, .int .i64 0, .int .i64 0, .int .i64 0, .int .u64 0, .int .i64 0, .int .i64 0] 79))) :
    Calls Try.prog 38 #[.agg #[v0, v1, v2, v3, v4, v5, v6], .slice (some ⟨A, 0, none⟩) 4 4] w (TurnPost w.heap.size P4 E) := by
  have HS0 := Lib.hid hs0
  have HS1 := Lib.hid hs1
  have HS2 := Lib.hid hs2
  have HS3 := Lib.hid hs3
  have HA := Lib.hid hA
  have HB := Lib.hid hB
  have HR := Lib.hid hR
  have H0 := Lib.hid h0
  have c0 := cell_of_row _ _ 0 _ _ _ (hA _ (.inl h0))
  simp at c0
  clear hs0 hs1 hs2 hs3 hA hB hR h0
  go_enter Try.func38, Try.ntmps38
  go_wp2
  refine wp_scope_jumps 0 (fun a' W => ∃ (i : Nat) (u7 u8 u9 u10 u11 u12 u13 u14 u15 u16 u17 u18 u19 u20 u21 u22 u23 : Value), a' = { tmps := #[.agg #[v0, v1, v2, v3, v4, v5, v6], .slice (some ⟨A, 0, none⟩) 4 4, .pointer (some ⟨w.heap.size, 0, none⟩), undef, .pointer (some ⟨w.heap.size + 1, 0, none⟩), .int .i64 0, .int .i64 (i : Nat), u7, u8, u9, u10, u11, u12, u13, u14, u15, u16, u17, u18, u19, u20, u21, u22, u23], defers := [] } ∧ ((i = 1 ∧ P1 W) ∨ (i = 2 ∧ P2 W) ∨ (i = 3 ∧ P3 W) ∨ (i = 4 ∧ P4 W))) (fun a' _ => 4 - (intOf (a'.tmps.getD 6 undef)).toNat) rfl ?_ ?_
  · go_wp2
    go_step3
    go_wp2_with fail
    refine (HS0.out _ H0.out).mono ?_
    rintro e w1 ⟨er, rfl, ⟨rfl, hP⟩ | ⟨hne, hE⟩⟩
    · clear c0
      have HP := Lib.hid hP
      clear hP
      go_wp2
      go_step3
      exact ⟨rfl, ⟨1, _, _, _, _, _, _, _, _, _, _, _, _, _, _, _, _, _, rfl, .inl ⟨rfl, HP.out⟩⟩⟩

    · clear c0
      have hr := HR.out w1 (.inr ⟨er, hE⟩)
      have hne1 : (er != 0) = true := by simpa using hne
      have HE := Lib.hid hE
      have HNE := Lib.hid hne
      have z0 := cell_of_row w1 _ 0 _ _ _ hr
      have z1 := cell_of_row w1 _ 1 _ _ _ hr
      have z2 := cell_of_row w1 _ 2 _ _ _ hr
      have z3 := cell_of_row w1 _ 3 _ _ _ hr
      have z4 := cell_of_row w1 _ 4 _ _ _ hr
      have z5 := cell_of_row w1 _ 5 _ _ _ hr
      have z6 := cell_of_row w1 _ 6 _ _ _ hr
      simp at z0 z1 z2 z3 z4 z5 z6
      have fz0 := frz_of_row 0 hr
      have fz1 := frz_of_row 1 hr
      have fz2 := frz_of_row 2 hr
      have fz3 := frz_of_row 3 hr
      have fz4 := frz_of_row 4 hr
      have fz5 := frz_of_row 5 hr
      have fz6 := frz_of_row 6 hr
      clear hr hE hne
      go_wp2_with fail
      try simp only [Exit.jump]
      exact bodyPost_ret (v := .tuple #[.agg #[.pointer none, .int .i64 0, .int .i64 0, .int .i64 0, .int .u64 0, .int .i64 0, .int .i64 0], .int .i64 er]) (by simp [results, Try.results38, go_sem, z0, z1, z2, z3, z4, z5, z6]) rfl (.inr ⟨_, er, HE.out, HNE.out, rfl, rfl⟩)

  · rintro a' W ⟨i, u7, u8, u9, u10, u11, u12, u13, u14, u15, u16, u17, u18, u19, u20, u21, u22, u23, rfl, ⟨rfl, hP⟩ | ⟨rfl, hP⟩ | ⟨rfl, hP⟩ | ⟨rfl, hP⟩⟩
    · have c := cell_of_row _ _ 1 _ _ _ (HA.out _ (.inr (.inl hP)))
      simp at c
      have HPi := Lib.hid hP
      clear hP
      go_wp2_with fail
      refine (HS1.out _ HPi.out).mono ?_
      rintro e w1 ⟨er, rfl, ⟨rfl, hP⟩ | ⟨hne, hE⟩⟩
      · clear c
        have HP := Lib.hid hP
        clear hP
        go_wp2
        go_step3
        exact ⟨rfl, ⟨2, _, _, _, _, _, _, _, _, _, _, _, _, _, _, _, _, _, rfl, .inr (.inl ⟨rfl, HP.out⟩)⟩, by simp [intOf]⟩

      · clear c
        have hr := HR.out w1 (.inr ⟨er, hE⟩)
        have hne1 : (er != 0) = true := by simpa using hne
        have HE := Lib.hid hE
        have HNE := Lib.hid hne
        have z0 := cell_of_row w1 _ 0 _ _ _ hr
        have z1 := cell_of_row w1 _ 1 _ _ _ hr
        have z2 := cell_of_row w1 _ 2 _ _ _ hr
        have z3 := cell_of_row w1 _ 3 _ _ _ hr
        have z4 := cell_of_row w1 _ 4 _ _ _ hr
        have z5 := cell_of_row w1 _ 5 _ _ _ hr
        have z6 := cell_of_row w1 _ 6 _ _ _ hr
        simp at z0 z1 z2 z3 z4 z5 z6
        have fz0 := frz_of_row 0 hr
        have fz1 := frz_of_row 1 hr
        have fz2 := frz_of_row 2 hr
        have fz3 := frz_of_row 3 hr
        have fz4 := frz_of_row 4 hr
        have fz5 := frz_of_row 5 hr
        have fz6 := frz_of_row 6 hr
        clear hr hE hne
        go_wp2_with fail
        try simp only [Exit.jump]
        exact bodyPost_ret (v := .tuple #[.agg #[.pointer none, .int .i64 0, .int .i64 0, .int .i64 0, .int .u64 0, .int .i64 0, .int .i64 0], .int .i64 er]) (by simp [results, Try.results38, go_sem, z0, z1, z2, z3, z4, z5, z6]) rfl (.inr ⟨_, er, HE.out, HNE.out, rfl, rfl⟩)

    · have c := cell_of_row _ _ 2 _ _ _ (HA.out _ (.inr (.inr (.inl hP))))
      simp at c
      have HPi := Lib.hid hP
      clear hP
      go_wp2_with fail
      refine (HS2.out _ HPi.out).mono ?_
      rintro e w1 ⟨er, rfl, ⟨rfl, hP⟩ | ⟨hne, hE⟩⟩
      · clear c
        have HP := Lib.hid hP
        clear hP
        go_wp2
        go_step3
        exact ⟨rfl, ⟨3, _, _, _, _, _, _, _, _, _, _, _, _, _, _, _, _, _, rfl, .inr (.inr (.inl ⟨rfl, HP.out⟩))⟩, by simp [intOf]⟩

      · clear c
        have hr := HR.out w1 (.inr ⟨er, hE⟩)
        have hne1 : (er != 0) = true := by simpa using hne
        have HE := Lib.hid hE
        have HNE := Lib.hid hne
        have z0 := cell_of_row w1 _ 0 _ _ _ hr
        have z1 := cell_of_row w1 _ 1 _ _ _ hr
        have z2 := cell_of_row w1 _ 2 _ _ _ hr
        have z3 := cell_of_row w1 _ 3 _ _ _ hr
        have z4 := cell_of_row w1 _ 4 _ _ _ hr
        have z5 := cell_of_row w1 _ 5 _ _ _ hr
        have z6 := cell_of_row w1 _ 6 _ _ _ hr
        simp at z0 z1 z2 z3 z4 z5 z6
        have fz0 := frz_of_row 0 hr
        have fz1 := frz_of_row 1 hr
        have fz2 := frz_of_row 2 hr
        have fz3 := frz_of_row 3 hr
        have fz4 := frz_of_row 4 hr
        have fz5 := frz_of_row 5 hr
        have fz6 := frz_of_row 6 hr
        clear hr hE hne
        go_wp2_with fail
        try simp only [Exit.jump]
        exact bodyPost_ret (v := .tuple #[.agg #[.pointer none, .int .i64 0, .int .i64 0, .int .i64 0, .int .u64 0, .int .i64 0, .int .i64 0], .int .i64 er]) (by simp [results, Try.results38, go_sem, z0, z1, z2, z3, z4, z5, z6]) rfl (.inr ⟨_, er, HE.out, HNE.out, rfl, rfl⟩)

    · have c := cell_of_row _ _ 3 _ _ _ (HA.out _ (.inr (.inr (.inr hP))))
      simp at c
      have HPi := Lib.hid hP
      clear hP
      go_wp2_with fail
      refine (HS3.out _ HPi.out).mono ?_
      rintro e w1 ⟨er, rfl, ⟨rfl, hP⟩ | ⟨hne, hE⟩⟩
      · clear c
        have HP := Lib.hid hP
        clear hP
        go_wp2
        go_step3
        exact ⟨rfl, ⟨4, _, _, _, _, _, _, _, _, _, _, _, _, _, _, _, _, _, rfl, .inr (.inr (.inr ⟨rfl, HP.out⟩))⟩, by simp [intOf]⟩

      · clear c
        have hr := HR.out w1 (.inr ⟨er, hE⟩)
        have hne1 : (er != 0) = true := by simpa using hne
        have HE := Lib.hid hE
        have HNE := Lib.hid hne
        have z0 := cell_of_row w1 _ 0 _ _ _ hr
        have z1 := cell_of_row w1 _ 1 _ _ _ hr
        have z2 := cell_of_row w1 _ 2 _ _ _ hr
        have z3 := cell_of_row w1 _ 3 _ _ _ hr
        have z4 := cell_of_row w1 _ 4 _ _ _ hr
        have z5 := cell_of_row w1 _ 5 _ _ _ hr
        have z6 := cell_of_row w1 _ 6 _ _ _ hr
        simp at z0 z1 z2 z3 z4 z5 z6
        have fz0 := frz_of_row 0 hr
        have fz1 := frz_of_row 1 hr
        have fz2 := frz_of_row 2 hr
        have fz3 := frz_of_row 3 hr
        have fz4 := frz_of_row 4 hr
        have fz5 := frz_of_row 5 hr
        have fz6 := frz_of_row 6 hr
        clear hr hE hne
        go_wp2_with fail
        try simp only [Exit.jump]
        exact bodyPost_ret (v := .tuple #[.agg #[.pointer none, .int .i64 0, .int .i64 0, .int .i64 0, .int .u64 0, .int .i64 0, .int .i64 0], .int .i64 er]) (by simp [results, Try.results38, go_sem, z0, z1, z2, z3, z4, z5, z6]) rfl (.inr ⟨_, er, HE.out, HNE.out, rfl, rfl⟩)

    · obtain ⟨x0, x1, x2, x3, x4, x5, x6, hb⟩ := HB.out _ hP
      have hr := HR.out _ (.inl hP)
      have HP := Lib.hid hP
      have HBB := Lib.hid hb
      have b0 := cell_of_row W _ 0 _ _ _ hb
      have b1 := cell_of_row W _ 1 _ _ _ hb
      have b2 := cell_of_row W _ 2 _ _ _ hb
      have b3 := cell_of_row W _ 3 _ _ _ hb
      have b4 := cell_of_row W _ 4 _ _ _ hb
      have b5 := cell_of_row W _ 5 _ _ _ hb
      have b6 := cell_of_row W _ 6 _ _ _ hb
      simp at b0 b1 b2 b3 b4 b5 b6
      have z0 := cell_of_row W _ 0 _ _ _ hr
      have z1 := cell_of_row W _ 1 _ _ _ hr
      have z2 := cell_of_row W _ 2 _ _ _ hr
      have z3 := cell_of_row W _ 3 _ _ _ hr
      have z4 := cell_of_row W _ 4 _ _ _ hr
      have z5 := cell_of_row W _ 5 _ _ _ hr
      have z6 := cell_of_row W _ 6 _ _ _ hr
      simp at z0 z1 z2 z3 z4 z5 z6
      have fz0 := frz_of_row 0 hr
      have fz1 := frz_of_row 1 hr
      have fz2 := frz_of_row 2 hr
      have fz3 := frz_of_row 3 hr
      have fz4 := frz_of_row 4 hr
      have fz5 := frz_of_row 5 hr
      have fz6 := frz_of_row 6 hr
      clear hr hb hP
      go_wp2_with fail
      try simp only [Exit.jump]
      exact bodyPost_ret (v := .tuple #[.agg #[.pointer x0, .int .i64 x1, .int .i64 x2, .int .i64 x3, .int .u64 x4, .int .i64 x5, .int .i64 x6], .int .i64 0]) (by simp [results, Try.results38, go_sem, z0, z1, z2, z3, z4, z5, z6, b0, b1, b2, b3, b4, b5, b6]) rfl (.inl ⟨_, x0, x1, x2, x3, x4, x5, x6, HP.out, HBB.out, rfl, rfl⟩)

set_option maxHeartbeats 4000000 in
set_option maxRecDepth 100000 in
theorem inTurn_open (v0 v1 v2 v3 v4 v5 v6 : Value) (A : Nat) (P0 P1 P2 P3 P4 : World → Prop) (E : Int → World → Prop) (w : World)
    (hs0 : StepC 39 w.heap.size P0 P1 E) (hs1 : StepC 44 w.heap.size P1 P2 E) (hs2 : StepC 41 w.heap.size P2 P3 E) (hs3 : StepC 42 w.heap.size P3 P4 E)
    (hA : ∀ W, P0 W ∨ P1 W ∨ P2 W ∨ P3 W → W.heap[A]? = some (.cells #[.func (.func 39) #[] #[], .func (.func 44) #[] #[], .func (.func 41) #[] #[], .func (.func 42) #[] #[]] 103 (0, 0)))
    (hB : ∀ W, P4 W → ∃ (x0 : Option Addr) (x1 x2 x3 x4 x5 x6 : Int), W.heap[w.heap.size]? = some (.cells #[.pointer x0, .int .i64 x1, .int .i64 x2, .int .i64 x3, .int .u64 x4, .int .i64 x5, .int .i64 x6] 79 (0, 0)))
    (hR : ∀ W, P4 W ∨ (∃ er, E er W) → W.heap[w.heap.size + 1]? = some (.cells #[.pointer none, .int .i64 0, .int .i64 0, .int .i64 0, .int .u64 0, .int .i64 0, .int .i64 0] 79 (0, 0)))
    (h0 : P0 ((w.alloc (.cells #[v0, v1, v2, v3, v4, v5, v6] 79)).alloc (.cells #[.pointer none, .int .i64 0, .int .i64 0, .int .i64 0, .int .u64 0, .int .i64 0, .int .i64 0] 79))) :
    Calls Try.prog 38 #[.agg #[v0, v1, v2, v3, v4, v5, v6], .slice (some ⟨A, 0, none⟩) 4 4] w (TurnPost w.heap.size P4 E) := by
  have HS0 := Lib.hid hs0
  have HS1 := Lib.hid hs1
  have HS2 := Lib.hid hs2
  have HS3 := Lib.hid hs3
  have HA := Lib.hid hA
  have HB := Lib.hid hB
  have HR := Lib.hid hR
  have H0 := Lib.hid h0
  have c0 := cell_of_row _ _ 0 _ _ _ (hA _ (.inl h0))
  simp at c0
  clear hs0 hs1 hs2 hs3 hA hB hR h0
  go_enter Try.func38, Try.ntmps38
  go_wp2
  refine wp_scope_jumps 0 (fun a' W => ∃ (i : Nat) (u7 u8 u9 u10 u11 u12 u13 u14 u15 u16 u17 u18 u19 u20 u21 u22 u23 : Value), a' = { tmps := #[.agg #[v0, v1, v2, v3, v4, v5, v6], .slice (some ⟨A, 0, none⟩) 4 4, .pointer (some ⟨w.heap.size, 0, none⟩), undef, .pointer (some ⟨w.heap.size + 1, 0, none⟩), .int .i64 0, .int .i64 (i : Nat), u7, u8, u9, u10, u11, u12, u13, u14, u15, u16, u17, u18, u19, u20, u21, u22, u23], defers := [] } ∧ ((i = 1 ∧ P1 W) ∨ (i = 2 ∧ P2 W) ∨ (i = 3 ∧ P3 W) ∨ (i = 4 ∧ P4 W))) (fun a' _ => 4 - (intOf (a'.tmps.getD 6 undef)).toNat) rfl ?_ ?_
  · go_wp2
    go_step3
    go_wp2_with fail
    refine (HS0.out _ H0.out).mono ?_
    rintro e w1 ⟨er, rfl, ⟨rfl, hP⟩ | ⟨hne, hE⟩⟩
    · clear c0
      have HP := Lib.hid hP
      clear hP
      go_wp2
      go_step3
      exact ⟨rfl, ⟨1, _, _, _, _, _, _, _, _, _, _, _, _, _, _, _, _, _, rfl, .inl ⟨rfl, HP.out⟩⟩⟩

    · clear c0
      have hr := HR.out w1 (.inr ⟨er, hE⟩)
      have hne1 : (er != 0) = true := by simpa using hne
      have HE := Lib.hid hE
      have HNE := Lib.hid hne
      have z0 := cell_of_row w1 _ 0 _ _ _ hr
      have z1 := cell_of_row w1 _ 1 _ _ _ hr
      have z2 := cell_of_row w1 _ 2 _ _ _ hr
      have z3 := cell_of_row w1 _ 3 _ _ _ hr
      have z4 := cell_of_row w1 _ 4 _ _ _ hr
      have z5 := cell_of_row w1 _ 5 _ _ _ hr
      have z6 := cell_of_row w1 _ 6 _ _ _ hr
      simp at z0 z1 z2 z3 z4 z5 z6
      have fz0 := frz_of_row 0 hr
      have fz1 := frz_of_row 1 hr
      have fz2 := frz_of_row 2 hr
      have fz3 := frz_of_row 3 hr
      have fz4 := frz_of_row 4 hr
      have fz5 := frz_of_row 5 hr
      have fz6 := frz_of_row 6 hr
      clear hr hE hne
      go_wp2_with fail
      try simp only [Exit.jump]
      exact bodyPost_ret (v := .tuple #[.agg #[.pointer none, .int .i64 0, .int .i64 0, .int .i64 0, .int .u64 0, .int .i64 0, .int .i64 0], .int .i64 er]) (by simp [results, Try.results38, go_sem, z0, z1, z2, z3, z4, z5, z6]) rfl (.inr ⟨_, er, HE.out, HNE.out, rfl, rfl⟩)

  · rintro a' W ⟨i, u7, u8, u9, u10, u11, u12, u13, u14, u15, u16, u17, u18, u19, u20, u21, u22, u23, rfl, ⟨rfl, hP⟩ | ⟨rfl, hP⟩ | ⟨rfl, hP⟩ | ⟨rfl, hP⟩⟩
    · have c := cell_of_row _ _ 1 _ _ _ (HA.out _ (.inr (.inl hP)))
      simp at c
      have HPi := Lib.hid hP
      clear hP
      go_wp2_with fail
      refine (HS1.out _ HPi.out).mono ?_
      rintro e w1 ⟨er, rfl, ⟨rfl, hP⟩ | ⟨hne, hE⟩⟩
      · clear c
        have HP := Lib.hid hP
        clear hP
        go_wp2
        go_step3
        exact ⟨rfl, ⟨2, _, _, _, _, _, _, _, _, _, _, _, _, _, _, _, _, _, rfl, .inr (.inl ⟨rfl, HP.out⟩)⟩, by simp [intOf]⟩

      · clear c
        have hr := HR.out w1 (.inr ⟨er, hE⟩)
        have hne1 : (er != 0) = true := by simpa using hne
        have HE := Lib.hid hE
        have HNE := Lib.hid hne
        have z0 := cell_of_row w1 _ 0 _ _ _ hr
        have z1 := cell_of_row w1 _ 1 _ _ _ hr
        have z2 := cell_of_row w1 _ 2 _ _ _ hr
        have z3 := cell_of_row w1 _ 3 _ _ _ hr
        have z4 := cell_of_row w1 _ 4 _ _ _ hr
        have z5 := cell_of_row w1 _ 5 _ _ _ hr
        have z6 := cell_of_row w1 _ 6 _ _ _ hr
        simp at z0 z1 z2 z3 z4 z5 z6
        have fz0 := frz_of_row 0 hr
        have fz1 := frz_of_row 1 hr
        have fz2 := frz_of_row 2 hr
        have fz3 := frz_of_row 3 hr
        have fz4 := frz_of_row 4 hr
        have fz5 := frz_of_row 5 hr
        have fz6 := frz_of_row 6 hr
        clear hr hE hne
        go_wp2_with fail
        try simp only [Exit.jump]
        exact bodyPost_ret (v := .tuple #[.agg #[.pointer none, .int .i64 0, .int .i64 0, .int .i64 0, .int .u64 0, .int .i64 0, .int .i64 0], .int .i64 er]) (by simp [results, Try.results38, go_sem, z0, z1, z2, z3, z4, z5, z6]) rfl (.inr ⟨_, er, HE.out, HNE.out, rfl, rfl⟩)

    · have c := cell_of_row _ _ 2 _ _ _ (HA.out _ (.inr (.inr (.inl hP))))
      simp at c
      have HPi := Lib.hid hP
      clear hP
      go_wp2_with fail
      refine (HS2.out _ HPi.out).mono ?_
      rintro e w1 ⟨er, rfl, ⟨rfl, hP⟩ | ⟨hne, hE⟩⟩
      · clear c
        have HP := Lib.hid hP
        clear hP
        go_wp2
        go_step3
        exact ⟨rfl, ⟨3, _, _, _, _, _, _, _, _, _, _, _, _, _, _, _, _, _, rfl, .inr (.inr (.inl ⟨rfl, HP.out⟩))⟩, by simp [intOf]⟩

      · clear c
        have hr := HR.out w1 (.inr ⟨er, hE⟩)
        have hne1 : (er != 0) = true := by simpa using hne
        have HE := Lib.hid hE
        have HNE := Lib.hid hne
        have z0 := cell_of_row w1 _ 0 _ _ _ hr
        have z1 := cell_of_row w1 _ 1 _ _ _ hr
        have z2 := cell_of_row w1 _ 2 _ _ _ hr
        have z3 := cell_of_row w1 _ 3 _ _ _ hr
        have z4 := cell_of_row w1 _ 4 _ _ _ hr
        have z5 := cell_of_row w1 _ 5 _ _ _ hr
        have z6 := cell_of_row w1 _ 6 _ _ _ hr
        simp at z0 z1 z2 z3 z4 z5 z6
        have fz0 := frz_of_row 0 hr
        have fz1 := frz_of_row 1 hr
        have fz2 := frz_of_row 2 hr
        have fz3 := frz_of_row 3 hr
        have fz4 := frz_of_row 4 hr
        have fz5 := frz_of_row 5 hr
        have fz6 := frz_of_row 6 hr
        clear hr hE hne
        go_wp2_with fail
        try simp only [Exit.jump]
        exact bodyPost_ret (v := .tuple #[.agg #[.pointer none, .int .i64 0, .int .i64 0, .int .i64 0, .int .u64 0, .int .i64 0, .int .i64 0], .int .i64 er]) (by simp [results, Try.results38, go_sem, z0, z1, z2, z3, z4, z5, z6]) rfl (.inr ⟨_, er, HE.out, HNE.out, rfl, rfl⟩)

    · have c := cell_of_row _ _ 3 _ _ _ (HA.out _ (.inr (.inr (.inr hP))))
      simp at c
      have HPi := Lib.hid hP
      clear hP
      go_wp2_with fail
      refine (HS3.out _ HPi.out).mono ?_
      rintro e w1 ⟨er, rfl, ⟨rfl, hP⟩ | ⟨hne, hE⟩⟩
      · clear c
        have HP := Lib.hid hP
        clear hP
        go_wp2
        go_step3
        exact ⟨rfl, ⟨4, _, _, _, _, _, _, _, _, _, _, _, _, _, _, _, _, _, rfl, .inr (.inr (.inr ⟨rfl, HP.out⟩))⟩, by simp [intOf]⟩

      · clear c
        have hr := HR.out w1 (.inr ⟨er, hE⟩)
        have hne1 : (er != 0) = true := by simpa using hne
        have HE := Lib.hid hE
        have HNE := Lib.hid hne
        have z0 := cell_of_row w1 _ 0 _ _ _ hr
        have z1 := cell_of_row w1 _ 1 _ _ _ hr
        have z2 := cell_of_row w1 _ 2 _ _ _ hr
        have z3 := cell_of_row w1 _ 3 _ _ _ hr
        have z4 := cell_of_row w1 _ 4 _ _ _ hr
        have z5 := cell_of_row w1 _ 5 _ _ _ hr
        have z6 := cell_of_row w1 _ 6 _ _ _ hr
        simp at z0 z1 z2 z3 z4 z5 z6
        have fz0 := frz_of_row 0 hr
        have fz1 := frz_of_row 1 hr
        have fz2 := frz_of_row 2 hr
        have fz3 := frz_of_row 3 hr
        have fz4 := frz_of_row 4 hr
        have fz5 := frz_of_row 5 hr
        have fz6 := frz_of_row 6 hr
        clear hr hE hne
        go_wp2_with fail
        try simp only [Exit.jump]
        exact bodyPost_ret (v := .tuple #[.agg #[.pointer none, .int .i64 0, .int .i64 0, .int .i64 0, .int .u64 0, .int .i64 0, .int .i64 0], .int .i64 er]) (by simp [results, Try.results38, go_sem, z0, z1, z2, z3, z4, z5, z6]) rfl (.inr ⟨_, er, HE.out, HNE.out, rfl, rfl⟩)

    · obtain ⟨x0, x1, x2, x3, x4, x5, x6, hb⟩ := HB.out _ hP
      have hr := HR.out _ (.inl hP)
      have HP := Lib.hid hP
      have HBB := Lib.hid hb
      have b0 := cell_of_row W _ 0 _ _ _ hb
      have b1 := cell_of_row W _ 1 _ _ _ hb
      have b2 := cell_of_row W _ 2 _ _ _ hb
      have b3 := cell_of_row W _ 3 _ _ _ hb
      have b4 := cell_of_row W _ 4 _ _ _ hb
      have b5 := cell_of_row W _ 5 _ _ _ hb
      have b6 := cell_of_row W _ 6 _ _ _ hb
      simp at b0 b1 b2 b3 b4 b5 b6
      have z0 := cell_of_row W _ 0 _ _ _ hr
      have z1 := cell_of_row W _ 1 _ _ _ hr
      have z2 := cell_of_row W _ 2 _ _ _ hr
      have z3 := cell_of_row W _ 3 _ _ _ hr
      have z4 := cell_of_row W _ 4 _ _ _ hr
      have z5 := cell_of_row W _ 5 _ _ _ hr
      have z6 := cell_of_row W _ 6 _ _ _ hr
      simp at z0 z1 z2 z3 z4 z5 z6
      have fz0 := frz_of_row 0 hr
      have fz1 := frz_of_row 1 hr
      have fz2 := frz_of_row 2 hr
      have fz3 := frz_of_row 3 hr
      have fz4 := frz_of_row 4 hr
      have fz5 := frz_of_row 5 hr
      have fz6 := frz_of_row 6 hr
      clear hr hb hP
      go_wp2_with fail
      try simp only [Exit.jump]
      exact bodyPost_ret (v := .tuple #[.agg #[.pointer x0, .int .i64 x1, .int .i64 x2, .int .i64 x3, .int .u64 x4, .int .i64 x5, .int .i64 x6], .int .i64 0]) (by simp [results, Try.results38, go_sem, z0, z1, z2, z3, z4, z5, z6, b0, b1, b2, b3, b4, b5, b6]) rfl (.inl ⟨_, x0, x1, x2, x3, x4, x5, x6, HP.out, HBB.out, rfl, rfl⟩)
end Go.Proofs.Ytlejejeflgnglaa
