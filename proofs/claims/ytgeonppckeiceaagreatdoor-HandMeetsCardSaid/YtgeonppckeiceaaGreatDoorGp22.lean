/- The program's Seal and Open, whole. -/
import Derived.Test.YtgeonppckeiceaaGreatDoorGp21
namespace Go.Proofs.YtgeonppckeiceaaGreatDoor
open Go.RowKit
set_option linter.unusedVariables false
set_option linter.unusedSimpArgs false
set_option maxRecDepth 20000
section
variable {base g : Nat} {most : Int} {Q2 : (Nat → Prop) → List Tm → World → Prop} {L L2 : List Tm} {K : Nat → Prop} {w0 w : World}

set_option maxHeartbeats 2000000 in
theorem Pair.ysealP {L' : List Tm} {y y' : Sy} {x c e : Int} (g2 : Good base Q2) (h : Pair base (PSq base g most) Q2 L L2 K w0 w) (hy : y.Wf) (hx : I64 x) (hf : sealF L most y x = (y', c, e, L')) :
    Calls Tryz.prog 172 #[y.v, .pointer (some ⟨g, 0, none⟩), .int .i64 x] w (Three y'.v (.int .i64 c) (.int .i64 e) (Pair base (PSq base g most) Q2 L' L2 K w0) K w) := by
  have gS := PSq.good base g most
  have HBL := Lib.hid h.base_le
  have HKl := Lib.hid h.klt
  have HF := Lib.hid (fun (K : Nat → Prop) (A : Nat) (w : World) (h : Pair base (PSq base g most) Q2 L L2 K w0 w) (hA : K A) (hr : w.heap[A]? = some (.cells #[.func (.func 206) #[] #[], .func (.func 207) #[] #[], .func (.func 208) #[] #[], .func (.func 209) #[] #[]] 279 (0, 0))) => h.turnSeal g2 hA hr hy hx hf)
  obtain ⟨yc, yk, yh, yn⟩ := y
  obtain ⟨zc, zk, zh, zn⟩ := y'
  obtain ⟨hb, hr0, hr1, hk⟩ := h.box2 gS g2 #[.int .i64 yc, .int .i64 yk, .int .i64 yh, .int .u64 yn] #[.int .i64 0, .int .i64 0, .int .i64 0, .int .u64 0] 45 45
  obtain ⟨hb2, hr2, hk2⟩ := hb.box1 gS g2 #[.func (.func 206) #[] #[], .func (.func 207) #[] #[], .func (.func 208) #[] #[], .func (.func 209) #[] #[]] 279
  simp at hr2
  have HR1 := Lib.hid ((hk2 _ (.inr (.inr rfl))).trans hr1)
  have HK := Lib.hid (show ∀ k, K k → _ from fun k q => (hk2 k (.inl q)).trans (hk k q))
  have HT := Lib.hid (HF.out _ (w.heap.size + 1 + 1) _ hb2 (.inr (by simp)) (by have := hr2; simpa using hr2))
  clear h hy hx hf hb hr0 hr1 hk hb2 hr2 hk2 HF
  unfold Sy.v
  go_enter Tryz.func172, Tryz.ntmps172
  go_wp2_with fail
  refine (HT.out).mono ?_
  rintro e' w1 ⟨v0, v5, rfl, hp, hk⟩
  have hr := (hk _ (.inl (.inr (.inr rfl)))).trans HR1.out
  have z0 := cell_of_row w1 _ 0 _ _ _ hr
  have z1 := cell_of_row w1 _ 1 _ _ _ hr
  have z2 := cell_of_row w1 _ 2 _ _ _ hr
  have z3 := cell_of_row w1 _ 3 _ _ _ hr
  simp at z0 z1 z2 z3
  have fz0 := frz_of_row 0 hr
  have fz1 := frz_of_row 1 hr
  have fz2 := frz_of_row 2 hr
  have fz3 := frz_of_row 3 hr
  have hlt := lt_of_block hr
  have HP := Lib.hid hp
  have HK1 := Lib.hid hk
  have HRr := Lib.hid hr
  clear hp hk HT hr
  go_wp2
  go_region
  go_wp2
  generalize hW : World.drew (World.alloc _ _) = W
  have hbW : Below (Go.Proofs.YtgeonppckeiceaaGreatDoor.set4 w1 (w.heap.size + 1) 0 (.int .i64 zc) (.int .i64 zk) (.int .i64 zh) (.int .u64 zn)).heap.size (Go.Proofs.YtgeonppckeiceaaGreatDoor.set4 w1 (w.heap.size + 1) 0 (.int .i64 zc) (.int .i64 zk) (.int .i64 zh) (.int .u64 zn)) W := by
    rw [← hW]
    exact ((Below.refl _ _).alloc (Nat.le_refl _) _).drew
  have hsz : (Go.Proofs.YtgeonppckeiceaaGreatDoor.set4 w1 (w.heap.size + 1) 0 (.int .i64 zc) (.int .i64 zk) (.int .i64 zh) (.int .u64 zn)).heap.size = w1.heap.size := by simp [Go.Proofs.YtgeonppckeiceaaGreatDoor.set4]
  have hrow := (hbW.block (w.heap.size + 1) (by rw [hsz]; exact hlt)).trans (row_set4 (.int .i64 zc) (.int .i64 zk) (.int .i64 zh) (.int .u64 zn) HRr.out)
  have q0 := cell_of_row W _ 0 _ _ _ hrow
  have q1 := cell_of_row W _ 1 _ _ _ hrow
  have q2 := cell_of_row W _ 2 _ _ _ hrow
  have q3 := cell_of_row W _ 3 _ _ _ hrow
  simp at q0 q1 q2 q3
  clear hW
  exact bodyPost_ret (v := .tuple #[.agg #[.int .i64 zc, .int .i64 zk, .int .i64 zh, .int .u64 zn], .int .i64 c, .int .i64 e]) (by simp [results, Tryz.results172, go_sem, q0, q1, q2, q3]) rfl
    ⟨rfl, ((HP.out.set4 gS g2 (.inl (.inr (.inr rfl))) (by have := HBL.out; omega) 0 _ _ _ _).below gS g2 hbW).less (fun k q => .inl (.inl q)),
      fun k q => (hbW.block k (by have := HKl.out k q; omega)).trans ((set4_other w1 _ 0 k _ _ _ _ (by have := HKl.out k q; omega)).trans ((HK1.out k (.inl (.inl q))).trans (HK.out k q)))⟩

set_option maxHeartbeats 2000000 in
theorem Pair.yopenP {L' : List Tm} {y y' : Sy} {x c e : Int} (g2 : Good base Q2) (h : Pair base (PSq base g most) Q2 L L2 K w0 w) (hy : y.Wf) (hx : I64 x) (hf : unsealF L most y x = (y', c, e, L')) :
    Calls Tryz.prog 182 #[y.v, .pointer (some ⟨g, 0, none⟩), .int .i64 x] w (Three y'.v (.int .i64 c) (.int .i64 e) (Pair base (PSq base g most) Q2 L' L2 K w0) K w) := by
  have gS := PSq.good base g most
  have HBL := Lib.hid h.base_le
  have HKl := Lib.hid h.klt
  have HF := Lib.hid (fun (K : Nat → Prop) (A : Nat) (w : World) (h : Pair base (PSq base g most) Q2 L L2 K w0 w) (hA : K A) (hr : w.heap[A]? = some (.cells #[.func (.func 206) #[] #[], .func (.func 212) #[] #[], .func (.func 208) #[] #[], .func (.func 209) #[] #[]] 279 (0, 0))) => h.turnOpen g2 hA hr hy hx hf)
  obtain ⟨yc, yk, yh, yn⟩ := y
  obtain ⟨zc, zk, zh, zn⟩ := y'
  obtain ⟨hb, hr0, hr1, hk⟩ := h.box2 gS g2 #[.int .i64 yc, .int .i64 yk, .int .i64 yh, .int .u64 yn] #[.int .i64 0, .int .i64 0, .int .i64 0, .int .u64 0] 45 45
  obtain ⟨hb2, hr2, hk2⟩ := hb.box1 gS g2 #[.func (.func 206) #[] #[], .func (.func 212) #[] #[], .func (.func 208) #[] #[], .func (.func 209) #[] #[]] 279
  simp at hr2
  have HR1 := Lib.hid ((hk2 _ (.inr (.inr rfl))).trans hr1)
  have HK := Lib.hid (show ∀ k, K k → _ from fun k q => (hk2 k (.inl q)).trans (hk k q))
  have HT := Lib.hid (HF.out _ (w.heap.size + 1 + 1) _ hb2 (.inr (by simp)) (by have := hr2; simpa using hr2))
  clear h hy hx hf hb hr0 hr1 hk hb2 hr2 hk2 HF
  unfold Sy.v
  go_enter Tryz.func182, Tryz.ntmps182
  go_wp2_with fail
  refine (HT.out).mono ?_
  rintro e' w1 ⟨v0, v5, rfl, hp, hk⟩
  have hr := (hk _ (.inl (.inr (.inr rfl)))).trans HR1.out
  have z0 := cell_of_row w1 _ 0 _ _ _ hr
  have z1 := cell_of_row w1 _ 1 _ _ _ hr
  have z2 := cell_of_row w1 _ 2 _ _ _ hr
  have z3 := cell_of_row w1 _ 3 _ _ _ hr
  simp at z0 z1 z2 z3
  have fz0 := frz_of_row 0 hr
  have fz1 := frz_of_row 1 hr
  have fz2 := frz_of_row 2 hr
  have fz3 := frz_of_row 3 hr
  have hlt := lt_of_block hr
  have HP := Lib.hid hp
  have HK1 := Lib.hid hk
  have HRr := Lib.hid hr
  clear hp hk HT hr
  go_wp2
  go_region
  go_wp2
  generalize hW : World.drew (World.alloc _ _) = W
  have hbW : Below (Go.Proofs.YtgeonppckeiceaaGreatDoor.set4 w1 (w.heap.size + 1) 0 (.int .i64 zc) (.int .i64 zk) (.int .i64 zh) (.int .u64 zn)).heap.size (Go.Proofs.YtgeonppckeiceaaGreatDoor.set4 w1 (w.heap.size + 1) 0 (.int .i64 zc) (.int .i64 zk) (.int .i64 zh) (.int .u64 zn)) W := by
    rw [← hW]
    exact ((Below.refl _ _).alloc (Nat.le_refl _) _).drew
  have hsz : (Go.Proofs.YtgeonppckeiceaaGreatDoor.set4 w1 (w.heap.size + 1) 0 (.int .i64 zc) (.int .i64 zk) (.int .i64 zh) (.int .u64 zn)).heap.size = w1.heap.size := by simp [Go.Proofs.YtgeonppckeiceaaGreatDoor.set4]
  have hrow := (hbW.block (w.heap.size + 1) (by rw [hsz]; exact hlt)).trans (row_set4 (.int .i64 zc) (.int .i64 zk) (.int .i64 zh) (.int .u64 zn) HRr.out)
  have q0 := cell_of_row W _ 0 _ _ _ hrow
  have q1 := cell_of_row W _ 1 _ _ _ hrow
  have q2 := cell_of_row W _ 2 _ _ _ hrow
  have q3 := cell_of_row W _ 3 _ _ _ hrow
  simp at q0 q1 q2 q3
  clear hW
  exact bodyPost_ret (v := .tuple #[.agg #[.int .i64 zc, .int .i64 zk, .int .i64 zh, .int .u64 zn], .int .i64 c, .int .i64 e]) (by simp [results, Tryz.results182, go_sem, q0, q1, q2, q3]) rfl
    ⟨rfl, ((HP.out.set4 gS g2 (.inl (.inr (.inr rfl))) (by have := HBL.out; omega) 0 _ _ _ _).below gS g2 hbW).less (fun k q => .inl (.inl q)),
      fun k q => (hbW.block k (by have := HKl.out k q; omega)).trans ((set4_other w1 _ 0 k _ _ _ _ (by have := HKl.out k q; omega)).trans ((HK1.out k (.inl (.inl q))).trans (HK.out k q)))⟩
end
end Go.Proofs.YtgeonppckeiceaaGreatDoor
