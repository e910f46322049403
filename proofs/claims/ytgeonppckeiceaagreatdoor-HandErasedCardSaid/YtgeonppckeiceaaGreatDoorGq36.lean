/- A look at a term, kinds 1, 2, 3, 5. -/
import Derived.Test.YtgeonppckeiceaaGreatDoorGq32
import Derived.Deep.RegionHeld3
namespace Go.Proofs.YtgeonppckeiceaaGreatDoor
open Go.RowKit
open Go.Maps
set_option linter.unusedVariables false
set_option linter.unusedSimpArgs false
set_option maxRecDepth 20000
section
variable {w0 : World} {g : Nat} {L : List Tm} {dh kem : Bool} {B : MB} {H : Nat → List Int} {vs : Nat → Value} {v : Value} {M : List Int}
set_option maxHeartbeats 8000000 in
set_option maxRecDepth 100000 in
theorem lookK1 (hg : StoreAt w0 g L) (x : Nat) (hx : InL L (x : Int)) (S : ByteArray) (N A Bx C : Int) (ht : tm L (x : Int) = ⟨1, S, N, A, Bx, C⟩) (hparts : ∀ y, y ∈ partsT ⟨1, S, N, A, Bx, C⟩ → InL L y) (hopen : ∀ D y, y ∈ openL D ⟨1, S, N, A, Bx, C⟩ → InL L y) (W : World) (h : MindF w0 g L dh kem B H vs v M W) :
  Calls Tryz.prog 158 #[.pointer (some ⟨B.m, 0, none⟩), .int .i64 (x : Int)] W (Had w0 g L dh kem B (noteOf L L.length) H vs v (lookF L dh kem M (x : Int)) W) := by
 have HRULE : Hid (∀ q w', HeldL W q B 4 (.func (.func 188) #[] #[]) 1 S N A Bx C w' → Calls Tryz.prog 188 #[.pointer (some ⟨B.m, 0, none⟩), Tm.v ⟨1, S, N, A, Bx, C⟩] w' fun e W' => e = .returned (.bool (ruleB L (has M) dh kem ⟨1, S, N, A, Bx, C⟩)) ∧ Below w'.heap.size w' W') := Lib.hid (fun q w' hs => by
  have hb := hs.2.2.2.2.2.2.2
  have e : ruleB L (has M) dh kem ⟨1, S, N, A, Bx, C⟩ = (partsT ⟨1, S, N, A, Bx, C⟩).all (has M) := by simp [ruleB, partsT, many, Bool.and_assoc]
  rw [e]
  exact whole_k ⟨1, S, N, A, Bx, C⟩ hparts w' (h.next hb.out))
 have HGET : Hid (∀ w', Hid (Below W.heap.size W w') → Calls Tryz.prog 102 #[.pointer (some ⟨g, 0, none⟩), .int .i64 (x : Int)] w' fun e W' => e = .returned (.tuple #[Tm.v ⟨1, S, N, A, Bx, C⟩, .bool true]) ∧ Below w'.heap.size w' W') := Lib.hid (fun w' hb => by
  have := hg.get (h.below.trans (hb.out.mono h.below.size)) (x : Int)
  rw [getT_tm hx, ht] at this
  exact this)
 unfold Tm.v at HGET
 have HX := Lib.hid hx
 have HT := Lib.hid ht
 have HM := Lib.hid h
 have HOP := Lib.hid hopen
 have HPA := Lib.hid hparts
 have hmost := h.most
 have hxl : (x : Int) < (L.length : Int) + 1 := by have := hx.2; omega
 obtain ⟨r, hr⟩ : ∃ r, r = ruleB L (has M) dh kem ⟨1, S, N, A, Bx, C⟩ := ⟨_, rfl⟩
 rw [← hr] at HRULE
 have HR := Lib.hid hr
 obtain ⟨d0, _⟩ := h.cells
 have hB0 : Hid (Below W.heap.size W W) := Lib.hid (Below.refl _ _)
 clear hr h hx ht hopen hparts hg
 go_enter Tryz.func158, Tryz.ntmps158
 go_wp2_with fail
 refine (HGET.out W hB0).mono ?_
 rintro e w1 ⟨rfl, hb1⟩
 have hsz := hb1.size
 obtain ⟨W1, hW1⟩ : ∃ W1, W1 = w1.alloc (.cells #[.int .i64 1, .string S, .int .u64 N, .int .i64 A, .int .i64 Bx, .int .i64 C] 116) := ⟨_, rfl⟩
 have HB1 : Hid (Below W.heap.size W W1) := Lib.hid (by rw [hW1]; exact hb1.alloc hb1.size _)
 have z : ∀ j, W1.cell? ⟨w1.heap.size, j, none⟩ = #[Value.int .i64 1, .string S, .int .u64 N, .int .i64 A, .int .i64 Bx, .int .i64 C][j]? := fun j => by rw [hW1]; exact cell_of_row _ _ j _ _ _ (heap_alloc_new w1 _)
 have z0 := z 0
 have z1 := z 1
 have z2 := z 2
 have z3 := z 3
 have z4 := z 4
 have z5 := z 5
 simp at z0 z1 z2 z3 z4 z5
 have cf : W1.cell? ⟨B.m, 4, none⟩ = some (.func (.func 188) #[] #[]) := by
  rw [cell_of_row W1 B.m _ _ _ _ (HM.out.next HB1.out).st]; rfl
 have hS1 : HeldL W w1.heap.size B 4 (.func (.func 188) #[] #[]) 1 S N A Bx C W1 := ⟨z0, z1, z2, z3, z4, z5, cf, HB1⟩
 have hS2 : HeldL W w1.heap.size B 4 (.func (.func 188) #[] #[]) 1 S N A Bx C W1.drew := HeldL.below (drewN_below W1 1) hS1
 clear z z0 z1 z2 z3 z4 z5 cf HB1 hS1 hb1 hB0 HGET
 go_wp2
 rw [← hW1]
 clear hW1 d0
 obtain ⟨q, hq⟩ : ∃ q, q = w1.heap.size := ⟨_, rfl⟩
 rw [← hq] at hS2 hsz ⊢
 clear hq
 go_region_held3 (fun w' => w'.cell? ⟨q, 0, none⟩ = some (.int .i64 1) ∧ w'.cell? ⟨q, 1, none⟩ = some (.string S) ∧ w'.cell? ⟨q, 2, none⟩ = some (.int .u64 N) ∧ w'.cell? ⟨q, 3, none⟩ = some (.int .i64 A) ∧ w'.cell? ⟨q, 4, none⟩ = some (.int .i64 Bx) ∧ w'.cell? ⟨q, 5, none⟩ = some (.int .i64 C) ∧ w'.cell? ⟨B.m, 4, none⟩ = some (.func (.func 188) #[] #[]) ∧ Hid (Below W.heap.size W w')) (first | assumption | go_keep) (first | (go_at_call 188; refine (HRULE.out _ _ (by assumption)).mono ?_; rintro e W3 ⟨rfl, hb3⟩; have hS3 : HeldL W q B 4 (.func (.func 188) #[] #[]) 1 S N A Bx C W3 := HeldL.below hb3 (by assumption)))
 obtain ⟨z0, z1, z2, z3, z4, z5, _, HB3⟩ := hS3
 clear hS2 HRULE
 have HM3 : Hid (MindF w0 g L dh kem B H vs v M W3) := Lib.hid (HM.out.next HB3.out)
 have HQ : Hid (∀ W', Chg (SM B v) W3 W' → ∀ i, W'.cell? ⟨q, i, none⟩ = W3.cell? ⟨q, i, none⟩) := Lib.hid (fun W' hc i => World.cell?_of_block (a := ⟨q, i, none⟩) (hc.block q (block_lt_of_cell z0) (fun e => by have := HM.out.sm q e; omega)))
 cases r
 ·obtain ⟨v1, hv1⟩ : ∃ v1, v1 = v := ⟨_, rfl⟩
  obtain ⟨M1, hM1⟩ : ∃ M1, M1 = M := ⟨_, rfl⟩
  obtain ⟨W5, hW5⟩ : ∃ W5, W5 = W3 := ⟨_, rfl⟩
  have HM5 : Hid (MindF w0 g L dh kem B H vs v1 M1 W5) := Lib.hid (by rw [hv1, hM1, hW5]; exact HM3.out)
  have HC5 : Hid (Chg (SM B v) W W5) := Lib.hid (by rw [hW5]; exact Chg.of_below HB3.out)
  have HN5 : Hid (NewRow v v1 W.heap.size) := Lib.hid (by rw [hv1]; exact NewRow.refl _ _)
  have HL1 : Hid (look1 L dh kem M (x : Int) = M1) := Lib.hid (by rw [hM1]; exact look_false (by rw [HT.out]; exact HR.out.symm))
  rw [← hW5] at z0 z1 z2 z3 z4 z5 ⊢
  have y0 := z0
  have y1 := z1
  have y2 := z2
  have y3 := z3
  have y4 := z4
  have y5 := z5
  clear HM3 HQ HB3 hW5 hM1 hv1 HR HM z0 z1 z2 z3 z4 z5
  have cc := HM5.out.canAt (i := x) (by have := HX.out.2; omega)
  obtain ⟨_, c15, _⟩ := HM5.out.cells
  cases hc : has M1 (x : Int)
  ·rw [hc] at cc
   have HC := Lib.hid hc
   clear hc
   go_wp2_with fail
   go_end0
   exact ⟨_, rfl, by rw [lookF_false HL1.out HC.out]; exact HM5.out, HC5.out, HN5.out⟩
  ·rw [hc] at cc
   have HC := Lib.hid hc
   clear hc
   go_wp2_with fail
   refine (opened_k ⟨1, S, N, A, Bx, C⟩ (by first | exact (fun h => absurd (show (1 : Int) = 10 from h) (by decide)) | exact fun _ => HPA.out A (by simp [partsT, many])) W5 HM5.out).mono ?_
   rintro e W6 ⟨u, rfl, ho, hb6⟩
   obtain ⟨au, cu, rfl, hau⟩ := OwnI.at ho
   have HM6 : Hid (MindF w0 g L dh kem B H vs v1 M1 W6) := Lib.hid (HM5.out.next hb6)
   have HB6 := Lib.hid hb6
   have HO6 := Lib.hid ho
   clear ho hb6 hau cc c15 y0 y1 y2 y3 y4 y5
   go_wp2_with fail
   refine (have_any HM6.out au cu _ (ints_kept HO6.out HM5.out.sm) (HOP.out _)).mono ?_
   rintro e W7 ⟨v2, rfl, hm7, hc7, hn7⟩
   have HM7 : Hid (MindF w0 g L dh kem B H vs v2 (lookF L dh kem M (x : Int)) W7) := Lib.hid (by rw [lookF_true HL1.out HC.out, HT.out]; exact hm7)
   have HC7 : Hid (Chg (SM B v) W W7) := Lib.hid ((HC5.out.trans (Chg.of_below HB6.out)).after hc7 (fun j hj q => SM.of q HN5.out hj))
   have HN7 : Hid (NewRow v v2 W.heap.size) := Lib.hid (HN5.out.trans hn7 (Nat.le_trans HC5.out.size HB6.out.size))
   clear hm7 hc7 hn7 HM6 HB6 HO6
   go_wp2_with fail
   go_end0
   exact ⟨v2, rfl, HM7.out, HC7.out, HN7.out⟩
 ·go_wp2_with fail
  have hl4 : (W3.alloc (.cells #[.int .i64 (x : Int)] 3)).heap[W3.heap.size]? = some (.cells #[.int .i64 (x : Int)] 3 (0, 0)) := heap_alloc_new W3 _
  have ho4 : OwnI W3.heap.size (.slice (some ⟨W3.heap.size, 0, none⟩) [(x : Int)].length 1) [(x : Int)] (W3.alloc (.cells #[.int .i64 (x : Int)] 3)) := OwnI.lit (xs := [(x : Int)]) (Nat.le_refl _) hl4 (by simp [maxLen])
  have hm4 := HM3.out.next ((Below.refl W3.heap.size W3).alloc (Nat.le_refl _) (.cells #[.int .i64 (x : Int)] 3))
  refine (have_any hm4 (some ⟨W3.heap.size, 0, none⟩) 1 [(x : Int)] (ints_kept ho4 HM3.out.sm) (by intro y hy; rw [List.mem_singleton.1 hy]; exact HX.out)).mono ?_
  rintro e W5 ⟨v1, rfl, hm5, hc5, hn5⟩
  obtain ⟨M1, hM1⟩ : ∃ M1, M1 = addAll M [(x : Int)] := ⟨_, rfl⟩
  rw [← hM1] at hm5
  have HM5 : Hid (MindF w0 g L dh kem B H vs v1 M1 W5) := Lib.hid hm5
  have hc35 : Chg (SM B v) W3 W5 := (Chg.alloc W3 _ _).trans hc5
  have HC5 : Hid (Chg (SM B v) W W5) := Lib.hid ((Chg.of_below HB3.out).trans hc35)
  have HN5 : Hid (NewRow v v1 W.heap.size) := Lib.hid (by
   rcases hn5 with e | ⟨j, e, hj⟩
   ·exact .inl e
   ·exact .inr ⟨j, e, Nat.le_trans (Nat.le_trans HB3.out.size (by simp)) hj⟩)
  have HL1 : Hid (look1 L dh kem M (x : Int) = M1) := Lib.hid (by rw [hM1]; exact look_true (by rw [HT.out]; exact HR.out.symm))
  have y0 := (HQ.out W5 hc35 0).trans z0
  have y1 := (HQ.out W5 hc35 1).trans z1
  have y2 := (HQ.out W5 hc35 2).trans z2
  have y3 := (HQ.out W5 hc35 3).trans z3
  have y4 := (HQ.out W5 hc35 4).trans z4
  have y5 := (HQ.out W5 hc35 5).trans z5
  clear HM3 HQ HB3 hM1 HR HM z0 z1 z2 z3 z4 z5 hl4 ho4 hm4 hm5 hc5 hn5 hc35
  have cc := HM5.out.canAt (i := x) (by have := HX.out.2; omega)
  obtain ⟨_, c15, _⟩ := HM5.out.cells
  cases hc : has M1 (x : Int)
  ·rw [hc] at cc
   have HC := Lib.hid hc
   clear hc
   go_wp2_with fail
   go_end0
   exact ⟨_, rfl, by rw [lookF_false HL1.out HC.out]; exact HM5.out, HC5.out, HN5.out⟩
  ·rw [hc] at cc
   have HC := Lib.hid hc
   clear hc
   go_wp2_with fail
   refine (opened_k ⟨1, S, N, A, Bx, C⟩ (by first | exact (fun h => absurd (show (1 : Int) = 10 from h) (by decide)) | exact fun _ => HPA.out A (by simp [partsT, many])) W5 HM5.out).mono ?_
   rintro e W6 ⟨u, rfl, ho, hb6⟩
   obtain ⟨au, cu, rfl, hau⟩ := OwnI.at ho
   have HM6 : Hid (MindF w0 g L dh kem B H vs v1 M1 W6) := Lib.hid (HM5.out.next hb6)
   have HB6 := Lib.hid hb6
   have HO6 := Lib.hid ho
   clear ho hb6 hau cc c15 y0 y1 y2 y3 y4 y5
   go_wp2_with fail
   refine (have_any HM6.out au cu _ (ints_kept HO6.out HM5.out.sm) (HOP.out _)).mono ?_
   rintro e W7 ⟨v2, rfl, hm7, hc7, hn7⟩
   have HM7 : Hid (MindF w0 g L dh kem B H vs v2 (lookF L dh kem M (x : Int)) W7) := Lib.hid (by rw [lookF_true HL1.out HC.out, HT.out]; exact hm7)
   have HC7 : Hid (Chg (SM B v) W W7) := Lib.hid ((HC5.out.trans (Chg.of_below HB6.out)).after hc7 (fun j hj q => SM.of q HN5.out hj))
   have HN7 : Hid (NewRow v v2 W.heap.size) := Lib.hid (HN5.out.trans hn7 (Nat.le_trans HC5.out.size HB6.out.size))
   clear hm7 hc7 hn7 HM6 HB6 HO6
   go_wp2_with fail
   go_end0
   exact ⟨v2, rfl, HM7.out, HC7.out, HN7.out⟩
end
section
variable {w0 : World} {g : Nat} {L : List Tm} {dh kem : Bool} {B : MB} {H : Nat → List Int} {vs : Nat → Value} {v : Value} {M : List Int}
set_option maxHeartbeats 8000000 in
set_option maxRecDepth 100000 in
theorem lookK2 (hg : StoreAt w0 g L) (x : Nat) (hx : InL L (x : Int)) (S : ByteArray) (N A Bx C : Int) (ht : tm L (x : Int) = ⟨2, S, N, A, Bx, C⟩) (hparts : ∀ y, y ∈ partsT ⟨2, S, N, A, Bx, C⟩ → InL L y) (hopen : ∀ D y, y ∈ openL D ⟨2, S, N, A, Bx, C⟩ → InL L y) (W : World) (h : MindF w0 g L dh kem B H vs v M W) :
  Calls Tryz.prog 158 #[.pointer (some ⟨B.m, 0, none⟩), .int .i64 (x : Int)] W (Had w0 g L dh kem B (noteOf L L.length) H vs v (lookF L dh kem M (x : Int)) W) := by
 have HRULE : Hid (∀ q w', HeldL W q B 5 (.func (.func 189) #[] #[]) 2 S N A Bx C w' → Calls Tryz.prog 189 #[.pointer (some ⟨B.m, 0, none⟩), Tm.v ⟨2, S, N, A, Bx, C⟩] w' fun e W' => e = .returned (.bool (ruleB L (has M) dh kem ⟨2, S, N, A, Bx, C⟩)) ∧ Below w'.heap.size w' W') := Lib.hid (fun q w' hs => by
  have hb := hs.2.2.2.2.2.2.2
  have e : ruleB L (has M) dh kem ⟨2, S, N, A, Bx, C⟩ = false := by simp [ruleB]
  rw [e]
  exact never_k ⟨2, S, N, A, Bx, C⟩ w')
 have HGET : Hid (∀ w', Hid (Below W.heap.size W w') → Calls Tryz.prog 102 #[.pointer (some ⟨g, 0, none⟩), .int .i64 (x : Int)] w' fun e W' => e = .returned (.tuple #[Tm.v ⟨2, S, N, A, Bx, C⟩, .bool true]) ∧ Below w'.heap.size w' W') := Lib.hid (fun w' hb => by
  have := hg.get (h.below.trans (hb.out.mono h.below.size)) (x : Int)
  rw [getT_tm hx, ht] at this
  exact this)
 unfold Tm.v at HGET
 have HX := Lib.hid hx
 have HT := Lib.hid ht
 have HM := Lib.hid h
 have HOP := Lib.hid hopen
 have HPA := Lib.hid hparts
 have hmost := h.most
 have hxl : (x : Int) < (L.length : Int) + 1 := by have := hx.2; omega
 obtain ⟨r, hr⟩ : ∃ r, r = ruleB L (has M) dh kem ⟨2, S, N, A, Bx, C⟩ := ⟨_, rfl⟩
 rw [← hr] at HRULE
 have HR := Lib.hid hr
 obtain ⟨d0, _⟩ := h.cells
 have hB0 : Hid (Below W.heap.size W W) := Lib.hid (Below.refl _ _)
 clear hr h hx ht hopen hparts hg
 go_enter Tryz.func158, Tryz.ntmps158
 go_wp2_with fail
 refine (HGET.out W hB0).mono ?_
 rintro e w1 ⟨rfl, hb1⟩
 have hsz := hb1.size
 obtain ⟨W1, hW1⟩ : ∃ W1, W1 = w1.alloc (.cells #[.int .i64 2, .string S, .int .u64 N, .int .i64 A, .int .i64 Bx, .int .i64 C] 116) := ⟨_, rfl⟩
 have HB1 : Hid (Below W.heap.size W W1) := Lib.hid (by rw [hW1]; exact hb1.alloc hb1.size _)
 have z : ∀ j, W1.cell? ⟨w1.heap.size, j, none⟩ = #[Value.int .i64 2, .string S, .int .u64 N, .int .i64 A, .int .i64 Bx, .int .i64 C][j]? := fun j => by rw [hW1]; exact cell_of_row _ _ j _ _ _ (heap_alloc_new w1 _)
 have z0 := z 0
 have z1 := z 1
 have z2 := z 2
 have z3 := z 3
 have z4 := z 4
 have z5 := z 5
 simp at z0 z1 z2 z3 z4 z5
 have cf : W1.cell? ⟨B.m, 5, none⟩ = some (.func (.func 189) #[] #[]) := by
  rw [cell_of_row W1 B.m _ _ _ _ (HM.out.next HB1.out).st]; rfl
 have hS1 : HeldL W w1.heap.size B 5 (.func (.func 189) #[] #[]) 2 S N A Bx C W1 := ⟨z0, z1, z2, z3, z4, z5, cf, HB1⟩
 have hS2 : HeldL W w1.heap.size B 5 (.func (.func 189) #[] #[]) 2 S N A Bx C W1.drew := HeldL.below (drewN_below W1 1) hS1
 clear z z0 z1 z2 z3 z4 z5 cf HB1 hS1 hb1 hB0 HGET
 go_wp2
 rw [← hW1]
 clear hW1 d0
 obtain ⟨q, hq⟩ : ∃ q, q = w1.heap.size := ⟨_, rfl⟩
 rw [← hq] at hS2 hsz ⊢
 clear hq
 go_region_held3 (fun w' => w'.cell? ⟨q, 0, none⟩ = some (.int .i64 2) ∧ w'.cell? ⟨q, 1, none⟩ = some (.string S) ∧ w'.cell? ⟨q, 2, none⟩ = some (.int .u64 N) ∧ w'.cell? ⟨q, 3, none⟩ = some (.int .i64 A) ∧ w'.cell? ⟨q, 4, none⟩ = some (.int .i64 Bx) ∧ w'.cell? ⟨q, 5, none⟩ = some (.int .i64 C) ∧ w'.cell? ⟨B.m, 5, none⟩ = some (.func (.func 189) #[] #[]) ∧ Hid (Below W.heap.size W w')) (first | assumption | go_keep) (first | (go_at_call 189; refine (HRULE.out _ _ (by assumption)).mono ?_; rintro e W3 ⟨rfl, hb3⟩; have hS3 : HeldL W q B 5 (.func (.func 189) #[] #[]) 2 S N A Bx C W3 := HeldL.below hb3 (by assumption)))
 obtain ⟨z0, z1, z2, z3, z4, z5, _, HB3⟩ := hS3
 clear hS2 HRULE
 have HM3 : Hid (MindF w0 g L dh kem B H vs v M W3) := Lib.hid (HM.out.next HB3.out)
 have HQ : Hid (∀ W', Chg (SM B v) W3 W' → ∀ i, W'.cell? ⟨q, i, none⟩ = W3.cell? ⟨q, i, none⟩) := Lib.hid (fun W' hc i => World.cell?_of_block (a := ⟨q, i, none⟩) (hc.block q (block_lt_of_cell z0) (fun e => by have := HM.out.sm q e; omega)))
 cases r
 ·obtain ⟨v1, hv1⟩ : ∃ v1, v1 = v := ⟨_, rfl⟩
  obtain ⟨M1, hM1⟩ : ∃ M1, M1 = M := ⟨_, rfl⟩
  obtain ⟨W5, hW5⟩ : ∃ W5, W5 = W3 := ⟨_, rfl⟩
  have HM5 : Hid (MindF w0 g L dh kem B H vs v1 M1 W5) := Lib.hid (by rw [hv1, hM1, hW5]; exact HM3.out)
  have HC5 : Hid (Chg (SM B v) W W5) := Lib.hid (by rw [hW5]; exact Chg.of_below HB3.out)
  have HN5 : Hid (NewRow v v1 W.heap.size) := Lib.hid (by rw [hv1]; exact NewRow.refl _ _)
  have HL1 : Hid (look1 L dh kem M (x : Int) = M1) := Lib.hid (by rw [hM1]; exact look_false (by rw [HT.out]; exact HR.out.symm))
  rw [← hW5] at z0 z1 z2 z3 z4 z5 ⊢
  have y0 := z0
  have y1 := z1
  have y2 := z2
  have y3 := z3
  have y4 := z4
  have y5 := z5
  clear HM3 HQ HB3 hW5 hM1 hv1 HR HM z0 z1 z2 z3 z4 z5
  have cc := HM5.out.canAt (i := x) (by have := HX.out.2; omega)
  obtain ⟨_, c15, _⟩ := HM5.out.cells
  cases hc : has M1 (x : Int)
  ·rw [hc] at cc
   have HC := Lib.hid hc
   clear hc
   go_wp2_with fail
   go_end0
   exact ⟨_, rfl, by rw [lookF_false HL1.out HC.out]; exact HM5.out, HC5.out, HN5.out⟩
  ·rw [hc] at cc
   have HC := Lib.hid hc
   clear hc
   go_wp2_with fail
   refine (opened_k ⟨2, S, N, A, Bx, C⟩ (by first | exact (fun h => absurd (show (2 : Int) = 10 from h) (by decide)) | exact fun _ => HPA.out A (by simp [partsT, many])) W5 HM5.out).mono ?_
   rintro e W6 ⟨u, rfl, ho, hb6⟩
   obtain ⟨au, cu, rfl, hau⟩ := OwnI.at ho
   have HM6 : Hid (MindF w0 g L dh kem B H vs v1 M1 W6) := Lib.hid (HM5.out.next hb6)
   have HB6 := Lib.hid hb6
   have HO6 := Lib.hid ho
   clear ho hb6 hau cc c15 y0 y1 y2 y3 y4 y5
   go_wp2_with fail
   refine (have_any HM6.out au cu _ (ints_kept HO6.out HM5.out.sm) (HOP.out _)).mono ?_
   rintro e W7 ⟨v2, rfl, hm7, hc7, hn7⟩
   have HM7 : Hid (MindF w0 g L dh kem B H vs v2 (lookF L dh kem M (x : Int)) W7) := Lib.hid (by rw [lookF_true HL1.out HC.out, HT.out]; exact hm7)
   have HC7 : Hid (Chg (SM B v) W W7) := Lib.hid ((HC5.out.trans (Chg.of_below HB6.out)).after hc7 (fun j hj q => SM.of q HN5.out hj))
   have HN7 : Hid (NewRow v v2 W.heap.size) := Lib.hid (HN5.out.trans hn7 (Nat.le_trans HC5.out.size HB6.out.size))
   clear hm7 hc7 hn7 HM6 HB6 HO6
   go_wp2_with fail
   go_end0
   exact ⟨v2, rfl, HM7.out, HC7.out, HN7.out⟩
 ·go_wp2_with fail
  have hl4 : (W3.alloc (.cells #[.int .i64 (x : Int)] 3)).heap[W3.heap.size]? = some (.cells #[.int .i64 (x : Int)] 3 (0, 0)) := heap_alloc_new W3 _
  have ho4 : OwnI W3.heap.size (.slice (some ⟨W3.heap.size, 0, none⟩) [(x : Int)].length 1) [(x : Int)] (W3.alloc (.cells #[.int .i64 (x : Int)] 3)) := OwnI.lit (xs := [(x : Int)]) (Nat.le_refl _) hl4 (by simp [maxLen])
  have hm4 := HM3.out.next ((Below.refl W3.heap.size W3).alloc (Nat.le_refl _) (.cells #[.int .i64 (x : Int)] 3))
  refine (have_any hm4 (some ⟨W3.heap.size, 0, none⟩) 1 [(x : Int)] (ints_kept ho4 HM3.out.sm) (by intro y hy; rw [List.mem_singleton.1 hy]; exact HX.out)).mono ?_
  rintro e W5 ⟨v1, rfl, hm5, hc5, hn5⟩
  obtain ⟨M1, hM1⟩ : ∃ M1, M1 = addAll M [(x : Int)] := ⟨_, rfl⟩
  rw [← hM1] at hm5
  have HM5 : Hid (MindF w0 g L dh kem B H vs v1 M1 W5) := Lib.hid hm5
  have hc35 : Chg (SM B v) W3 W5 := (Chg.alloc W3 _ _).trans hc5
  have HC5 : Hid (Chg (SM B v) W W5) := Lib.hid ((Chg.of_below HB3.out).trans hc35)
  have HN5 : Hid (NewRow v v1 W.heap.size) := Lib.hid (by
   rcases hn5 with e | ⟨j, e, hj⟩
   ·exact .inl e
   ·exact .inr ⟨j, e, Nat.le_trans (Nat.le_trans HB3.out.size (by simp)) hj⟩)
  have HL1 : Hid (look1 L dh kem M (x : Int) = M1) := Lib.hid (by rw [hM1]; exact look_true (by rw [HT.out]; exact HR.out.symm))
  have y0 := (HQ.out W5 hc35 0).trans z0
  have y1 := (HQ.out W5 hc35 1).trans z1
  have y2 := (HQ.out W5 hc35 2).trans z2
  have y3 := (HQ.out W5 hc35 3).trans z3
  have y4 := (HQ.out W5 hc35 4).trans z4
  have y5 := (HQ.out W5 hc35 5).trans z5
  clear HM3 HQ HB3 hM1 HR HM z0 z1 z2 z3 z4 z5 hl4 ho4 hm4 hm5 hc5 hn5 hc35
  have cc := HM5.out.canAt (i := x) (by have := HX.out.2; omega)
  obtain ⟨_, c15, _⟩ := HM5.out.cells
  cases hc : has M1 (x : Int)
  ·rw [hc] at cc
   have HC := Lib.hid hc
   clear hc
   go_wp2_with fail
   go_end0
   exact ⟨_, rfl, by rw [lookF_false HL1.out HC.out]; exact HM5.out, HC5.out, HN5.out⟩
  ·rw [hc] at cc
   have HC := Lib.hid hc
   clear hc
   go_wp2_with fail
   refine (opened_k ⟨2, S, N, A, Bx, C⟩ (by first | exact (fun h => absurd (show (2 : Int) = 10 from h) (by decide)) | exact fun _ => HPA.out A (by simp [partsT, many])) W5 HM5.out).mono ?_
   rintro e W6 ⟨u, rfl, ho, hb6⟩
   obtain ⟨au, cu, rfl, hau⟩ := OwnI.at ho
   have HM6 : Hid (MindF w0 g L dh kem B H vs v1 M1 W6) := Lib.hid (HM5.out.next hb6)
   have HB6 := Lib.hid hb6
   have HO6 := Lib.hid ho
   clear ho hb6 hau cc c15 y0 y1 y2 y3 y4 y5
   go_wp2_with fail
   refine (have_any HM6.out au cu _ (ints_kept HO6.out HM5.out.sm) (HOP.out _)).mono ?_
   rintro e W7 ⟨v2, rfl, hm7, hc7, hn7⟩
   have HM7 : Hid (MindF w0 g L dh kem B H vs v2 (lookF L dh kem M (x : Int)) W7) := Lib.hid (by rw [lookF_true HL1.out HC.out, HT.out]; exact hm7)
   have HC7 : Hid (Chg (SM B v) W W7) := Lib.hid ((HC5.out.trans (Chg.of_below HB6.out)).after hc7 (fun j hj q => SM.of q HN5.out hj))
   have HN7 : Hid (NewRow v v2 W.heap.size) := Lib.hid (HN5.out.trans hn7 (Nat.le_trans HC5.out.size HB6.out.size))
   clear hm7 hc7 hn7 HM6 HB6 HO6
   go_wp2_with fail
   go_end0
   exact ⟨v2, rfl, HM7.out, HC7.out, HN7.out⟩
end
section
variable {w0 : World} {g : Nat} {L : List Tm} {dh kem : Bool} {B : MB} {H : Nat → List Int} {vs : Nat → Value} {v : Value} {M : List Int}
set_option maxHeartbeats 8000000 in
set_option maxRecDepth 100000 in
theorem lookK3 (hg : StoreAt w0 g L) (x : Nat) (hx : InL L (x : Int)) (S : ByteArray) (N A Bx C : Int) (ht : tm L (x : Int) = ⟨3, S, N, A, Bx, C⟩) (hparts : ∀ y, y ∈ partsT ⟨3, S, N, A, Bx, C⟩ → InL L y) (hopen : ∀ D y, y ∈ openL D ⟨3, S, N, A, Bx, C⟩ → InL L y) (W : World) (h : MindF w0 g L dh kem B H vs v M W) :
  Calls Tryz.prog 158 #[.pointer (some ⟨B.m, 0, none⟩), .int .i64 (x : Int)] W (Had w0 g L dh kem B (noteOf L L.length) H vs v (lookF L dh kem M (x : Int)) W) := by
 have HRULE : Hid (∀ q w', HeldL W q B 6 (.func (.func 188) #[] #[]) 3 S N A Bx C w' → Calls Tryz.prog 188 #[.pointer (some ⟨B.m, 0, none⟩), Tm.v ⟨3, S, N, A, Bx, C⟩] w' fun e W' => e = .returned (.bool (ruleB L (has M) dh kem ⟨3, S, N, A, Bx, C⟩)) ∧ Below w'.heap.size w' W') := Lib.hid (fun q w' hs => by
  have hb := hs.2.2.2.2.2.2.2
  have e : ruleB L (has M) dh kem ⟨3, S, N, A, Bx, C⟩ = (partsT ⟨3, S, N, A, Bx, C⟩).all (has M) := by simp [ruleB, partsT, many, Bool.and_assoc]
  rw [e]
  exact whole_k ⟨3, S, N, A, Bx, C⟩ hparts w' (h.next hb.out))
 have HGET : Hid (∀ w', Hid (Below W.heap.size W w') → Calls Tryz.prog 102 #[.pointer (some ⟨g, 0, none⟩), .int .i64 (x : Int)] w' fun e W' => e = .returned (.tuple #[Tm.v ⟨3, S, N, A, Bx, C⟩, .bool true]) ∧ Below w'.heap.size w' W') := Lib.hid (fun w' hb => by
  have := hg.get (h.below.trans (hb.out.mono h.below.size)) (x : Int)
  rw [getT_tm hx, ht] at this
  exact this)
 unfold Tm.v at HGET
 have HX := Lib.hid hx
 have HT := Lib.hid ht
 have HM := Lib.hid h
 have HOP := Lib.hid hopen
 have HPA := Lib.hid hparts
 have hmost := h.most
 have hxl : (x : Int) < (L.length : Int) + 1 := by have := hx.2; omega
 obtain ⟨r, hr⟩ : ∃ r, r = ruleB L (has M) dh kem ⟨3, S, N, A, Bx, C⟩ := ⟨_, rfl⟩
 rw [← hr] at HRULE
 have HR := Lib.hid hr
 obtain ⟨d0, _⟩ := h.cells
 have hB0 : Hid (Below W.heap.size W W) := Lib.hid (Below.refl _ _)
 clear hr h hx ht hopen hparts hg
 go_enter Tryz.func158, Tryz.ntmps158
 go_wp2_with fail
 refine (HGET.out W hB0).mono ?_
 rintro e w1 ⟨rfl, hb1⟩
 have hsz := hb1.size
 obtain ⟨W1, hW1⟩ : ∃ W1, W1 = w1.alloc (.cells #[.int .i64 3, .string S, .int .u64 N, .int .i64 A, .int .i64 Bx, .int .i64 C] 116) := ⟨_, rfl⟩
 have HB1 : Hid (Below W.heap.size W W1) := Lib.hid (by rw [hW1]; exact hb1.alloc hb1.size _)
 have z : ∀ j, W1.cell? ⟨w1.heap.size, j, none⟩ = #[Value.int .i64 3, .string S, .int .u64 N, .int .i64 A, .int .i64 Bx, .int .i64 C][j]? := fun j => by rw [hW1]; exact cell_of_row _ _ j _ _ _ (heap_alloc_new w1 _)
 have z0 := z 0
 have z1 := z 1
 have z2 := z 2
 have z3 := z 3
 have z4 := z 4
 have z5 := z 5
 simp at z0 z1 z2 z3 z4 z5
 have cf : W1.cell? ⟨B.m, 6, none⟩ = some (.func (.func 188) #[] #[]) := by
  rw [cell_of_row W1 B.m _ _ _ _ (HM.out.next HB1.out).st]; rfl
 have hS1 : HeldL W w1.heap.size B 6 (.func (.func 188) #[] #[]) 3 S N A Bx C W1 := ⟨z0, z1, z2, z3, z4, z5, cf, HB1⟩
 have hS2 : HeldL W w1.heap.size B 6 (.func (.func 188) #[] #[]) 3 S N A Bx C W1.drew := HeldL.below (drewN_below W1 1) hS1
 clear z z0 z1 z2 z3 z4 z5 cf HB1 hS1 hb1 hB0 HGET
 go_wp2
 rw [← hW1]
 clear hW1 d0
 obtain ⟨q, hq⟩ : ∃ q, q = w1.heap.size := ⟨_, rfl⟩
 rw [← hq] at hS2 hsz ⊢
 clear hq
 go_region_held3 (fun w' => w'.cell? ⟨q, 0, none⟩ = some (.int .i64 3) ∧ w'.cell? ⟨q, 1, none⟩ = some (.string S) ∧ w'.cell? ⟨q, 2, none⟩ = some (.int .u64 N) ∧ w'.cell? ⟨q, 3, none⟩ = some (.int .i64 A) ∧ w'.cell? ⟨q, 4, none⟩ = some (.int .i64 Bx) ∧ w'.cell? ⟨q, 5, none⟩ = some (.int .i64 C) ∧ w'.cell? ⟨B.m, 6, none⟩ = some (.func (.func 188) #[] #[]) ∧ Hid (Below W.heap.size W w')) (first | assumption | go_keep) (first | (go_at_call 188; refine (HRULE.out _ _ (by assumption)).mono ?_; rintro e W3 ⟨rfl, hb3⟩; have hS3 : HeldL W q B 6 (.func (.func 188) #[] #[]) 3 S N A Bx C W3 := HeldL.below hb3 (by assumption)))
 obtain ⟨z0, z1, z2, z3, z4, z5, _, HB3⟩ := hS3
 clear hS2 HRULE
 have HM3 : Hid (MindF w0 g L dh kem B H vs v M W3) := Lib.hid (HM.out.next HB3.out)
 have HQ : Hid (∀ W', Chg (SM B v) W3 W' → ∀ i, W'.cell? ⟨q, i, none⟩ = W3.cell? ⟨q, i, none⟩) := Lib.hid (fun W' hc i => World.cell?_of_block (a := ⟨q, i, none⟩) (hc.block q (block_lt_of_cell z0) (fun e => by have := HM.out.sm q e; omega)))
 cases r
 ·obtain ⟨v1, hv1⟩ : ∃ v1, v1 = v := ⟨_, rfl⟩
  obtain ⟨M1, hM1⟩ : ∃ M1, M1 = M := ⟨_, rfl⟩
  obtain ⟨W5, hW5⟩ : ∃ W5, W5 = W3 := ⟨_, rfl⟩
  have HM5 : Hid (MindF w0 g L dh kem B H vs v1 M1 W5) := Lib.hid (by rw [hv1, hM1, hW5]; exact HM3.out)
  have HC5 : Hid (Chg (SM B v) W W5) := Lib.hid (by rw [hW5]; exact Chg.of_below HB3.out)
  have HN5 : Hid (NewRow v v1 W.heap.size) := Lib.hid (by rw [hv1]; exact NewRow.refl _ _)
  have HL1 : Hid (look1 L dh kem M (x : Int) = M1) := Lib.hid (by rw [hM1]; exact look_false (by rw [HT.out]; exact HR.out.symm))
  rw [← hW5] at z0 z1 z2 z3 z4 z5 ⊢
  have y0 := z0
  have y1 := z1
  have y2 := z2
  have y3 := z3
  have y4 := z4
  have y5 := z5
  clear HM3 HQ HB3 hW5 hM1 hv1 HR HM z0 z1 z2 z3 z4 z5
  have cc := HM5.out.canAt (i := x) (by have := HX.out.2; omega)
  obtain ⟨_, c15, _⟩ := HM5.out.cells
  cases hc : has M1 (x : Int)
  ·rw [hc] at cc
   have HC := Lib.hid hc
   clear hc
   go_wp2_with fail
   go_end0
   exact ⟨_, rfl, by rw [lookF_false HL1.out HC.out]; exact HM5.out, HC5.out, HN5.out⟩
  ·rw [hc] at cc
   have HC := Lib.hid hc
   clear hc
   go_wp2_with fail
   refine (opened_k ⟨3, S, N, A, Bx, C⟩ (by first | exact (fun h => absurd (show (3 : Int) = 10 from h) (by decide)) | exact fun _ => HPA.out A (by simp [partsT, many])) W5 HM5.out).mono ?_
   rintro e W6 ⟨u, rfl, ho, hb6⟩
   obtain ⟨au, cu, rfl, hau⟩ := OwnI.at ho
   have HM6 : Hid (MindF w0 g L dh kem B H vs v1 M1 W6) := Lib.hid (HM5.out.next hb6)
   have HB6 := Lib.hid hb6
   have HO6 := Lib.hid ho
   clear ho hb6 hau cc c15 y0 y1 y2 y3 y4 y5
   go_wp2_with fail
   refine (have_any HM6.out au cu _ (ints_kept HO6.out HM5.out.sm) (HOP.out _)).mono ?_
   rintro e W7 ⟨v2, rfl, hm7, hc7, hn7⟩
   have HM7 : Hid (MindF w0 g L dh kem B H vs v2 (lookF L dh kem M (x : Int)) W7) := Lib.hid (by rw [lookF_true HL1.out HC.out, HT.out]; exact hm7)
   have HC7 : Hid (Chg (SM B v) W W7) := Lib.hid ((HC5.out.trans (Chg.of_below HB6.out)).after hc7 (fun j hj q => SM.of q HN5.out hj))
   have HN7 : Hid (NewRow v v2 W.heap.size) := Lib.hid (HN5.out.trans hn7 (Nat.le_trans HC5.out.size HB6.out.size))
   clear hm7 hc7 hn7 HM6 HB6 HO6
   go_wp2_with fail
   go_end0
   exact ⟨v2, rfl, HM7.out, HC7.out, HN7.out⟩
 ·go_wp2_with fail
  have hl4 : (W3.alloc (.cells #[.int .i64 (x : Int)] 3)).heap[W3.heap.size]? = some (.cells #[.int .i64 (x : Int)] 3 (0, 0)) := heap_alloc_new W3 _
  have ho4 : OwnI W3.heap.size (.slice (some ⟨W3.heap.size, 0, none⟩) [(x : Int)].length 1) [(x : Int)] (W3.alloc (.cells #[.int .i64 (x : Int)] 3)) := OwnI.lit (xs := [(x : Int)]) (Nat.le_refl _) hl4 (by simp [maxLen])
  have hm4 := HM3.out.next ((Below.refl W3.heap.size W3).alloc (Nat.le_refl _) (.cells #[.int .i64 (x : Int)] 3))
  refine (have_any hm4 (some ⟨W3.heap.size, 0, none⟩) 1 [(x : Int)] (ints_kept ho4 HM3.out.sm) (by intro y hy; rw [List.mem_singleton.1 hy]; exact HX.out)).mono ?_
  rintro e W5 ⟨v1, rfl, hm5, hc5, hn5⟩
  obtain ⟨M1, hM1⟩ : ∃ M1, M1 = addAll M [(x : Int)] := ⟨_, rfl⟩
  rw [← hM1] at hm5
  have HM5 : Hid (MindF w0 g L dh kem B H vs v1 M1 W5) := Lib.hid hm5
  have hc35 : Chg (SM B v) W3 W5 := (Chg.alloc W3 _ _).trans hc5
  have HC5 : Hid (Chg (SM B v) W W5) := Lib.hid ((Chg.of_below HB3.out).trans hc35)
  have HN5 : Hid (NewRow v v1 W.heap.size) := Lib.hid (by
   rcases hn5 with e | ⟨j, e, hj⟩
   ·exact .inl e
   ·exact .inr ⟨j, e, Nat.le_trans (Nat.le_trans HB3.out.size (by simp)) hj⟩)
  have HL1 : Hid (look1 L dh kem M (x : Int) = M1) := Lib.hid (by rw [hM1]; exact look_true (by rw [HT.out]; exact HR.out.symm))
  have y0 := (HQ.out W5 hc35 0).trans z0
  have y1 := (HQ.out W5 hc35 1).trans z1
  have y2 := (HQ.out W5 hc35 2).trans z2
  have y3 := (HQ.out W5 hc35 3).trans z3
  have y4 := (HQ.out W5 hc35 4).trans z4
  have y5 := (HQ.out W5 hc35 5).trans z5
  clear HM3 HQ HB3 hM1 HR HM z0 z1 z2 z3 z4 z5 hl4 ho4 hm4 hm5 hc5 hn5 hc35
  have cc := HM5.out.canAt (i := x) (by have := HX.out.2; omega)
  obtain ⟨_, c15, _⟩ := HM5.out.cells
  cases hc : has M1 (x : Int)
  ·rw [hc] at cc
   have HC := Lib.hid hc
   clear hc
   go_wp2_with fail
   go_end0
   exact ⟨_, rfl, by rw [lookF_false HL1.out HC.out]; exact HM5.out, HC5.out, HN5.out⟩
  ·rw [hc] at cc
   have HC := Lib.hid hc
   clear hc
   go_wp2_with fail
   refine (opened_k ⟨3, S, N, A, Bx, C⟩ (by first | exact (fun h => absurd (show (3 : Int) = 10 from h) (by decide)) | exact fun _ => HPA.out A (by simp [partsT, many])) W5 HM5.out).mono ?_
   rintro e W6 ⟨u, rfl, ho, hb6⟩
   obtain ⟨au, cu, rfl, hau⟩ := OwnI.at ho
   have HM6 : Hid (MindF w0 g L dh kem B H vs v1 M1 W6) := Lib.hid (HM5.out.next hb6)
   have HB6 := Lib.hid hb6
   have HO6 := Lib.hid ho
   clear ho hb6 hau cc c15 y0 y1 y2 y3 y4 y5
   go_wp2_with fail
   refine (have_any HM6.out au cu _ (ints_kept HO6.out HM5.out.sm) (HOP.out _)).mono ?_
   rintro e W7 ⟨v2, rfl, hm7, hc7, hn7⟩
   have HM7 : Hid (MindF w0 g L dh kem B H vs v2 (lookF L dh kem M (x : Int)) W7) := Lib.hid (by rw [lookF_true HL1.out HC.out, HT.out]; exact hm7)
   have HC7 : Hid (Chg (SM B v) W W7) := Lib.hid ((HC5.out.trans (Chg.of_below HB6.out)).after hc7 (fun j hj q => SM.of q HN5.out hj))
   have HN7 : Hid (NewRow v v2 W.heap.size) := Lib.hid (HN5.out.trans hn7 (Nat.le_trans HC5.out.size HB6.out.size))
   clear hm7 hc7 hn7 HM6 HB6 HO6
   go_wp2_with fail
   go_end0
   exact ⟨v2, rfl, HM7.out, HC7.out, HN7.out⟩
end
section
variable {w0 : World} {g : Nat} {L : List Tm} {dh kem : Bool} {B : MB} {H : Nat → List Int} {vs : Nat → Value} {v : Value} {M : List Int}
set_option maxHeartbeats 8000000 in
set_option maxRecDepth 100000 in
theorem lookK5 (hg : StoreAt w0 g L) (x : Nat) (hx : InL L (x : Int)) (S : ByteArray) (N A Bx C : Int) (ht : tm L (x : Int) = ⟨5, S, N, A, Bx, C⟩) (hparts : ∀ y, y ∈ partsT ⟨5, S, N, A, Bx, C⟩ → InL L y) (hopen : ∀ D y, y ∈ openL D ⟨5, S, N, A, Bx, C⟩ → InL L y) (W : World) (h : MindF w0 g L dh kem B H vs v M W) :
  Calls Tryz.prog 158 #[.pointer (some ⟨B.m, 0, none⟩), .int .i64 (x : Int)] W (Had w0 g L dh kem B (noteOf L L.length) H vs v (lookF L dh kem M (x : Int)) W) := by
 have HRULE : Hid (∀ q w', HeldL W q B 8 (.func (.func 188) #[] #[]) 5 S N A Bx C w' → Calls Tryz.prog 188 #[.pointer (some ⟨B.m, 0, none⟩), Tm.v ⟨5, S, N, A, Bx, C⟩] w' fun e W' => e = .returned (.bool (ruleB L (has M) dh kem ⟨5, S, N, A, Bx, C⟩)) ∧ Below w'.heap.size w' W') := Lib.hid (fun q w' hs => by
  have hb := hs.2.2.2.2.2.2.2
  have e : ruleB L (has M) dh kem ⟨5, S, N, A, Bx, C⟩ = (partsT ⟨5, S, N, A, Bx, C⟩).all (has M) := by simp [ruleB, partsT, many, Bool.and_assoc]
  rw [e]
  exact whole_k ⟨5, S, N, A, Bx, C⟩ hparts w' (h.next hb.out))
 have HGET : Hid (∀ w', Hid (Below W.heap.size W w') → Calls Tryz.prog 102 #[.pointer (some ⟨g, 0, none⟩), .int .i64 (x : Int)] w' fun e W' => e = .returned (.tuple #[Tm.v ⟨5, S, N, A, Bx, C⟩, .bool true]) ∧ Below w'.heap.size w' W') := Lib.hid (fun w' hb => by
  have := hg.get (h.below.trans (hb.out.mono h.below.size)) (x : Int)
  rw [getT_tm hx, ht] at this
  exact this)
 unfold Tm.v at HGET
 have HX := Lib.hid hx
 have HT := Lib.hid ht
 have HM := Lib.hid h
 have HOP := Lib.hid hopen
 have HPA := Lib.hid hparts
 have hmost := h.most
 have hxl : (x : Int) < (L.length : Int) + 1 := by have := hx.2; omega
 obtain ⟨r, hr⟩ : ∃ r, r = ruleB L (has M) dh kem ⟨5, S, N, A, Bx, C⟩ := ⟨_, rfl⟩
 rw [← hr] at HRULE
 have HR := Lib.hid hr
 obtain ⟨d0, _⟩ := h.cells
 have hB0 : Hid (Below W.heap.size W W) := Lib.hid (Below.refl _ _)
 clear hr h hx ht hopen hparts hg
 go_enter Tryz.func158, Tryz.ntmps158
 go_wp2_with fail
 refine (HGET.out W hB0).mono ?_
 rintro e w1 ⟨rfl, hb1⟩
 have hsz := hb1.size
 obtain ⟨W1, hW1⟩ : ∃ W1, W1 = w1.alloc (.cells #[.int .i64 5, .string S, .int .u64 N, .int .i64 A, .int .i64 Bx, .int .i64 C] 116) := ⟨_, rfl⟩
 have HB1 : Hid (Below W.heap.size W W1) := Lib.hid (by rw [hW1]; exact hb1.alloc hb1.size _)
 have z : ∀ j, W1.cell? ⟨w1.heap.size, j, none⟩ = #[Value.int .i64 5, .string S, .int .u64 N, .int .i64 A, .int .i64 Bx, .int .i64 C][j]? := fun j => by rw [hW1]; exact cell_of_row _ _ j _ _ _ (heap_alloc_new w1 _)
 have z0 := z 0
 have z1 := z 1
 have z2 := z 2
 have z3 := z 3
 have z4 := z 4
 have z5 := z 5
 simp at z0 z1 z2 z3 z4 z5
 have cf : W1.cell? ⟨B.m, 8, none⟩ = some (.func (.func 188) #[] #[]) := by
  rw [cell_of_row W1 B.m _ _ _ _ (HM.out.next HB1.out).st]; rfl
 have hS1 : HeldL W w1.heap.size B 8 (.func (.func 188) #[] #[]) 5 S N A Bx C W1 := ⟨z0, z1, z2, z3, z4, z5, cf, HB1⟩
 have hS2 : HeldL W w1.heap.size B 8 (.func (.func 188) #[] #[]) 5 S N A Bx C W1.drew := HeldL.below (drewN_below W1 1) hS1
 clear z z0 z1 z2 z3 z4 z5 cf HB1 hS1 hb1 hB0 HGET
 go_wp2
 rw [← hW1]
 clear hW1 d0
 obtain ⟨q, hq⟩ : ∃ q, q = w1.heap.size := ⟨_, rfl⟩
 rw [← hq] at hS2 hsz ⊢
 clear hq
 go_region_held3 (fun w' => w'.cell? ⟨q, 0, none⟩ = some (.int .i64 5) ∧ w'.cell? ⟨q, 1, none⟩ = some (.string S) ∧ w'.cell? ⟨q, 2, none⟩ = some (.int .u64 N) ∧ w'.cell? ⟨q, 3, none⟩ = some (.int .i64 A) ∧ w'.cell? ⟨q, 4, none⟩ = some (.int .i64 Bx) ∧ w'.cell? ⟨q, 5, none⟩ = some (.int .i64 C) ∧ w'.cell? ⟨B.m, 8, none⟩ = some (.func (.func 188) #[] #[]) ∧ Hid (Below W.heap.size W w')) (first | assumption | go_keep) (first | (go_at_call 188; refine (HRULE.out _ _ (by assumption)).mono ?_; rintro e W3 ⟨rfl, hb3⟩; have hS3 : HeldL W q B 8 (.func (.func 188) #[] #[]) 5 S N A Bx C W3 := HeldL.below hb3 (by assumption)))
 obtain ⟨z0, z1, z2, z3, z4, z5, _, HB3⟩ := hS3
 clear hS2 HRULE
 have HM3 : Hid (MindF w0 g L dh kem B H vs v M W3) := Lib.hid (HM.out.next HB3.out)
 have HQ : Hid (∀ W', Chg (SM B v) W3 W' → ∀ i, W'.cell? ⟨q, i, none⟩ = W3.cell? ⟨q, i, none⟩) := Lib.hid (fun W' hc i => World.cell?_of_block (a := ⟨q, i, none⟩) (hc.block q (block_lt_of_cell z0) (fun e => by have := HM.out.sm q e; omega)))
 cases r
 ·obtain ⟨v1, hv1⟩ : ∃ v1, v1 = v := ⟨_, rfl⟩
  obtain ⟨M1, hM1⟩ : ∃ M1, M1 = M := ⟨_, rfl⟩
  obtain ⟨W5, hW5⟩ : ∃ W5, W5 = W3 := ⟨_, rfl⟩
  have HM5 : Hid (MindF w0 g L dh kem B H vs v1 M1 W5) := Lib.hid (by rw [hv1, hM1, hW5]; exact HM3.out)
  have HC5 : Hid (Chg (SM B v) W W5) := Lib.hid (by rw [hW5]; exact Chg.of_below HB3.out)
  have HN5 : Hid (NewRow v v1 W.heap.size) := Lib.hid (by rw [hv1]; exact NewRow.refl _ _)
  have HL1 : Hid (look1 L dh kem M (x : Int) = M1) := Lib.hid (by rw [hM1]; exact look_false (by rw [HT.out]; exact HR.out.symm))
  rw [← hW5] at z0 z1 z2 z3 z4 z5 ⊢
  have y0 := z0
  have y1 := z1
  have y2 := z2
  have y3 := z3
  have y4 := z4
  have y5 := z5
  clear HM3 HQ HB3 hW5 hM1 hv1 HR HM z0 z1 z2 z3 z4 z5
  have cc := HM5.out.canAt (i := x) (by have := HX.out.2; omega)
  obtain ⟨_, c15, _⟩ := HM5.out.cells
  cases hc : has M1 (x : Int)
  ·rw [hc] at cc
   have HC := Lib.hid hc
   clear hc
   go_wp2_with fail
   go_end0
   exact ⟨_, rfl, by rw [lookF_false HL1.out HC.out]; exact HM5.out, HC5.out, HN5.out⟩
  ·rw [hc] at cc
   have HC := Lib.hid hc
   clear hc
   go_wp2_with fail
   refine (opened_k ⟨5, S, N, A, Bx, C⟩ (by first | exact (fun h => absurd (show (5 : Int) = 10 from h) (by decide)) | exact fun _ => HPA.out A (by simp [partsT, many])) W5 HM5.out).mono ?_
   rintro e W6 ⟨u, rfl, ho, hb6⟩
   obtain ⟨au, cu, rfl, hau⟩ := OwnI.at ho
   have HM6 : Hid (MindF w0 g L dh kem B H vs v1 M1 W6) := Lib.hid (HM5.out.next hb6)
   have HB6 := Lib.hid hb6
   have HO6 := Lib.hid ho
   clear ho hb6 hau cc c15 y0 y1 y2 y3 y4 y5
   go_wp2_with fail
   refine (have_any HM6.out au cu _ (ints_kept HO6.out HM5.out.sm) (HOP.out _)).mono ?_
   rintro e W7 ⟨v2, rfl, hm7, hc7, hn7⟩
   have HM7 : Hid (MindF w0 g L dh kem B H vs v2 (lookF L dh kem M (x : Int)) W7) := Lib.hid (by rw [lookF_true HL1.out HC.out, HT.out]; exact hm7)
   have HC7 : Hid (Chg (SM B v) W W7) := Lib.hid ((HC5.out.trans (Chg.of_below HB6.out)).after hc7 (fun j hj q => SM.of q HN5.out hj))
   have HN7 : Hid (NewRow v v2 W.heap.size) := Lib.hid (HN5.out.trans hn7 (Nat.le_trans HC5.out.size HB6.out.size))
   clear hm7 hc7 hn7 HM6 HB6 HO6
   go_wp2_with fail
   go_end0
   exact ⟨v2, rfl, HM7.out, HC7.out, HN7.out⟩
 ·go_wp2_with fail
  have hl4 : (W3.alloc (.cells #[.int .i64 (x : Int)] 3)).heap[W3.heap.size]? = some (.cells #[.int .i64 (x : Int)] 3 (0, 0)) := heap_alloc_new W3 _
  have ho4 : OwnI W3.heap.size (.slice (some ⟨W3.heap.size, 0, none⟩) [(x : Int)].length 1) [(x : Int)] (W3.alloc (.cells #[.int .i64 (x : Int)] 3)) := OwnI.lit (xs := [(x : Int)]) (Nat.le_refl _) hl4 (by simp [maxLen])
  have hm4 := HM3.out.next ((Below.refl W3.heap.size W3).alloc (Nat.le_refl _) (.cells #[.int .i64 (x : Int)] 3))
  refine (have_any hm4 (some ⟨W3.heap.size, 0, none⟩) 1 [(x : Int)] (ints_kept ho4 HM3.out.sm) (by intro y hy; rw [List.mem_singleton.1 hy]; exact HX.out)).mono ?_
  rintro e W5 ⟨v1, rfl, hm5, hc5, hn5⟩
  obtain ⟨M1, hM1⟩ : ∃ M1, M1 = addAll M [(x : Int)] := ⟨_, rfl⟩
  rw [← hM1] at hm5
  have HM5 : Hid (MindF w0 g L dh kem B H vs v1 M1 W5) := Lib.hid hm5
  have hc35 : Chg (SM B v) W3 W5 := (Chg.alloc W3 _ _).trans hc5
  have HC5 : Hid (Chg (SM B v) W W5) := Lib.hid ((Chg.of_below HB3.out).trans hc35)
  have HN5 : Hid (NewRow v v1 W.heap.size) := Lib.hid (by
   rcases hn5 with e | ⟨j, e, hj⟩
   ·exact .inl e
   ·exact .inr ⟨j, e, Nat.le_trans (Nat.le_trans HB3.out.size (by simp)) hj⟩)
  have HL1 : Hid (look1 L dh kem M (x : Int) = M1) := Lib.hid (by rw [hM1]; exact look_true (by rw [HT.out]; exact HR.out.symm))
  have y0 := (HQ.out W5 hc35 0).trans z0
  have y1 := (HQ.out W5 hc35 1).trans z1
  have y2 := (HQ.out W5 hc35 2).trans z2
  have y3 := (HQ.out W5 hc35 3).trans z3
  have y4 := (HQ.out W5 hc35 4).trans z4
  have y5 := (HQ.out W5 hc35 5).trans z5
  clear HM3 HQ HB3 hM1 HR HM z0 z1 z2 z3 z4 z5 hl4 ho4 hm4 hm5 hc5 hn5 hc35
  have cc := HM5.out.canAt (i := x) (by have := HX.out.2; omega)
  obtain ⟨_, c15, _⟩ := HM5.out.cells
  cases hc : has M1 (x : Int)
  ·rw [hc] at cc
   have HC := Lib.hid hc
   clear hc
   go_wp2_with fail
   go_end0
   exact ⟨_, rfl, by rw [lookF_false HL1.out HC.out]; exact HM5.out, HC5.out, HN5.out⟩
  ·rw [hc] at cc
   have HC := Lib.hid hc
   clear hc
   go_wp2_with fail
   refine (opened_k ⟨5, S, N, A, Bx, C⟩ (by first | exact (fun h => absurd (show (5 : Int) = 10 from h) (by decide)) | exact fun _ => HPA.out A (by simp [partsT, many])) W5 HM5.out).mono ?_
   rintro e W6 ⟨u, rfl, ho, hb6⟩
   obtain ⟨au, cu, rfl, hau⟩ := OwnI.at ho
   have HM6 : Hid (MindF w0 g L dh kem B H vs v1 M1 W6) := Lib.hid (HM5.out.next hb6)
   have HB6 := Lib.hid hb6
   have HO6 := Lib.hid ho
   clear ho hb6 hau cc c15 y0 y1 y2 y3 y4 y5
   go_wp2_with fail
   refine (have_any HM6.out au cu _ (ints_kept HO6.out HM5.out.sm) (HOP.out _)).mono ?_
   rintro e W7 ⟨v2, rfl, hm7, hc7, hn7⟩
   have HM7 : Hid (MindF w0 g L dh kem B H vs v2 (lookF L dh kem M (x : Int)) W7) := Lib.hid (by rw [lookF_true HL1.out HC.out, HT.out]; exact hm7)
   have HC7 : Hid (Chg (SM B v) W W7) := Lib.hid ((HC5.out.trans (Chg.of_below HB6.out)).after hc7 (fun j hj q => SM.of q HN5.out hj))
   have HN7 : Hid (NewRow v v2 W.heap.size) := Lib.hid (HN5.out.trans hn7 (Nat.le_trans HC5.out.size HB6.out.size))
   clear hm7 hc7 hn7 HM6 HB6 HO6
   go_wp2_with fail
   go_end0
   exact ⟨v2, rfl, HM7.out, HC7.out, HN7.out⟩
end
end Go.Proofs.YtgeonppckeiceaaGreatDoor
