/- A look at a term, kinds 4, 6, 7. -/
/- A look at a term, of any kind. The program's think: all names are looked at, then what waits for what can be made. -/
import Derived.Test.YtgeonppckeiceaaGreatDoorGq32
import Derived.Deep.RegionHeld3
import Derived.Test.YtgeonppckeiceaaGreatDoorGq36
import Derived.Test.YtgeonppckeiceaaGreatDoorGq37
import Derived.Deep.LoopGhost
import Derived.WalkMore
namespace Go.Proofs.YtgeonppckeiceaaGreatDoor
open Go.RowKit
open Go.Maps
set_option linter.unusedVariables false
set_option linter.unusedSimpArgs false
set_option maxRecDepth 20000
section
variable {w0 : World} {g : Nat} {L : List Tm} {dh kem : Bool} {B : MB} {H : Nat → List Int} {vs : Nat → Value} {v : Value} {M : List Int}
set_option maxHeartbeats 8000000 in
set_option maxRecDepth 100000 in
theorem lookK4 (hg : StoreAt w0 g L) (x : Nat) (hx : InL L (x : Int)) (S : ByteArray) (N A Bx C : Int) (ht : tm L (x : Int) = ⟨4, S, N, A, Bx, C⟩) (hparts : ∀ y, y ∈ partsT ⟨4, S, N, A, Bx, C⟩ → InL L y) (hopen : ∀ D y, y ∈ openL D ⟨4, S, N, A, Bx, C⟩ → InL L y) (W : World) (h : MindF w0 g L dh kem B H vs v M W) :
  Calls Tryz.prog 158 #[.pointer (some ⟨B.m, 0, none⟩), .int .i64 (x : Int)] W (Had w0 g L dh kem B (noteOf L L.length) H vs v (lookF L dh kem M (x : Int)) W) := by
 have HRULE : Hid (∀ q w', HeldL W q B 7 (.func (.func 190) #[] #[]) 4 S N A Bx C w' → Calls Tryz.prog 190 #[.pointer (some ⟨B.m, 0, none⟩), Tm.v ⟨4, S, N, A, Bx, C⟩] w' fun e W' => e = .returned (.bool (ruleB L (has M) dh kem ⟨4, S, N, A, Bx, C⟩)) ∧ Below w'.heap.size w' W') := Lib.hid (fun q w' hs => by
  have hb := hs.2.2.2.2.2.2.2
  have hA : InL L A := hparts A (by simp [partsT, many])
  have hB : InL L Bx := hparts Bx (by simp [partsT, many])
  obtain ⟨ja, rfl⟩ : ∃ j : Nat, A = (j : Int) := ⟨A.toNat, by have := hA.1; omega⟩
  obtain ⟨jb, rfl⟩ : ∃ j : Nat, Bx = (j : Int) := ⟨Bx.toNat, by have := hB.1; omega⟩
  have := shared_k (dh := dh) (kem := kem) 4 S N ja jb C hA hB w' (h.next hb.out)
  simpa [ruleB] using this)
 have HGET : Hid (∀ w', Hid (Below W.heap.size W w') → Calls Tryz.prog 102 #[.pointer (some ⟨g, 0, none⟩), .int .i64 (x : Int)] w' fun e W' => e = .returned (.tuple #[Tm.v ⟨4, S, N, A, Bx, C⟩, .bool true]) ∧ Below w'.heap.size w' W') := Lib.hid (fun w' hb => by
  have := hg.get (h.below.trans (hb.out.mono h.below.size)) (x : Int)
  rw [getT_tm hx, ht] at this
  exact this)
 unfold Tm.v at HGET
 have HX := Lib.hid hx
 have HT := Lib.hid ht
 have HM := Lib.hid h
 have HOP := Lib.hid hopen
 have HPA := Lib.hid hparts
 have hmost := h.most
 have hxl : (x : Int) < (L.length : Int) + 1 := by have := hx.2; omega
 obtain ⟨r, hr⟩ : ∃ r, r = ruleB L (has M) dh kem ⟨4, S, N, A, Bx, C⟩ := ⟨_, rfl⟩
 rw [← hr] at HRULE
 have HR := Lib.hid hr
 obtain ⟨d0, _⟩ := h.cells
 have hB0 : Hid (Below W.heap.size W W) := Lib.hid (Below.refl _ _)
 clear hr h hx ht hopen hparts hg
 go_enter Tryz.func158, Tryz.ntmps158
 go_wp2_with fail
 refine (HGET.out W hB0).mono ?_
 rintro e w1 ⟨rfl, hb1⟩
 have hsz := hb1.size
 obtain ⟨W1, hW1⟩ : ∃ W1, W1 = w1.alloc (.cells #[.int .i64 4, .string S, .int .u64 N, .int .i64 A, .int .i64 Bx, .int .i64 C] 116) := ⟨_, rfl⟩
 have HB1 : Hid (Below W.heap.size W W1) := Lib.hid (by rw [hW1]; exact hb1.alloc hb1.size _)
 have z : ∀ j, W1.cell? ⟨w1.heap.size, j, none⟩ = #[Value.int .i64 4, .string S, .int .u64 N, .int .i64 A, .int .i64 Bx, .int .i64 C][j]? := fun j => by rw [hW1]; exact cell_of_row _ _ j _ _ _ (heap_alloc_new w1 _)
 have z0 := z 0
 have z1 := z 1
 have z2 := z 2
 have z3 := z 3
 have z4 := z 4
 have z5 := z 5
 simp at z0 z1 z2 z3 z4 z5
 have cf : W1.cell? ⟨B.m, 7, none⟩ = some (.func (.func 190) #[] #[]) := by
  rw [cell_of_row W1 B.m _ _ _ _ (HM.out.next HB1.out).st]; rfl
 have hS1 : HeldL W w1.heap.size B 7 (.func (.func 190) #[] #[]) 4 S N A Bx C W1 := ⟨z0, z1, z2, z3, z4, z5, cf, HB1⟩
 have hS2 : HeldL W w1.heap.size B 7 (.func (.func 190) #[] #[]) 4 S N A Bx C W1.drew := HeldL.below (drewN_below W1 1) hS1
 clear z z0 z1 z2 z3 z4 z5 cf HB1 hS1 hb1 hB0 HGET
 go_wp2
 rw [← hW1]
 clear hW1 d0
 obtain ⟨q, hq⟩ : ∃ q, q = w1.heap.size := ⟨_, rfl⟩
 rw [← hq] at hS2 hsz ⊢
 clear hq
 go_region_held3 (fun w' => w'.cell? ⟨q, 0, none⟩ = some (.int .i64 4) ∧ w'.cell? ⟨q, 1, none⟩ = some (.string S) ∧ w'.cell? ⟨q, 2, none⟩ = some (.int .u64 N) ∧ w'.cell? ⟨q, 3, none⟩ = some (.int .i64 A) ∧ w'.cell? ⟨q, 4, none⟩ = some (.int .i64 Bx) ∧ w'.cell? ⟨q, 5, none⟩ = some (.int .i64 C) ∧ w'.cell? ⟨B.m, 7, none⟩ = some (.func (.func 190) #[] #[]) ∧ Hid (Below W.heap.size W w')) (first | assumption | go_keep) (first | (go_at_call 190; refine (HRULE.out _ _ (by assumption)).mono ?_; rintro e W3 ⟨rfl, hb3⟩; have hS3 : HeldL W q B 7 (.func (.func 190) #[] #[]) 4 S N A Bx C W3 := HeldL.below hb3 (by assumption)))
 obtain ⟨z0, z1, z2, z3, z4, z5, _, HB3⟩ := hS3
 clear hS2 HRULE
 have HM3 : Hid (MindF w0 g L dh kem B H vs v M W3) := Lib.hid (HM.out.next HB3.out)
 have HQ : Hid (∀ W', Chg (SM B v) W3 W' → ∀ i, W'.cell? ⟨q, i, none⟩ = W3.cell? ⟨q, i, none⟩) := Lib.hid (fun W' hc i => World.cell?_of_block (a := ⟨q, i, none⟩) (hc.block q (block_lt_of_cell z0) (fun e => by have := HM.out.sm q e; omega)))
 cases r
 ·obtain ⟨v1, hv1⟩ : ∃ v1, v1 = v := ⟨_, rfl⟩
  obtain ⟨M1, hM1⟩ : ∃ M1, M1 = M := ⟨_, rfl⟩
  obtain ⟨W5, hW5⟩ : ∃ W5, W5 = W3 := ⟨_, rfl⟩
  have HM5 : Hid (MindF w0 g L dh kem B H vs v1 M1 W5) := Lib.hid (by rw [hv1, hM1, hW5]; exact HM3.out)
  have HC5 : Hid (Chg (SM B v) W W5) := Lib.hid (by rw [hW5]; exact Chg.of_below HB3.out)
  have HN5 : Hid (NewRow v v1 W.heap.size) := Lib.hid (by rw [hv1]; exact NewRow.refl _ _)
  have HL1 : Hid (look1 L dh kem M (x : Int) = M1) := Lib.hid (by rw [hM1]; exact look_false (by rw [HT.out]; exact HR.out.symm))
  rw [← hW5] at z0 z1 z2 z3 z4 z5 ⊢
  have y0 := z0
  have y1 := z1
  have y2 := z2
  have y3 := z3
  have y4 := z4
  have y5 := z5
  clear HM3 HQ HB3 hW5 hM1 hv1 HR HM z0 z1 z2 z3 z4 z5
  have cc := HM5.out.canAt (i := x) (by have := HX.out.2; omega)
  obtain ⟨_, c15, _⟩ := HM5.out.cells
  cases hc : has M1 (x : Int)
  ·rw [hc] at cc
   have HC := Lib.hid hc
   clear hc
   go_wp2_with fail
   go_end0
   exact ⟨_, rfl, by rw [lookF_false HL1.out HC.out]; exact HM5.out, HC5.out, HN5.out⟩
  ·rw [hc] at cc
   have HC := Lib.hid hc
   clear hc
   go_wp2_with fail
   refine (opened_k ⟨4, S, N, A, Bx, C⟩ (by first | exact (fun h => absurd (show (4 : Int) = 10 from h) (by decide)) | exact fun _ => HPA.out A (by simp [partsT, many])) W5 HM5.out).mono ?_
   rintro e W6 ⟨u, rfl, ho, hb6⟩
   obtain ⟨au, cu, rfl, hau⟩ := OwnI.at ho
   have HM6 : Hid (MindF w0 g L dh kem B H vs v1 M1 W6) := Lib.hid (HM5.out.next hb6)
   have HB6 := Lib.hid hb6
   have HO6 := Lib.hid ho
   clear ho hb6 hau cc c15 y0 y1 y2 y3 y4 y5
   go_wp2_with fail
   refine (have_any HM6.out au cu _ (ints_kept HO6.out HM5.out.sm) (HOP.out _)).mono ?_
   rintro e W7 ⟨v2, rfl, hm7, hc7, hn7⟩
   have HM7 : Hid (MindF w0 g L dh kem B H vs v2 (lookF L dh kem M (x : Int)) W7) := Lib.hid (by rw [lookF_true HL1.out HC.out, HT.out]; exact hm7)
   have HC7 : Hid (Chg (SM B v) W W7) := Lib.hid ((HC5.out.trans (Chg.of_below HB6.out)).after hc7 (fun j hj q => SM.of q HN5.out hj))
   have HN7 : Hid (NewRow v v2 W.heap.size) := Lib.hid (HN5.out.trans hn7 (Nat.le_trans HC5.out.size HB6.out.size))
   clear hm7 hc7 hn7 HM6 HB6 HO6
   go_wp2_with fail
   go_end0
   exact ⟨v2, rfl, HM7.out, HC7.out, HN7.out⟩
 ·go_wp2_with fail
  have hl4 : (W3.alloc (.cells #[.int .i64 (x : Int)] 3)).heap[W3.heap.size]? = some (.cells #[.int .i64 (x : Int)] 3 (0, 0)) := heap_alloc_new W3 _
  have ho4 : OwnI W3.heap.size (.slice (some ⟨W3.heap.size, 0, none⟩) [(x : Int)].length 1) [(x : Int)] (W3.alloc (.cells #[.int .i64 (x : Int)] 3)) := OwnI.lit (xs := [(x : Int)]) (Nat.le_refl _) hl4 (by simp [maxLen])
  have hm4 := HM3.out.next ((Below.refl W3.heap.size W3).alloc (Nat.le_refl _) (.cells #[.int .i64 (x : Int)] 3))
  refine (have_any hm4 (some ⟨W3.heap.size, 0, none⟩) 1 [(x : Int)] (ints_kept ho4 HM3.out.sm) (by intro y hy; rw [List.mem_singleton.1 hy]; exact HX.out)).mono ?_
  rintro e W5 ⟨v1, rfl, hm5, hc5, hn5⟩
  obtain ⟨M1, hM1⟩ : ∃ M1, M1 = addAll M [(x : Int)] := ⟨_, rfl⟩
  rw [← hM1] at hm5
  have HM5 : Hid (MindF w0 g L dh kem B H vs v1 M1 W5) := Lib.hid hm5
  have hc35 : Chg (SM B v) W3 W5 := (Chg.alloc W3 _ _).trans hc5
  have HC5 : Hid (Chg (SM B v) W W5) := Lib.hid ((Chg.of_below HB3.out).trans hc35)
  have HN5 : Hid (NewRow v v1 W.heap.size) := Lib.hid (by
   rcases hn5 with e | ⟨j, e, hj⟩
   ·exact .inl e
   ·exact .inr ⟨j, e, Nat.le_trans (Nat.le_trans HB3.out.size (by simp)) hj⟩)
  have HL1 : Hid (look1 L dh kem M (x : Int) = M1) := Lib.hid (by rw [hM1]; exact look_true (by rw [HT.out]; exact HR.out.symm))
  have y0 := (HQ.out W5 hc35 0).trans z0
  have y1 := (HQ.out W5 hc35 1).trans z1
  have y2 := (HQ.out W5 hc35 2).trans z2
  have y3 := (HQ.out W5 hc35 3).trans z3
  have y4 := (HQ.out W5 hc35 4).trans z4
  have y5 := (HQ.out W5 hc35 5).trans z5
  clear HM3 HQ HB3 hM1 HR HM z0 z1 z2 z3 z4 z5 hl4 ho4 hm4 hm5 hc5 hn5 hc35
  have cc := HM5.out.canAt (i := x) (by have := HX.out.2; omega)
  obtain ⟨_, c15, _⟩ := HM5.out.cells
  cases hc : has M1 (x : Int)
  ·rw [hc] at cc
   have HC := Lib.hid hc
   clear hc
   go_wp2_with fail
   go_end0
   exact ⟨_, rfl, by rw [lookF_false HL1.out HC.out]; exact HM5.out, HC5.out, HN5.out⟩
  ·rw [hc] at cc
   have HC := Lib.hid hc
   clear hc
   go_wp2_with fail
   refine (opened_k ⟨4, S, N, A, Bx, C⟩ (by first | exact (fun h => absurd (show (4 : Int) = 10 from h) (by decide)) | exact fun _ => HPA.out A (by simp [partsT, many])) W5 HM5.out).mono ?_
   rintro e W6 ⟨u, rfl, ho, hb6⟩
   obtain ⟨au, cu, rfl, hau⟩ := OwnI.at ho
   have HM6 : Hid (MindF w0 g L dh kem B H vs v1 M1 W6) := Lib.hid (HM5.out.next hb6)
   have HB6 := Lib.hid hb6
   have HO6 := Lib.hid ho
   clear ho hb6 hau cc c15 y0 y1 y2 y3 y4 y5
   go_wp2_with fail
   refine (have_any HM6.out au cu _ (ints_kept HO6.out HM5.out.sm) (HOP.out _)).mono ?_
   rintro e W7 ⟨v2, rfl, hm7, hc7, hn7⟩
   have HM7 : Hid (MindF w0 g L dh kem B H vs v2 (lookF L dh kem M (x : Int)) W7) := Lib.hid (by rw [lookF_true HL1.out HC.out, HT.out]; exact hm7)
   have HC7 : Hid (Chg (SM B v) W W7) := Lib.hid ((HC5.out.trans (Chg.of_below HB6.out)).after hc7 (fun j hj q => SM.of q HN5.out hj))
   have HN7 : Hid (NewRow v v2 W.heap.size) := Lib.hid (HN5.out.trans hn7 (Nat.le_trans HC5.out.size HB6.out.size))
   clear hm7 hc7 hn7 HM6 HB6 HO6
   go_wp2_with fail
   go_end0
   exact ⟨v2, rfl, HM7.out, HC7.out, HN7.out⟩
end
section
variable {w0 : World} {g : Nat} {L : List Tm} {dh kem : Bool} {B : MB} {H : Nat → List Int} {vs : Nat → Value} {v : Value} {M : List Int}
set_option maxHeartbeats 8000000 in
set_option maxRecDepth 100000 in
theorem lookK6 (hg : StoreAt w0 g L) (x : Nat) (hx : InL L (x : Int)) (S : ByteArray) (N A Bx C : Int) (ht : tm L (x : Int) = ⟨6, S, N, A, Bx, C⟩) (hparts : ∀ y, y ∈ partsT ⟨6, S, N, A, Bx, C⟩ → InL L y) (hopen : ∀ D y, y ∈ openL D ⟨6, S, N, A, Bx, C⟩ → InL L y) (W : World) (h : MindF w0 g L dh kem B H vs v M W) :
  Calls Tryz.prog 158 #[.pointer (some ⟨B.m, 0, none⟩), .int .i64 (x : Int)] W (Had w0 g L dh kem B (noteOf L L.length) H vs v (lookF L dh kem M (x : Int)) W) := by
 have HRULE : Hid (∀ q w', HeldL W q B 9 (.func (.func 191) #[] #[]) 6 S N A Bx C w' → Calls Tryz.prog 191 #[.pointer (some ⟨B.m, 0, none⟩), Tm.v ⟨6, S, N, A, Bx, C⟩] w' fun e W' => e = .returned (.bool (ruleB L (has M) dh kem ⟨6, S, N, A, Bx, C⟩)) ∧ Below w'.heap.size w' W') := Lib.hid (fun q w' hs => by
  have hb := hs.2.2.2.2.2.2.2
  have hA : InL L A := hparts A (by simp [partsT, many])
  have hB : InL L Bx := hparts Bx (by simp [partsT, many])
  obtain ⟨ja, rfl⟩ : ∃ j : Nat, A = (j : Int) := ⟨A.toNat, by have := hA.1; omega⟩
  obtain ⟨jb, rfl⟩ : ∃ j : Nat, Bx = (j : Int) := ⟨Bx.toNat, by have := hB.1; omega⟩
  have := wrapped_k (dh := dh) (kem := kem) 6 S N ja jb C hA hB w' (h.next hb.out)
  simpa [ruleB] using this)
 have HGET : Hid (∀ w', Hid (Below W.heap.size W w') → Calls Tryz.prog 102 #[.pointer (some ⟨g, 0, none⟩), .int .i64 (x : Int)] w' fun e W' => e = .returned (.tuple #[Tm.v ⟨6, S, N, A, Bx, C⟩, .bool true]) ∧ Below w'.heap.size w' W') := Lib.hid (fun w' hb => by
  have := hg.get (h.below.trans (hb.out.mono h.below.size)) (x : Int)
  rw [getT_tm hx, ht] at this
  exact this)
 unfold Tm.v at HGET
 have HX := Lib.hid hx
 have HT := Lib.hid ht
 have HM := Lib.hid h
 have HOP := Lib.hid hopen
 have HPA := Lib.hid hparts
 have hmost := h.most
 have hxl : (x : Int) < (L.length : Int) + 1 := by have := hx.2; omega
 obtain ⟨r, hr⟩ : ∃ r, r = ruleB L (has M) dh kem ⟨6, S, N, A, Bx, C⟩ := ⟨_, rfl⟩
 rw [← hr] at HRULE
 have HR := Lib.hid hr
 obtain ⟨d0, _⟩ := h.cells
 have hB0 : Hid (Below W.heap.size W W) := Lib.hid (Below.refl _ _)
 clear hr h hx ht hopen hparts hg
 go_enter Tryz.func158, Tryz.ntmps158
 go_wp2_with fail
 refine (HGET.out W hB0).mono ?_
 rintro e w1 ⟨rfl, hb1⟩
 have hsz := hb1.size
 obtain ⟨W1, hW1⟩ : ∃ W1, W1 = w1.alloc (.cells #[.int .i64 6, .string S, .int .u64 N, .int .i64 A, .int .i64 Bx, .int .i64 C] 116) := ⟨_, rfl⟩
 have HB1 : Hid (Below W.heap.size W W1) := Lib.hid (by rw [hW1]; exact hb1.alloc hb1.size _)
 have z : ∀ j, W1.cell? ⟨w1.heap.size, j, none⟩ = #[Value.int .i64 6, .string S, .int .u64 N, .int .i64 A, .int .i64 Bx, .int .i64 C][j]? := fun j => by rw [hW1]; exact cell_of_row _ _ j _ _ _ (heap_alloc_new w1 _)
 have z0 := z 0
 have z1 := z 1
 have z2 := z 2
 have z3 := z 3
 have z4 := z 4
 have z5 := z 5
 simp at z0 z1 z2 z3 z4 z5
 have cf : W1.cell? ⟨B.m, 9, none⟩ = some (.func (.func 191) #[] #[]) := by
  rw [cell_of_row W1 B.m _ _ _ _ (HM.out.next HB1.out).st]; rfl
 have hS1 : HeldL W w1.heap.size B 9 (.func (.func 191) #[] #[]) 6 S N A Bx C W1 := ⟨z0, z1, z2, z3, z4, z5, cf, HB1⟩
 have hS2 : HeldL W w1.heap.size B 9 (.func (.func 191) #[] #[]) 6 S N A Bx C W1.drew := HeldL.below (drewN_below W1 1) hS1
 clear z z0 z1 z2 z3 z4 z5 cf HB1 hS1 hb1 hB0 HGET
 go_wp2
 rw [← hW1]
 clear hW1 d0
 obtain ⟨q, hq⟩ : ∃ q, q = w1.heap.size := ⟨_, rfl⟩
 rw [← hq] at hS2 hsz ⊢
 clear hq
 go_region_held3 (fun w' => w'.cell? ⟨q, 0, none⟩ = some (.int .i64 6) ∧ w'.cell? ⟨q, 1, none⟩ = some (.string S) ∧ w'.cell? ⟨q, 2, none⟩ = some (.int .u64 N) ∧ w'.cell? ⟨q, 3, none⟩ = some (.int .i64 A) ∧ w'.cell? ⟨q, 4, none⟩ = some (.int .i64 Bx) ∧ w'.cell? ⟨q, 5, none⟩ = some (.int .i64 C) ∧ w'.cell? ⟨B.m, 9, none⟩ = some (.func (.func 191) #[] #[]) ∧ Hid (Below W.heap.size W w')) (first | assumption | go_keep) (first | (go_at_call 191; refine (HRULE.out _ _ (by assumption)).mono ?_; rintro e W3 ⟨rfl, hb3⟩; have hS3 : HeldL W q B 9 (.func (.func 191) #[] #[]) 6 S N A Bx C W3 := HeldL.below hb3 (by assumption)))
 obtain ⟨z0, z1, z2, z3, z4, z5, _, HB3⟩ := hS3
 clear hS2 HRULE
 have HM3 : Hid (MindF w0 g L dh kem B H vs v M W3) := Lib.hid (HM.out.next HB3.out)
 have HQ : Hid (∀ W', Chg (SM B v) W3 W' → ∀ i, W'.cell? ⟨q, i, none⟩ = W3.cell? ⟨q, i, none⟩) := Lib.hid (fun W' hc i => World.cell?_of_block (a := ⟨q, i, none⟩) (hc.block q (block_lt_of_cell z0) (fun e => by have := HM.out.sm q e; omega)))
 cases r
 ·obtain ⟨v1, hv1⟩ : ∃ v1, v1 = v := ⟨_, rfl⟩
  obtain ⟨M1, hM1⟩ : ∃ M1, M1 = M := ⟨_, rfl⟩
  obtain ⟨W5, hW5⟩ : ∃ W5, W5 = W3 := ⟨_, rfl⟩
  have HM5 : Hid (MindF w0 g L dh kem B H vs v1 M1 W5) := Lib.hid (by rw [hv1, hM1, hW5]; exact HM3.out)
  have HC5 : Hid (Chg (SM B v) W W5) := Lib.hid (by rw [hW5]; exact Chg.of_below HB3.out)
  have HN5 : Hid (NewRow v v1 W.heap.size) := Lib.hid (by rw [hv1]; exact NewRow.refl _ _)
  have HL1 : Hid (look1 L dh kem M (x : Int) = M1) := Lib.hid (by rw [hM1]; exact look_false (by rw [HT.out]; exact HR.out.symm))
  rw [← hW5] at z0 z1 z2 z3 z4 z5 ⊢
  have y0 := z0
  have y1 := z1
  have y2 := z2
  have y3 := z3
  have y4 := z4
  have y5 := z5
  clear HM3 HQ HB3 hW5 hM1 hv1 HR HM z0 z1 z2 z3 z4 z5
  have cc := HM5.out.canAt (i := x) (by have := HX.out.2; omega)
  obtain ⟨_, c15, _⟩ := HM5.out.cells
  cases hc : has M1 (x : Int)
  ·rw [hc] at cc
   have HC := Lib.hid hc
   clear hc
   go_wp2_with fail
   go_end0
   exact ⟨_, rfl, by rw [lookF_false HL1.out HC.out]; exact HM5.out, HC5.out, HN5.out⟩
  ·rw [hc] at cc
   have HC := Lib.hid hc
   clear hc
   go_wp2_with fail
   refine (opened_k ⟨6, S, N, A, Bx, C⟩ (by first | exact (fun h => absurd (show (6 : Int) = 10 from h) (by decide)) | exact fun _ => HPA.out A (by simp [partsT, many])) W5 HM5.out).mono ?_
   rintro e W6 ⟨u, rfl, ho, hb6⟩
   obtain ⟨au, cu, rfl, hau⟩ := OwnI.at ho
   have HM6 : Hid (MindF w0 g L dh kem B H vs v1 M1 W6) := Lib.hid (HM5.out.next hb6)
   have HB6 := Lib.hid hb6
   have HO6 := Lib.hid ho
   clear ho hb6 hau cc c15 y0 y1 y2 y3 y4 y5
   go_wp2_with fail
   refine (have_any HM6.out au cu _ (ints_kept HO6.out HM5.out.sm) (HOP.out _)).mono ?_
   rintro e W7 ⟨v2, rfl, hm7, hc7, hn7⟩
   have HM7 : Hid (MindF w0 g L dh kem B H vs v2 (lookF L dh kem M (x : Int)) W7) := Lib.hid (by rw [lookF_true HL1.out HC.out, HT.out]; exact hm7)
   have HC7 : Hid (Chg (SM B v) W W7) := Lib.hid ((HC5.out.trans (Chg.of_below HB6.out)).after hc7 (fun j hj q => SM.of q HN5.out hj))
   have HN7 : Hid (NewRow v v2 W.heap.size) := Lib.hid (HN5.out.trans hn7 (Nat.le_trans HC5.out.size HB6.out.size))
   clear hm7 hc7 hn7 HM6 HB6 HO6
   go_wp2_with fail
   go_end0
   exact ⟨v2, rfl, HM7.out, HC7.out, HN7.out⟩
 ·go_wp2_with fail
  have hl4 : (W3.alloc (.cells #[.int .i64 (x : Int)] 3)).heap[W3.heap.size]? = some (.cells #[.int .i64 (x : Int)] 3 (0, 0)) := heap_alloc_new W3 _
  have ho4 : OwnI W3.heap.size (.slice (some ⟨W3.heap.size, 0, none⟩) [(x : Int)].length 1) [(x : Int)] (W3.alloc (.cells #[.int .i64 (x : Int)] 3)) := OwnI.lit (xs := [(x : Int)]) (Nat.le_refl _) hl4 (by simp [maxLen])
  have hm4 := HM3.out.next ((Below.refl W3.heap.size W3).alloc (Nat.le_refl _) (.cells #[.int .i64 (x : Int)] 3))
  refine (have_any hm4 (some ⟨W3.heap.size, 0, none⟩) 1 [(x : Int)] (ints_kept ho4 HM3.out.sm) (by intro y hy; rw [List.mem_singleton.1 hy]; exact HX.out)).mono ?_
  rintro e W5 ⟨v1, rfl, hm5, hc5, hn5⟩
  obtain ⟨M1, hM1⟩ : ∃ M1, M1 = addAll M [(x : Int)] := ⟨_, rfl⟩
  rw [← hM1] at hm5
  have HM5 : Hid (MindF w0 g L dh kem B H vs v1 M1 W5) := Lib.hid hm5
  have hc35 : Chg (SM B v) W3 W5 := (Chg.alloc W3 _ _).trans hc5
  have HC5 : Hid (Chg (SM B v) W W5) := Lib.hid ((Chg.of_below HB3.out).trans hc35)
  have HN5 : Hid (NewRow v v1 W.heap.size) := Lib.hid (by
   rcases hn5 with e | ⟨j, e, hj⟩
   ·exact .inl e
   ·exact .inr ⟨j, e, Nat.le_trans (Nat.le_trans HB3.out.size (by simp)) hj⟩)
  have HL1 : Hid (look1 L dh kem M (x : Int) = M1) := Lib.hid (by rw [hM1]; exact look_true (by rw [HT.out]; exact HR.out.symm))
  have y0 := (HQ.out W5 hc35 0).trans z0
  have y1 := (HQ.out W5 hc35 1).trans z1
  have y2 := (HQ.out W5 hc35 2).trans z2
  have y3 := (HQ.out W5 hc35 3).trans z3
  have y4 := (HQ.out W5 hc35 4).trans z4
  have y5 := (HQ.out W5 hc35 5).trans z5
  clear HM3 HQ HB3 hM1 HR HM z0 z1 z2 z3 z4 z5 hl4 ho4 hm4 hm5 hc5 hn5 hc35
  have cc := HM5.out.canAt (i := x) (by have := HX.out.2; omega)
  obtain ⟨_, c15, _⟩ := HM5.out.cells
  cases hc : has M1 (x : Int)
  ·rw [hc] at cc
   have HC := Lib.hid hc
   clear hc
   go_wp2_with fail
   go_end0
   exact ⟨_, rfl, by rw [lookF_false HL1.out HC.out]; exact HM5.out, HC5.out, HN5.out⟩
  ·rw [hc] at cc
   have HC := Lib.hid hc
   clear hc
   go_wp2_with fail
   refine (opened_k ⟨6, S, N, A, Bx, C⟩ (by first | exact (fun h => absurd (show (6 : Int) = 10 from h) (by decide)) | exact fun _ => HPA.out A (by simp [partsT, many])) W5 HM5.out).mono ?_
   rintro e W6 ⟨u, rfl, ho, hb6⟩
   obtain ⟨au, cu, rfl, hau⟩ := OwnI.at ho
   have HM6 : Hid (MindF w0 g L dh kem B H vs v1 M1 W6) := Lib.hid (HM5.out.next hb6)
   have HB6 := Lib.hid hb6
   have HO6 := Lib.hid ho
   clear ho hb6 hau cc c15 y0 y1 y2 y3 y4 y5
   go_wp2_with fail
   refine (have_any HM6.out au cu _ (ints_kept HO6.out HM5.out.sm) (HOP.out _)).mono ?_
   rintro e W7 ⟨v2, rfl, hm7, hc7, hn7⟩
   have HM7 : Hid (MindF w0 g L dh kem B H vs v2 (lookF L dh kem M (x : Int)) W7) := Lib.hid (by rw [lookF_true HL1.out HC.out, HT.out]; exact hm7)
   have HC7 : Hid (Chg (SM B v) W W7) := Lib.hid ((HC5.out.trans (Chg.of_below HB6.out)).after hc7 (fun j hj q => SM.of q HN5.out hj))
   have HN7 : Hid (NewRow v v2 W.heap.size) := Lib.hid (HN5.out.trans hn7 (Nat.le_trans HC5.out.size HB6.out.size))
   clear hm7 hc7 hn7 HM6 HB6 HO6
   go_wp2_with fail
   go_end0
   exact ⟨v2, rfl, HM7.out, HC7.out, HN7.out⟩
end
section
variable {w0 : World} {g : Nat} {L : List Tm} {dh kem : Bool} {B : MB} {H : Nat → List Int} {vs : Nat → Value} {v : Value} {M : List Int}
set_option maxHeartbeats 8000000 in
set_option maxRecDepth 100000 in
theorem lookK7 (hg : StoreAt w0 g L) (x : Nat) (hx : InL L (x : Int)) (S : ByteArray) (N A Bx C : Int) (ht : tm L (x : Int) = ⟨7, S, N, A, Bx, C⟩) (hparts : ∀ y, y ∈ partsT ⟨7, S, N, A, Bx, C⟩ → InL L y) (hopen : ∀ D y, y ∈ openL D ⟨7, S, N, A, Bx, C⟩ → InL L y) (W : World) (h : MindF w0 g L dh kem B H vs v M W) :
  Calls Tryz.prog 158 #[.pointer (some ⟨B.m, 0, none⟩), .int .i64 (x : Int)] W (Had w0 g L dh kem B (noteOf L L.length) H vs v (lookF L dh kem M (x : Int)) W) := by
 have HRULE : Hid (∀ q w', HeldL W q B 10 (.func (.func 192) #[] #[]) 7 S N A Bx C w' → Calls Tryz.prog 192 #[.pointer (some ⟨B.m, 0, none⟩), Tm.v ⟨7, S, N, A, Bx, C⟩] w' fun e W' => e = .returned (.bool (ruleB L (has M) dh kem ⟨7, S, N, A, Bx, C⟩)) ∧ Below w'.heap.size w' W') := Lib.hid (fun q w' hs => by
  have hb := hs.2.2.2.2.2.2.2
  have hA : InL L A := hparts A (by simp [partsT, many])
  have hB : InL L Bx := hparts Bx (by simp [partsT, many])
  obtain ⟨ja, rfl⟩ : ∃ j : Nat, A = (j : Int) := ⟨A.toNat, by have := hA.1; omega⟩
  obtain ⟨jb, rfl⟩ : ∃ j : Nat, Bx = (j : Int) := ⟨Bx.toNat, by have := hB.1; omega⟩
  have := inBox_k (dh := dh) (kem := kem) 7 S N ja jb C hA hB w' (h.next hb.out)
  simpa [ruleB] using this)
 have HGET : Hid (∀ w', Hid (Below W.heap.size W w') → Calls Tryz.prog 102 #[.pointer (some ⟨g, 0, none⟩), .int .i64 (x : Int)] w' fun e W' => e = .returned (.tuple #[Tm.v ⟨7, S, N, A, Bx, C⟩, .bool true]) ∧ Below w'.heap.size w' W') := Lib.hid (fun w' hb => by
  have := hg.get (h.below.trans (hb.out.mono h.below.size)) (x : Int)
  rw [getT_tm hx, ht] at this
  exact this)
 unfold Tm.v at HGET
 have HX := Lib.hid hx
 have HT := Lib.hid ht
 have HM := Lib.hid h
 have HOP := Lib.hid hopen
 have HPA := Lib.hid hparts
 have hmost := h.most
 have hxl : (x : Int) < (L.length : Int) + 1 := by have := hx.2; omega
 obtain ⟨r, hr⟩ : ∃ r, r = ruleB L (has M) dh kem ⟨7, S, N, A, Bx, C⟩ := ⟨_, rfl⟩
 rw [← hr] at HRULE
 have HR := Lib.hid hr
 obtain ⟨d0, _⟩ := h.cells
 have hB0 : Hid (Below W.heap.size W W) := Lib.hid (Below.refl _ _)
 clear hr h hx ht hopen hparts hg
 go_enter Tryz.func158, Tryz.ntmps158
 go_wp2_with fail
 refine (HGET.out W hB0).mono ?_
 rintro e w1 ⟨rfl, hb1⟩
 have hsz := hb1.size
 obtain ⟨W1, hW1⟩ : ∃ W1, W1 = w1.alloc (.cells #[.int .i64 7, .string S, .int .u64 N, .int .i64 A, .int .i64 Bx, .int .i64 C] 116) := ⟨_, rfl⟩
 have HB1 : Hid (Below W.heap.size W W1) := Lib.hid (by rw [hW1]; exact hb1.alloc hb1.size _)
 have z : ∀ j, W1.cell? ⟨w1.heap.size, j, none⟩ = #[Value.int .i64 7, .string S, .int .u64 N, .int .i64 A, .int .i64 Bx, .int .i64 C][j]? := fun j => by rw [hW1]; exact cell_of_row _ _ j _ _ _ (heap_alloc_new w1 _)
 have z0 := z 0
 have z1 := z 1
 have z2 := z 2
 have z3 := z 3
 have z4 := z 4
 have z5 := z 5
 simp at z0 z1 z2 z3 z4 z5
 have cf : W1.cell? ⟨B.m, 10, none⟩ = some (.func (.func 192) #[] #[]) := by
  rw [cell_of_row W1 B.m _ _ _ _ (HM.out.next HB1.out).st]; rfl
 have hS1 : HeldL W w1.heap.size B 10 (.func (.func 192) #[] #[]) 7 S N A Bx C W1 := ⟨z0, z1, z2, z3, z4, z5, cf, HB1⟩
 have hS2 : HeldL W w1.heap.size B 10 (.func (.func 192) #[] #[]) 7 S N A Bx C W1.drew := HeldL.below (drewN_below W1 1) hS1
 clear z z0 z1 z2 z3 z4 z5 cf HB1 hS1 hb1 hB0 HGET
 go_wp2
 rw [← hW1]
 clear hW1 d0
 obtain ⟨q, hq⟩ : ∃ q, q = w1.heap.size := ⟨_, rfl⟩
 rw [← hq] at hS2 hsz ⊢
 clear hq
 go_region_held3 (fun w' => w'.cell? ⟨q, 0, none⟩ = some (.int .i64 7) ∧ w'.cell? ⟨q, 1, none⟩ = some (.string S) ∧ w'.cell? ⟨q, 2, none⟩ = some (.int .u64 N) ∧ w'.cell? ⟨q, 3, none⟩ = some (.int .i64 A) ∧ w'.cell? ⟨q, 4, none⟩ = some (.int .i64 Bx) ∧ w'.cell? ⟨q, 5, none⟩ = some (.int .i64 C) ∧ w'.cell? ⟨B.m, 10, none⟩ = some (.func (.func 192) #[] #[]) ∧ Hid (Below W.heap.size W w')) (first | assumption | go_keep) (first | (go_at_call 192; refine (HRULE.out _ _ (by assumption)).mono ?_; rintro e W3 ⟨rfl, hb3⟩; have hS3 : HeldL W q B 10 (.func (.func 192) #[] #[]) 7 S N A Bx C W3 := HeldL.below hb3 (by assumption)))
 obtain ⟨z0, z1, z2, z3, z4, z5, _, HB3⟩ := hS3
 clear hS2 HRULE
 have HM3 : Hid (MindF w0 g L dh kem B H vs v M W3) := Lib.hid (HM.out.next HB3.out)
 have HQ : Hid (∀ W', Chg (SM B v) W3 W' → ∀ i, W'.cell? ⟨q, i, none⟩ = W3.cell? ⟨q, i, none⟩) := Lib.hid (fun W' hc i => World.cell?_of_block (a := ⟨q, i, none⟩) (hc.block q (block_lt_of_cell z0) (fun e => by have := HM.out.sm q e; omega)))
 cases r
 ·obtain ⟨v1, hv1⟩ : ∃ v1, v1 = v := ⟨_, rfl⟩
  obtain ⟨M1, hM1⟩ : ∃ M1, M1 = M := ⟨_, rfl⟩
  obtain ⟨W5, hW5⟩ : ∃ W5, W5 = W3 := ⟨_, rfl⟩
  have HM5 : Hid (MindF w0 g L dh kem B H vs v1 M1 W5) := Lib.hid (by rw [hv1, hM1, hW5]; exact HM3.out)
  have HC5 : Hid (Chg (SM B v) W W5) := Lib.hid (by rw [hW5]; exact Chg.of_below HB3.out)
  have HN5 : Hid (NewRow v v1 W.heap.size) := Lib.hid (by rw [hv1]; exact NewRow.refl _ _)
  have HL1 : Hid (look1 L dh kem M (x : Int) = M1) := Lib.hid (by rw [hM1]; exact look_false (by rw [HT.out]; exact HR.out.symm))
  rw [← hW5] at z0 z1 z2 z3 z4 z5 ⊢
  have y0 := z0
  have y1 := z1
  have y2 := z2
  have y3 := z3
  have y4 := z4
  have y5 := z5
  clear HM3 HQ HB3 hW5 hM1 hv1 HR HM z0 z1 z2 z3 z4 z5
  have cc := HM5.out.canAt (i := x) (by have := HX.out.2; omega)
  obtain ⟨_, c15, _⟩ := HM5.out.cells
  cases hc : has M1 (x : Int)
  ·rw [hc] at cc
   have HC := Lib.hid hc
   clear hc
   go_wp2_with fail
   go_end0
   exact ⟨_, rfl, by rw [lookF_false HL1.out HC.out]; exact HM5.out, HC5.out, HN5.out⟩
  ·rw [hc] at cc
   have HC := Lib.hid hc
   clear hc
   go_wp2_with fail
   refine (opened_k ⟨7, S, N, A, Bx, C⟩ (by first | exact (fun h => absurd (show (7 : Int) = 10 from h) (by decide)) | exact fun _ => HPA.out A (by simp [partsT, many])) W5 HM5.out).mono ?_
   rintro e W6 ⟨u, rfl, ho, hb6⟩
   obtain ⟨au, cu, rfl, hau⟩ := OwnI.at ho
   have HM6 : Hid (MindF w0 g L dh kem B H vs v1 M1 W6) := Lib.hid (HM5.out.next hb6)
   have HB6 := Lib.hid hb6
   have HO6 := Lib.hid ho
   clear ho hb6 hau cc c15 y0 y1 y2 y3 y4 y5
   go_wp2_with fail
   refine (have_any HM6.out au cu _ (ints_kept HO6.out HM5.out.sm) (HOP.out _)).mono ?_
   rintro e W7 ⟨v2, rfl, hm7, hc7, hn7⟩
   have HM7 : Hid (MindF w0 g L dh kem B H vs v2 (lookF L dh kem M (x : Int)) W7) := Lib.hid (by rw [lookF_true HL1.out HC.out, HT.out]; exact hm7)
   have HC7 : Hid (Chg (SM B v) W W7) := Lib.hid ((HC5.out.trans (Chg.of_below HB6.out)).after hc7 (fun j hj q => SM.of q HN5.out hj))
   have HN7 : Hid (NewRow v v2 W.heap.size) := Lib.hid (HN5.out.trans hn7 (Nat.le_trans HC5.out.size HB6.out.size))
   clear hm7 hc7 hn7 HM6 HB6 HO6
   go_wp2_with fail
   go_end0
   exact ⟨v2, rfl, HM7.out, HC7.out, HN7.out⟩
 ·go_wp2_with fail
  have hl4 : (W3.alloc (.cells #[.int .i64 (x : Int)] 3)).heap[W3.heap.size]? = some (.cells #[.int .i64 (x : Int)] 3 (0, 0)) := heap_alloc_new W3 _
  have ho4 : OwnI W3.heap.size (.slice (some ⟨W3.heap.size, 0, none⟩) [(x : Int)].length 1) [(x : Int)] (W3.alloc (.cells #[.int .i64 (x : Int)] 3)) := OwnI.lit (xs := [(x : Int)]) (Nat.le_refl _) hl4 (by simp [maxLen])
  have hm4 := HM3.out.next ((Below.refl W3.heap.size W3).alloc (Nat.le_refl _) (.cells #[.int .i64 (x : Int)] 3))
  refine (have_any hm4 (some ⟨W3.heap.size, 0, none⟩) 1 [(x : Int)] (ints_kept ho4 HM3.out.sm) (by intro y hy; rw [List.mem_singleton.1 hy]; exact HX.out)).mono ?_
  rintro e W5 ⟨v1, rfl, hm5, hc5, hn5⟩
  obtain ⟨M1, hM1⟩ : ∃ M1, M1 = addAll M [(x : Int)] := ⟨_, rfl⟩
  rw [← hM1] at hm5
  have HM5 : Hid (MindF w0 g L dh kem B H vs v1 M1 W5) := Lib.hid hm5
  have hc35 : Chg (SM B v) W3 W5 := (Chg.alloc W3 _ _).trans hc5
  have HC5 : Hid (Chg (SM B v) W W5) := Lib.hid ((Chg.of_below HB3.out).trans hc35)
  have HN5 : Hid (NewRow v v1 W.heap.size) := Lib.hid (by
   rcases hn5 with e | ⟨j, e, hj⟩
   ·exact .inl e
   ·exact .inr ⟨j, e, Nat.le_trans (Nat.le_trans HB3.out.size (by simp)) hj⟩)
  have HL1 : Hid (look1 L dh kem M (x : Int) = M1) := Lib.hid (by rw [hM1]; exact look_true (by rw [HT.out]; exact HR.out.symm))
  have y0 := (HQ.out W5 hc35 0).trans z0
  have y1 := (HQ.out W5 hc35 1).trans z1
  have y2 := (HQ.out W5 hc35 2).trans z2
  have y3 := (HQ.out W5 hc35 3).trans z3
  have y4 := (HQ.out W5 hc35 4).trans z4
  have y5 := (HQ.out W5 hc35 5).trans z5
  clear HM3 HQ HB3 hM1 HR HM z0 z1 z2 z3 z4 z5 hl4 ho4 hm4 hm5 hc5 hn5 hc35
  have cc := HM5.out.canAt (i := x) (by have := HX.out.2; omega)
  obtain ⟨_, c15, _⟩ := HM5.out.cells
  cases hc : has M1 (x : Int)
  ·rw [hc] at cc
   have HC := Lib.hid hc
   clear hc
   go_wp2_with fail
   go_end0
   exact ⟨_, rfl, by rw [lookF_false HL1.out HC.out]; exact HM5.out, HC5.out, HN5.out⟩
  ·rw [hc] at cc
   have HC := Lib.hid hc
   clear hc
   go_wp2_with fail
   refine (opened_k ⟨7, S, N, A, Bx, C⟩ (by first | exact (fun h => absurd (show (7 : Int) = 10 from h) (by decide)) | exact fun _ => HPA.out A (by simp [partsT, many])) W5 HM5.out).mono ?_
   rintro e W6 ⟨u, rfl, ho, hb6⟩
   obtain ⟨au, cu, rfl, hau⟩ := OwnI.at ho
   have HM6 : Hid (MindF w0 g L dh kem B H vs v1 M1 W6) := Lib.hid (HM5.out.next hb6)
   have HB6 := Lib.hid hb6
   have HO6 := Lib.hid ho
   clear ho hb6 hau cc c15 y0 y1 y2 y3 y4 y5
   go_wp2_with fail
   refine (have_any HM6.out au cu _ (ints_kept HO6.out HM5.out.sm) (HOP.out _)).mono ?_
   rintro e W7 ⟨v2, rfl, hm7, hc7, hn7⟩
   have HM7 : Hid (MindF w0 g L dh kem B H vs v2 (lookF L dh kem M (x : Int)) W7) := Lib.hid (by rw [lookF_true HL1.out HC.out, HT.out]; exact hm7)
   have HC7 : Hid (Chg (SM B v) W W7) := Lib.hid ((HC5.out.trans (Chg.of_below HB6.out)).after hc7 (fun j hj q => SM.of q HN5.out hj))
   have HN7 : Hid (NewRow v v2 W.heap.size) := Lib.hid (HN5.out.trans hn7 (Nat.le_trans HC5.out.size HB6.out.size))
   clear hm7 hc7 hn7 HM6 HB6 HO6
   go_wp2_with fail
   go_end0
   exact ⟨v2, rfl, HM7.out, HC7.out, HN7.out⟩
end
theorem look_k {w0 : World} {g : Nat} {L : List Tm} {dh kem : Bool} {B : MB} {H : Nat → List Int} {vs : Nat → Value} {v : Value} {M : List Int} (hg : StoreAt w0 g L) (hF : Fit L) (hS : Sound L) (x : Nat) (hx : InL L (x : Int)) (W : World) (h : MindF w0 g L dh kem B H vs v M W) :
  Calls Tryz.prog 158 #[.pointer (some ⟨B.m, 0, none⟩), .int .i64 (x : Int)] W (Had w0 g L dh kem B (noteOf L L.length) H vs v (lookF L dh kem M (x : Int)) W) := by
 have hb := bare_tm hS hx
 have hp := parts_mem hS hx
 have ho : ∀ D y, y ∈ openL D (tm L (x : Int)) → InL L y := fun D y hy => openL_in hF hx y hy
 obtain ⟨⟨K, S, N, A, Bx, C⟩, ht⟩ : ∃ t, t = tm L (x : Int) := ⟨_, rfl⟩
 rw [← ht] at hb hp ho
 have h1 : 1 ≤ K := hb.1
 have h2 : K ≤ 11 := hb.2.1
 rcases (by omega : K = 1 ∨ K = 2 ∨ K = 3 ∨ K = 4 ∨ K = 5 ∨ K = 6 ∨ K = 7 ∨ K = 8 ∨ K = 9 ∨ K = 10 ∨ K = 11) with rfl | rfl | rfl | rfl | rfl | rfl | rfl | rfl | rfl | rfl | rfl
 ·exact lookK1 hg x hx S N A Bx C ht.symm hp ho W h
 ·exact lookK2 hg x hx S N A Bx C ht.symm hp ho W h
 ·exact lookK3 hg x hx S N A Bx C ht.symm hp ho W h
 ·exact lookK4 hg x hx S N A Bx C ht.symm hp ho W h
 ·exact lookK5 hg x hx S N A Bx C ht.symm hp ho W h
 ·exact lookK6 hg x hx S N A Bx C ht.symm hp ho W h
 ·exact lookK7 hg x hx S N A Bx C ht.symm hp ho W h
 ·exact lookK8 hg x hx S N A Bx C ht.symm hp ho W h
 ·exact lookK9 hg x hx S N A Bx C ht.symm hp ho W h
 ·exact lookK10 hg x hx S N A Bx C ht.symm hp ho W h
 ·exact lookK11 hg x hx S N A Bx C ht.symm hp ho W h
end Go.Proofs.YtgeonppckeiceaaGreatDoor
namespace Go.Proofs.YtgeonppckeiceaaGreatDoor
open Go.RowKit
open Go.Maps
set_option linter.unusedVariables false
set_option linter.unusedSimpArgs false
set_option maxRecDepth 20000
def Mid (L : List Tm) (dh kem : Bool) (M M' : List Int) : Prop := M <+: M' ∧ ∀ C, KStepC L dh kem C C → Le (has M) C → Le (has M') C
theorem Mid.refl (L : List Tm) (dh kem : Bool) (M : List Int) : Mid L dh kem M M := ⟨List.prefix_refl _, fun _ _ h => h⟩
theorem Mid.look {L : List Tm} {dh kem : Bool} {M M' : List Int} {x : Int} (h : Mid L dh kem M M') (hx : InL L x) : Mid L dh kem M (lookF L dh kem M' x) := ⟨h.1.trans lookF_pre, fun C hC q => lookF_le hC (h.2 C hC q) hx⟩
def Seen (L : List Tm) (dh kem : Bool) (D M : List Int) (p : Int → Prop) : Prop := ∀ y, p y → Done L dh kem (has D) (has M) y
theorem Seen.look {L : List Tm} {dh kem : Bool} {D M : List Int} {p p' : Int → Prop} {x : Int} (h : Seen L dh kem D M p) (hD : D <+: M) (hp : ∀ y, p' y → p y ∨ y = x) : Seen L dh kem D (lookF L dh kem M x) p' := fun y hy => by
 rcases hp y hy with q | q
 ·exact (h y q).up (pre_le lookF_pre)
 ·rw [q]; exact look_all (pre_le hD)
def Thought (w0 : World) (g : Nat) (L : List Tm) (dh kem : Bool) (B : MB) (H : Nat → List Int) (vs : Nat → Value) (M : List Int) (j : Nat) (e : Ending) (W' : World) : Prop :=
 ∃ v' M', e = .returned (.tuple #[]) ∧ MindF w0 g L dh kem B H vs v' M' W' ∧ Mid L dh kem M M' ∧ (KStepC L dh kem (has M') (has M') ∨ has M' (j : Int) = true)
set_option maxHeartbeats 8000000 in
set_option maxRecDepth 100000 in
theorem think_k {w0 : World} {g : Nat} {L : List Tm} {dh kem : Bool} {B : MB} {H : Nat → List Int} {vs : Nat → Value} {v : Value} {M : List Int} (hg : StoreAt w0 g L) (hF : Fit L) (hS : Sound L)
  (hH : ∀ n, InL L n → ∀ on, on ∈ asks L n → n ∈ H on.toNat) (hin : ∀ i y, y ∈ H i → InL L y) (j : Nat) (hj : j ≤ L.length) (W : World) (h : MindF w0 g L dh kem B H vs v M W) :
  Calls Tryz.prog 110 #[.pointer (some ⟨B.m, 0, none⟩), .int .i64 (j : Int)] W (Thought w0 g L dh kem B H vs M j) := by
 have HLEN : Hid (∀ w', Hid (Below w0.heap.size w0 w') → Calls Tryz.prog 36 #[.pointer (some ⟨g, 0, none⟩)] w' fun e W' => e = .returned (.int .i64 L.length) ∧ w' = W') := Lib.hid (fun w' hb => hg.len hb.out)
 have HLOOK : Hid (∀ (x : Nat) (v' : Value) (M' : List Int) (w' : World), InL L (x : Int) → Hid (MindF w0 g L dh kem B H vs v' M' w') → Calls Tryz.prog 158 #[.pointer (some ⟨B.m, 0, none⟩), .int .i64 (x : Int)] w' (Had w0 g L dh kem B (noteOf L L.length) H vs v' (lookF L dh kem M' (x : Int)) w')) :=
  Lib.hid (fun x v' M' w' hx h' => look_k hg hF hS x hx w' h'.out)
 have HM := Lib.hid h
 have HH := Lib.hid hH
 have HIN := Lib.hid hin
 have hmost := h.most
 obtain ⟨n, hn⟩ : ∃ n, n = L.length := ⟨_, rfl⟩
 rw [← hn] at hmost hj HLEN
 have HN := Lib.hid hn
 clear h hg hF hS hH hin hn
 go_enter Tryz.func110, Tryz.ntmps110
 go_wp2
 go_step3
 go_wp2
 go_loopw [4] (fun s wr => ∃ (x : Nat) (v' : Value) (M' : List Int), 1 ≤ x ∧ x ≤ n + 1 ∧ s = .int .i64 (x : Int) ∧ Hid (MindF w0 g L dh kem B H vs v' M' wr) ∧ Hid (Mid L dh kem M M') ∧ Hid (Seen L dh kem [] M' (fun y => 1 ≤ y ∧ y < (x : Int)))) (fun s _ => n + 1 - (intOf s).toNat)
 case atStart => exact ⟨1, v, M, Nat.le_refl _, by omega, by go_num, HM, Lib.hid (Mid.refl _ _ _ _), Lib.hid (fun y hy => by omega)⟩
 case round =>
  clear HM
  obtain ⟨x, v', M', hx1, hx2, rfl, HM, HMID, HSEEN⟩ := hrel
  obtain ⟨d0, _⟩ := HM.out.cells
  have HBW : Hid (Below w0.heap.size w0 wr) := Lib.hid HM.out.below
  by_cases hlt : x ≤ n
  ·have e1 : decide (x ≤ n) = true := by simpa using hlt
   have HX : Hid (InL L (x : Int)) := Lib.hid (by have := HN.out; unfold InL; omega)
   have hxb : (x : Int) ≤ 1048576 := by omega
   have HLT := Lib.hid hlt
   clear hlt hx2
   go_wp2_with fail
   refine (HLEN.out _ HBW).mono ?_
   rintro e w1 ⟨rfl, rfl⟩
   go_wp2_with fail
   refine (HLOOK.out x v' M' _ HX.out HM).mono ?_
   rintro e w2 ⟨v2, rfl, hm2, hc2, hn2⟩
   have HM2 := Lib.hid hm2
   clear hm2 hc2 hn2
   go_wp2_with fail
   go_roundw
   case rel => exact ⟨x + 1, v2, _, by omega, by have := HLT.out; omega, by go_num, HM2, Lib.hid (HMID.out.look HX.out), Lib.hid (HSEEN.out.look List.nil_prefix (fun y hy => by omega))⟩
   case measure => have := HLT.out; simp [intOf]; omega
  ·have e1 : decide (x ≤ n) = false := by simpa using hlt
   have HXN : Hid (x = n + 1) := Lib.hid (by omega)
   clear hlt hx2 hx1
   go_wp2_with fail
   refine (HLEN.out _ HBW).mono ?_
   rintro e w1 ⟨rfl, rfl⟩
   have HST : Hid (KStepC L dh kem (has (M'.take 0)) (has M')) := Lib.hid (fun y hy => HSEEN.out y (by have := HN.out; have := HXN.out; unfold InL at hy; omega))
   clear HSEEN HBW d0
   go_wp2_with fail
   go_step3
   go_wp2
   clear e1 HXN HLEN
   go_loopg [5, 7] n (fun gk s5 s7 wr => ∃ (i : Nat) (v' : Value) (M' : List Int), i + gk = n ∧ i ≤ M'.length ∧ s5 = .int .i64 i ∧ Hid (MindF w0 g L dh kem B H vs v' M' wr) ∧ Hid (Mid L dh kem M M') ∧ Hid (KStepC L dh kem (has (M'.take i)) (has M')))
   case atStart => exact ⟨0, v', M', by omega, Nat.zero_le _, rfl, HM, HMID, HST⟩
   case round =>
    clear HM HMID HST
    obtain ⟨i, v', M', hig, hil, rfl, HM, HMID, HST⟩ := hrel
    obtain ⟨_, _, c16, _, c18, _⟩ := HM.out.cells
    have hml : M'.length ≤ n := by have := HM.out.len; have := HN.out; omega
    obtain ⟨m, hm⟩ : ∃ m, m = M'.length := ⟨_, rfl⟩
    by_cases hlt : i < m
    ·obtain ⟨ar, cr, rfl, hcell, hbr⟩ := HM.out.row.nat (i := i) (by omega)
     have hxin : InL L (M'.getD i 0) := HM.out.inL _ (getD_mem (by omega))
     obtain ⟨y, hy⟩ : ∃ y : Nat, M'.getD i 0 = (y : Int) := ⟨(M'.getD i 0).toNat, by unfold InL at hxin; omega⟩
     rw [hy] at hcell hxin
     have hyL : y ≤ L.length := by unfold InL at hxin; omega
     have c18y := HM.out.hangAt (i := y) hyL
     obtain ⟨ah, ch, hvs, hints⟩ := (HM.out.rows y).at
     have hlh := hints.len
     rw [hvs] at c18y
     obtain ⟨ln, hln⟩ : ∃ ln, ln = (H y).length := ⟨_, rfl⟩
     rw [← hln] at c18y hlh
     rw [← hm] at c16 hml
     rw [HN.out.symm] at c18
     have e1 : decide ((i : Int) < (m : Int)) = true := by simp; omega
     have hy1 : (y : Int) < (n : Int) + 1 := by have := HN.out; omega
     have hi1 : (i : Int) < (m : Int) := by omega
     have HI : Hid (i < M'.length) := Lib.hid (by omega)
     have HIG := Lib.hid hig
     have HY := Lib.hid hy
     have HVS := Lib.hid hvs
     have HLN := Lib.hid hln
     have hiB : Hid (i < n) := Lib.hid (by omega)
     clear hxin hyL hvs hints hm hil hig hy hln hlt hbr
     go_wp2
     go_quiet (fail)
     have HM2 : Hid (MindF w0 g L dh kem B H vs (.slice (some ⟨ar, 0, none⟩) M'.length cr) M' (wr.drewN nq)) := Lib.hid (HM.out.next (drewN_below wr nq))
     clear HM c16 c18 c18y hcell
     generalize wr.drewN nq = W2 at HM2 ⊢
     go_wp2
     go_loopg [7, 43] ln (fun g2 s7 s43 wy => ∃ (k : Nat) (v2 : Value) (M2 : List Int), k + g2 = ln ∧ s43 = .int .i64 k ∧ Hid (MindF w0 g L dh kem B H vs v2 M2 wy) ∧ Hid (Mid L dh kem M M2) ∧ Hid (M' <+: M2) ∧ Hid (Seen L dh kem (M'.take (i + 1)) M2 (fun q => q ∈ (H y).take k)))
     case atStart => exact ⟨0, _, M', by omega, rfl, HM2, HMID, Lib.hid (List.prefix_refl _), Lib.hid (fun q hq => by simp at hq)⟩
     case round =>
      clear HM2 HMID
      obtain ⟨k, v2, M2, hkg, rfl, HM2, HMID2, HPRE, HSEEN⟩ := hrel
      by_cases hlt2 : k < ln
      ·obtain ⟨a', c', ee, hi⟩ := (HM2.out.rows y).at
       rw [HVS.out] at ee
       injection ee with ee1 ee2 ee3
       subst ee1
       obtain ⟨_, _, b, off, hc⟩ := hi
       obtain ⟨rfl, q0⟩ := hc k (by rw [← HLN.out]; exact hlt2)
       have hkin : InL L ((H y).getD k 0) := HIN.out _ _ (getD_mem (by rw [← HLN.out]; exact hlt2))
       obtain ⟨u, hu⟩ : ∃ u : Nat, (H y).getD k 0 = (u : Int) := ⟨((H y).getD k 0).toNat, by unfold InL at hkin; omega⟩
       rw [hu] at q0 hkin
       have HU := Lib.hid hu
       have HUI := Lib.hid hkin
       have HK2 := Lib.hid (And.intro hlt2 hkg)
       have e2 : decide ((k : Int) < (ln : Int)) = true := by simp; omega
       have e3 : (k : Int) < (ln : Int) := by omega
       clear ee2 ee3 hc hu hkin hlt2 hkg
       go_wp2_with fail
       refine (HLOOK.out u v2 M2 _ HUI.out HM2).mono ?_
       rintro e w3 ⟨v3, rfl, hm3, hc3, hn3⟩
       have HM3 := Lib.hid hm3
       have HMID3 : Hid (Mid L dh kem M (lookF L dh kem M2 (u : Int))) := Lib.hid (HMID2.out.look HUI.out)
       obtain ⟨_, c15, _⟩ := hm3.cells
       have cc := hm3.canAt (i := j) (by have := HN.out; omega)
       rw [HN.out.symm] at c15
       have hj1 : (j : Int) < (n : Int) + 1 := by omega
       clear hm3 hc3 hn3 q0 HM2 HMID2
       cases hcj : has (lookF L dh kem M2 (u : Int)) (j : Int)
       ·rw [hcj] at cc
        clear hcj
        go_wp2_with fail
        go_roundg (ln - (k + 1))
        case measure => have := HK2.out; omega
        case rel => exact ⟨k + 1, v3, _, by have := HK2.out; omega, by go_num, HM3, HMID3, Lib.hid (HPRE.out.trans lookF_pre), Lib.hid (HSEEN.out.look ((List.take_prefix _ _).trans HPRE.out) (fun q hq => by
         rw [take_getD (by rw [← HLN.out]; exact HK2.out.1), HU.out, List.mem_append, List.mem_singleton] at hq
         exact hq))⟩
       ·rw [hcj] at cc
        have HCJ := Lib.hid hcj
        clear hcj
        go_wp2_with fail
        try rw [Exit.noGoto_ret]
        go_end0
        exact ⟨v3, _, rfl, HM3.out, HMID3.out, .inr HCJ.out⟩
      ·obtain rfl : k = ln := by omega
       have e2 : decide ((k : Int) < (k : Int)) = false := by simp
       have HST3 : Hid (KStepC L dh kem (has (M2.take (i + 1))) (has M2)) := Lib.hid (kturn_step HH.out HI.out HST.out HPRE.out (fun q hq => HSEEN.out q (by
        rw [HY.out] at hq
        show q ∈ (H y).take k
        rw [HLN.out, List.take_length]
        exact hq)))
       have HIL : Hid (i + 1 ≤ M2.length) := Lib.hid (by have := HPRE.out.length_le; have := HI.out; omega)
       clear hlt2 hkg
       go_wp2_with fail
       go_roundg (n - (i + 1))
       case measure => have := hiB.out; have := HIG.out; omega
       case rel => exact ⟨i + 1, v2, M2, by have := hiB.out; omega, HIL.out, by go_num, HM2, HMID2, HST3⟩
    ·obtain rfl : i = m := by omega
     obtain ⟨av, cv, rfl, hints⟩ := HM.out.row.at
     rw [← hm] at c16
     have e1 : decide ((i : Int) < (i : Int)) = false := by simp
     have HST3 : Hid (KStepC L dh kem (has M') (has M')) := Lib.hid (by have := HST.out; rw [hm, List.take_length] at this; exact this)
     clear hm hil hig hlt hints
     go_wp2_with fail
     try rw [Exit.noGoto_ret]
     go_end0
     exact ⟨_, M', rfl, HM.out, HMID.out, .inl HST3.out⟩
end Go.Proofs.YtgeonppckeiceaaGreatDoor
