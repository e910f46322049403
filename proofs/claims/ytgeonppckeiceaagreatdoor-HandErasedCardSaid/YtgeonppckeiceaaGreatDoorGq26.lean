/- Open of the program (by tools/stage17/calls.py). -/
import Derived.Test.YtgeonppckeiceaaGreatDoorGq01
import Derived.Test.YtgeonppckeiceaaGreatDoorGq25
namespace Go.Proofs.YtgeonppckeiceaaGreatDoor
open Go.RowKit
set_option linter.unusedVariables false
set_option linter.unusedSimpArgs false
set_option maxRecDepth 20000
abbrev opO0 (P : OpP) : Obj := .cells #[.int .i64 P.x1, .int .i64 P.x2] 33 (0, 0)
abbrev opO1 (P : OpP) : Obj := .cells #[.int .i64 (P.m.i 0), .int .u64 (P.m.i 1), .int .u64 (P.m.i 2), .string P.m.s, .int .i64 (P.m.i 4), .int .i64 (P.m.i 5), .int .i64 (P.m.i 6), .int .i64 (P.m.i 7), .int .i64 (P.m.i 8), .int .i64 (P.m.i 9), .int .i64 (P.m.i 10), .int .u64 (P.m.i 11), .int .u64 (P.m.i 12)] 25 (0, 0)
abbrev opO2 : Obj := .cells #[.int .i64 0, .int .i64 0, .int .i64 0, .int .u64 0, .int .i64 0, .int .i64 0, .int .u64 0, .int .i64 0, .int .i64 0, .int .i64 0] 64 (0, 0)
section
variable {base g B : Nat} {most : Int} {Q2 : (Nat → Prop) → List Tm → World → Prop} {L L' L2 : List Tm} {bs : List (Nat × Obj)} {T : TypeId} {y : Sy} {w0 w w' : World}
set_option maxHeartbeats 4000000 in
theorem Cs.hopen1 (g2 : Good base Q2) (h : Cs base (PSq base g most) Q2 L L2 bs w0 w) {P : OpP} {e : Int} {o : Opd} (hh : I64 P.x1 ∧ I64 P.x2 ∧ P.m.s.size ≤ maxLen ∧ Ms.Ms.Wf P.m ∧ P.mine.size ≤ maxLen ∧ P.n = P.ps.length ∧ P.n ≤ 1000000 ∧ RowB bs P.a P.ps ∧ (∀ p, p ∈ P.ps → p.Wf) ∧ (Ms.rightM P.m = true → P.m.i 0 = 1 → P.m.i 4 = 0 ∨ P.m.i 4 = 1) ∧ I64 (P.m.i 6) ∧ I64 (P.m.i 7) ∧ I64 (P.m.i 8) ∧ I64 (P.m.i 9) ∧ I64 (P.m.i 10)) (hf : hOpen most L (P.x1, P.x2) P.ps P.mine P.m = (o, e, L')) :
  Calls Tryz.prog 22 #[.pointer (some ⟨g, 0, none⟩), .agg #[.int .i64 P.x1, .int .i64 P.x2], .slice P.a P.n P.cap, .string P.mine, .agg #[.int .i64 (P.m.i 0), .int .u64 (P.m.i 1), .int .u64 (P.m.i 2), .string P.m.s, .int .i64 (P.m.i 4), .int .i64 (P.m.i 5), .int .i64 (P.m.i 6), .int .i64 (P.m.i 7), .int .i64 (P.m.i 8), .int .i64 (P.m.i 9), .int .i64 (P.m.i 10), .int .u64 (P.m.i 11), .int .u64 (P.m.i 12)]] w fun e' w' => e' = .returned (.tuple #[o.v, .int .i64 e]) ∧ Cs base (PSq base g most) Q2 L' L2 bs w0 w' := by
 have HHY := Lib.hid hh
 have HF := Lib.hid hf
 clear hh hf
 have gP := PSq.good base g most
 have HQ := Lib.hid h.pair.base_le
 have HK : Hid (∀ k o, (k, o) ∈ bs → k < w.heap.size) := Lib.hid (fun k o q => h.pair.klt k ⟨o, q⟩)
 have HC := Lib.hid (((h.boxN gP g2 #[.int .i64 P.x1, .int .i64 P.x2] 33 (b := w.heap.size) rfl).boxN gP g2 #[.int .i64 (P.m.i 0), .int .u64 (P.m.i 1), .int .u64 (P.m.i 2), .string P.m.s, .int .i64 (P.m.i 4), .int .i64 (P.m.i 5), .int .i64 (P.m.i 6), .int .i64 (P.m.i 7), .int .i64 (P.m.i 8), .int .i64 (P.m.i 9), .int .i64 (P.m.i 10), .int .u64 (P.m.i 11), .int .u64 (P.m.i 12)] 25 (b := w.heap.size + 1) (by simp)).boxN gP g2 #[.int .i64 0, .int .i64 0, .int .i64 0, .int .u64 0, .int .i64 0, .int .i64 0, .int .u64 0, .int .i64 0, .int .i64 0, .int .i64 0] 64 (b := w.heap.size + 1 + 1) (by simp))
 clear h
 go_enter Tryz.func22, Tryz.ntmps22
 go_upto_region 1 with fail
 generalize hwb : World.alloc _ _ = Wb at HC ⊢
 clear hwb
 generalize hq : w.heap.size = q at HC HK HQ ⊢
 clear hq
 have x0_0 := cell_of_row _ _ 0 _ _ _ (HC.out.kept (q) (opO0 P) (List.mem_cons_of_mem _ (List.mem_cons_of_mem _ List.mem_cons_self)))
 have x0_1 := cell_of_row _ _ 1 _ _ _ (HC.out.kept (q) (opO0 P) (List.mem_cons_of_mem _ (List.mem_cons_of_mem _ List.mem_cons_self)))
 simp at x0_0 x0_1
 have x1_0 := cell_of_row _ _ 0 _ _ _ (HC.out.kept (q + 1) (opO1 P) (List.mem_cons_of_mem _ List.mem_cons_self))
 have x1_1 := cell_of_row _ _ 1 _ _ _ (HC.out.kept (q + 1) (opO1 P) (List.mem_cons_of_mem _ List.mem_cons_self))
 have x1_2 := cell_of_row _ _ 2 _ _ _ (HC.out.kept (q + 1) (opO1 P) (List.mem_cons_of_mem _ List.mem_cons_self))
 have x1_3 := cell_of_row _ _ 3 _ _ _ (HC.out.kept (q + 1) (opO1 P) (List.mem_cons_of_mem _ List.mem_cons_self))
 have x1_4 := cell_of_row _ _ 4 _ _ _ (HC.out.kept (q + 1) (opO1 P) (List.mem_cons_of_mem _ List.mem_cons_self))
 have x1_5 := cell_of_row _ _ 5 _ _ _ (HC.out.kept (q + 1) (opO1 P) (List.mem_cons_of_mem _ List.mem_cons_self))
 have x1_6 := cell_of_row _ _ 6 _ _ _ (HC.out.kept (q + 1) (opO1 P) (List.mem_cons_of_mem _ List.mem_cons_self))
 have x1_7 := cell_of_row _ _ 7 _ _ _ (HC.out.kept (q + 1) (opO1 P) (List.mem_cons_of_mem _ List.mem_cons_self))
 have x1_8 := cell_of_row _ _ 8 _ _ _ (HC.out.kept (q + 1) (opO1 P) (List.mem_cons_of_mem _ List.mem_cons_self))
 have x1_9 := cell_of_row _ _ 9 _ _ _ (HC.out.kept (q + 1) (opO1 P) (List.mem_cons_of_mem _ List.mem_cons_self))
 have x1_10 := cell_of_row _ _ 10 _ _ _ (HC.out.kept (q + 1) (opO1 P) (List.mem_cons_of_mem _ List.mem_cons_self))
 have x1_11 := cell_of_row _ _ 11 _ _ _ (HC.out.kept (q + 1) (opO1 P) (List.mem_cons_of_mem _ List.mem_cons_self))
 have x1_12 := cell_of_row _ _ 12 _ _ _ (HC.out.kept (q + 1) (opO1 P) (List.mem_cons_of_mem _ List.mem_cons_self))
 simp at x1_0 x1_1 x1_2 x1_3 x1_4 x1_5 x1_6 x1_7 x1_8 x1_9 x1_10 x1_11 x1_12
 refine wp_region_lit ?_
 refine wpList_step (v := ?v36) (w' := ?w36) rfl ?h36 ?k36
 case h36 => (go_simp; refine ⟨?_, ?_⟩) <;> with_reducible rfl
 try simp only [Act.put, p1, p2, p3]
 refine wpList_step (v := ?v37) (w' := ?w37) rfl ?h37 ?k37
 case h37 => (go_simp; refine ⟨?_, ?_⟩) <;> with_reducible rfl
 try simp only [Act.put, p1, p2, p3]
 refine wpList_step (v := ?v38) (w' := ?w38) rfl ?h38 ?k38
 case h38 => (go_simp; refine ⟨?_, ?_⟩) <;> with_reducible rfl
 try simp only [Act.put, p1, p2, p3]
 refine wpList_step (v := ?v39) (w' := ?w39) rfl ?h39 ?k39
 case h39 => (go_simp; refine ⟨?_, ?_⟩) <;> with_reducible rfl
 try simp only [Act.put, p1, p2, p3]
 refine wpList_step (v := ?v40) (w' := ?w40) rfl ?h40 ?k40
 case h40 => (go_simp; refine ⟨?_, ?_⟩) <;> with_reducible rfl
 try simp only [Act.put, p1, p2, p3]
 refine wpList_step (v := ?v41) (w' := ?w41) rfl ?h41 ?k41
 case h41 => (go_simp; refine ⟨?_, ?_⟩) <;> with_reducible rfl
 try simp only [Act.put, p1, p2, p3]
 refine wpList_step (v := ?v42) (w' := ?w42) rfl ?h42 ?k42
 case h42 => (go_simp; refine ⟨?_, ?_⟩) <;> with_reducible rfl
 try simp only [Act.put, p1, p2, p3]
 refine wpList_step (v := ?v43) (w' := ?w43) rfl ?h43 ?k43
 case h43 => (go_simp; refine ⟨?_, ?_⟩) <;> with_reducible rfl
 try simp only [Act.put, p1, p2, p3]
 refine wpList_store_mid rfl 140 (.tmp 12) (.tmp 20) rfl Wb.heap.size 0 #[.pointer (some ⟨g, 0, none⟩), .int .i64 0, .int .i64 0, .int .i64 0, .int .u64 0, .int .i64 P.x1, .int .i64 P.x2, .slice P.a P.n P.cap, .string P.mine, .int .i64 (P.m.i 0), .int .u64 (P.m.i 1), .int .u64 (P.m.i 2), .string P.m.s, .int .i64 (P.m.i 4), .int .i64 (P.m.i 5), .int .i64 (P.m.i 6), .int .i64 (P.m.i 7), .int .i64 (P.m.i 8), .int .i64 (P.m.i 9), .int .i64 (P.m.i 10), .int .u64 (P.m.i 11), .int .u64 (P.m.i 12), .int .i64 0, .int .i64 0, .int .i64 0, .int .u64 0, .int .i64 0, .int .i64 0, .int .u64 0, .int .i64 0, .int .i64 0, .int .i64 0] rfl rfl (there_row (heap_alloc_new _ _) (by simp)) (by kernel_rfl) (by simp [Value.oneCell']) ?_
 try simp only [Act.put, p1, p2, p3]
 clear x0_0 x0_1 x1_0 x1_1 x1_2 x1_3 x1_4 x1_5 x1_6 x1_7 x1_8 x1_9 x1_10 x1_11 x1_12
 replace HC := Lib.hid (HC.out.talk2 g2 (t := 140) zeroY [.int .i64 P.x1, .int .i64 P.x2, .slice P.a P.n P.cap, .string P.mine, .int .i64 (P.m.i 0), .int .u64 (P.m.i 1), .int .u64 (P.m.i 2), .string P.m.s, .int .i64 (P.m.i 4), .int .i64 (P.m.i 5), .int .i64 (P.m.i 6), .int .i64 (P.m.i 7), .int .i64 (P.m.i 8), .int .i64 (P.m.i 9), .int .i64 (P.m.i 10), .int .u64 (P.m.i 11), .int .u64 (P.m.i 12), .int .i64 0, .int .i64 0, .int .i64 0, .int .u64 0, .int .i64 0, .int .i64 0, .int .u64 0, .int .i64 0, .int .i64 0, .int .i64 0] (b := Wb.heap.size) rfl zeroY_wf (zs := #[.pointer none, .int .i64 0, .int .i64 0, .int .i64 0, .int .u64 0, .int .i64 0, .int .i64 0, .slice none 0 0, .string ⟨#[]⟩, .int .i64 0, .int .u64 0, .int .u64 0, .string ⟨#[]⟩, .int .i64 0, .int .i64 0, .int .i64 0, .int .i64 0, .int .i64 0, .int .i64 0, .int .i64 0, .int .u64 0, .int .u64 0, .int .i64 0, .int .i64 0, .int .i64 0, .int .u64 0, .int .i64 0, .int .i64 0, .int .u64 0, .int .i64 0, .int .i64 0, .int .i64 0]) (vs := [.pointer (some ⟨g, 0, none⟩), .int .i64 0, .int .i64 0, .int .i64 0, .int .u64 0, .int .i64 P.x1, .int .i64 P.x2, .slice P.a P.n P.cap, .string P.mine, .int .i64 (P.m.i 0), .int .u64 (P.m.i 1), .int .u64 (P.m.i 2), .string P.m.s, .int .i64 (P.m.i 4), .int .i64 (P.m.i 5), .int .i64 (P.m.i 6), .int .i64 (P.m.i 7), .int .i64 (P.m.i 8), .int .i64 (P.m.i 9), .int .i64 (P.m.i 10), .int .u64 (P.m.i 11), .int .u64 (P.m.i 12), .int .i64 0, .int .i64 0, .int .i64 0, .int .u64 0, .int .i64 0, .int .i64 0, .int .u64 0, .int .i64 0, .int .i64 0, .int .i64 0]) rfl rfl)
 try simp only [List.toList_toArray]
 generalize hwc : World.setCells _ _ _ _ = Wc at HC ⊢
 clear hwc
 generalize hB : Wb.heap.size = B at HC ⊢
 clear hB
 have HT := HC
 clear HC
 go_upto_region 2 with fail
 obtain ⟨Wd, hwd⟩ : ∃ u, u = Wc := ⟨_, rfl⟩
 subst hwd
 replace HT : Hid (Tk base g most Q2 L L2 ((q + 1 + 1, opO2) :: (q + 1, (opO1 P)) :: (q, (opO0 P)) :: bs) B 140 zeroY (P.rest zeroOp) w0 Wd) := Lib.hid HT.out
 have hmf : ∀ (fn : Fn) (first cap : Array Value) (w : World), (Instr.makeFunc fn first cap).run Tryz.prog w = .ok (.func fn first cap) w := fun _ _ _ _ => rfl
 go_wp2_with fail
 clear hmf
 obtain ⟨hbx, hbn⟩ := HT.out.box g2 #[.func (.func 70) #[.pointer (some ⟨B, 0, none⟩)] #[], .func (.func 71) #[.pointer (some ⟨B, 0, none⟩)] #[], .func (.func 72) #[.pointer (some ⟨B, 0, none⟩)] #[], .func (.func 73) #[.pointer (some ⟨B, 0, none⟩)] #[], .func (.func 74) #[.pointer (some ⟨B, 0, none⟩)] #[], .func (.func 75) #[.pointer (some ⟨B, 0, none⟩)] #[], .func (.func 76) #[.pointer (some ⟨B, 0, none⟩)] #[], .func (.func 77) #[.pointer (some ⟨B, 0, none⟩)] #[], .func (.func 78) #[.pointer (some ⟨B, 0, none⟩)] #[], .func (.func 79) #[.pointer (some ⟨B, 0, none⟩)] #[], .func (.func 80) #[.pointer (some ⟨B, 0, none⟩)] #[]] 1 (b := Wd.heap.size) rfl
 replace HT := Lib.hid hbx
 have HRN := Lib.hid hbn
 clear hbx hbn
 generalize hwe : World.alloc _ _ = We at HT ⊢
 clear hwe
 generalize hR : Wd.heap.size = R at HT HRN ⊢
 clear hR
 obtain ⟨hbe, hbn⟩ := HT.out.box g2 #[.int .i64 0] 34 (b := We.heap.size) rfl
 have HEN := Lib.hid hbn
 refine (turn_G (n := 11) (f := fun i => ([70, 71, 72, 73, 74, 75, 76, 77, 78, 79, 80] : List Nat).getD i 0) (ks := opAll P) (t := .pointer (some ⟨B, 0, none⟩)) (most := most) (St := (fun i L s u => Tk base g most Q2 L L2 ((We.heap.size, errO 0) :: (R, (.cells #[.func (.func 70) #[.pointer (some ⟨B, 0, none⟩)] #[], .func (.func 71) #[.pointer (some ⟨B, 0, none⟩)] #[], .func (.func 72) #[.pointer (some ⟨B, 0, none⟩)] #[], .func (.func 73) #[.pointer (some ⟨B, 0, none⟩)] #[], .func (.func 74) #[.pointer (some ⟨B, 0, none⟩)] #[], .func (.func 75) #[.pointer (some ⟨B, 0, none⟩)] #[], .func (.func 76) #[.pointer (some ⟨B, 0, none⟩)] #[], .func (.func 77) #[.pointer (some ⟨B, 0, none⟩)] #[], .func (.func 78) #[.pointer (some ⟨B, 0, none⟩)] #[], .func (.func 79) #[.pointer (some ⟨B, 0, none⟩)] #[], .func (.func 80) #[.pointer (some ⟨B, 0, none⟩)] #[]] 1 (0, 0) : Obj)) :: (q + 1 + 1, opO2) :: (q + 1, (opO1 P)) :: (q, (opO0 P)) :: bs) B 140 s.y (P.rest s) w0 u ∧ (1 ≤ i → P.m.i 4 = 0 ∨ P.m.i 4 = 1) ∧ (i = 8 ∨ i = 9 → ∃ j : Nat, s.peer = (j : Int) ∧ j < P.ps.length))) (Fl := (fun L u => Cs base (PSq base g most) Q2 L L2 ((We.heap.size, errO 0) :: (R, (.cells #[.func (.func 70) #[.pointer (some ⟨B, 0, none⟩)] #[], .func (.func 71) #[.pointer (some ⟨B, 0, none⟩)] #[], .func (.func 72) #[.pointer (some ⟨B, 0, none⟩)] #[], .func (.func 73) #[.pointer (some ⟨B, 0, none⟩)] #[], .func (.func 74) #[.pointer (some ⟨B, 0, none⟩)] #[], .func (.func 75) #[.pointer (some ⟨B, 0, none⟩)] #[], .func (.func 76) #[.pointer (some ⟨B, 0, none⟩)] #[], .func (.func 77) #[.pointer (some ⟨B, 0, none⟩)] #[], .func (.func 78) #[.pointer (some ⟨B, 0, none⟩)] #[], .func (.func 79) #[.pointer (some ⟨B, 0, none⟩)] #[], .func (.func 80) #[.pointer (some ⟨B, 0, none⟩)] #[]] 1 (0, 0) : Obj)) :: (q + 1 + 1, opO2) :: (q + 1, (opO1 P)) :: (q, (opO0 P)) :: bs) w0 u)) (s0 := zeroOp) (L0 := L) rfl ?he ?hs R 0 11 We (by omega) ?h0 ?hrow ?hfr ?hbd).mono ?fin
 case he =>
  intro i hi args u
  match i, hi with
  | 0, _ => exact enters_of Tryz.func70 (by kernel_rfl) rfl args u
  | 1, _ => exact enters_of Tryz.func71 (by kernel_rfl) rfl args u
  | 2, _ => exact enters_of Tryz.func72 (by kernel_rfl) rfl args u
  | 3, _ => exact enters_of Tryz.func73 (by kernel_rfl) rfl args u
  | 4, _ => exact enters_of Tryz.func74 (by kernel_rfl) rfl args u
  | 5, _ => exact enters_of Tryz.func75 (by kernel_rfl) rfl args u
  | 6, _ => exact enters_of Tryz.func76 (by kernel_rfl) rfl args u
  | 7, _ => exact enters_of Tryz.func77 (by kernel_rfl) rfl args u
  | 8, _ => exact enters_of Tryz.func78 (by kernel_rfl) rfl args u
  | 9, _ => exact enters_of Tryz.func79 (by kernel_rfl) rfl args u
  | 10, _ => exact enters_of Tryz.func80 (by kernel_rfl) rfl args u
  | n + 11, h => omega
 case hs =>
  intro i k hk L s u hst
  match i, hk with
  | 0, hk =>
   obtain rfl : opCheck P = k := Option.some.inj hk
   exact (op_check g2 hst.1 HHY.out.2.2.2.1).mono (fun e w' h => h.impE (fun L x w hE hx => ⟨hx, fun _ => HHY.out.2.2.2.2.2.2.2.2.2.1 (opCheck_yes hE).2 (opCheck_yes hE).1, fun q => absurd q (by omega)⟩) (fun L hx => hx))
  | 1, hk =>
   obtain rfl : opVersion P = k := Option.some.inj hk
   exact (op_chooseVersion g2 hst.1 HHY.out.2.2.2.2.1 HHY.out.2.2.1).mono (fun e w' h => h.impE (fun L x w hE hx => ⟨hx, fun _ => hst.2.1 (by omega), fun q => absurd q (by omega)⟩) (fun L hx => hx))
  | 2, hk =>
   obtain rfl : opFirst P = k := Option.some.inj hk
   exact (op_first g2 hst.1 HHY.out.2.2.1 (hst.2.1 (by omega)) HHY.out.1 HHY.out.2.1).mono (fun e w' h => h.impE (fun L x w hE hx => ⟨hx, fun _ => hst.2.1 (by omega), fun q => absurd q (by omega)⟩) (fun L hx => hx))
  | 3, hk =>
   obtain rfl : opHear P = k := Option.some.inj hk
   exact (op_hearKeys g2 hst.1 HHY.out.2.2.2.2.2.2.2.2.2.2.1 HHY.out.2.2.2.2.2.2.2.2.2.2.2.1).mono (fun e w' h => h.impE (fun L x w hE hx => ⟨hx, fun _ => hst.2.1 (by omega), fun q => absurd q (by omega)⟩) (fun L hx => hx))
  | 4, hk =>
   obtain rfl : opMixE P = k := Option.some.inj hk
   exact (op_mixE g2 hst.1 HHY.out.1).mono (fun e w' h => h.impE (fun L x w hE hx => ⟨hx, fun _ => hst.2.1 (by omega), fun q => absurd q (by omega)⟩) (fun L hx => hx))
  | 5, hk =>
   obtain rfl : opUnwrap P = k := Option.some.inj hk
   exact (op_unwrapSecret g2 hst.1 HHY.out.2.1 HHY.out.2.2.2.2.2.2.2.2.2.2.2.2.1).mono (fun e w' h => h.impE (fun L x w hE hx => ⟨hx, fun _ => hst.2.1 (by omega), fun q => absurd q (by omega)⟩) (fun L hx => hx))
  | 6, hk =>
   obtain rfl : opPub P = k := Option.some.inj hk
   exact (op_openPub g2 hst.1 HHY.out.2.2.2.2.2.2.2.2.2.2.2.2.2.1).mono (fun e w' h => h.impE (fun L x w hE hx => ⟨hx, fun _ => hst.2.1 (by omega), fun q => absurd q (by omega)⟩) (fun L hx => hx))
  | 7, hk =>
   obtain rfl : opFind P = k := Option.some.inj hk
   exact (op_findPeer g2 hst.1 HHY.out.2.2.2.2.2.1 HHY.out.2.2.2.2.2.2.1 (HHY.out.2.2.2.2.2.2.2.1.more (fun x q => List.mem_cons_of_mem _ (List.mem_cons_of_mem _ (List.mem_cons_of_mem _ (List.mem_cons_of_mem _ (List.mem_cons_of_mem _ (q)))))))).mono (fun e w' h => h.impE (fun L x w hE hx => ⟨hx.1, fun _ => hst.2.1 (by omega), fun _ => hx.2⟩) (fun L hx => hx))
  | 8, hk =>
   obtain rfl : opMixPub P = k := Option.some.inj hk
   exact (op_mixPub g2 hst.1 HHY.out.1).mono (fun e w' h => h.impE (fun L x w hE hx => ⟨hx, fun _ => hst.2.1 (by omega), fun _ => by rw [opMixPub_peer hE]; exact hst.2.2 (by omega)⟩) (fun L hx => hx))
  | 9, hk =>
   obtain rfl : opPsk P = k := Option.some.inj hk
   exact (op_mixPsk g2 hst.1 (hst.2.1 (by omega)) HHY.out.2.2.2.2.2.1 HHY.out.2.2.2.2.2.2.1 (HHY.out.2.2.2.2.2.2.2.1.more (fun x q => List.mem_cons_of_mem _ (List.mem_cons_of_mem _ (List.mem_cons_of_mem _ (List.mem_cons_of_mem _ (List.mem_cons_of_mem _ (q))))))) HHY.out.2.2.2.2.2.2.2.2.1 (hst.2.2 (by omega))).mono (fun e w' h => h.impE (fun L x w hE hx => ⟨hx, fun _ => hst.2.1 (by omega), fun q => absurd q (by omega)⟩) (fun L hx => hx))
  | 10, hk =>
   obtain rfl : opStamp P = k := Option.some.inj hk
   exact (op_openStamp g2 hst.1 HHY.out.2.2.2.2.2.2.2.2.2.2.2.2.2.2).mono (fun e w' h => h.impE (fun L x w hE hx => ⟨hx, fun _ => hst.2.1 (by omega), fun q => absurd q (by omega)⟩) (fun L hx => hx))
  | n + 11, hk => simp [opAll] at hk
 case h0 => exact ⟨hbe, fun h => absurd h (by decide), fun h => absurd h (by decide)⟩
 case hrow =>
  intro i L s u hst hi
  match i, hi with
  | 0, _ => exact (hst.1.boxc (List.mem_cons_of_mem _ List.mem_cons_self) 0 rfl).1
  | 1, _ => exact (hst.1.boxc (List.mem_cons_of_mem _ List.mem_cons_self) 1 rfl).1
  | 2, _ => exact (hst.1.boxc (List.mem_cons_of_mem _ List.mem_cons_self) 2 rfl).1
  | 3, _ => exact (hst.1.boxc (List.mem_cons_of_mem _ List.mem_cons_self) 3 rfl).1
  | 4, _ => exact (hst.1.boxc (List.mem_cons_of_mem _ List.mem_cons_self) 4 rfl).1
  | 5, _ => exact (hst.1.boxc (List.mem_cons_of_mem _ List.mem_cons_self) 5 rfl).1
  | 6, _ => exact (hst.1.boxc (List.mem_cons_of_mem _ List.mem_cons_self) 6 rfl).1
  | 7, _ => exact (hst.1.boxc (List.mem_cons_of_mem _ List.mem_cons_self) 7 rfl).1
  | 8, _ => exact (hst.1.boxc (List.mem_cons_of_mem _ List.mem_cons_self) 8 rfl).1
  | 9, _ => exact (hst.1.boxc (List.mem_cons_of_mem _ List.mem_cons_self) 9 rfl).1
  | 10, _ => exact (hst.1.boxc (List.mem_cons_of_mem _ List.mem_cons_self) 10 rfl).1
  | n + 11, h => omega
 case hfr => intro i L s u hst; exact hst.1.boxc List.mem_cons_self 0 rfl
 case hbd => intro L u hc; exact ⟨by simp [World.cell?, hc.kept _ _ List.mem_cons_self], frz_of_row 0 (hc.kept _ _ List.mem_cons_self)⟩
 case fin =>
  clear HT hbe
  rintro e' w' (⟨s, L3, u, hsq, rfl, ⟨hT, hI⟩, rfl⟩ | ⟨c, L3, u, hsq, hc, rfl, hC, rfl⟩)
  ·have HT := Lib.hid ((hT.unbox g2 HEN.out (chg_one u We.heap.size 0 (.int .i64 0))).unbox0)
   have HSQ := Lib.hid hsq
   clear hsq hT hI
   generalize hwf : World.setCell _ _ _ = Wf at HT ⊢
   clear hwf HEN HRN
   have hw := HF.out
   rw [op_all P, HSQ.out] at hw
   injection hw with e1 hw
   injection hw with e2 e3
   subst e1 e2 e3
   clear HF HSQ
   go_upto_region 5 with fail
   replace HT := Lib.hid (HT.out.drew g2)
   refine wp_region_held_drew (S := (fun W => W.cell? ⟨B, 1, none⟩ = some (.int .i64 s.y.CK) ∧ W.cell? ⟨B, 2, none⟩ = some (.int .i64 s.y.K) ∧ W.cell? ⟨B, 3, none⟩ = some (.int .i64 s.y.H) ∧ W.cell? ⟨B, 4, none⟩ = some (.int .u64 s.y.N) ∧ W.cell? ⟨q + 1, 6, none⟩ = some (.int .i64 (P.m.i 6)) ∧ W.cell? ⟨q + 1, 7, none⟩ = some (.int .i64 (P.m.i 7)))) (by kernel_rfl) (⟨HT.out.c1, HT.out.c2, HT.out.c3, HT.out.c4, (HT.out.boxc (List.mem_cons_of_mem _ List.mem_cons_self) 6 rfl).1, (HT.out.boxc (List.mem_cons_of_mem _ List.mem_cons_self) 7 rfl).1⟩) (fun hHeld => ?_)
   refine tk 0 (h := ?_)
   refine tk 1 (h := ?_)
   refine tk 2 (hy := fun W hSw => by ((obtain ⟨z0, z1, z2, z3, z4, z5⟩ := hSw; go_simp) <;> with_reducible rfl)) (h := ?_)
   refine tk 3 (h := ?_)
   refine tk 4 (hy := fun W hSw => by ((obtain ⟨z0, z1, z2, z3, z4, z5⟩ := hSw; go_simp) <;> with_reducible rfl)) (h := ?_)
   refine tk 5 (h := ?_)
   refine tk 6 (hy := fun W hSw => by ((obtain ⟨z0, z1, z2, z3, z4, z5⟩ := hSw; go_simp) <;> with_reducible rfl)) (h := ?_)
   refine tk 7 (h := ?_)
   refine tk 8 (h := ?_)
   refine rd 9 (h := fun K' hK => ?_)
   rw [if_pos (by rfl)]
   refine wp_store_mid 45 (.tmp 46) (.tmp 40) ?so54 B 22 #[.int .i64 s.y.CK, .int .i64 s.y.K, .int .i64 s.y.H, .int .u64 s.y.N] ?sx54 ?sy54 ?st54 ?si54 ?s154 ?sk54
   case so54 => rfl
   case sx54 => rfl
   case sy54 => first | with_reducible rfl | (go_simp; done)
   case st54 => exact there_row HT.out.row (by simp [tkL, OpP.rest])
   case si54 => kernel_rfl
   case s154 => simp [Value.oneCell']
   replace HT := Lib.hid (HT.out.putN g2 [.int .i64 s.y.CK, .int .i64 s.y.K, .int .i64 s.y.H, .int .u64 s.y.N] 17)
   try simp only [List.toList_toArray]
   generalize hwg : World.setCells _ _ _ _ = Wu0 at HT ⊢
   clear hwg
   refine hK.out _ _ (⟨HT.out.c1, HT.out.c2, HT.out.c3, HT.out.c4, (HT.out.boxc (List.mem_cons_of_mem _ List.mem_cons_self) 6 rfl).1, (HT.out.boxc (List.mem_cons_of_mem _ List.mem_cons_self) 7 rfl).1⟩) (fun hHeld => ?_)
   clear hK K'
   try simp only [Act.put, p1, p2, p3]
   refine tk 10 (h := ?_)
   refine tk 11 (h := ?_)
   refine rd 12 (h := fun K' hK => ?_)
   have dst := HT.out.at 24 rfl
   have dfz := HT.out.fz 29
   go_simp
   replace HT := Lib.hid (HT.out.put g2 24 (.int .i64 (P.m.i 6)))
   clear dst dfz
   generalize hwg : World.setCell _ _ _ = Wu1 at HT ⊢
   clear hwg
   refine hK.out _ _ (⟨HT.out.c1, HT.out.c2, HT.out.c3, HT.out.c4, (HT.out.boxc (List.mem_cons_of_mem _ List.mem_cons_self) 6 rfl).1, (HT.out.boxc (List.mem_cons_of_mem _ List.mem_cons_self) 7 rfl).1⟩) (fun hHeld => ?_)
   clear hK K'
   try simp only [Act.put, p1, p2, p3]
   refine tk 13 (h := ?_)
   refine tk 14 (h := ?_)
   refine rd 15 (h := fun K' hK => ?_)
   have dst := HT.out.at 25 rfl
   have dfz := HT.out.fz 30
   go_simp
   replace HT := Lib.hid (HT.out.put g2 25 (.int .i64 (P.m.i 7)))
   clear dst dfz
   generalize hwg : World.setCell _ _ _ = Wu2 at HT ⊢
   clear hwg
   refine hK.out _ _ (⟨HT.out.c1, HT.out.c2, HT.out.c3, HT.out.c4, (HT.out.boxc (List.mem_cons_of_mem _ List.mem_cons_self) 6 rfl).1, (HT.out.boxc (List.mem_cons_of_mem _ List.mem_cons_self) 7 rfl).1⟩) (fun hHeld => ?_)
   clear hK K'
   try simp only [Act.put, p1, p2, p3]
   refine wpAnyH_done (by kernel_rfl) ?_ _
   go_upto_region 6 with fail
   have z22 := HT.out.at 17 rfl
   replace z22 : _ = (some (.int .i64 s.y.CK) : Option Value) := z22
   have z23 := HT.out.at 18 rfl
   replace z23 : _ = (some (.int .i64 s.y.K) : Option Value) := z23
   have z24 := HT.out.at 19 rfl
   replace z24 : _ = (some (.int .i64 s.y.H) : Option Value) := z24
   have z25 := HT.out.at 20 rfl
   replace z25 : _ = (some (.int .u64 s.y.N) : Option Value) := z25
   have z26 := HT.out.at 21 rfl
   replace z26 : _ = (some (.int .i64 s.peer) : Option Value) := z26
   have z27 := HT.out.at 22 rfl
   replace z27 : _ = (some (.int .i64 s.version) : Option Value) := z27
   have z28 := HT.out.at 23 rfl
   replace z28 : _ = (some (.int .u64 s.stamp) : Option Value) := z28
   have z29 := HT.out.at 24 rfl
   replace z29 : _ = (some (.int .i64 (P.m.i 6)) : Option Value) := z29
   have z30 := HT.out.at 25 rfl
   replace z30 : _ = (some (.int .i64 (P.m.i 7)) : Option Value) := z30
   have z31 := HT.out.at 26 rfl
   replace z31 : _ = (some (.int .i64 s.pub) : Option Value) := z31
   refine wp_region_lit ?_
   refine wpList_step (v := ?v60) (w' := ?w60) rfl ?h60 ?k60
   case h60 => (go_simp; refine ⟨?_, ?_⟩) <;> with_reducible rfl
   try simp only [Act.put, p1, p2, p3]
   refine wpList_step (v := ?v61) (w' := ?w61) rfl ?h61 ?k61
   case h61 => (go_simp; refine ⟨?_, ?_⟩) <;> with_reducible rfl
   try simp only [Act.put, p1, p2, p3]
   have hrow := HT.out.cs.kept (q + 1 + 1) opO2 (List.mem_cons_of_mem _ List.mem_cons_self)
   refine wpList_store_mid rfl 64 (.tmp 10) (.tmp 52) rfl (q + 1 + 1) 0 #[.int .i64 s.y.CK, .int .i64 s.y.K, .int .i64 s.y.H, .int .u64 s.y.N, .int .i64 s.peer, .int .i64 s.version, .int .u64 s.stamp, .int .i64 (P.m.i 6), .int .i64 (P.m.i 7), .int .i64 s.pub] rfl rfl (there_row hrow (by simp)) (by kernel_rfl) (by simp [Value.oneCell']) ?_
   try simp only [Act.put, p1, p2, p3]
   try simp only [List.toList_toArray]
   have hsub : ∀ x, x ∈ ((q + 1, (opO1 P)) :: (q, (opO0 P)) :: bs) → x ∈ ((q + 1 + 1, opO2) :: (q + 1, (opO1 P)) :: (q, (opO0 P)) :: bs) ∧ x.1 ≠ q + 1 + 1 := by
    intro x hx
    simp only [List.mem_cons] at hx ⊢
    rcases hx with rfl | rfl | hx
    ·exact ⟨by simp, by dsimp only; omega⟩
    ·exact ⟨by simp, by dsimp only; omega⟩
    ·exact ⟨by simp [hx], fun q => by have := HK.out x.1 x.2 hx; omega⟩
   have HR2 := Lib.hid (row_all [.int .i64 s.y.CK, .int .i64 s.y.K, .int .i64 s.y.H, .int .u64 s.y.N, .int .i64 s.peer, .int .i64 s.version, .int .u64 s.stamp, .int .i64 (P.m.i 6), .int .i64 (P.m.i 7), .int .i64 s.pub] hrow rfl)
   replace HT := Lib.hid (HT.out.writes g2 List.mem_cons_self (by have := HQ.out; omega) (chg_setCells (q + 1 + 1) [.int .i64 s.y.CK, .int .i64 s.y.K, .int .i64 s.y.H, .int .u64 s.y.N, .int .i64 s.peer, .int .i64 s.version, .int .u64 s.stamp, .int .i64 (P.m.i 6), .int .i64 (P.m.i 7), .int .i64 s.pub] 0 _) hsub)
   clear hrow hsub z22 z23 z24 z25 z26 z27 z28 z29 z30 z31
   generalize hwg : World.setCells _ _ _ _ = Wg1 at HT HR2 ⊢
   clear hwg
   refine wpList_step (v := ?v62) (w' := ?w62) rfl ?h62 ?k62
   case h62 => (go_simp; refine ⟨?_, ?_⟩) <;> with_reducible rfl
   try simp only [Act.put, p1, p2, p3]
   go_wp2_with fail
   have r2_0 := cell_of_row _ _ 0 _ _ _ HR2.out
   have r2_1 := cell_of_row _ _ 1 _ _ _ HR2.out
   have r2_2 := cell_of_row _ _ 2 _ _ _ HR2.out
   have r2_3 := cell_of_row _ _ 3 _ _ _ HR2.out
   have r2_4 := cell_of_row _ _ 4 _ _ _ HR2.out
   have r2_5 := cell_of_row _ _ 5 _ _ _ HR2.out
   have r2_6 := cell_of_row _ _ 6 _ _ _ HR2.out
   have r2_7 := cell_of_row _ _ 7 _ _ _ HR2.out
   have r2_8 := cell_of_row _ _ 8 _ _ _ HR2.out
   have r2_9 := cell_of_row _ _ 9 _ _ _ HR2.out
   simp at r2_0 r2_1 r2_2 r2_3 r2_4 r2_5 r2_6 r2_7 r2_8 r2_9
   exact bodyPost_ret (v := .tuple #[.agg #[.int .i64 s.y.CK, .int .i64 s.y.K, .int .i64 s.y.H, .int .u64 s.y.N, .int .i64 s.peer, .int .i64 s.version, .int .u64 s.stamp, .int .i64 (P.m.i 6), .int .i64 (P.m.i 7), .int .i64 s.pub], .int .i64 0]) (by simp [results, Tryz.results22, go_sem, r2_0, r2_1, r2_2, r2_3, r2_4, r2_5, r2_6, r2_7, r2_8, r2_9]) rfl ⟨rfl, HT.out.fall.less (fun x q => List.mem_cons_of_mem _ (List.mem_cons_of_mem _ (q)))⟩
  ·have HC := Lib.hid (((hC.drop g2 HEN.out.2.1 HEN.out.2.2 (chg_one u We.heap.size 0 (.int .i64 c)))).less (fun x q => List.mem_cons_of_mem _ q))
   have HSQ := Lib.hid hsq
   have hne : (c != 0) = true := by simpa using hc
   clear hsq hC hc
   generalize hwf : World.setCell _ _ _ = Wf at HC ⊢
   clear hwf HEN HRN
   have hw := HF.out
   rw [op_all P, HSQ.out] at hw
   injection hw with e1 hw
   injection hw with e2 e3
   subst e1 e2 e3
   clear HF HSQ
   go_upto_region 4 with fail
   refine wp_region_lit ?_
   refine wpList_step (v := ?v63) (w' := ?w63) rfl ?h63 ?k63
   case h63 => (go_simp; refine ⟨?_, ?_⟩) <;> with_reducible rfl
   try simp only [Act.put, p1, p2, p3]
   refine wpList_step (v := ?v64) (w' := ?w64) rfl ?h64 ?k64
   case h64 => (go_simp; refine ⟨?_, ?_⟩) <;> with_reducible rfl
   try simp only [Act.put, p1, p2, p3]
   have hrow := HC.out.kept (q + 1 + 1) opO2 List.mem_cons_self
   refine wpList_store_mid rfl 64 (.tmp 10) (.tmp 36) rfl (q + 1 + 1) 0 #[.int .i64 0, .int .i64 0, .int .i64 0, .int .u64 0, .int .i64 0, .int .i64 0, .int .u64 0, .int .i64 0, .int .i64 0, .int .i64 0] rfl rfl (there_row hrow (by simp)) (by kernel_rfl) (by simp [Value.oneCell']) ?_
   try simp only [Act.put, p1, p2, p3]
   try simp only [List.toList_toArray]
   have hsub : ∀ x, x ∈ ((q + 1, (opO1 P)) :: (q, (opO0 P)) :: bs) → x ∈ ((q + 1 + 1, opO2) :: (q + 1, (opO1 P)) :: (q, (opO0 P)) :: bs) ∧ x.1 ≠ q + 1 + 1 := by
    intro x hx
    simp only [List.mem_cons] at hx ⊢
    rcases hx with rfl | rfl | hx
    ·exact ⟨by simp, by dsimp only; omega⟩
    ·exact ⟨by simp, by dsimp only; omega⟩
    ·exact ⟨by simp [hx], fun q => by have := HK.out x.1 x.2 hx; omega⟩
   have HR2 := Lib.hid (row_all [.int .i64 0, .int .i64 0, .int .i64 0, .int .u64 0, .int .i64 0, .int .i64 0, .int .u64 0, .int .i64 0, .int .i64 0, .int .i64 0] hrow rfl)
   replace HC := Lib.hid (HC.out.writes g2 List.mem_cons_self (by have := HQ.out; omega) (chg_setCells (q + 1 + 1) [.int .i64 0, .int .i64 0, .int .i64 0, .int .u64 0, .int .i64 0, .int .i64 0, .int .u64 0, .int .i64 0, .int .i64 0, .int .i64 0] 0 _) hsub)
   clear hrow hsub
   generalize hwg : World.setCells _ _ _ _ = Wf1 at HC HR2 ⊢
   clear hwg
   refine wpList_step (v := ?v65) (w' := ?w65) rfl ?h65 ?k65
   case h65 => (go_simp; refine ⟨?_, ?_⟩) <;> with_reducible rfl
   try simp only [Act.put, p1, p2, p3]
   go_wp2_with fail
   have r2_0 := cell_of_row _ _ 0 _ _ _ HR2.out
   have r2_1 := cell_of_row _ _ 1 _ _ _ HR2.out
   have r2_2 := cell_of_row _ _ 2 _ _ _ HR2.out
   have r2_3 := cell_of_row _ _ 3 _ _ _ HR2.out
   have r2_4 := cell_of_row _ _ 4 _ _ _ HR2.out
   have r2_5 := cell_of_row _ _ 5 _ _ _ HR2.out
   have r2_6 := cell_of_row _ _ 6 _ _ _ HR2.out
   have r2_7 := cell_of_row _ _ 7 _ _ _ HR2.out
   have r2_8 := cell_of_row _ _ 8 _ _ _ HR2.out
   have r2_9 := cell_of_row _ _ 9 _ _ _ HR2.out
   simp at r2_0 r2_1 r2_2 r2_3 r2_4 r2_5 r2_6 r2_7 r2_8 r2_9
   exact bodyPost_ret (v := .tuple #[.agg #[.int .i64 0, .int .i64 0, .int .i64 0, .int .u64 0, .int .i64 0, .int .i64 0, .int .u64 0, .int .i64 0, .int .i64 0, .int .i64 0], .int .i64 c]) (by simp [results, Tryz.results22, go_sem, r2_0, r2_1, r2_2, r2_3, r2_4, r2_5, r2_6, r2_7, r2_8, r2_9]) rfl ⟨rfl, HC.out.less (fun x q => List.mem_cons_of_mem _ (List.mem_cons_of_mem _ (q)))⟩
end
end Go.Proofs.YtgeonppckeiceaaGreatDoor
