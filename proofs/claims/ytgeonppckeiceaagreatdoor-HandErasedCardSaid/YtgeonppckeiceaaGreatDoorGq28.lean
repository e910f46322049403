/- Finish of the program (by tools/stage17/calls.py). -/
/- Which messages may be, kind by kind. -/
/- What is encoded is decoded; what is decoded is encoded; what is cut off is too short. No program is named here. -/
/- Whole messages: encoded and decoded, cut off, with more behind them; two of them. No program is named here. -/
/- The program's calls in one form. -/
import Derived.Test.YtgeonppckeiceaaGreatDoorGq01
import Derived.Test.YtgeonppckeiceaaGreatDoorGq25
import Derived.Test.YtgeonppckeiceaaGreatDoorGq13
import Derived.Test.YtgeonppckeiceaaGreatDoorGq26
import Derived.Test.YtgeonppckeiceaaGreatDoorGq27
import Derived.Test.YtgeonppckeiceaaGreatDoorGq21
namespace Go.Proofs.YtgeonppckeiceaaGreatDoor
open Go.RowKit
set_option linter.unusedVariables false
set_option linter.unusedSimpArgs false
set_option maxRecDepth 20000
abbrev fiO0 (P : FiP) : Obj := .cells #[.int .i64 P.x1, .int .i64 P.x2] 33 (0, 0)
abbrev fiO1 (P : FiP) : Obj := .cells #[.int .i64 P.p.y.CK, .int .i64 P.p.y.K, .int .i64 P.p.y.H, .int .u64 P.p.y.N, .int .i64 P.p.e, .int .i64 P.p.ek, .string P.p.offer] 47 (0, 0)
abbrev fiO2 (P : FiP) : Obj := .cells #[.int .i64 (P.m.i 0), .int .u64 (P.m.i 1), .int .u64 (P.m.i 2), .string P.m.s, .int .i64 (P.m.i 4), .int .i64 (P.m.i 5), .int .i64 (P.m.i 6), .int .i64 (P.m.i 7), .int .i64 (P.m.i 8), .int .i64 (P.m.i 9), .int .i64 (P.m.i 10), .int .u64 (P.m.i 11), .int .u64 (P.m.i 12)] 25 (0, 0)
abbrev fiO3 : Obj := .cells #[.int .i64 0, .int .i64 0, .int .i64 0, .int .i64 0] 75 (0, 0)
section
variable {base g B : Nat} {most : Int} {Q2 : (Nat → Prop) → List Tm → World → Prop} {L L' L2 : List Tm} {bs : List (Nat × Obj)} {T : TypeId} {y : Sy} {w0 w w' : World}
set_option maxHeartbeats 4000000 in
theorem Cs.hfinish1 (g2 : Good base Q2) (h : Cs base (PSq base g most) Q2 L L2 bs w0 w) {P : FiP} {e : Int} {s' : Ses} (hh : I64 P.x1 ∧ P.p.y.Wf ∧ I64 P.p.e ∧ I64 P.p.ek ∧ Ms.Ms.Wf P.m ∧ I64 (P.m.i 6) ∧ I64 (P.m.i 8) ∧ I64 (P.m.i 9)) (hf : hFinish most L P.x1 P.p P.m = (s', e, L')) :
  Calls Tryz.prog 29 #[.pointer (some ⟨g, 0, none⟩), .agg #[.int .i64 P.x1, .int .i64 P.x2], .agg #[.int .i64 P.p.y.CK, .int .i64 P.p.y.K, .int .i64 P.p.y.H, .int .u64 P.p.y.N, .int .i64 P.p.e, .int .i64 P.p.ek, .string P.p.offer], .agg #[.int .i64 (P.m.i 0), .int .u64 (P.m.i 1), .int .u64 (P.m.i 2), .string P.m.s, .int .i64 (P.m.i 4), .int .i64 (P.m.i 5), .int .i64 (P.m.i 6), .int .i64 (P.m.i 7), .int .i64 (P.m.i 8), .int .i64 (P.m.i 9), .int .i64 (P.m.i 10), .int .u64 (P.m.i 11), .int .u64 (P.m.i 12)]] w fun e' w' => e' = .returned (.tuple #[s'.v, .int .i64 e]) ∧ Cs base (PSq base g most) Q2 L' L2 bs w0 w' := by
 have HHY := Lib.hid hh
 have HF := Lib.hid hf
 clear hh hf
 have gP := PSq.good base g most
 have HQ := Lib.hid h.pair.base_le
 have HK : Hid (∀ k o, (k, o) ∈ bs → k < w.heap.size) := Lib.hid (fun k o q => h.pair.klt k ⟨o, q⟩)
 have HC := Lib.hid ((((h.boxN gP g2 #[.int .i64 P.x1, .int .i64 P.x2] 33 (b := w.heap.size) rfl).boxN gP g2 #[.int .i64 P.p.y.CK, .int .i64 P.p.y.K, .int .i64 P.p.y.H, .int .u64 P.p.y.N, .int .i64 P.p.e, .int .i64 P.p.ek, .string P.p.offer] 47 (b := w.heap.size + 1) (by simp)).boxN gP g2 #[.int .i64 (P.m.i 0), .int .u64 (P.m.i 1), .int .u64 (P.m.i 2), .string P.m.s, .int .i64 (P.m.i 4), .int .i64 (P.m.i 5), .int .i64 (P.m.i 6), .int .i64 (P.m.i 7), .int .i64 (P.m.i 8), .int .i64 (P.m.i 9), .int .i64 (P.m.i 10), .int .u64 (P.m.i 11), .int .u64 (P.m.i 12)] 25 (b := w.heap.size + 1 + 1) (by simp)).boxN gP g2 #[.int .i64 0, .int .i64 0, .int .i64 0, .int .i64 0] 75 (b := w.heap.size + 1 + 1 + 1) (by simp))
 clear h
 go_enter Tryz.func29, Tryz.ntmps29
 go_upto_region 1 with fail
 generalize hwb : World.alloc _ _ = Wb at HC ⊢
 clear hwb
 generalize hq : w.heap.size = q at HC HK HQ ⊢
 clear hq
 have x0_0 := cell_of_row _ _ 0 _ _ _ (HC.out.kept (q) (fiO0 P) (List.mem_cons_of_mem _ (List.mem_cons_of_mem _ (List.mem_cons_of_mem _ List.mem_cons_self))))
 have x0_1 := cell_of_row _ _ 1 _ _ _ (HC.out.kept (q) (fiO0 P) (List.mem_cons_of_mem _ (List.mem_cons_of_mem _ (List.mem_cons_of_mem _ List.mem_cons_self))))
 simp at x0_0 x0_1
 have x1_0 := cell_of_row _ _ 0 _ _ _ (HC.out.kept (q + 1) (fiO1 P) (List.mem_cons_of_mem _ (List.mem_cons_of_mem _ List.mem_cons_self)))
 have x1_1 := cell_of_row _ _ 1 _ _ _ (HC.out.kept (q + 1) (fiO1 P) (List.mem_cons_of_mem _ (List.mem_cons_of_mem _ List.mem_cons_self)))
 have x1_2 := cell_of_row _ _ 2 _ _ _ (HC.out.kept (q + 1) (fiO1 P) (List.mem_cons_of_mem _ (List.mem_cons_of_mem _ List.mem_cons_self)))
 have x1_3 := cell_of_row _ _ 3 _ _ _ (HC.out.kept (q + 1) (fiO1 P) (List.mem_cons_of_mem _ (List.mem_cons_of_mem _ List.mem_cons_self)))
 have x1_4 := cell_of_row _ _ 4 _ _ _ (HC.out.kept (q + 1) (fiO1 P) (List.mem_cons_of_mem _ (List.mem_cons_of_mem _ List.mem_cons_self)))
 have x1_5 := cell_of_row _ _ 5 _ _ _ (HC.out.kept (q + 1) (fiO1 P) (List.mem_cons_of_mem _ (List.mem_cons_of_mem _ List.mem_cons_self)))
 have x1_6 := cell_of_row _ _ 6 _ _ _ (HC.out.kept (q + 1) (fiO1 P) (List.mem_cons_of_mem _ (List.mem_cons_of_mem _ List.mem_cons_self)))
 simp at x1_0 x1_1 x1_2 x1_3 x1_4 x1_5 x1_6
 have x2_0 := cell_of_row _ _ 0 _ _ _ (HC.out.kept (q + 1 + 1) (fiO2 P) (List.mem_cons_of_mem _ List.mem_cons_self))
 have x2_1 := cell_of_row _ _ 1 _ _ _ (HC.out.kept (q + 1 + 1) (fiO2 P) (List.mem_cons_of_mem _ List.mem_cons_self))
 have x2_2 := cell_of_row _ _ 2 _ _ _ (HC.out.kept (q + 1 + 1) (fiO2 P) (List.mem_cons_of_mem _ List.mem_cons_self))
 have x2_3 := cell_of_row _ _ 3 _ _ _ (HC.out.kept (q + 1 + 1) (fiO2 P) (List.mem_cons_of_mem _ List.mem_cons_self))
 have x2_4 := cell_of_row _ _ 4 _ _ _ (HC.out.kept (q + 1 + 1) (fiO2 P) (List.mem_cons_of_mem _ List.mem_cons_self))
 have x2_5 := cell_of_row _ _ 5 _ _ _ (HC.out.kept (q + 1 + 1) (fiO2 P) (List.mem_cons_of_mem _ List.mem_cons_self))
 have x2_6 := cell_of_row _ _ 6 _ _ _ (HC.out.kept (q + 1 + 1) (fiO2 P) (List.mem_cons_of_mem _ List.mem_cons_self))
 have x2_7 := cell_of_row _ _ 7 _ _ _ (HC.out.kept (q + 1 + 1) (fiO2 P) (List.mem_cons_of_mem _ List.mem_cons_self))
 have x2_8 := cell_of_row _ _ 8 _ _ _ (HC.out.kept (q + 1 + 1) (fiO2 P) (List.mem_cons_of_mem _ List.mem_cons_self))
 have x2_9 := cell_of_row _ _ 9 _ _ _ (HC.out.kept (q + 1 + 1) (fiO2 P) (List.mem_cons_of_mem _ List.mem_cons_self))
 have x2_10 := cell_of_row _ _ 10 _ _ _ (HC.out.kept (q + 1 + 1) (fiO2 P) (List.mem_cons_of_mem _ List.mem_cons_self))
 have x2_11 := cell_of_row _ _ 11 _ _ _ (HC.out.kept (q + 1 + 1) (fiO2 P) (List.mem_cons_of_mem _ List.mem_cons_self))
 have x2_12 := cell_of_row _ _ 12 _ _ _ (HC.out.kept (q + 1 + 1) (fiO2 P) (List.mem_cons_of_mem _ List.mem_cons_self))
 simp at x2_0 x2_1 x2_2 x2_3 x2_4 x2_5 x2_6 x2_7 x2_8 x2_9 x2_10 x2_11 x2_12
 refine wp_region_lit ?_
 refine wpList_step (v := ?v89) (w' := ?w89) rfl ?h89 ?k89
 case h89 => (go_simp; refine ⟨?_, ?_⟩) <;> with_reducible rfl
 try simp only [Act.put, p1, p2, p3]
 refine wpList_step (v := ?v90) (w' := ?w90) rfl ?h90 ?k90
 case h90 => (go_simp; refine ⟨?_, ?_⟩) <;> with_reducible rfl
 try simp only [Act.put, p1, p2, p3]
 refine wpList_step (v := ?v91) (w' := ?w91) rfl ?h91 ?k91
 case h91 => (go_simp; refine ⟨?_, ?_⟩) <;> with_reducible rfl
 try simp only [Act.put, p1, p2, p3]
 refine wpList_step (v := ?v92) (w' := ?w92) rfl ?h92 ?k92
 case h92 => (go_simp; refine ⟨?_, ?_⟩) <;> with_reducible rfl
 try simp only [Act.put, p1, p2, p3]
 refine wpList_step (v := ?v93) (w' := ?w93) rfl ?h93 ?k93
 case h93 => (go_simp; refine ⟨?_, ?_⟩) <;> with_reducible rfl
 try simp only [Act.put, p1, p2, p3]
 refine wpList_step (v := ?v94) (w' := ?w94) rfl ?h94 ?k94
 case h94 => (go_simp; refine ⟨?_, ?_⟩) <;> with_reducible rfl
 try simp only [Act.put, p1, p2, p3]
 refine wpList_step (v := ?v95) (w' := ?w95) rfl ?h95 ?k95
 case h95 => (go_simp; refine ⟨?_, ?_⟩) <;> with_reducible rfl
 try simp only [Act.put, p1, p2, p3]
 refine wpList_step (v := ?v96) (w' := ?w96) rfl ?h96 ?k96
 case h96 => (go_simp; refine ⟨?_, ?_⟩) <;> with_reducible rfl
 try simp only [Act.put, p1, p2, p3]
 refine wpList_step (v := ?v97) (w' := ?w97) rfl ?h97 ?k97
 case h97 => (go_simp; refine ⟨?_, ?_⟩) <;> with_reducible rfl
 try simp only [Act.put, p1, p2, p3]
 refine wpList_store_mid rfl 151 (.tmp 10) (.tmp 19) rfl Wb.heap.size 0 #[.pointer (some ⟨g, 0, none⟩), .int .i64 P.p.y.CK, .int .i64 P.p.y.K, .int .i64 P.p.y.H, .int .u64 P.p.y.N, .int .i64 P.x1, .int .i64 P.x2, .int .i64 P.p.y.CK, .int .i64 P.p.y.K, .int .i64 P.p.y.H, .int .u64 P.p.y.N, .int .i64 P.p.e, .int .i64 P.p.ek, .string P.p.offer, .int .i64 (P.m.i 0), .int .u64 (P.m.i 1), .int .u64 (P.m.i 2), .string P.m.s, .int .i64 (P.m.i 4), .int .i64 (P.m.i 5), .int .i64 (P.m.i 6), .int .i64 (P.m.i 7), .int .i64 (P.m.i 8), .int .i64 (P.m.i 9), .int .i64 (P.m.i 10), .int .u64 (P.m.i 11), .int .u64 (P.m.i 12), .int .i64 0, .int .i64 0, .int .i64 0, .int .i64 0] rfl rfl (there_row (heap_alloc_new _ _) (by simp)) (by kernel_rfl) (by simp [Value.oneCell']) ?_
 try simp only [Act.put, p1, p2, p3]
 clear x0_0 x0_1 x1_0 x1_1 x1_2 x1_3 x1_4 x1_5 x1_6 x2_0 x2_1 x2_2 x2_3 x2_4 x2_5 x2_6 x2_7 x2_8 x2_9 x2_10 x2_11 x2_12
 replace HC := Lib.hid (HC.out.talk2 g2 (t := 151) P.p.y [.int .i64 P.x1, .int .i64 P.x2, .int .i64 P.p.y.CK, .int .i64 P.p.y.K, .int .i64 P.p.y.H, .int .u64 P.p.y.N, .int .i64 P.p.e, .int .i64 P.p.ek, .string P.p.offer, .int .i64 (P.m.i 0), .int .u64 (P.m.i 1), .int .u64 (P.m.i 2), .string P.m.s, .int .i64 (P.m.i 4), .int .i64 (P.m.i 5), .int .i64 (P.m.i 6), .int .i64 (P.m.i 7), .int .i64 (P.m.i 8), .int .i64 (P.m.i 9), .int .i64 (P.m.i 10), .int .u64 (P.m.i 11), .int .u64 (P.m.i 12), .int .i64 0, .int .i64 0, .int .i64 0, .int .i64 0] (b := Wb.heap.size) rfl HHY.out.2.1 (zs := #[.pointer none, .int .i64 0, .int .i64 0, .int .i64 0, .int .u64 0, .int .i64 0, .int .i64 0, .int .i64 0, .int .i64 0, .int .i64 0, .int .u64 0, .int .i64 0, .int .i64 0, .string ⟨#[]⟩, .int .i64 0, .int .u64 0, .int .u64 0, .string ⟨#[]⟩, .int .i64 0, .int .i64 0, .int .i64 0, .int .i64 0, .int .i64 0, .int .i64 0, .int .i64 0, .int .u64 0, .int .u64 0, .int .i64 0, .int .i64 0, .int .i64 0, .int .i64 0]) (vs := [.pointer (some ⟨g, 0, none⟩), .int .i64 P.p.y.CK, .int .i64 P.p.y.K, .int .i64 P.p.y.H, .int .u64 P.p.y.N, .int .i64 P.x1, .int .i64 P.x2, .int .i64 P.p.y.CK, .int .i64 P.p.y.K, .int .i64 P.p.y.H, .int .u64 P.p.y.N, .int .i64 P.p.e, .int .i64 P.p.ek, .string P.p.offer, .int .i64 (P.m.i 0), .int .u64 (P.m.i 1), .int .u64 (P.m.i 2), .string P.m.s, .int .i64 (P.m.i 4), .int .i64 (P.m.i 5), .int .i64 (P.m.i 6), .int .i64 (P.m.i 7), .int .i64 (P.m.i 8), .int .i64 (P.m.i 9), .int .i64 (P.m.i 10), .int .u64 (P.m.i 11), .int .u64 (P.m.i 12), .int .i64 0, .int .i64 0, .int .i64 0, .int .i64 0]) rfl rfl)
 try simp only [List.toList_toArray]
 generalize hwc : World.setCells _ _ _ _ = Wc at HC ⊢
 clear hwc
 generalize hB : Wb.heap.size = B at HC ⊢
 clear hB
 have HT := HC
 clear HC
 go_upto_region 2 with fail
 obtain ⟨Wd, hwd⟩ : ∃ u, u = Wc := ⟨_, rfl⟩
 subst hwd
 replace HT : Hid (Tk base g most Q2 L L2 ((q + 1 + 1 + 1, fiO3) :: (q + 1 + 1, (fiO2 P)) :: (q + 1, (fiO1 P)) :: (q, (fiO0 P)) :: bs) B 151 P.p.y (P.rest P.start) w0 Wd) := Lib.hid HT.out
 have hmf : ∀ (fn : Fn) (first cap : Array Value) (w : World), (Instr.makeFunc fn first cap).run Tryz.prog w = .ok (.func fn first cap) w := fun _ _ _ _ => rfl
 go_wp2_with fail
 clear hmf
 obtain ⟨hbx, hbn⟩ := HT.out.box g2 #[.func (.func 95) #[.pointer (some ⟨B, 0, none⟩)] #[], .func (.func 96) #[.pointer (some ⟨B, 0, none⟩)] #[], .func (.func 97) #[.pointer (some ⟨B, 0, none⟩)] #[], .func (.func 98) #[.pointer (some ⟨B, 0, none⟩)] #[], .func (.func 99) #[.pointer (some ⟨B, 0, none⟩)] #[], .func (.func 100) #[.pointer (some ⟨B, 0, none⟩)] #[], .func (.func 101) #[.pointer (some ⟨B, 0, none⟩)] #[]] 1 (b := Wd.heap.size) rfl
 replace HT := Lib.hid hbx
 have HRN := Lib.hid hbn
 clear hbx hbn
 generalize hwe : World.alloc _ _ = We at HT ⊢
 clear hwe
 generalize hR : Wd.heap.size = R at HT HRN ⊢
 clear hR
 obtain ⟨hbe, hbn⟩ := HT.out.box g2 #[.int .i64 0] 34 (b := We.heap.size) rfl
 have HEN := Lib.hid hbn
 refine (turn_G (n := 7) (f := fun i => ([95, 96, 97, 98, 99, 100, 101] : List Nat).getD i 0) (ks := fiAll P) (t := .pointer (some ⟨B, 0, none⟩)) (most := most) (St := (fun i L s u => Tk base g most Q2 L L2 ((We.heap.size, errO 0) :: (R, (.cells #[.func (.func 95) #[.pointer (some ⟨B, 0, none⟩)] #[], .func (.func 96) #[.pointer (some ⟨B, 0, none⟩)] #[], .func (.func 97) #[.pointer (some ⟨B, 0, none⟩)] #[], .func (.func 98) #[.pointer (some ⟨B, 0, none⟩)] #[], .func (.func 99) #[.pointer (some ⟨B, 0, none⟩)] #[], .func (.func 100) #[.pointer (some ⟨B, 0, none⟩)] #[], .func (.func 101) #[.pointer (some ⟨B, 0, none⟩)] #[]] 1 (0, 0) : Obj)) :: (q + 1 + 1 + 1, fiO3) :: (q + 1 + 1, (fiO2 P)) :: (q + 1, (fiO1 P)) :: (q, (fiO0 P)) :: bs) B 151 s.y (P.rest s) w0 u)) (Fl := (fun L u => Cs base (PSq base g most) Q2 L L2 ((We.heap.size, errO 0) :: (R, (.cells #[.func (.func 95) #[.pointer (some ⟨B, 0, none⟩)] #[], .func (.func 96) #[.pointer (some ⟨B, 0, none⟩)] #[], .func (.func 97) #[.pointer (some ⟨B, 0, none⟩)] #[], .func (.func 98) #[.pointer (some ⟨B, 0, none⟩)] #[], .func (.func 99) #[.pointer (some ⟨B, 0, none⟩)] #[], .func (.func 100) #[.pointer (some ⟨B, 0, none⟩)] #[], .func (.func 101) #[.pointer (some ⟨B, 0, none⟩)] #[]] 1 (0, 0) : Obj)) :: (q + 1 + 1 + 1, fiO3) :: (q + 1 + 1, (fiO2 P)) :: (q + 1, (fiO1 P)) :: (q, (fiO0 P)) :: bs) w0 u)) (s0 := P.start) (L0 := L) rfl ?he ?hs R 0 7 We (by omega) ?h0 ?hrow ?hfr ?hbd).mono ?fin
 case he =>
  intro i hi args u
  match i, hi with
  | 0, _ => exact enters_of Tryz.func95 (by kernel_rfl) rfl args u
  | 1, _ => exact enters_of Tryz.func96 (by kernel_rfl) rfl args u
  | 2, _ => exact enters_of Tryz.func97 (by kernel_rfl) rfl args u
  | 3, _ => exact enters_of Tryz.func98 (by kernel_rfl) rfl args u
  | 4, _ => exact enters_of Tryz.func99 (by kernel_rfl) rfl args u
  | 5, _ => exact enters_of Tryz.func100 (by kernel_rfl) rfl args u
  | 6, _ => exact enters_of Tryz.func101 (by kernel_rfl) rfl args u
  | n + 7, h => omega
 case hs =>
  intro i k hk L s u hst
  match i, hk with
  | 0, hk =>
   obtain rfl : fiCheck P = k := Option.some.inj hk
   exact (fi_check g2 hst HHY.out.2.2.2.2.1).mono (fun e w' h => h.impE (fun L x w hE hx => hx) (fun L hx => hx))
  | 1, hk =>
   obtain rfl : fiHear P = k := Option.some.inj hk
   exact (fi_hearE g2 hst HHY.out.2.2.2.2.2.1).mono (fun e w' h => h.impE (fun L x w hE hx => hx) (fun L hx => hx))
  | 2, hk =>
   obtain rfl : fiMixE P = k := Option.some.inj hk
   exact (fi_mixE g2 hst HHY.out.2.2.1).mono (fun e w' h => h.impE (fun L x w hE hx => hx) (fun L hx => hx))
  | 3, hk =>
   obtain rfl : fiMixMe P = k := Option.some.inj hk
   exact (fi_mixMe g2 hst HHY.out.1).mono (fun e w' h => h.impE (fun L x w hE hx => hx) (fun L hx => hx))
  | 4, hk =>
   obtain rfl : fiUnwrap P = k := Option.some.inj hk
   exact (fi_unwrapSecret g2 hst HHY.out.2.2.2.1 HHY.out.2.2.2.2.2.2.1).mono (fun e w' h => h.impE (fun L x w hE hx => hx) (fun L hx => hx))
  | 5, hk =>
   obtain rfl : fiVersion P = k := Option.some.inj hk
   exact (fi_openVersion g2 hst HHY.out.2.2.2.2.2.2.2).mono (fun e w' h => h.impE (fun L x w hE hx => hx) (fun L hx => hx))
  | 6, hk =>
   obtain rfl : fiEnd P = k := Option.some.inj hk
   exact (fi_end g2 hst).mono (fun e w' h => h.impE (fun L x w hE hx => hx) (fun L hx => hx))
  | n + 7, hk => simp [fiAll] at hk
 case h0 => exact hbe
 case hrow =>
  intro i L s u hst hi
  match i, hi with
  | 0, _ => exact (hst.boxc (List.mem_cons_of_mem _ List.mem_cons_self) 0 rfl).1
  | 1, _ => exact (hst.boxc (List.mem_cons_of_mem _ List.mem_cons_self) 1 rfl).1
  | 2, _ => exact (hst.boxc (List.mem_cons_of_mem _ List.mem_cons_self) 2 rfl).1
  | 3, _ => exact (hst.boxc (List.mem_cons_of_mem _ List.mem_cons_self) 3 rfl).1
  | 4, _ => exact (hst.boxc (List.mem_cons_of_mem _ List.mem_cons_self) 4 rfl).1
  | 5, _ => exact (hst.boxc (List.mem_cons_of_mem _ List.mem_cons_self) 5 rfl).1
  | 6, _ => exact (hst.boxc (List.mem_cons_of_mem _ List.mem_cons_self) 6 rfl).1
  | n + 7, h => omega
 case hfr => intro i L s u hst; exact hst.boxc List.mem_cons_self 0 rfl
 case hbd => intro L u hc; exact ⟨by simp [World.cell?, hc.kept _ _ List.mem_cons_self], frz_of_row 0 (hc.kept _ _ List.mem_cons_self)⟩
 case fin =>
  clear HT hbe
  rintro e' w' (⟨s, L3, u, hsq, rfl, hT, rfl⟩ | ⟨c, L3, u, hsq, hc, rfl, hC, rfl⟩)
  ·have HT := Lib.hid ((hT.unbox g2 HEN.out (chg_one u We.heap.size 0 (.int .i64 0))).unbox0)
   have HSQ := Lib.hid hsq
   clear hsq hT
   generalize hwf : World.setCell _ _ _ = Wf at HT ⊢
   clear hwf HEN HRN
   have hw := HF.out
   rw [fi_all P, HSQ.out] at hw
   injection hw with e1 hw
   injection hw with e2 e3
   subst e1 e2 e3
   clear HF HSQ
   go_upto_region 5 with fail
   have z27 := HT.out.at 22 rfl
   replace z27 : _ = (some (.int .i64 s.h) : Option Value) := z27
   have z28 := HT.out.at 23 rfl
   replace z28 : _ = (some (.int .i64 s.send) : Option Value) := z28
   have z29 := HT.out.at 24 rfl
   replace z29 : _ = (some (.int .i64 s.recv) : Option Value) := z29
   have z30 := HT.out.at 25 rfl
   replace z30 : _ = (some (.int .i64 s.version) : Option Value) := z30
   refine wp_region_lit ?_
   refine wpList_step (v := ?v98) (w' := ?w98) rfl ?h98 ?k98
   case h98 => (go_simp; refine ⟨?_, ?_⟩) <;> with_reducible rfl
   try simp only [Act.put, p1, p2, p3]
   refine wpList_step (v := ?v99) (w' := ?w99) rfl ?h99 ?k99
   case h99 => (go_simp; refine ⟨?_, ?_⟩) <;> with_reducible rfl
   try simp only [Act.put, p1, p2, p3]
   have hrow := HT.out.cs.kept (q + 1 + 1 + 1) fiO3 (List.mem_cons_of_mem _ List.mem_cons_self)
   refine wpList_store_mid rfl 75 (.tmp 8) (.tmp 34) rfl (q + 1 + 1 + 1) 0 #[.int .i64 s.h, .int .i64 s.send, .int .i64 s.recv, .int .i64 s.version] rfl rfl (there_row hrow (by simp)) (by kernel_rfl) (by simp [Value.oneCell']) ?_
   try simp only [Act.put, p1, p2, p3]
   try simp only [List.toList_toArray]
   have hsub : ∀ x, x ∈ ((q + 1 + 1, (fiO2 P)) :: (q + 1, (fiO1 P)) :: (q, (fiO0 P)) :: bs) → x ∈ ((q + 1 + 1 + 1, fiO3) :: (q + 1 + 1, (fiO2 P)) :: (q + 1, (fiO1 P)) :: (q, (fiO0 P)) :: bs) ∧ x.1 ≠ q + 1 + 1 + 1 := by
    intro x hx
    simp only [List.mem_cons] at hx ⊢
    rcases hx with rfl | rfl | rfl | hx
    ·exact ⟨by simp, by dsimp only; omega⟩
    ·exact ⟨by simp, by dsimp only; omega⟩
    ·exact ⟨by simp, by dsimp only; omega⟩
    ·exact ⟨by simp [hx], fun q => by have := HK.out x.1 x.2 hx; omega⟩
   have HR3 := Lib.hid (row_all [.int .i64 s.h, .int .i64 s.send, .int .i64 s.recv, .int .i64 s.version] hrow rfl)
   replace HT := Lib.hid (HT.out.writes g2 List.mem_cons_self (by have := HQ.out; omega) (chg_setCells (q + 1 + 1 + 1) [.int .i64 s.h, .int .i64 s.send, .int .i64 s.recv, .int .i64 s.version] 0 _) hsub)
   clear hrow hsub z27 z28 z29 z30
   generalize hwg : World.setCells _ _ _ _ = Wg1 at HT HR3 ⊢
   clear hwg
   refine wpList_step (v := ?v100) (w' := ?w100) rfl ?h100 ?k100
   case h100 => (go_simp; refine ⟨?_, ?_⟩) <;> with_reducible rfl
   try simp only [Act.put, p1, p2, p3]
   go_wp2_with fail
   have r3_0 := cell_of_row _ _ 0 _ _ _ HR3.out
   have r3_1 := cell_of_row _ _ 1 _ _ _ HR3.out
   have r3_2 := cell_of_row _ _ 2 _ _ _ HR3.out
   have r3_3 := cell_of_row _ _ 3 _ _ _ HR3.out
   simp at r3_0 r3_1 r3_2 r3_3
   exact bodyPost_ret (v := .tuple #[.agg #[.int .i64 s.h, .int .i64 s.send, .int .i64 s.recv, .int .i64 s.version], .int .i64 0]) (by simp [results, Tryz.results29, go_sem, r3_0, r3_1, r3_2, r3_3]) rfl ⟨rfl, HT.out.fall.less (fun x q => List.mem_cons_of_mem _ (List.mem_cons_of_mem _ (List.mem_cons_of_mem _ (q))))⟩
  ·have HC := Lib.hid (((hC.drop g2 HEN.out.2.1 HEN.out.2.2 (chg_one u We.heap.size 0 (.int .i64 c)))).less (fun x q => List.mem_cons_of_mem _ q))
   have HSQ := Lib.hid hsq
   have hne : (c != 0) = true := by simpa using hc
   clear hsq hC hc
   generalize hwf : World.setCell _ _ _ = Wf at HC ⊢
   clear hwf HEN HRN
   have hw := HF.out
   rw [fi_all P, HSQ.out] at hw
   injection hw with e1 hw
   injection hw with e2 e3
   subst e1 e2 e3
   clear HF HSQ
   go_upto_region 4 with fail
   refine wp_region_lit ?_
   refine wpList_step (v := ?v101) (w' := ?w101) rfl ?h101 ?k101
   case h101 => (go_simp; refine ⟨?_, ?_⟩) <;> with_reducible rfl
   try simp only [Act.put, p1, p2, p3]
   refine wpList_step (v := ?v102) (w' := ?w102) rfl ?h102 ?k102
   case h102 => (go_simp; refine ⟨?_, ?_⟩) <;> with_reducible rfl
   try simp only [Act.put, p1, p2, p3]
   have hrow := HC.out.kept (q + 1 + 1 + 1) fiO3 List.mem_cons_self
   refine wpList_store_mid rfl 75 (.tmp 8) (.tmp 31) rfl (q + 1 + 1 + 1) 0 #[.int .i64 0, .int .i64 0, .int .i64 0, .int .i64 0] rfl rfl (there_row hrow (by simp)) (by kernel_rfl) (by simp [Value.oneCell']) ?_
   try simp only [Act.put, p1, p2, p3]
   try simp only [List.toList_toArray]
   have hsub : ∀ x, x ∈ ((q + 1 + 1, (fiO2 P)) :: (q + 1, (fiO1 P)) :: (q, (fiO0 P)) :: bs) → x ∈ ((q + 1 + 1 + 1, fiO3) :: (q + 1 + 1, (fiO2 P)) :: (q + 1, (fiO1 P)) :: (q, (fiO0 P)) :: bs) ∧ x.1 ≠ q + 1 + 1 + 1 := by
    intro x hx
    simp only [List.mem_cons] at hx ⊢
    rcases hx with rfl | rfl | rfl | hx
    ·exact ⟨by simp, by dsimp only; omega⟩
    ·exact ⟨by simp, by dsimp only; omega⟩
    ·exact ⟨by simp, by dsimp only; omega⟩
    ·exact ⟨by simp [hx], fun q => by have := HK.out x.1 x.2 hx; omega⟩
   have HR3 := Lib.hid (row_all [.int .i64 0, .int .i64 0, .int .i64 0, .int .i64 0] hrow rfl)
   replace HC := Lib.hid (HC.out.writes g2 List.mem_cons_self (by have := HQ.out; omega) (chg_setCells (q + 1 + 1 + 1) [.int .i64 0, .int .i64 0, .int .i64 0, .int .i64 0] 0 _) hsub)
   clear hrow hsub
   generalize hwg : World.setCells _ _ _ _ = Wf1 at HC HR3 ⊢
   clear hwg
   refine wpList_step (v := ?v103) (w' := ?w103) rfl ?h103 ?k103
   case h103 => (go_simp; refine ⟨?_, ?_⟩) <;> with_reducible rfl
   try simp only [Act.put, p1, p2, p3]
   go_wp2_with fail
   have r3_0 := cell_of_row _ _ 0 _ _ _ HR3.out
   have r3_1 := cell_of_row _ _ 1 _ _ _ HR3.out
   have r3_2 := cell_of_row _ _ 2 _ _ _ HR3.out
   have r3_3 := cell_of_row _ _ 3 _ _ _ HR3.out
   simp at r3_0 r3_1 r3_2 r3_3
   exact bodyPost_ret (v := .tuple #[.agg #[.int .i64 0, .int .i64 0, .int .i64 0, .int .i64 0], .int .i64 c]) (by simp [results, Tryz.results29, go_sem, r3_0, r3_1, r3_2, r3_3]) rfl ⟨rfl, HC.out.less (fun x q => List.mem_cons_of_mem _ (List.mem_cons_of_mem _ (List.mem_cons_of_mem _ (q))))⟩
end
end Go.Proofs.YtgeonppckeiceaaGreatDoor
namespace Go.Proofs.YtgeonppckeiceaaGreatDoor.Ms
open Go.RowKit
set_option linter.unusedVariables false
set_option linter.unusedSimpArgs false
set_option maxRecDepth 20000
theorem go1 (M : Ms) : goR (fds 1) M = (if inIv 1 4294967296 (M.i 1) = true then if rightB M.s.data.toList = true then if inIv 0 1 (M.i 4) = true then if inIv 1 1048576 (M.i 6) = true then if inIv 1 1048576 (M.i 7) = true then if inIv 1 1048576 (M.i 8) = true then if inIv 1 1048576 (M.i 9) = true then if inIv 1 1048576 (M.i 10) = true then some ((((((((M.set 1 0).setS ByteArray.empty).set 4 0).set 6 0).set 7 0).set 8 0).set 9 0).set 10 0) else none else none else none else none else none else none else none else none) := rfl
theorem end1 (M : Ms) (hk : M.i 0 = 1) : eqM ((((((((M.set 1 0).setS ByteArray.empty).set 4 0).set 6 0).set 7 0).set 8 0).set 9 0).set 10 0) (zeroM (((((((((M.set 1 0).setS ByteArray.empty).set 4 0).set 6 0).set 7 0).set 8 0).set 9 0).set 10 0).i 0)) = true ↔ M.i 2 = 0 ∧ M.i 5 = 0 ∧ M.i 11 = 0 ∧ M.i 12 = 0 := by
 show (M.i 0 == M.i 0 && ((0 : Int) == 0 && (M.i 2 == 0 && (ByteArray.empty.toList == ByteArray.empty.toList && ((0 : Int) == 0 && (M.i 5 == 0 && ((0 : Int) == 0 && ((0 : Int) == 0 && ((0 : Int) == 0 && ((0 : Int) == 0 && ((0 : Int) == 0 && (M.i 11 == 0 && (M.i 12 == 0))))))))))))) = true ↔ _
 simp only [Bool.and_eq_true, beq_iff_eq, toList_iff, true_and, and_true]
set_option maxHeartbeats 1000000 in
theorem right1_iff (M : Ms) (hk : M.i 0 = 1) : rightM M = true ↔ inIv 1 4294967296 (M.i 1) = true ∧ rightB M.s.data.toList = true ∧ inIv 0 1 (M.i 4) = true ∧ inIv 1 1048576 (M.i 6) = true ∧ inIv 1 1048576 (M.i 7) = true ∧ inIv 1 1048576 (M.i 8) = true ∧ inIv 1 1048576 (M.i 9) = true ∧ inIv 1 1048576 (M.i 10) = true ∧ M.i 2 = 0 ∧ M.i 5 = 0 ∧ M.i 11 = 0 ∧ M.i 12 = 0 := by
 rw [right_go (by rw [hk]; simp [fds]), hk, go1]
 constructor
 ·intro h
  by_cases h0 : inIv 1 4294967296 (M.i 1) = true
  case neg => rw [if_neg h0] at h; cases h
  rw [if_pos h0] at h
  by_cases h1 : rightB M.s.data.toList = true
  case neg => rw [if_neg h1] at h; cases h
  rw [if_pos h1] at h
  by_cases h2 : inIv 0 1 (M.i 4) = true
  case neg => rw [if_neg h2] at h; cases h
  rw [if_pos h2] at h
  by_cases h3 : inIv 1 1048576 (M.i 6) = true
  case neg => rw [if_neg h3] at h; cases h
  rw [if_pos h3] at h
  by_cases h4 : inIv 1 1048576 (M.i 7) = true
  case neg => rw [if_neg h4] at h; cases h
  rw [if_pos h4] at h
  by_cases h5 : inIv 1 1048576 (M.i 8) = true
  case neg => rw [if_neg h5] at h; cases h
  rw [if_pos h5] at h
  by_cases h6 : inIv 1 1048576 (M.i 9) = true
  case neg => rw [if_neg h6] at h; cases h
  rw [if_pos h6] at h
  by_cases h7 : inIv 1 1048576 (M.i 10) = true
  case neg => rw [if_neg h7] at h; cases h
  rw [if_pos h7] at h
  exact ⟨h0, h1, h2, h3, h4, h5, h6, h7, (end1 M hk).1 h⟩
 ·rintro ⟨h0, h1, h2, h3, h4, h5, h6, h7, h⟩
  rw [if_pos h0, if_pos h1, if_pos h2, if_pos h3, if_pos h4, if_pos h5, if_pos h6, if_pos h7]
  exact (end1 M hk).2 h
theorem go2 (M : Ms) : goR (fds 2) M = (if inIv 1 4294967296 (M.i 1) = true then if inIv 1 4294967296 (M.i 2) = true then if inIv 1 1048576 (M.i 6) = true then if inIv 1 1048576 (M.i 8) = true then if inIv 1 1048576 (M.i 9) = true then some (((((M.set 1 0).set 2 0).set 6 0).set 8 0).set 9 0) else none else none else none else none else none) := rfl
theorem end2 (M : Ms) (hk : M.i 0 = 2) : eqM (((((M.set 1 0).set 2 0).set 6 0).set 8 0).set 9 0) (zeroM ((((((M.set 1 0).set 2 0).set 6 0).set 8 0).set 9 0).i 0)) = true ↔ M.s = ByteArray.empty ∧ M.i 4 = 0 ∧ M.i 5 = 0 ∧ M.i 7 = 0 ∧ M.i 10 = 0 ∧ M.i 11 = 0 ∧ M.i 12 = 0 := by
 show (M.i 0 == M.i 0 && ((0 : Int) == 0 && ((0 : Int) == 0 && (M.s.toList == ByteArray.empty.toList && (M.i 4 == 0 && (M.i 5 == 0 && ((0 : Int) == 0 && (M.i 7 == 0 && ((0 : Int) == 0 && ((0 : Int) == 0 && (M.i 10 == 0 && (M.i 11 == 0 && (M.i 12 == 0))))))))))))) = true ↔ _
 simp only [Bool.and_eq_true, beq_iff_eq, toList_iff, true_and, and_true]
set_option maxHeartbeats 1000000 in
theorem right2_iff (M : Ms) (hk : M.i 0 = 2) : rightM M = true ↔ inIv 1 4294967296 (M.i 1) = true ∧ inIv 1 4294967296 (M.i 2) = true ∧ inIv 1 1048576 (M.i 6) = true ∧ inIv 1 1048576 (M.i 8) = true ∧ inIv 1 1048576 (M.i 9) = true ∧ M.s = ByteArray.empty ∧ M.i 4 = 0 ∧ M.i 5 = 0 ∧ M.i 7 = 0 ∧ M.i 10 = 0 ∧ M.i 11 = 0 ∧ M.i 12 = 0 := by
 rw [right_go (by rw [hk]; simp [fds]), hk, go2]
 constructor
 ·intro h
  by_cases h0 : inIv 1 4294967296 (M.i 1) = true
  case neg => rw [if_neg h0] at h; cases h
  rw [if_pos h0] at h
  by_cases h1 : inIv 1 4294967296 (M.i 2) = true
  case neg => rw [if_neg h1] at h; cases h
  rw [if_pos h1] at h
  by_cases h2 : inIv 1 1048576 (M.i 6) = true
  case neg => rw [if_neg h2] at h; cases h
  rw [if_pos h2] at h
  by_cases h3 : inIv 1 1048576 (M.i 8) = true
  case neg => rw [if_neg h3] at h; cases h
  rw [if_pos h3] at h
  by_cases h4 : inIv 1 1048576 (M.i 9) = true
  case neg => rw [if_neg h4] at h; cases h
  rw [if_pos h4] at h
  exact ⟨h0, h1, h2, h3, h4, (end2 M hk).1 h⟩
 ·rintro ⟨h0, h1, h2, h3, h4, h⟩
  rw [if_pos h0, if_pos h1, if_pos h2, if_pos h3, if_pos h4]
  exact (end2 M hk).2 h
theorem go3 (M : Ms) : goR (fds 3) M = (if inIv 1 4294967296 (M.i 2) = true then if inIv 1 15 (M.i 5) = true then some ((M.set 2 0).set 5 0) else none else none) := rfl
theorem end3 (M : Ms) (hk : M.i 0 = 3) : eqM ((M.set 2 0).set 5 0) (zeroM (((M.set 2 0).set 5 0).i 0)) = true ↔ M.i 1 = 0 ∧ M.s = ByteArray.empty ∧ M.i 4 = 0 ∧ M.i 6 = 0 ∧ M.i 7 = 0 ∧ M.i 8 = 0 ∧ M.i 9 = 0 ∧ M.i 10 = 0 ∧ M.i 11 = 0 ∧ M.i 12 = 0 := by
 show (M.i 0 == M.i 0 && (M.i 1 == 0 && ((0 : Int) == 0 && (M.s.toList == ByteArray.empty.toList && (M.i 4 == 0 && ((0 : Int) == 0 && (M.i 6 == 0 && (M.i 7 == 0 && (M.i 8 == 0 && (M.i 9 == 0 && (M.i 10 == 0 && (M.i 11 == 0 && (M.i 12 == 0))))))))))))) = true ↔ _
 simp only [Bool.and_eq_true, beq_iff_eq, toList_iff, true_and, and_true]
set_option maxHeartbeats 1000000 in
theorem right3_iff (M : Ms) (hk : M.i 0 = 3) : rightM M = true ↔ inIv 1 4294967296 (M.i 2) = true ∧ inIv 1 15 (M.i 5) = true ∧ M.i 1 = 0 ∧ M.s = ByteArray.empty ∧ M.i 4 = 0 ∧ M.i 6 = 0 ∧ M.i 7 = 0 ∧ M.i 8 = 0 ∧ M.i 9 = 0 ∧ M.i 10 = 0 ∧ M.i 11 = 0 ∧ M.i 12 = 0 := by
 rw [right_go (by rw [hk]; simp [fds]), hk, go3]
 constructor
 ·intro h
  by_cases h0 : inIv 1 4294967296 (M.i 2) = true
  case neg => rw [if_neg h0] at h; cases h
  rw [if_pos h0] at h
  by_cases h1 : inIv 1 15 (M.i 5) = true
  case neg => rw [if_neg h1] at h; cases h
  rw [if_pos h1] at h
  exact ⟨h0, h1, (end3 M hk).1 h⟩
 ·rintro ⟨h0, h1, h⟩
  rw [if_pos h0, if_pos h1]
  exact (end3 M hk).2 h
theorem go4 (M : Ms) : goR (fds 4) M = (if inIv 1 4294967296 (M.i 2) = true then if inIv 0 1000 (M.i 11) = true then if inIv 0 255 (M.i 12) = true then if inIv 1 1048576 (M.i 9) = true then some ((((M.set 2 0).set 11 0).set 12 0).set 9 0) else none else none else none else none) := rfl
theorem end4 (M : Ms) (hk : M.i 0 = 4) : eqM ((((M.set 2 0).set 11 0).set 12 0).set 9 0) (zeroM (((((M.set 2 0).set 11 0).set 12 0).set 9 0).i 0)) = true ↔ M.i 1 = 0 ∧ M.s = ByteArray.empty ∧ M.i 4 = 0 ∧ M.i 5 = 0 ∧ M.i 6 = 0 ∧ M.i 7 = 0 ∧ M.i 8 = 0 ∧ M.i 10 = 0 := by
 show (M.i 0 == M.i 0 && (M.i 1 == 0 && ((0 : Int) == 0 && (M.s.toList == ByteArray.empty.toList && (M.i 4 == 0 && (M.i 5 == 0 && (M.i 6 == 0 && (M.i 7 == 0 && (M.i 8 == 0 && ((0 : Int) == 0 && (M.i 10 == 0 && ((0 : Int) == 0 && ((0 : Int) == 0))))))))))))) = true ↔ _
 simp only [Bool.and_eq_true, beq_iff_eq, toList_iff, true_and, and_true]
set_option maxHeartbeats 1000000 in
theorem right4_iff (M : Ms) (hk : M.i 0 = 4) : rightM M = true ↔ inIv 1 4294967296 (M.i 2) = true ∧ inIv 0 1000 (M.i 11) = true ∧ inIv 0 255 (M.i 12) = true ∧ inIv 1 1048576 (M.i 9) = true ∧ M.i 1 = 0 ∧ M.s = ByteArray.empty ∧ M.i 4 = 0 ∧ M.i 5 = 0 ∧ M.i 6 = 0 ∧ M.i 7 = 0 ∧ M.i 8 = 0 ∧ M.i 10 = 0 := by
 rw [right_go (by rw [hk]; simp [fds]), hk, go4]
 constructor
 ·intro h
  by_cases h0 : inIv 1 4294967296 (M.i 2) = true
  case neg => rw [if_neg h0] at h; cases h
  rw [if_pos h0] at h
  by_cases h1 : inIv 0 1000 (M.i 11) = true
  case neg => rw [if_neg h1] at h; cases h
  rw [if_pos h1] at h
  by_cases h2 : inIv 0 255 (M.i 12) = true
  case neg => rw [if_neg h2] at h; cases h
  rw [if_pos h2] at h
  by_cases h3 : inIv 1 1048576 (M.i 9) = true
  case neg => rw [if_neg h3] at h; cases h
  rw [if_pos h3] at h
  exact ⟨h0, h1, h2, h3, (end4 M hk).1 h⟩
 ·rintro ⟨h0, h1, h2, h3, h⟩
  rw [if_pos h0, if_pos h1, if_pos h2, if_pos h3]
  exact (end4 M hk).2 h
end Go.Proofs.YtgeonppckeiceaaGreatDoor.Ms
namespace Go.Proofs.YtgeonppckeiceaaGreatDoor.Ms
open Go.RowKit
set_option linter.unusedVariables false
set_option linter.unusedSimpArgs false
set_option maxRecDepth 20000
theorem right_oks {M : Ms} (h : rightM M = true) : ∀ f, f ∈ fds (M.i 0) → f.ok M = true := by
 rcases fds_cases (M.i 0) with e | e | e | e | ⟨_, _, _, _, e⟩
 ·obtain ⟨h1, h2, h3, h4, h5, h6, h7, h8, _⟩ := (right1_iff M e).1 h
  intro f hf
  rw [e] at hf
  simp only [fds, List.mem_cons, List.not_mem_nil, or_false] at hf
  rcases hf with rfl | rfl | rfl | rfl | rfl | rfl | rfl | rfl <;> simp only [Fd.ok] <;> assumption
 ·obtain ⟨h1, h2, h3, h4, h5, _⟩ := (right2_iff M e).1 h
  intro f hf
  rw [e] at hf
  simp only [fds, List.mem_cons, List.not_mem_nil, or_false] at hf
  rcases hf with rfl | rfl | rfl | rfl | rfl <;> simp only [Fd.ok] <;> assumption
 ·obtain ⟨h1, h2, _⟩ := (right3_iff M e).1 h
  intro f hf
  rw [e] at hf
  simp only [fds, List.mem_cons, List.not_mem_nil, or_false] at hf
  rcases hf with rfl | rfl <;> simp only [Fd.ok] <;> assumption
 ·obtain ⟨h1, h2, h3, h4, _⟩ := (right4_iff M e).1 h
  intro f hf
  rw [e] at hf
  simp only [fds, List.mem_cons, List.not_mem_nil, or_false] at hf
  rcases hf with rfl | rfl | rfl | rfl <;> simp only [Fd.ok] <;> assumption
 ·rw [right_nofds e] at h; cases h
end Go.Proofs.YtgeonppckeiceaaGreatDoor.Ms
namespace Go.Proofs.YtgeonppckeiceaaGreatDoor
open Go.RowKit
set_option linter.unusedVariables false
set_option linter.unusedSimpArgs false
theorem right_slot {m : Mg} (h : Ms.rightM m = true) (h0 : m.i 0 = 1) : m.i 4 = 0 ∨ m.i 4 = 1 := by
 have := Ms.right_oks h (.int 4 0 1) (by rw [h0]; simp [Ms.fds])
 simp [Ms.Fd.ok, Ms.inIv] at this
 omega
theorem initM_wf {fr slot e ek box c1 c2 : Int} {offer : ByteArray} (hf : U64 fr) (hs : I64 slot) (h1 : I64 e) (h2 : I64 ek) (h3 : I64 box) (h4 : I64 c1) (h5 : I64 c2) (ho : offer.size ≤ maxLen) : Ms.Ms.Wf (initM fr offer slot e ek box c1 c2) := by
 refine ⟨fun j hj => ?_, ho⟩
 have hlt : j < 13 := by simp [Ms.nCell] at hj; exact hj.1
 have z : U64 0 := u64_small (by omega) (by omega)
 match j, hj with
 | 0, _ => exact i64_small (x := 1) (by omega) (by omega)
 | 1, _ => exact hf
 | 2, _ => exact z
 | 3, h => simp [Ms.nCell] at h
 | 4, _ => exact hs
 | 5, _ => exact k0
 | 6, _ => exact h1
 | 7, _ => exact h2
 | 8, _ => exact h3
 | 9, _ => exact h4
 | 10, _ => exact h5
 | 11, _ => exact z
 | 12, _ => exact z
 | n + 13, _ => omega
theorem respM_wf {fr tt e box c1 : Int} (hf : U64 fr) (ht : U64 tt) (h1 : I64 e) (h3 : I64 box) (h4 : I64 c1) : Ms.Ms.Wf (respM fr tt e box c1) := by
 refine ⟨fun j hj => ?_, Nat.zero_le _⟩
 have hlt : j < 13 := by simp [Ms.nCell] at hj; exact hj.1
 have z : U64 0 := u64_small (by omega) (by omega)
 match j, hj with
 | 0, _ => exact i64_small (x := 2) (by omega) (by omega)
 | 1, _ => exact hf
 | 2, _ => exact ht
 | 3, h => simp [Ms.nCell] at h
 | 4, _ => exact k0
 | 5, _ => exact k0
 | 6, _ => exact h1
 | 7, _ => exact k0
 | 8, _ => exact h3
 | 9, _ => exact h4
 | 10, _ => exact k0
 | 11, _ => exact z
 | 12, _ => exact z
 | n + 13, _ => omega
section
variable {base g : Nat} {most : Int} {Q2 : (Nat → Prop) → List Tm → World → Prop} {L L' L2 : List Tm} {bs : List (Nat × Obj)} {w0 w : World}
theorem Cs.hbegin (g2 : Good base Q2) (h : Cs base (PSq base g most) Q2 L L2 bs w0 w) {a1 a2 d0 d1 d2 e : Int} {p : Pr} {m0 m : Mg} {pn : Pnd} {stamp : Nat} (h1 : I64 a1) (h2 : I64 a2) (hp : p.Wf) (hm : Ms.Ms.Wf m0) (hst : (stamp : Int) ≤ 18446744073709551615) (h3 : I64 d0) (h4 : I64 d1) (h5 : I64 d2)
  (hf : hBegin most L (a1, a2) p (m0.i 1) m0.s (m0.i 4) stamp d0 d1 d2 = (m, pn, e, L')) :
  Calls Tryz.prog 17 #[.pointer (some ⟨g, 0, none⟩), .agg #[.int .i64 a1, .int .i64 a2], p.v, m0.v, .int .u64 stamp, .agg #[.int .i64 d0, .int .i64 d1, .int .i64 d2]] w fun e' w' => e' = .returned (.tuple #[m.v, pn.v, .int .i64 e]) ∧ Cs base (PSq base g most) Q2 L' L2 bs w0 w' := by
 have hz : (Ms.putS stamp).size ≤ maxLen := by
  have a := Ms.putS_size stamp hst
  have : (1000 : Nat) ≤ maxLen := by decide
  omega
 have := h.hbegin1 g2 (P := ⟨a1, a2, p, m0.i 1, m0.s, m0.i 4, stamp, d0, d1, d2⟩) (f0 := m0.i 0) (f2 := m0.i 2) (f5 := m0.i 5) (f6 := m0.i 6) (f7 := m0.i 7) (f8 := m0.i 8) (f9 := m0.i 9) (f10 := m0.i 10) (f11 := m0.i 11) (f12 := m0.i 12)
  ⟨hm.s, hp.1, hp.2.1, h3, h4, h5, h1, ⟨hp.2.2.1, hp.2.2.2⟩, hst, hz, fun s hs => initM_wf (hm.n 1 rfl) (hm.n 4 rfl) hs.1 hs.2.1 hs.2.2.1 hs.2.2.2.1 hs.2.2.2.2 hm.s⟩ hf
 exact this
theorem Cs.hopen (g2 : Good base Q2) (h : Cs base (PSq base g most) Q2 L L2 bs w0 w) {x y e : Int} {ps : List Pr} {a : Option Addr} {n cap : Nat} {offer : ByteArray} {m : Mg} {o : Opd} (h1 : I64 x) (h2 : I64 y) (hn : n = ps.length) (hl : n ≤ 1000000) (hr : RowB bs a ps) (hw : ∀ p, p ∈ ps → p.Wf) (ho : offer.size ≤ maxLen) (hm : Ms.Ms.Wf m)
  (hf : hOpen most L (x, y) ps offer m = (o, e, L')) :
  Calls Tryz.prog 22 #[.pointer (some ⟨g, 0, none⟩), .agg #[.int .i64 x, .int .i64 y], .slice a n cap, .string offer, m.v] w fun e' w' => e' = .returned (.tuple #[o.v, .int .i64 e]) ∧ Cs base (PSq base g most) Q2 L' L2 bs w0 w' :=
 h.hopen1 g2 (P := ⟨x, y, a, n, cap, offer, m, ps⟩) ⟨h1, h2, hm.s, hm, ho, hn, hl, hr, hw, right_slot, hm.n 6 rfl, hm.n 7 rfl, hm.n 8 rfl, hm.n 9 rfl, hm.n 10 rfl⟩ hf
theorem Cs.hanswer (g2 : Good base Q2) (h : Cs base (PSq base g most) Q2 L L2 bs w0 w) {fr tt d0 d1 e : Int} {o : Opd} {m : Mg} {s : Ses} (hy : o.y.Wf) (h2 : U64 fr) (h3 : U64 tt) (h4 : I64 d0) (h5 : I64 d1)
  (hf : hAnswer most L o fr tt d0 d1 = (m, s, e, L')) :
  Calls Tryz.prog 26 #[.pointer (some ⟨g, 0, none⟩), o.v, .int .u64 fr, .int .u64 tt, .agg #[.int .i64 d0, .int .i64 d1]] w fun e' w' => e' = .returned (.tuple #[m.v, s.v, .int .i64 e]) ∧ Cs base (PSq base g most) Q2 L' L2 bs w0 w' :=
 h.hanswer1 g2 (P := ⟨o, fr, tt, d0, d1⟩) ⟨hy, h4, h5, fun s hs => respM_wf h2 h3 hs.1 hs.2.1 hs.2.2⟩ hf
theorem Cs.hfinish (g2 : Good base Q2) (h : Cs base (PSq base g most) Q2 L L2 bs w0 w) {x y e : Int} {p : Pnd} {m : Mg} {s : Ses} (h1 : I64 x) (hy : p.y.Wf) (h3 : I64 p.e ∧ I64 p.ek) (hm : Ms.Ms.Wf m)
  (hf : hFinish most L x p m = (s, e, L')) :
  Calls Tryz.prog 29 #[.pointer (some ⟨g, 0, none⟩), .agg #[.int .i64 x, .int .i64 y], p.v, m.v] w fun e' w' => e' = .returned (.tuple #[s.v, .int .i64 e]) ∧ Cs base (PSq base g most) Q2 L' L2 bs w0 w' :=
 h.hfinish1 g2 (P := ⟨x, y, p, m⟩) ⟨h1, hy, h3.1, h3.2, hm, hm.n 6 rfl, hm.n 8 rfl, hm.n 9 rfl⟩ hf
end
end Go.Proofs.YtgeonppckeiceaaGreatDoor
