/- Answer of the program (by tools/stage17/calls.py). -/
import Derived.Test.YtgeonppckeiceaaGreatDoorGq01
import Derived.Test.YtgeonppckeiceaaGreatDoorGq25
namespace Go.Proofs.YtgeonppckeiceaaGreatDoor
open Go.RowKit
set_option linter.unusedVariables false
set_option linter.unusedSimpArgs false
set_option maxRecDepth 20000
abbrev anO0 (P : AnP) : Obj := .cells #[.int .i64 P.o.y.CK, .int .i64 P.o.y.K, .int .i64 P.o.y.H, .int .u64 P.o.y.N, .int .i64 P.o.peer, .int .i64 P.o.version, .int .u64 P.o.stamp, .int .i64 P.o.e, .int .i64 P.o.ek, .int .i64 P.o.pub] 64 (0, 0)
abbrev anO1 (P : AnP) : Obj := .cells #[.int .i64 P.d0, .int .i64 P.d1] 41 (0, 0)
abbrev anO2 : Obj := .cells #[.int .i64 0, .int .u64 0, .int .u64 0, .string ⟨#[]⟩, .int .i64 0, .int .i64 0, .int .i64 0, .int .i64 0, .int .i64 0, .int .i64 0, .int .i64 0, .int .u64 0, .int .u64 0] 25 (0, 0)
abbrev anO3 : Obj := .cells #[.int .i64 0, .int .i64 0, .int .i64 0, .int .i64 0] 75 (0, 0)
section
variable {base g B : Nat} {most : Int} {Q2 : (Nat → Prop) → List Tm → World → Prop} {L L' L2 : List Tm} {bs : List (Nat × Obj)} {T : TypeId} {y : Sy} {w0 w w' : World}
set_option maxHeartbeats 4000000 in
theorem Cs.hanswer1 (g2 : Good base Q2) (h : Cs base (PSq base g most) Q2 L L2 bs w0 w) {P : AnP} {e : Int} {m : Mg} {s' : Ses} (hh : P.o.y.Wf ∧ I64 P.d0 ∧ I64 P.d1 ∧ ∀ s, AnOk s → Ms.Ms.Wf (P.m s)) (hf : hAnswer most L P.o P.fr P.tt P.d0 P.d1 = (m, s', e, L')) :
  Calls Tryz.prog 26 #[.pointer (some ⟨g, 0, none⟩), .agg #[.int .i64 P.o.y.CK, .int .i64 P.o.y.K, .int .i64 P.o.y.H, .int .u64 P.o.y.N, .int .i64 P.o.peer, .int .i64 P.o.version, .int .u64 P.o.stamp, .int .i64 P.o.e, .int .i64 P.o.ek, .int .i64 P.o.pub], .int .u64 P.fr, .int .u64 P.tt, .agg #[.int .i64 P.d0, .int .i64 P.d1]] w fun e' w' => e' = .returned (.tuple #[m.v, s'.v, .int .i64 e]) ∧ Cs base (PSq base g most) Q2 L' L2 bs w0 w' := by
 have HHY := Lib.hid hh
 have HF := Lib.hid hf
 clear hh hf
 have gP := PSq.good base g most
 have HQ := Lib.hid h.pair.base_le
 have HK : Hid (∀ k o, (k, o) ∈ bs → k < w.heap.size) := Lib.hid (fun k o q => h.pair.klt k ⟨o, q⟩)
 have HC := Lib.hid ((((h.boxN gP g2 #[.int .i64 P.o.y.CK, .int .i64 P.o.y.K, .int .i64 P.o.y.H, .int .u64 P.o.y.N, .int .i64 P.o.peer, .int .i64 P.o.version, .int .u64 P.o.stamp, .int .i64 P.o.e, .int .i64 P.o.ek, .int .i64 P.o.pub] 64 (b := w.heap.size) rfl).boxN gP g2 #[.int .i64 P.d0, .int .i64 P.d1] 41 (b := w.heap.size + 1) (by simp)).boxN gP g2 #[.int .i64 0, .int .u64 0, .int .u64 0, .string ⟨#[]⟩, .int .i64 0, .int .i64 0, .int .i64 0, .int .i64 0, .int .i64 0, .int .i64 0, .int .i64 0, .int .u64 0, .int .u64 0] 25 (b := w.heap.size + 1 + 1) (by simp)).boxN gP g2 #[.int .i64 0, .int .i64 0, .int .i64 0, .int .i64 0] 75 (b := w.heap.size + 1 + 1 + 1) (by simp))
 clear h
 go_enter Tryz.func26, Tryz.ntmps26
 go_upto_region 1 with fail
 generalize hwb : World.alloc _ _ = Wb at HC ⊢
 clear hwb
 generalize hq : w.heap.size = q at HC HK HQ ⊢
 clear hq
 have x0_0 := cell_of_row _ _ 0 _ _ _ (HC.out.kept (q) (anO0 P) (List.mem_cons_of_mem _ (List.mem_cons_of_mem _ (List.mem_cons_of_mem _ List.mem_cons_self))))
 have x0_1 := cell_of_row _ _ 1 _ _ _ (HC.out.kept (q) (anO0 P) (List.mem_cons_of_mem _ (List.mem_cons_of_mem _ (List.mem_cons_of_mem _ List.mem_cons_self))))
 have x0_2 := cell_of_row _ _ 2 _ _ _ (HC.out.kept (q) (anO0 P) (List.mem_cons_of_mem _ (List.mem_cons_of_mem _ (List.mem_cons_of_mem _ List.mem_cons_self))))
 have x0_3 := cell_of_row _ _ 3 _ _ _ (HC.out.kept (q) (anO0 P) (List.mem_cons_of_mem _ (List.mem_cons_of_mem _ (List.mem_cons_of_mem _ List.mem_cons_self))))
 have x0_4 := cell_of_row _ _ 4 _ _ _ (HC.out.kept (q) (anO0 P) (List.mem_cons_of_mem _ (List.mem_cons_of_mem _ (List.mem_cons_of_mem _ List.mem_cons_self))))
 have x0_5 := cell_of_row _ _ 5 _ _ _ (HC.out.kept (q) (anO0 P) (List.mem_cons_of_mem _ (List.mem_cons_of_mem _ (List.mem_cons_of_mem _ List.mem_cons_self))))
 have x0_6 := cell_of_row _ _ 6 _ _ _ (HC.out.kept (q) (anO0 P) (List.mem_cons_of_mem _ (List.mem_cons_of_mem _ (List.mem_cons_of_mem _ List.mem_cons_self))))
 have x0_7 := cell_of_row _ _ 7 _ _ _ (HC.out.kept (q) (anO0 P) (List.mem_cons_of_mem _ (List.mem_cons_of_mem _ (List.mem_cons_of_mem _ List.mem_cons_self))))
 have x0_8 := cell_of_row _ _ 8 _ _ _ (HC.out.kept (q) (anO0 P) (List.mem_cons_of_mem _ (List.mem_cons_of_mem _ (List.mem_cons_of_mem _ List.mem_cons_self))))
 have x0_9 := cell_of_row _ _ 9 _ _ _ (HC.out.kept (q) (anO0 P) (List.mem_cons_of_mem _ (List.mem_cons_of_mem _ (List.mem_cons_of_mem _ List.mem_cons_self))))
 simp at x0_0 x0_1 x0_2 x0_3 x0_4 x0_5 x0_6 x0_7 x0_8 x0_9
 have x1_0 := cell_of_row _ _ 0 _ _ _ (HC.out.kept (q + 1) (anO1 P) (List.mem_cons_of_mem _ (List.mem_cons_of_mem _ List.mem_cons_self)))
 have x1_1 := cell_of_row _ _ 1 _ _ _ (HC.out.kept (q + 1) (anO1 P) (List.mem_cons_of_mem _ (List.mem_cons_of_mem _ List.mem_cons_self)))
 simp at x1_0 x1_1
 refine wp_region_lit ?_
 refine wpList_step (v := ?v66) (w' := ?w66) rfl ?h66 ?k66
 case h66 => (go_simp; refine ⟨?_, ?_⟩) <;> with_reducible rfl
 try simp only [Act.put, p1, p2, p3]
 refine wpList_step (v := ?v67) (w' := ?w67) rfl ?h67 ?k67
 case h67 => (go_simp; refine ⟨?_, ?_⟩) <;> with_reducible rfl
 try simp only [Act.put, p1, p2, p3]
 refine wpList_step (v := ?v68) (w' := ?w68) rfl ?h68 ?k68
 case h68 => (go_simp; refine ⟨?_, ?_⟩) <;> with_reducible rfl
 try simp only [Act.put, p1, p2, p3]
 refine wpList_step (v := ?v69) (w' := ?w69) rfl ?h69 ?k69
 case h69 => (go_simp; refine ⟨?_, ?_⟩) <;> with_reducible rfl
 try simp only [Act.put, p1, p2, p3]
 refine wpList_step (v := ?v70) (w' := ?w70) rfl ?h70 ?k70
 case h70 => (go_simp; refine ⟨?_, ?_⟩) <;> with_reducible rfl
 try simp only [Act.put, p1, p2, p3]
 refine wpList_step (v := ?v71) (w' := ?w71) rfl ?h71 ?k71
 case h71 => (go_simp; refine ⟨?_, ?_⟩) <;> with_reducible rfl
 try simp only [Act.put, p1, p2, p3]
 refine wpList_step (v := ?v72) (w' := ?w72) rfl ?h72 ?k72
 case h72 => (go_simp; refine ⟨?_, ?_⟩) <;> with_reducible rfl
 try simp only [Act.put, p1, p2, p3]
 refine wpList_step (v := ?v73) (w' := ?w73) rfl ?h73 ?k73
 case h73 => (go_simp; refine ⟨?_, ?_⟩) <;> with_reducible rfl
 try simp only [Act.put, p1, p2, p3]
 refine wpList_store_mid rfl 147 (.tmp 13) (.tmp 21) rfl Wb.heap.size 0 #[.pointer (some ⟨g, 0, none⟩), .int .i64 P.o.y.CK, .int .i64 P.o.y.K, .int .i64 P.o.y.H, .int .u64 P.o.y.N, .int .i64 P.o.y.CK, .int .i64 P.o.y.K, .int .i64 P.o.y.H, .int .u64 P.o.y.N, .int .i64 P.o.peer, .int .i64 P.o.version, .int .u64 P.o.stamp, .int .i64 P.o.e, .int .i64 P.o.ek, .int .i64 P.o.pub, .int .i64 0, .int .u64 0, .int .u64 0, .string ⟨#[]⟩, .int .i64 0, .int .i64 0, .int .i64 0, .int .i64 0, .int .i64 0, .int .i64 0, .int .i64 0, .int .u64 0, .int .u64 0, .int .i64 P.d0, .int .i64 P.d1, .int .i64 0, .int .i64 0, .int .i64 0, .int .i64 0] rfl rfl (there_row (heap_alloc_new _ _) (by simp)) (by kernel_rfl) (by simp [Value.oneCell']) ?_
 try simp only [Act.put, p1, p2, p3]
 clear x0_0 x0_1 x0_2 x0_3 x0_4 x0_5 x0_6 x0_7 x0_8 x0_9 x1_0 x1_1
 replace HC := Lib.hid (HC.out.talk2 g2 (t := 147) P.o.y [.int .i64 P.o.y.CK, .int .i64 P.o.y.K, .int .i64 P.o.y.H, .int .u64 P.o.y.N, .int .i64 P.o.peer, .int .i64 P.o.version, .int .u64 P.o.stamp, .int .i64 P.o.e, .int .i64 P.o.ek, .int .i64 P.o.pub, .int .i64 0, .int .u64 0, .int .u64 0, .string ⟨#[]⟩, .int .i64 0, .int .i64 0, .int .i64 0, .int .i64 0, .int .i64 0, .int .i64 0, .int .i64 0, .int .u64 0, .int .u64 0, .int .i64 P.d0, .int .i64 P.d1, .int .i64 0, .int .i64 0, .int .i64 0, .int .i64 0] (b := Wb.heap.size) rfl HHY.out.1 (zs := #[.pointer none, .int .i64 0, .int .i64 0, .int .i64 0, .int .u64 0, .int .i64 0, .int .i64 0, .int .i64 0, .int .u64 0, .int .i64 0, .int .i64 0, .int .u64 0, .int .i64 0, .int .i64 0, .int .i64 0, .int .i64 0, .int .u64 0, .int .u64 0, .string ⟨#[]⟩, .int .i64 0, .int .i64 0, .int .i64 0, .int .i64 0, .int .i64 0, .int .i64 0, .int .i64 0, .int .u64 0, .int .u64 0, .int .i64 0, .int .i64 0, .int .i64 0, .int .i64 0, .int .i64 0, .int .i64 0]) (vs := [.pointer (some ⟨g, 0, none⟩), .int .i64 P.o.y.CK, .int .i64 P.o.y.K, .int .i64 P.o.y.H, .int .u64 P.o.y.N, .int .i64 P.o.y.CK, .int .i64 P.o.y.K, .int .i64 P.o.y.H, .int .u64 P.o.y.N, .int .i64 P.o.peer, .int .i64 P.o.version, .int .u64 P.o.stamp, .int .i64 P.o.e, .int .i64 P.o.ek, .int .i64 P.o.pub, .int .i64 0, .int .u64 0, .int .u64 0, .string ⟨#[]⟩, .int .i64 0, .int .i64 0, .int .i64 0, .int .i64 0, .int .i64 0, .int .i64 0, .int .i64 0, .int .u64 0, .int .u64 0, .int .i64 P.d0, .int .i64 P.d1, .int .i64 0, .int .i64 0, .int .i64 0, .int .i64 0]) rfl rfl)
 try simp only [List.toList_toArray]
 generalize hwc : World.setCells _ _ _ _ = Wc at HC ⊢
 clear hwc
 generalize hB : Wb.heap.size = B at HC ⊢
 clear hB
 have HT := HC
 clear HC
 go_upto_region 2 with fail
 refine wp_region_lit ?_
 refine wpList_step (v := ?v74) (w' := ?w74) rfl ?h74 ?k74
 case h74 => (go_simp; refine ⟨?_, ?_⟩) <;> with_reducible rfl
 try simp only [Act.put, p1, p2, p3]
 refine wpList_step (v := ?v75) (w' := ?w75) rfl ?h75 ?k75
 case h75 => (go_simp; refine ⟨?_, ?_⟩) <;> with_reducible rfl
 try simp only [Act.put, p1, p2, p3]
 refine wpList_step (v := ?v76) (w' := ?w76) rfl ?h76 ?k76
 case h76 => (go_simp; refine ⟨?_, ?_⟩) <;> with_reducible rfl
 try simp only [Act.put, p1, p2, p3]
 refine wpList_step (v := ?v77) (w' := ?w77) rfl ?h77 ?k77
 case h77 => (go_simp; refine ⟨?_, ?_⟩) <;> with_reducible rfl
 try simp only [Act.put, p1, p2, p3]
 refine wpList_store_mid rfl 25 (.tmp 25) (.tmp 24) rfl B 15 #[.int .i64 2, .int .u64 P.fr, .int .u64 P.tt, .string ⟨#[]⟩, .int .i64 0, .int .i64 0, .int .i64 0, .int .i64 0, .int .i64 0, .int .i64 0, .int .i64 0, .int .u64 0, .int .u64 0] rfl rfl (there_row HT.out.row (by simp [tkL])) (by kernel_rfl) (by simp [Value.oneCell']) ?_
 try simp only [Act.put, p1, p2, p3]
 replace HT := Lib.hid (HT.out.putN g2 [.int .i64 2, .int .u64 P.fr, .int .u64 P.tt, .string ⟨#[]⟩, .int .i64 0, .int .i64 0, .int .i64 0, .int .i64 0, .int .i64 0, .int .i64 0, .int .i64 0, .int .u64 0, .int .u64 0] 10)
 try simp only [List.toList_toArray]
 generalize hwd : World.setCells _ _ _ _ = Wd at HT ⊢
 clear hwd
 replace HT : Hid (Tk base g most Q2 L L2 ((q + 1 + 1 + 1, anO3) :: (q + 1 + 1, anO2) :: (q + 1, (anO1 P)) :: (q, (anO0 P)) :: bs) B 147 P.o.y (P.rest P.start) w0 Wd) := Lib.hid HT.out
 have hmf : ∀ (fn : Fn) (first cap : Array Value) (w : World), (Instr.makeFunc fn first cap).run Tryz.prog w = .ok (.func fn first cap) w := fun _ _ _ _ => rfl
 go_wp2_with fail
 clear hmf
 obtain ⟨hbx, hbn⟩ := HT.out.box g2 #[.func (.func 87) #[.pointer (some ⟨B, 0, none⟩)] #[], .func (.func 88) #[.pointer (some ⟨B, 0, none⟩)] #[], .func (.func 89) #[.pointer (some ⟨B, 0, none⟩)] #[], .func (.func 90) #[.pointer (some ⟨B, 0, none⟩)] #[], .func (.func 91) #[.pointer (some ⟨B, 0, none⟩)] #[], .func (.func 92) #[.pointer (some ⟨B, 0, none⟩)] #[], .func (.func 93) #[.pointer (some ⟨B, 0, none⟩)] #[]] 1 (b := Wd.heap.size) rfl
 replace HT := Lib.hid hbx
 have HRN := Lib.hid hbn
 clear hbx hbn
 generalize hwe : World.alloc _ _ = We at HT ⊢
 clear hwe
 generalize hR : Wd.heap.size = R at HT HRN ⊢
 clear hR
 obtain ⟨hbe, hbn⟩ := HT.out.box g2 #[.int .i64 0] 34 (b := We.heap.size) rfl
 have HEN := Lib.hid hbn
 refine (turn_G (n := 7) (f := fun i => ([87, 88, 89, 90, 91, 92, 93] : List Nat).getD i 0) (ks := anAll P) (t := .pointer (some ⟨B, 0, none⟩)) (most := most) (St := (fun i L s u => Tk base g most Q2 L L2 ((We.heap.size, errO 0) :: (R, (.cells #[.func (.func 87) #[.pointer (some ⟨B, 0, none⟩)] #[], .func (.func 88) #[.pointer (some ⟨B, 0, none⟩)] #[], .func (.func 89) #[.pointer (some ⟨B, 0, none⟩)] #[], .func (.func 90) #[.pointer (some ⟨B, 0, none⟩)] #[], .func (.func 91) #[.pointer (some ⟨B, 0, none⟩)] #[], .func (.func 92) #[.pointer (some ⟨B, 0, none⟩)] #[], .func (.func 93) #[.pointer (some ⟨B, 0, none⟩)] #[]] 1 (0, 0) : Obj)) :: (q + 1 + 1 + 1, anO3) :: (q + 1 + 1, anO2) :: (q + 1, (anO1 P)) :: (q, (anO0 P)) :: bs) B 147 s.y (P.rest s) w0 u ∧ AnOk s)) (Fl := (fun L u => Cs base (PSq base g most) Q2 L L2 ((We.heap.size, errO 0) :: (R, (.cells #[.func (.func 87) #[.pointer (some ⟨B, 0, none⟩)] #[], .func (.func 88) #[.pointer (some ⟨B, 0, none⟩)] #[], .func (.func 89) #[.pointer (some ⟨B, 0, none⟩)] #[], .func (.func 90) #[.pointer (some ⟨B, 0, none⟩)] #[], .func (.func 91) #[.pointer (some ⟨B, 0, none⟩)] #[], .func (.func 92) #[.pointer (some ⟨B, 0, none⟩)] #[], .func (.func 93) #[.pointer (some ⟨B, 0, none⟩)] #[]] 1 (0, 0) : Obj)) :: (q + 1 + 1 + 1, anO3) :: (q + 1 + 1, anO2) :: (q + 1, (anO1 P)) :: (q, (anO0 P)) :: bs) w0 u)) (s0 := P.start) (L0 := L) rfl ?he ?hs R 0 7 We (by omega) ?h0 ?hrow ?hfr ?hbd).mono ?fin
 case he =>
  intro i hi args u
  match i, hi with
  | 0, _ => exact enters_of Tryz.func87 (by kernel_rfl) rfl args u
  | 1, _ => exact enters_of Tryz.func88 (by kernel_rfl) rfl args u
  | 2, _ => exact enters_of Tryz.func89 (by kernel_rfl) rfl args u
  | 3, _ => exact enters_of Tryz.func90 (by kernel_rfl) rfl args u
  | 4, _ => exact enters_of Tryz.func91 (by kernel_rfl) rfl args u
  | 5, _ => exact enters_of Tryz.func92 (by kernel_rfl) rfl args u
  | 6, _ => exact enters_of Tryz.func93 (by kernel_rfl) rfl args u
  | n + 7, h => omega
 case hs =>
  intro i k hk L s u hst
  match i, hk with
  | 0, hk =>
   obtain rfl : anE P = k := Option.some.inj hk
   exact (an_sayE g2 hst.1 hst.2 HHY.out.2.1).mono (fun e w' h => h.impE (fun L x w hE hx => hx) (fun L hx => hx))
  | 1, hk =>
   obtain rfl : anMixE P = k := Option.some.inj hk
   exact (an_mixE g2 hst.1 hst.2 HHY.out.2.1).mono (fun e w' h => h.impE (fun L x w hE hx => hx) (fun L hx => hx))
  | 2, hk =>
   obtain rfl : anMixPub P = k := Option.some.inj hk
   exact (an_mixPub g2 hst.1 hst.2 HHY.out.2.1).mono (fun e w' h => h.impE (fun L x w hE hx => hx) (fun L hx => hx))
  | 3, hk =>
   obtain rfl : anWrap P = k := Option.some.inj hk
   exact (an_wrapSecret g2 hst.1 hst.2 HHY.out.2.2.1).mono (fun e w' h => h.impE (fun L x w hE hx => hx) (fun L hx => hx))
  | 4, hk =>
   obtain rfl : anSeal P = k := Option.some.inj hk
   exact (an_sealVersion g2 hst.1 hst.2).mono (fun e w' h => h.impE (fun L x w hE hx => hx) (fun L hx => hx))
  | 5, hk =>
   obtain rfl : anEnd P = k := Option.some.inj hk
   exact (an_end g2 hst.1 hst.2).mono (fun e w' h => h.impE (fun L x w hE hx => hx) (fun L hx => hx))
  | 6, hk =>
   obtain rfl : anCheck P = k := Option.some.inj hk
   exact (an_check g2 hst.1 hst.2 (HHY.out.2.2.2 _ hst.2)).mono (fun e w' h => h.impE (fun L x w hE hx => hx) (fun L hx => hx))
  | n + 7, hk => simp [anAll] at hk
 case h0 => exact ⟨hbe, ⟨k0, k0, k0⟩⟩
 case hrow =>
  intro i L s u hst hi
  match i, hi with
  | 0, _ => exact (hst.1.boxc (List.mem_cons_of_mem _ List.mem_cons_self) 0 rfl).1
  | 1, _ => exact (hst.1.boxc (List.mem_cons_of_mem _ List.mem_cons_self) 1 rfl).1
  | 2, _ => exact (hst.1.boxc (List.mem_cons_of_mem _ List.mem_cons_self) 2 rfl).1
  | 3, _ => exact (hst.1.boxc (List.mem_cons_of_mem _ List.mem_cons_self) 3 rfl).1
  | 4, _ => exact (hst.1.boxc (List.mem_cons_of_mem _ List.mem_cons_self) 4 rfl).1
  | 5, _ => exact (hst.1.boxc (List.mem_cons_of_mem _ List.mem_cons_self) 5 rfl).1
  | 6, _ => exact (hst.1.boxc (List.mem_cons_of_mem _ List.mem_cons_self) 6 rfl).1
  | n + 7, h => omega
 case hfr => intro i L s u hst; exact hst.1.boxc List.mem_cons_self 0 rfl
 case hbd => intro L u hc; exact ⟨by simp [World.cell?, hc.kept _ _ List.mem_cons_self], frz_of_row 0 (hc.kept _ _ List.mem_cons_self)⟩
 case fin =>
  clear HT hbe
  rintro e' w' (⟨s, L3, u, hsq, rfl, ⟨hT, hI⟩, rfl⟩ | ⟨c, L3, u, hsq, hc, rfl, hC, rfl⟩)
  ·have HT := Lib.hid ((hT.unbox g2 HEN.out (chg_one u We.heap.size 0 (.int .i64 0))).unbox0)
   have HSQ := Lib.hid hsq
   clear hsq hT hI
   generalize hwf : World.setCell _ _ _ = Wf at HT ⊢
   clear hwf HEN HRN
   have hw := HF.out
   rw [an_all P, HSQ.out] at hw
   injection hw with e1 hw
   injection hw with e2 hw
   injection hw with e3 e4
   subst e1 e2 e3 e4
   clear HF HSQ
   go_upto_region 6 with fail
   replace HT := Lib.hid (HT.out.drew g2)
   refine wp_region_held_drew (S := (fun W => W.cell? ⟨B, 15, none⟩ = some (.int .i64 2) ∧ W.cell? ⟨B, 16, none⟩ = some (.int .u64 P.fr) ∧ W.cell? ⟨B, 17, none⟩ = some (.int .u64 P.tt) ∧ W.cell? ⟨B, 18, none⟩ = some (.string ByteArray.empty) ∧ W.cell? ⟨B, 19, none⟩ = some (.int .i64 0) ∧ W.cell? ⟨B, 20, none⟩ = some (.int .i64 0) ∧ W.cell? ⟨B, 21, none⟩ = some (.int .i64 s.e) ∧ W.cell? ⟨B, 22, none⟩ = some (.int .i64 0) ∧ W.cell? ⟨B, 23, none⟩ = some (.int .i64 s.box) ∧ W.cell? ⟨B, 24, none⟩ = some (.int .i64 s.c1) ∧ W.cell? ⟨B, 25, none⟩ = some (.int .i64 0) ∧ W.cell? ⟨B, 26, none⟩ = some (.int .u64 0) ∧ W.cell? ⟨B, 27, none⟩ = some (.int .u64 0) ∧ W.cell? ⟨B, 30, none⟩ = some (.int .i64 s.h) ∧ W.cell? ⟨B, 31, none⟩ = some (.int .i64 s.send) ∧ W.cell? ⟨B, 32, none⟩ = some (.int .i64 s.recv) ∧ W.cell? ⟨B, 33, none⟩ = some (.int .i64 s.version))) (by kernel_rfl) (⟨HT.out.at 10 rfl, HT.out.at 11 rfl, HT.out.at 12 rfl, HT.out.at 13 rfl, HT.out.at 14 rfl, HT.out.at 15 rfl, HT.out.at 16 rfl, HT.out.at 17 rfl, HT.out.at 18 rfl, HT.out.at 19 rfl, HT.out.at 20 rfl, HT.out.at 21 rfl, HT.out.at 22 rfl, HT.out.at 25 rfl, HT.out.at 26 rfl, HT.out.at 27 rfl, HT.out.at 28 rfl⟩) (fun hHeld => ?_)
   refine tk 0 (h := ?_)
   refine tk 1 (hy := fun W hSw => by ((obtain ⟨z0, z1, z2, z3, z4, z5, z6, z7, z8, z9, z10, z11, z12, z13, z14, z15, z16⟩ := hSw; go_simp) <;> with_reducible rfl)) (h := ?_)
   refine tk 2 (h := ?_)
   refine tk 3 (hy := fun W hSw => by ((obtain ⟨z0, z1, z2, z3, z4, z5, z6, z7, z8, z9, z10, z11, z12, z13, z14, z15, z16⟩ := hSw; go_simp) <;> with_reducible rfl)) (h := ?_)
   refine rd 4 (h := fun K' hK => ?_)
   rw [if_pos (by rfl)]
   have hrow := HT.out.cs.kept (q + 1 + 1) anO2 (List.mem_cons_of_mem _ (List.mem_cons_of_mem _ List.mem_cons_self))
   refine wp_store_mid 25 (.tmp 10) (.tmp 41) ?so83 (q + 1 + 1) 0 #[.int .i64 2, .int .u64 P.fr, .int .u64 P.tt, .string ByteArray.empty, .int .i64 0, .int .i64 0, .int .i64 s.e, .int .i64 0, .int .i64 s.box, .int .i64 s.c1, .int .i64 0, .int .u64 0, .int .u64 0] ?sx83 ?sy83 ?st83 ?si83 ?s183 ?sk83
   case so83 => rfl
   case sx83 => rfl
   case sy83 => first | with_reducible rfl | (go_simp; done)
   case st83 => exact there_row hrow (by simp)
   case si83 => kernel_rfl
   case s183 => simp [Value.oneCell']
   have hsub : ∀ x, x ∈ ((q + 1 + 1 + 1, anO3) :: (q + 1, (anO1 P)) :: (q, (anO0 P)) :: bs) → x ∈ ((q + 1 + 1 + 1, anO3) :: (q + 1 + 1, anO2) :: (q + 1, (anO1 P)) :: (q, (anO0 P)) :: bs) ∧ x.1 ≠ q + 1 + 1 := by
    intro x hx
    simp only [List.mem_cons] at hx ⊢
    rcases hx with rfl | rfl | rfl | hx
    ·exact ⟨by simp, by dsimp only; omega⟩
    ·exact ⟨by simp, by dsimp only; omega⟩
    ·exact ⟨by simp, by dsimp only; omega⟩
    ·exact ⟨by simp [hx], fun q => by have := HK.out x.1 x.2 hx; omega⟩
   have HR2 := Lib.hid (row_all [.int .i64 2, .int .u64 P.fr, .int .u64 P.tt, .string ByteArray.empty, .int .i64 0, .int .i64 0, .int .i64 s.e, .int .i64 0, .int .i64 s.box, .int .i64 s.c1, .int .i64 0, .int .u64 0, .int .u64 0] hrow rfl)
   replace HT := Lib.hid (HT.out.writes g2 (List.mem_cons_of_mem _ List.mem_cons_self) (by have := HQ.out; omega) (chg_setCells (q + 1 + 1) [.int .i64 2, .int .u64 P.fr, .int .u64 P.tt, .string ByteArray.empty, .int .i64 0, .int .i64 0, .int .i64 s.e, .int .i64 0, .int .i64 s.box, .int .i64 s.c1, .int .i64 0, .int .u64 0, .int .u64 0] 0 _) hsub)
   clear hrow hsub
   try simp only [List.toList_toArray]
   generalize hwg : World.setCells _ _ _ _ = Wg0 at HT HR2 ⊢
   clear hwg
   refine hK.out _ _ (⟨HT.out.at 10 rfl, HT.out.at 11 rfl, HT.out.at 12 rfl, HT.out.at 13 rfl, HT.out.at 14 rfl, HT.out.at 15 rfl, HT.out.at 16 rfl, HT.out.at 17 rfl, HT.out.at 18 rfl, HT.out.at 19 rfl, HT.out.at 20 rfl, HT.out.at 21 rfl, HT.out.at 22 rfl, HT.out.at 25 rfl, HT.out.at 26 rfl, HT.out.at 27 rfl, HT.out.at 28 rfl⟩) (fun hHeld => ?_)
   clear hK K'
   try simp only [Act.put, p1, p2, p3]
   refine rd 5 (h := fun K' hK => ?_)
   rw [if_pos (by rfl)]
   have hrow := HT.out.cs.kept (q + 1 + 1 + 1) anO3 (List.mem_cons_of_mem _ List.mem_cons_self)
   refine wp_store_mid 75 (.tmp 11) (.tmp 43) ?so84 (q + 1 + 1 + 1) 0 #[.int .i64 s.h, .int .i64 s.send, .int .i64 s.recv, .int .i64 s.version] ?sx84 ?sy84 ?st84 ?si84 ?s184 ?sk84
   case so84 => rfl
   case sx84 => rfl
   case sy84 => first | with_reducible rfl | (go_simp; done)
   case st84 => exact there_row hrow (by simp)
   case si84 => kernel_rfl
   case s184 => simp [Value.oneCell']
   have hsub : ∀ x, x ∈ ((q + 1, (anO1 P)) :: (q, (anO0 P)) :: bs) → x ∈ ((q + 1 + 1 + 1, anO3) :: (q + 1, (anO1 P)) :: (q, (anO0 P)) :: bs) ∧ x.1 ≠ q + 1 + 1 + 1 := by
    intro x hx
    simp only [List.mem_cons] at hx ⊢
    rcases hx with rfl | rfl | hx
    ·exact ⟨by simp, by dsimp only; omega⟩
    ·exact ⟨by simp, by dsimp only; omega⟩
    ·exact ⟨by simp [hx], fun q => by have := HK.out x.1 x.2 hx; omega⟩
   have HR3 := Lib.hid (row_all [.int .i64 s.h, .int .i64 s.send, .int .i64 s.recv, .int .i64 s.version] hrow rfl)
   replace HR2 := Lib.hid (((chg_setCells (q + 1 + 1 + 1) [.int .i64 s.h, .int .i64 s.send, .int .i64 s.recv, .int .i64 s.version] 0 _).block _ (lt_some HR2.out) (by simp)).trans HR2.out)
   replace HT := Lib.hid (HT.out.writes g2 List.mem_cons_self (by have := HQ.out; omega) (chg_setCells (q + 1 + 1 + 1) [.int .i64 s.h, .int .i64 s.send, .int .i64 s.recv, .int .i64 s.version] 0 _) hsub)
   clear hrow hsub
   try simp only [List.toList_toArray]
   generalize hwg : World.setCells _ _ _ _ = Wg1 at HT HR2 HR3 ⊢
   clear hwg
   refine hK.out _ _ (⟨HT.out.at 10 rfl, HT.out.at 11 rfl, HT.out.at 12 rfl, HT.out.at 13 rfl, HT.out.at 14 rfl, HT.out.at 15 rfl, HT.out.at 16 rfl, HT.out.at 17 rfl, HT.out.at 18 rfl, HT.out.at 19 rfl, HT.out.at 20 rfl, HT.out.at 21 rfl, HT.out.at 22 rfl, HT.out.at 25 rfl, HT.out.at 26 rfl, HT.out.at 27 rfl, HT.out.at 28 rfl⟩) (fun hHeld => ?_)
   clear hK K'
   try simp only [Act.put, p1, p2, p3]
   refine tk 6 (h := ?_)
   refine wpAnyH_done (by kernel_rfl) ?_ _
   go_wp2_with fail
   have r2_0 := cell_of_row _ _ 0 _ _ _ HR2.out
   have r2_1 := cell_of_row _ _ 1 _ _ _ HR2.out
   have r2_2 := cell_of_row _ _ 2 _ _ _ HR2.out
   have r2_3 := cell_of_row _ _ 3 _ _ _ HR2.out
   have r2_4 := cell_of_row _ _ 4 _ _ _ HR2.out
   have r2_5 := cell_of_row _ _ 5 _ _ _ HR2.out
   have r2_6 := cell_of_row _ _ 6 _ _ _ HR2.out
   have r2_7 := cell_of_row _ _ 7 _ _ _ HR2.out
   have r2_8 := cell_of_row _ _ 8 _ _ _ HR2.out
   have r2_9 := cell_of_row _ _ 9 _ _ _ HR2.out
   have r2_10 := cell_of_row _ _ 10 _ _ _ HR2.out
   have r2_11 := cell_of_row _ _ 11 _ _ _ HR2.out
   have r2_12 := cell_of_row _ _ 12 _ _ _ HR2.out
   simp at r2_0 r2_1 r2_2 r2_3 r2_4 r2_5 r2_6 r2_7 r2_8 r2_9 r2_10 r2_11 r2_12
   have r3_0 := cell_of_row _ _ 0 _ _ _ HR3.out
   have r3_1 := cell_of_row _ _ 1 _ _ _ HR3.out
   have r3_2 := cell_of_row _ _ 2 _ _ _ HR3.out
   have r3_3 := cell_of_row _ _ 3 _ _ _ HR3.out
   simp at r3_0 r3_1 r3_2 r3_3
   exact bodyPost_ret (v := .tuple #[.agg #[.int .i64 2, .int .u64 P.fr, .int .u64 P.tt, .string ByteArray.empty, .int .i64 0, .int .i64 0, .int .i64 s.e, .int .i64 0, .int .i64 s.box, .int .i64 s.c1, .int .i64 0, .int .u64 0, .int .u64 0], .agg #[.int .i64 s.h, .int .i64 s.send, .int .i64 s.recv, .int .i64 s.version], .int .i64 0]) (by simp [results, Tryz.results26, go_sem, r2_0, r2_1, r2_2, r2_3, r2_4, r2_5, r2_6, r2_7, r2_8, r2_9, r2_10, r2_11, r2_12 ,r3_0, r3_1, r3_2, r3_3]) rfl ⟨rfl, HT.out.fall.less (fun x q => List.mem_cons_of_mem _ (List.mem_cons_of_mem _ (q)))⟩
  ·have HC := Lib.hid (((hC.drop g2 HEN.out.2.1 HEN.out.2.2 (chg_one u We.heap.size 0 (.int .i64 c)))).less (fun x q => List.mem_cons_of_mem _ q))
   have HSQ := Lib.hid hsq
   have hne : (c != 0) = true := by simpa using hc
   clear hsq hC hc
   generalize hwf : World.setCell _ _ _ = Wf at HC ⊢
   clear hwf HEN HRN
   have hw := HF.out
   rw [an_all P, HSQ.out] at hw
   injection hw with e1 hw
   injection hw with e2 hw
   injection hw with e3 e4
   subst e1 e2 e3 e4
   clear HF HSQ
   go_upto_region 5 with fail
   refine wp_region_lit ?_
   refine wpList_step (v := ?v85) (w' := ?w85) rfl ?h85 ?k85
   case h85 => (go_simp; refine ⟨?_, ?_⟩) <;> with_reducible rfl
   try simp only [Act.put, p1, p2, p3]
   refine wpList_step (v := ?v86) (w' := ?w86) rfl ?h86 ?k86
   case h86 => (go_simp; refine ⟨?_, ?_⟩) <;> with_reducible rfl
   try simp only [Act.put, p1, p2, p3]
   refine wpList_step (v := ?v87) (w' := ?w87) rfl ?h87 ?k87
   case h87 => (go_simp; refine ⟨?_, ?_⟩) <;> with_reducible rfl
   try simp only [Act.put, p1, p2, p3]
   have hrow := HC.out.kept (q + 1 + 1) anO2 (List.mem_cons_of_mem _ List.mem_cons_self)
   refine wpList_store_mid rfl 25 (.tmp 10) (.tmp 37) rfl (q + 1 + 1) 0 #[.int .i64 0, .int .u64 0, .int .u64 0, .string ⟨#[]⟩, .int .i64 0, .int .i64 0, .int .i64 0, .int .i64 0, .int .i64 0, .int .i64 0, .int .i64 0, .int .u64 0, .int .u64 0] rfl rfl (there_row hrow (by simp)) (by kernel_rfl) (by simp [Value.oneCell']) ?_
   try simp only [Act.put, p1, p2, p3]
   try simp only [List.toList_toArray]
   have hsub : ∀ x, x ∈ ((q + 1 + 1 + 1, anO3) :: (q + 1, (anO1 P)) :: (q, (anO0 P)) :: bs) → x ∈ ((q + 1 + 1 + 1, anO3) :: (q + 1 + 1, anO2) :: (q + 1, (anO1 P)) :: (q, (anO0 P)) :: bs) ∧ x.1 ≠ q + 1 + 1 := by
    intro x hx
    simp only [List.mem_cons] at hx ⊢
    rcases hx with rfl | rfl | rfl | hx
    ·exact ⟨by simp, by dsimp only; omega⟩
    ·exact ⟨by simp, by dsimp only; omega⟩
    ·exact ⟨by simp, by dsimp only; omega⟩
    ·exact ⟨by simp [hx], fun q => by have := HK.out x.1 x.2 hx; omega⟩
   have HR2 := Lib.hid (row_all [.int .i64 0, .int .u64 0, .int .u64 0, .string ⟨#[]⟩, .int .i64 0, .int .i64 0, .int .i64 0, .int .i64 0, .int .i64 0, .int .i64 0, .int .i64 0, .int .u64 0, .int .u64 0] hrow rfl)
   replace HC := Lib.hid (HC.out.writes g2 (List.mem_cons_of_mem _ List.mem_cons_self) (by have := HQ.out; omega) (chg_setCells (q + 1 + 1) [.int .i64 0, .int .u64 0, .int .u64 0, .string ⟨#[]⟩, .int .i64 0, .int .i64 0, .int .i64 0, .int .i64 0, .int .i64 0, .int .i64 0, .int .i64 0, .int .u64 0, .int .u64 0] 0 _) hsub)
   clear hrow hsub
   generalize hwg : World.setCells _ _ _ _ = Wf1 at HC HR2 ⊢
   clear hwg
   have hrow := HC.out.kept (q + 1 + 1 + 1) anO3 List.mem_cons_self
   refine wpList_store_mid rfl 75 (.tmp 11) (.tmp 38) rfl (q + 1 + 1 + 1) 0 #[.int .i64 0, .int .i64 0, .int .i64 0, .int .i64 0] rfl rfl (there_row hrow (by simp)) (by kernel_rfl) (by simp [Value.oneCell']) ?_
   try simp only [Act.put, p1, p2, p3]
   try simp only [List.toList_toArray]
   have hsub : ∀ x, x ∈ ((q + 1, (anO1 P)) :: (q, (anO0 P)) :: bs) → x ∈ ((q + 1 + 1 + 1, anO3) :: (q + 1, (anO1 P)) :: (q, (anO0 P)) :: bs) ∧ x.1 ≠ q + 1 + 1 + 1 := by
    intro x hx
    simp only [List.mem_cons] at hx ⊢
    rcases hx with rfl | rfl | hx
    ·exact ⟨by simp, by dsimp only; omega⟩
    ·exact ⟨by simp, by dsimp only; omega⟩
    ·exact ⟨by simp [hx], fun q => by have := HK.out x.1 x.2 hx; omega⟩
   have HR3 := Lib.hid (row_all [.int .i64 0, .int .i64 0, .int .i64 0, .int .i64 0] hrow rfl)
   replace HR2 := Lib.hid (((chg_setCells (q + 1 + 1 + 1) [.int .i64 0, .int .i64 0, .int .i64 0, .int .i64 0] 0 _).block _ (lt_some HR2.out) (by simp)).trans HR2.out)
   replace HC := Lib.hid (HC.out.writes g2 List.mem_cons_self (by have := HQ.out; omega) (chg_setCells (q + 1 + 1 + 1) [.int .i64 0, .int .i64 0, .int .i64 0, .int .i64 0] 0 _) hsub)
   clear hrow hsub
   generalize hwg : World.setCells _ _ _ _ = Wf2 at HC HR2 HR3 ⊢
   clear hwg
   refine wpList_step (v := ?v88) (w' := ?w88) rfl ?h88 ?k88
   case h88 => (go_simp; refine ⟨?_, ?_⟩) <;> with_reducible rfl
   try simp only [Act.put, p1, p2, p3]
   go_wp2_with fail
   have r2_0 := cell_of_row _ _ 0 _ _ _ HR2.out
   have r2_1 := cell_of_row _ _ 1 _ _ _ HR2.out
   have r2_2 := cell_of_row _ _ 2 _ _ _ HR2.out
   have r2_3 := cell_of_row _ _ 3 _ _ _ HR2.out
   have r2_4 := cell_of_row _ _ 4 _ _ _ HR2.out
   have r2_5 := cell_of_row _ _ 5 _ _ _ HR2.out
   have r2_6 := cell_of_row _ _ 6 _ _ _ HR2.out
   have r2_7 := cell_of_row _ _ 7 _ _ _ HR2.out
   have r2_8 := cell_of_row _ _ 8 _ _ _ HR2.out
   have r2_9 := cell_of_row _ _ 9 _ _ _ HR2.out
   have r2_10 := cell_of_row _ _ 10 _ _ _ HR2.out
   have r2_11 := cell_of_row _ _ 11 _ _ _ HR2.out
   have r2_12 := cell_of_row _ _ 12 _ _ _ HR2.out
   simp at r2_0 r2_1 r2_2 r2_3 r2_4 r2_5 r2_6 r2_7 r2_8 r2_9 r2_10 r2_11 r2_12
   have r3_0 := cell_of_row _ _ 0 _ _ _ HR3.out
   have r3_1 := cell_of_row _ _ 1 _ _ _ HR3.out
   have r3_2 := cell_of_row _ _ 2 _ _ _ HR3.out
   have r3_3 := cell_of_row _ _ 3 _ _ _ HR3.out
   simp at r3_0 r3_1 r3_2 r3_3
   exact bodyPost_ret (v := .tuple #[.agg #[.int .i64 0, .int .u64 0, .int .u64 0, .string ⟨#[]⟩, .int .i64 0, .int .i64 0, .int .i64 0, .int .i64 0, .int .i64 0, .int .i64 0, .int .i64 0, .int .u64 0, .int .u64 0], .agg #[.int .i64 0, .int .i64 0, .int .i64 0, .int .i64 0], .int .i64 c]) (by simp [results, Tryz.results26, go_sem, r2_0, r2_1, r2_2, r2_3, r2_4, r2_5, r2_6, r2_7, r2_8, r2_9, r2_10, r2_11, r2_12 ,r3_0, r3_1, r3_2, r3_3]) rfl ⟨rfl, HC.out.less (fun x q => List.mem_cons_of_mem _ (List.mem_cons_of_mem _ (q)))⟩
end
end Go.Proofs.YtgeonppckeiceaaGreatDoor
