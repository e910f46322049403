/- The program's hang: a term waits for all of which it asks. -/
import Derived.Test.YtgeonppckeiceaaGreatDoorGq01
import Derived.Test.YtgeonppckeiceaaGreatDoorGq33
import Derived.Deep.AppendLies
namespace Go.Proofs.YtgeonppckeiceaaGreatDoor
open Go.RowKit
open Go.Maps
set_option linter.unusedVariables false
set_option linter.unusedSimpArgs false
set_option maxRecDepth 20000
def Hung (w0 : World) (g : Nat) (L : List Tm) (dh kem : Bool) (B : MB) (H : Nat → List Int) (v : Value) (M : List Int) (e : Ending) (W' : World) : Prop := e = .returned (.tuple #[]) ∧ ∃ vs', MindF w0 g L dh kem B H vs' v M W'
theorem box_far {wq w1 : World} {o : Obj} {row : Option Nat} {g : Nat} {cs : Array Value} {t : TypeId} {fr : Nat × Nat} (hb : wq.heap[g]? = some (.cells cs t fr)) (hgrow : (wq.alloc o).grownBy w1 row) (hne : row ≠ some g) : w1.heap[g]? = some (.cells cs t fr) := by
 have hlt := blk_lt hb
 rw [hgrow.block g (by simp; omega) (fun e => hne e.symm), heap_alloc_old _ _ hlt]
 exact hb
theorem asked_note {L : List Tm} {t u : Tm} (h : u ∈ othersT t) : noteOf L L.length u = nameOf L u := noteOf_all L (by
 unfold othersT at h
 split at h
 ·rcases (by simpa using h : u = pubT t.A ∨ u = pubT t.B) with rfl | rfl
  ·exact .inl rfl
  ·exact .inl rfl
 ·split at h
  ·rcases (by simpa using h : u = kpubT t.A) with rfl
   exact .inr (.inl rfl)
  ·split at h
   ·rcases (by simpa using h : u = kpubT t.A ∨ u = boxT t.A t.B) with rfl | rfl
    ·exact .inr (.inl rfl)
    ·exact .inr (.inr rfl)
   ·simp at h)
theorem others_wf {L : List Tm} (hm : L.length ≤ 1048576) {t u : Tm} (hp : ∀ y, y ∈ partsT t → InL L y) (h : u ∈ othersT t) : Wf u := by
 unfold othersT at h
 split at h
 ·rename_i q
  have hA := hp t.A (by simp [partsT, many, q])
  have hB := hp t.B (by simp [partsT, many, q])
  rcases (by simpa using h : u = pubT t.A ∨ u = pubT t.B) with rfl | rfl
  ·exact wf_pub hm hA
  ·exact wf_pub hm hB
 ·split at h
  ·rename_i q
   have hA := hp t.A (by simp [partsT, many, q])
   rcases (by simpa using h : u = kpubT t.A) with rfl
   exact wf_kpub hm hA
  ·split at h
   ·rename_i q
    have hA := hp t.A (by simp [partsT, many, q])
    have hB := hp t.B (by simp [partsT, many, q])
    rcases (by simpa using h : u = kpubT t.A ∨ u = boxT t.A t.B) with rfl | rfl
    ·exact wf_kpub hm hA
    ·exact wf_box hm hA hB
   ·simp at h
theorem size_drew_alloc (w : World) (o : Obj) : (w.drew.alloc o).heap.size = w.heap.size + 1 := by
 rw [show (w.drew.alloc o).heap.size = w.drew.heap.size + 1 by simp]
 rfl
def HeldC (m q nB : Nat) (K : Int) (S : ByteArray) (N A Bx C : Int) (w : World) : Prop := w.cell? ⟨m, 17, none⟩ = some (.map (some nB)) ∧ w.cell? ⟨q, 0, none⟩ = some (.int .i64 K) ∧ w.cell? ⟨q, 1, none⟩ = some (.string S) ∧ w.cell? ⟨q, 2, none⟩ = some (.int .u64 N) ∧ w.cell? ⟨q, 3, none⟩ = some (.int .i64 A) ∧ w.cell? ⟨q, 4, none⟩ = some (.int .i64 Bx) ∧ w.cell? ⟨q, 5, none⟩ = some (.int .i64 C)
theorem HeldC.chg {m q nB : Nat} {K : Int} {S : ByteArray} {N A Bx C : Int} {T : Nat → Prop} {w w' : World} (h : HeldC m q nB K S N A Bx C w) (hc : Chg T w w') (h1 : ¬ T m) (h2 : ¬ T q) : HeldC m q nB K S N A Bx C w' := by
 obtain ⟨a, a0, r⟩ := h
 have e : ∀ i, w'.cell? ⟨q, i, none⟩ = w.cell? ⟨q, i, none⟩ := fun i => World.cell?_of_block (a := ⟨q, i, none⟩) (hc.block q (block_lt_of_cell a0) h2)
 have e2 : ∀ i, w'.cell? ⟨m, i, none⟩ = w.cell? ⟨m, i, none⟩ := fun i => World.cell?_of_block (a := ⟨m, i, none⟩) (hc.block m (block_lt_of_cell a) h1)
 unfold HeldC
 simp only [e, e2]
 exact ⟨a, a0, r⟩
theorem getT_mem {ts : List Tm} {k : Nat} (h : k < ts.length) : ts.getD k zeroT ∈ ts := by simp [List.getD, h]
theorem take_getT {ts : List Tm} {k : Nat} (h : k < ts.length) : ts.take (k + 1) = ts.take k ++ [ts.getD k zeroT] := by
 rw [List.take_add_one]
 simp [List.getD, h]
section
variable {w0 : World} {g : Nat} {L : List Tm} {dh kem : Bool} {B : MB} {vs : Nat → Value} {v : Value} {M : List Int}
set_option maxHeartbeats 8000000 in
set_option maxRecDepth 100000 in
theorem hang_k (hg : StoreAt w0 g L) (hS : Sound L) (k : Nat) (hk : k < L.length) (W : World) (h : MindF w0 g L dh kem B (hangs L k) vs v M W) :
  Calls Tryz.prog 157 #[.pointer (some ⟨B.m, 0, none⟩), .int .i64 ((k : Int) + 1)] W (Hung w0 g L dh kem B (hangs L (k + 1)) v M) := by
 have hnin : InL L ((k : Int) + 1) := by unfold InL; omega
 have hgt : getT L ((k : Int) + 1) = (tm L ((k : Int) + 1), true) := getT_tm hnin
 have hab := asks_bound hS hnin
 have hpm := parts_mem hS hnin
 have hAL : asks L ((k : Int) + 1) = partsT (tm L ((k : Int) + 1)) ++ [(k : Int) + 1] ++ (othersT (tm L ((k : Int) + 1))).map (nameOf L) := rfl
 obtain ⟨H, hH⟩ : ∃ H, H = hangs L k := ⟨_, rfl⟩
 have hH1 : hangs L (k + 1) = hangAll H ((k : Int) + 1) (asks L ((k : Int) + 1)) := by rw [hH]; rfl
 have hHl : ∀ i, (H i).length ≤ 6 * k := fun i => by rw [hH]; exact hangs_len L k i
 rw [hH1]
 rw [← hH] at h
 obtain ⟨x0, hx0⟩ : ∃ x0, x0 = (k : Int) + 1 := ⟨_, rfl⟩
 rw [← hx0] at hgt hab hpm hAL hnin ⊢
 obtain ⟨AL, hALe⟩ : ∃ AL, AL = asks L x0 := ⟨_, rfl⟩
 rw [← hALe] at hAL hab ⊢
 have hALl : AL.length ≤ 6 := by rw [hALe]; exact asks_len L x0
 obtain ⟨⟨K, S, N, A, Bx, C⟩, ht⟩ : ∃ t, t = tm L x0 := ⟨_, rfl⟩
 rw [← ht] at hgt hpm hAL
 have HGET : Hid (Calls Tryz.prog 102 #[.pointer (some ⟨g, 0, none⟩), .int .i64 x0] W fun e W' => e = .returned (.tuple #[Tm.v ⟨K, S, N, A, Bx, C⟩, .bool true]) ∧ Below W.heap.size W W') := Lib.hid (by
  have := hg.get h.below x0
  rw [hgt] at this
  exact this)
 unfold Tm.v at HGET
 have HPARTS : Hid (∀ w', Calls Tryz.prog 160 #[Tm.v ⟨K, S, N, A, Bx, C⟩] w' fun e w'' => ∃ u, e = .returned u ∧ OwnI w'.heap.size u (partsT ⟨K, S, N, A, Bx, C⟩) w'' ∧ Below w'.heap.size w' w'') := Lib.hid (fun w' => parts_own _ w')
 have HOTHERS : Hid (∀ w', Calls Tryz.prog 193 #[Tm.v ⟨K, S, N, A, Bx, C⟩] w' (Others ⟨K, S, N, A, Bx, C⟩ w')) := Lib.hid (fun w' => others_k _ w')
 unfold Tm.v at HPARTS HOTHERS
 have HWF : Hid (∀ u, u ∈ othersT ⟨K, S, N, A, Bx, C⟩ → Wf u ∧ noteOf L L.length u = nameOf L u) := Lib.hid (fun u hu => ⟨others_wf h.most hpm hu, asked_note hu⟩)
 have hol : (othersT ⟨K, S, N, A, Bx, C⟩).length ≤ 2 := by
  unfold othersT
  split
  ·simp
  ·split
   ·simp
   ·split <;> simp
 have hpl : (partsT ⟨K, S, N, A, Bx, C⟩).length ≤ 3 := by unfold partsT; rw [List.length_take]; simp; omega
 obtain ⟨pa, hpa⟩ : ∃ pa, pa = partsT ⟨K, S, N, A, Bx, C⟩ := ⟨_, rfl⟩
 obtain ⟨ot, hot⟩ : ∃ ot, ot = othersT ⟨K, S, N, A, Bx, C⟩ := ⟨_, rfl⟩
 rw [← hpa] at HPARTS hpl hAL
 rw [← hot] at HWF hol hAL
 have HOT := Lib.hid hot
 have HAL := Lib.hid hAL
 have HAB := Lib.hid hab
 have HHL := Lib.hid hHl
 have hmost := h.most
 have HM := Lib.hid h
 obtain ⟨i0, hi0, hz0, hz1, hz2⟩ := info_parts info3
 obtain ⟨d0, _⟩ := h.cells
 have hxw : IntKind.i64.wrap x0 = x0 := wrap_small _ (by omega) (by omega)
 clear hgt hg hS h hH hH1 hHl ht hpa hot hAL hab hpm hALe hx0 hnin
 go_enter Tryz.func157, Tryz.ntmps157
 go_wp2_with fail
 refine HGET.out.mono ?_
 rintro e w1 ⟨rfl, hb1⟩
 obtain ⟨W1, hW1⟩ : ∃ W1, W1 = w1.alloc (.cells #[.int .i64 K, .string S, .int .u64 N, .int .i64 A, .int .i64 Bx, .int .i64 C] 116) := ⟨_, rfl⟩
 have HB1 : Hid (Below W.heap.size W W1) := Lib.hid (by rw [hW1]; exact hb1.alloc hb1.size _)
 have HQ1 : Hid (W1.heap[w1.heap.size]? = some (.cells #[.int .i64 K, .string S, .int .u64 N, .int .i64 A, .int .i64 Bx, .int .i64 C] 116 (0, 0))) := Lib.hid (by rw [hW1]; exact heap_alloc_new w1 _)
 have z : ∀ j, W1.cell? ⟨w1.heap.size, j, none⟩ = #[Value.int .i64 K, .string S, .int .u64 N, .int .i64 A, .int .i64 Bx, .int .i64 C][j]? := fun j => cell_of_row _ _ j _ _ _ HQ1.out
 have z0 := z 0
 have z1 := z 1
 have z2 := z 2
 have z3 := z 3
 have z4 := z 4
 have z5 := z 5
 simp at z0 z1 z2 z3 z4 z5
 obtain ⟨q1, hq1⟩ : ∃ q1, q1 = w1.heap.size := ⟨_, rfl⟩
 rw [← hq1] at HQ1 z0 z1 z2 z3 z4 z5
 clear z hb1 HGET d0
 go_wp2_with fail
 rw [← hW1]
 rw [← hq1]
 clear hW1 hq1
 refine (HPARTS.out W1).mono ?_
 rintro e W2 ⟨u, rfl, ho, hb2⟩
 have HB2 : Hid (Below W.heap.size W W2) := Lib.hid (HB1.out.trans (hb2.mono HB1.out.size))
 have hq1l : q1 < W1.heap.size := blk_lt HQ1.out
 have HQ2 : Hid (W2.heap[q1]? = some (.cells #[.int .i64 K, .string S, .int .u64 N, .int .i64 A, .int .i64 Bx, .int .i64 C] 116 (0, 0))) := Lib.hid (by rw [hb2.block q1 hq1l]; exact HQ1.out)
 have MV : Hid (u.ownBlock ≠ some q1) := Lib.hid (fun e => by have := (World.ownsRow.lt ho q1 e).1; omega)
 have ho2 := ho.low HB1.out.size
 obtain ⟨au, cu, rfl, hau⟩ := ho2.at
 have HRow : Hid (W2.ownsRow W.heap.size 3 1 (.slice au pa.length cu) pa.length (intsR pa)) := Lib.hid ho2
 have HNW : Hid ((W2.alloc (.cells #[.int .i64 x0] 3)).heap[W2.heap.size]? = some (.cells #[.int .i64 x0] 3 (0, 0))) := Lib.hid (heap_alloc_new W2 _)
 have B1 : Hid (pa.length + 1 ≤ maxLen) := Lib.hid (by unfold maxLen; omega)
 have B2 : Hid ((pa.length + 1) * 8 ≤ 140737488355328) := Lib.hid (by omega)
 have B3 : Hid (W.heap.size ≤ (W2.alloc (.cells #[.int .i64 x0] 3)).heap.size) := Lib.hid (by have := HB2.out.size; simp; omega)
 have B4 : Hid ((W2.alloc (.cells #[.int .i64 x0] 3)).heap.size = W2.heap.size + 1) := Lib.hid (by simp)
 obtain ⟨np, hnp⟩ : ∃ np, np = pa.length := ⟨_, rfl⟩
 rw [← hnp] at HRow B1 B2 hpl MV
 have HNP := Lib.hid hnp
 rw [← hnp]
 clear z0 z1 z2 z3 z4 z5 ho ho2 hau hb2 HB1 HQ1 hq1l hnp HPARTS
 go_wp2_with (at_builtin; refine wpList_append_lies _ rfl _ _ 94 rfl W.heap.size 3 i0 (.int .i64 0) 1 8 Tryz.underlying94 hi0 hz0 hz1 hz2 rfl (by decide) _ _ _ rfl (HRow.out.alloc _) ⟨W2.heap.size, 0, none⟩ 1 1 [.int .i64 x0] rfl rfl (World.news_of_block (cs := #[.int .i64 x0]) (t := 3) (fr := (0, 0)) HNW.out) (by simp [Value.oneCell']) (by omega) B1.out B2.out B3.out (W2.heap.size + 1) B4.out ?_; intro gz2 cap3 w3 hown2 hgrow2 hat2 hlt3; have y := fun j => cell_of_row w3 q1 j _ _ _ (box_far HQ2.out hgrow2 MV.out); have y0 := y 0; have y1 := y 1; have y2 := y 2; have y3 := y 3; have y4 := y 4; have y5 := y 5; simp at y0 y1 y2 y3 y4 y5; have P1 := Lib.hid hown2; have P2 := Lib.hid hgrow2; clear y hown2 hgrow2 hat2)
 have HB3 : Hid (Below W.heap.size W w3) := Lib.hid (HB2.out.trans (OwnI.grownB (o := .cells #[.int .i64 x0] 3) (M := pa) (v := .slice au pa.length cu) (by have := HRow.out; rw [HNP.out] at this; exact this) HB2.out.size (by rw [← HNP.out]; exact P2.out)))
 have HO3 : Hid (OwnI W.heap.size (.slice (some ⟨gz2, 0, none⟩) (np + 1) cap3) (pa ++ [x0]) w3) := Lib.hid (by
  have := OwnI.app (M := pa) (x := x0) (g := gz2) (cap := cap3) (base := W.heap.size) (w' := w3) (by have := P1.out; rw [HNP.out] at this; exact this)
  rw [HNP.out]; exact this)
 refine (HOTHERS.out w3).mono ?_
 rintro e W4 ⟨vo, rfl, hto, hb4⟩
 obtain ⟨ao, co, bo, rfl, hlo, hhi, hbo, hta⟩ := hto
 have HB4 : Hid (Below W.heap.size W W4) := Lib.hid (HB3.out.trans (hb4.mono HB3.out.size))
 have HO4 : Hid (OwnI W.heap.size (.slice (some ⟨gz2, 0, none⟩) (np + 1) cap3) (pa ++ [x0]) W4) := Lib.hid (HO3.out.below hb4)
 rw [← HOT.out] at hbo hta ⊢
 obtain ⟨m, hm⟩ : ∃ m, m = ot.length := ⟨_, rfl⟩
 rw [← hm] at hbo hol ⊢
 have HMM := Lib.hid hm
 have HGB : Hid (gz2 ≠ bo) := Lib.hid (by omega)
 have HTA := Lib.hid hta
 have HBO := Lib.hid hbo
 have HBH := Lib.hid hhi
 clear hlo hhi hbo hta hb4 HB3 HO3 P1 P2 HB2 HRow HNW B1 B2 B3 B4 HQ2 MV y0 y1 y2 y3 y4 y5 hlt3 hm HOTHERS
 go_wp2_with fail
 go_loopw [6, 8, 28] (fun s6 _ s28 wr => ∃ (i ga ca N' : Nat), i ≤ m ∧ s28 = .int .i64 i ∧ s6 = .slice (some ⟨ga, 0, none⟩) N' ca ∧ Hid (N' = np + 1 + i) ∧ Hid (OwnI W.heap.size (.slice (some ⟨ga, 0, none⟩) N' ca) (pa ++ [x0] ++ (ot.take i).map (nameOf L)) wr) ∧ Hid (ga ≠ bo) ∧ Hid (TermsAt wr ao bo ot) ∧ Hid (bo ≤ wr.heap.size ∧ (0 < m → bo < wr.heap.size)) ∧ Hid (Below W.heap.size W wr)) (fun _ _ s28 _ => m - (intOf s28).toNat)
 case atStart => exact ⟨0, gz2, cap3, np + 1, Nat.zero_le _, rfl, rfl, Lib.hid rfl, Lib.hid (by have := HO4.out; simpa using this), HGB, HTA, Lib.hid ⟨HBH.out, HBO.out⟩, HB4⟩
 case round =>
  clear HO4 HGB HTA HBO HBH HB4
  obtain ⟨i, ga, ca, N', hi, rfl, rfl, HN', HO, HGB, HTA, HBO, HB⟩ := hrel
  by_cases hlt : i < m
  ·obtain ⟨rfl, c0, c1, c2, c3, c4, c5⟩ := HTA.out i (by rw [← HMM.out]; exact hlt)
   have hwf := HWF.out _ (getT_mem (ts := ot) (k := i) (by rw [← HMM.out]; exact hlt))
   have hstep : Hid ((ot.take (i + 1)).map (nameOf L) = (ot.take i).map (nameOf L) ++ [nameOf L (ot.getD i zeroT)]) := Lib.hid (by rw [take_getT (by rw [← HMM.out]; exact hlt)]; simp)
   obtain ⟨⟨OK, OS, ON, OA, OB, OC⟩, htt⟩ : ∃ t, t = ot.getD i zeroT := ⟨_, rfl⟩
   rw [← htt] at c0 c1 c2 c3 c4 c5 hwf hstep
   dsimp only at c0 c1 c2 c3 c4 c5
   obtain ⟨kl, hkl⟩ := hwf.1.key
   have HK := Lib.hid hkl
   have hnb := nameOf_bound L ⟨OK, OS, ON, OA, OB, OC⟩
   obtain ⟨c, hc⟩ : ∃ c, c = nameOf L ⟨OK, OS, ON, OA, OB, OC⟩ := ⟨_, rfl⟩
   rw [← hc] at hstep hnb
   have HNT : Hid (noteOf L L.length ⟨OK, OS, ON, OA, OB, OC⟩ = c) := Lib.hid (by rw [hwf.2, hc])
   have hbs := HBO.out.2 (by omega)
   have hlt1 : (i : Int) < (m : Int) := by omega
   have hi2 : (i : Int) ≤ 2 := by omega
   have hm2 : m ≤ 2 := hol
   have Hlt := Lib.hid hlt
   obtain ⟨W5, hW5⟩ : ∃ W5, W5 = wr.alloc (.cells #[.int .i64 OK, .string OS, .int .u64 ON, .int .i64 OA, .int .i64 OB, .int .i64 OC] 116) := ⟨_, rfl⟩
   have hb5 : Below wr.heap.size wr W5 := by rw [hW5]; exact (Below.refl _ _).alloc (Nat.le_refl _) _
   have HB5 : Hid (Below W.heap.size W W5) := Lib.hid (HB.out.trans (hb5.mono HB.out.size))
   have z : ∀ j, W5.cell? ⟨wr.heap.size, j, none⟩ = #[Value.int .i64 OK, .string OS, .int .u64 ON, .int .i64 OA, .int .i64 OB, .int .i64 OC][j]? := fun j => by rw [hW5]; exact cell_of_row _ _ j _ _ _ (heap_alloc_new wr _)
   have z0 := z 0
   have z1 := z 1
   have z2 := z 2
   have z3 := z 3
   have z4 := z 4
   have z5 := z 5
   simp at z0 z1 z2 z3 z4 z5
   have hm5 : MindF w0 g L dh kem B H vs v M W5 := HM.out.next HB5.out
   obtain ⟨_, _, _, c17, _⟩ := hm5.cells
   obtain ⟨nn, D, hmap, _, hok⟩ := hm5.names
   obtain ⟨c9, hlk, hat9, _⟩ := (hmap.drew).lookup_int law32 Tryz.underlying185 Tryz.underlying3 (Tryz.zeroValue3 _) hkl
   have e9 : c9 = c := by
    have hc9 := hok _ _ hkl
    rw [hat9, HNT.out] at hc9
    injection hc9 with hc9
    injection hc9
   rw [e9] at hlk
   clear e9
   unfold Tm.v at hlk
   have HRow : Hid (W5.drew.ownsRow W.heap.size 3 1 (.slice (some ⟨ga, 0, none⟩) N' ca) N' (intsR (pa ++ [x0] ++ (ot.take i).map (nameOf L)))) := Lib.hid (by
    have h5 : OwnI W.heap.size (.slice (some ⟨ga, 0, none⟩) N' ca) (pa ++ [x0] ++ (ot.take i).map (nameOf L)) W5 := HO.out.below hb5
    have h6 : OwnI W.heap.size (.slice (some ⟨ga, 0, none⟩) N' ca) (pa ++ [x0] ++ (ot.take i).map (nameOf L)) W5.drew := h5.below (drewN_below W5 1)
    have hl : (pa ++ [x0] ++ (ot.take i).map (nameOf L)).length = N' := by have := HN'.out; have := HNP.out; have := HMM.out; have := Hlt.out; simp; omega
    have h7 : W5.drew.ownsRow W.heap.size 3 1 (.slice (some ⟨ga, 0, none⟩) N' ca) (pa ++ [x0] ++ (ot.take i).map (nameOf L)).length (intsR (pa ++ [x0] ++ (ot.take i).map (nameOf L))) := h6
    rw [hl] at h7
    exact h7)
   have HW5 : Hid (W5.heap.size = wr.heap.size + 1) := Lib.hid (by rw [hW5]; simp)
   have HNW : Hid ((W5.drew.alloc (.cells #[.int .i64 c] 3)).heap[W5.heap.size]? = some (.cells #[.int .i64 c] 3 (0, 0))) := Lib.hid (heap_alloc_new W5.drew _)
   have B1 : Hid (N' + 1 ≤ maxLen) := Lib.hid (by have := HN'.out; unfold maxLen; omega)
   have B2 : Hid ((N' + 1) * 8 ≤ 140737488355328) := Lib.hid (by have := HN'.out; omega)
   have B3 : Hid (W.heap.size ≤ (W5.drew.alloc (.cells #[.int .i64 c] 3)).heap.size) := Lib.hid (by rw [size_drew_alloc]; have := HB5.out.size; omega)
   have B4 : Hid ((W5.drew.alloc (.cells #[.int .i64 c] 3)).heap.size = W5.heap.size + 1) := Lib.hid (size_drew_alloc _ _)
   have hmq : B.m < W5.heap.size ∧ B.m < wr.heap.size := ⟨(hm5.at 0 B.m rfl).2, (HM.out.next HB.out |>.at 0 B.m rfl).2⟩
   have hgm : ga ≠ B.m := fun e => by have h1 := (HM.out.at 0 B.m rfl).2; have h2 := (World.ownsRow.lt HO.out ga rfl).1; omega
   have hgq : ga ≠ wr.heap.size := fun e => by have h2 := (World.ownsRow.lt HO.out ga rfl).2; omega
   have HS0 : Hid (HeldC B.m wr.heap.size B.n OK OS ON OA OB OC W5.drew) := Lib.hid ⟨c17, z0, z1, z2, z3, z4, z5⟩
   clear z hc htt hwf hkl hmap hok hlt hi hm5 HO hat9
   go_wp2_with fail
   rw [← hW5]
   clear hW5
   clear z0 z1 z2 z3 z4 z5 c17 c0 c1 c2 c3 c4 c5
   have hS0 := HS0.out
   refine wp_region_held_drew (S := (fun w' => w'.cell? ⟨B.m, 17, none⟩ = some (.map (some B.n)) ∧ w'.cell? ⟨wr.heap.size, 0, none⟩ = some (.int .i64 OK) ∧ w'.cell? ⟨wr.heap.size, 1, none⟩ = some (.string OS) ∧ w'.cell? ⟨wr.heap.size, 2, none⟩ = some (.int .u64 ON) ∧ w'.cell? ⟨wr.heap.size, 3, none⟩ = some (.int .i64 OA) ∧ w'.cell? ⟨wr.heap.size, 4, none⟩ = some (.int .i64 OB) ∧ w'.cell? ⟨wr.heap.size, 5, none⟩ = some (.int .i64 OC))) (by kernel_rfl) hS0 (fun hHeld => ?_)
   refine tk 0 (h := ?_)
   refine tk 1 (h := ?_)
   refine tk 2 (h := ?_)
   refine tk 3 (h := ?_)
   refine tk 4 (h := ?_)
   refine tk 5 (h := ?_)
   refine rd 6 (h := fun K' hK => ?_)
   go_simp
   refine hK.out _ _ hS0 (fun hHeld => ?_)
   clear hK K'
   try simp only [Act.put, p1, p2, p3]
   refine rd 7 (h := fun K' hK => ?_)
   go_simp
   refine hK.out _ _ (hS0.chg (Chg.alloc _ _ (fun _ => False)) id id) (fun hHeld => ?_)
   clear hK K'
   try simp only [Act.put, p1, p2, p3]
   refine rd 8 (h := fun K' hK => ?_)
   refine step_append_lies _ rfl (.tmp 32) (.tmp 39) 94 rfl W.heap.size 3 i0 (.int .i64 0) 1 8 Tryz.underlying94 hi0 hz0 hz1 hz2 rfl (by decide) _ _ _ rfl (HRow.out.alloc _) ⟨W5.heap.size, 0, none⟩ 1 1 [.int .i64 c] rfl rfl (World.news_of_block (cs := #[.int .i64 c]) (t := 3) (fr := (0, 0)) HNW.out) (by simp [Value.oneCell']) (by omega) B1.out B2.out B3.out (W5.heap.size + 1) B4.out ?_
   intro gz3 cap4 w6 hown6 hgrow6 hat6 hlt6
   have P1 := Lib.hid hown6
   have P2 := Lib.hid hgrow6
   have P3 : Hid ((Value.slice (some ⟨ga, 0, none⟩) N' ca).ownBlock = some gz3 ∨ gz3 = W5.heap.size + 1) := Lib.hid hat6
   clear hown6 hgrow6 hat6
   refine hK.out _ _ ((hS0.chg (Chg.alloc _ _ (fun _ => False)) id id).chg (Chg.grown P2.out) (fun e => hgm (by injection e with e; exact e.symm)) (fun e => hgq (by injection e with e; exact e.symm))) (fun hHeld => ?_)
   clear hK K'
   try simp only [Act.put, p1, p2, p3]
   refine tk 9 (h := ?_)
   refine wpAnyH_done (by kernel_rfl) ?_ _
   go_wp2_with fail
   have C5 : Chg (fun k => some k = some ga) wr w6 := ((Chg.of_below hb5).trans (Chg.drew W5 _)).trans ((Chg.alloc W5.drew _ _).trans (Chg.grown P2.out))
   go_roundw
   case rel => exact ⟨i + 1, gz3, cap4, N' + 1, by have := Hlt.out; omega, by go_num, rfl, Lib.hid (by have := HN'.out; omega), Lib.hid (by
     have h8 := OwnI.app (M := pa ++ [x0] ++ (ot.take i).map (nameOf L)) (g := gz3) (cap := cap4) (base := W.heap.size) (w' := w6) (by
      have hl : (pa ++ [x0] ++ (ot.take i).map (nameOf L)).length = N' := by have := HN'.out; have := HNP.out; have := HMM.out; have := Hlt.out; simp; omega
      rw [hl]; exact P1.out)
     have hl : (pa ++ [x0] ++ (ot.take i).map (nameOf L)).length = N' := by have := HN'.out; have := HNP.out; have := HMM.out; have := Hlt.out; simp; omega
     rw [hl] at h8
     rw [hstep.out, ← List.append_assoc]
     exact h8), Lib.hid (by
      rcases P3.out with q | q
      ·have e : ga = gz3 := by injection q
       rw [← e]; exact HGB.out
      ·have := HW5.out; omega), Lib.hid (HTA.out.chg C5 (fun _ => hbs) (fun e => HGB.out (by injection e with e; exact e.symm))), Lib.hid (by have := C5.size; exact ⟨by omega, fun _ => by omega⟩), Lib.hid (HB.out.trans (C5.below (fun k e => by injection e with e; subst e; exact (World.ownsRow.lt HRow.out k rfl).1) HB.out.size))⟩
   case measure => have := Hlt.out; simp [intOf]; omega
  ·obtain rfl : i = m := by omega
   have hlt1 : decide ((i : Int) < i) = false := by simp
   clear hlt hi
   go_wp2_with fail
   have HOA : Hid (OwnI W.heap.size (.slice (some ⟨ga, 0, none⟩) N' ca) AL wr) := Lib.hid (by have := HO.out; rw [HMM.out, List.take_length] at this; rw [HAL.out]; exact this)
   have HNA : Hid (N' = AL.length) := Lib.hid (by have := HN'.out; have := HNP.out; have := HMM.out; rw [HAL.out]; simp; omega)
   have hN6 : N' ≤ 6 := by have := HNA.out; omega
   have HMW : Hid (MindF w0 g L dh kem B H vs v M wr) := Lib.hid (HM.out.next HB.out)
   have HFAR : Hid (∀ i k, tagged B v vs i = some k → k ≠ ga) := Lib.hid (fun i k hk e => by
    have h1 := (HM.out.at i k hk).2
    have h2 := (World.ownsRow.lt HOA.out ga rfl).1
    omega)
   clear HO HGB HTA HBO HN' HWF HMM HOT hol HNP hpl HAL
   go_loopw [10, 44] (fun _ s44 wr => ∃ (i : Nat) (vs' : Nat → Value), i ≤ N' ∧ s44 = .int .i64 i ∧ Hid (MindF w0 g L dh kem B (hangAll H x0 (AL.take i)) vs' v M wr) ∧ Hid (OwnI W.heap.size (.slice (some ⟨ga, 0, none⟩) N' ca) AL wr) ∧ Hid (∀ i k, tagged B v vs' i = some k → k ≠ ga)) (fun _ s44 _ => N' - (intOf s44).toNat)
   case atStart => exact ⟨0, vs, Nat.zero_le _, rfl, HMW, HOA, HFAR⟩
   case round =>
    clear HMW HOA HFAR HM
    obtain ⟨i, vs', hi, rfl, HM, HOA, HFAR⟩ := hrel
    by_cases hlt : i < N'
    ·obtain ⟨aa, cc, ee, hcell, hba⟩ := HOA.out.nat (i := i) (by rw [← HNA.out]; exact hlt)
     injection ee with ee1 ee2 ee3
     injection ee1 with ee1
     injection ee1 with ee1
     subst ee1
     have hyb := HAB.out _ (getD_mem (ks := AL) (k := i) (by rw [← HNA.out]; exact hlt))
     obtain ⟨y, hy⟩ : ∃ y : Nat, AL.getD i 0 = (y : Int) := ⟨(AL.getD i 0).toNat, by omega⟩
     rw [hy] at hcell hyb
     have hyL : y ≤ L.length := by omega
     have hyl : (y : Int) < (L.length : Int) + 1 := by omega
     have hstep : Hid (hangAll H x0 (AL.take (i + 1)) = hangOne (hangAll H x0 (AL.take i)) x0 (y : Int)) := Lib.hid (by rw [hangAll_take (by rw [← HNA.out]; exact hlt), hy])
     have hHlen : ((hangAll H x0 (AL.take i)) y).length ≤ 6 * k + 6 := by
      have h1 := hangAll_len (AL.take i) H x0 y
      have h2 := HHL.out y
      have h3 : (AL.take i).length ≤ AL.length := by rw [List.length_take]; omega
      omega
     obtain ⟨H', hH'⟩ : ∃ H', H' = hangAll H x0 (AL.take i) := ⟨_, rfl⟩
     rw [← hH'] at HM hstep hHlen
     obtain ⟨_, _, _, _, c18, _⟩ := HM.out.cells
     have c18y := HM.out.hangAt (i := y) hyL
     have f18y := (HM.out.free y).2.2
     have hrow := HM.out.rows y
     obtain ⟨ah, ch, hvs, hah⟩ := hrow.at
     have HRow0 : Hid (wr.ownsRow w0.heap.size 3 1 (.slice ah (H' y).length ch) (H' y).length (intsR (H' y))) := Lib.hid (by rw [← hvs]; exact hrow)
     have HVS := Lib.hid hvs
     rw [hvs] at c18y
     obtain ⟨ln, hln⟩ : ∃ ln, ln = (H' y).length := ⟨_, rfl⟩
     rw [← hln] at c18y HRow0 hHlen HVS
     have HLN := Lib.hid hln
     have hmb : B.m < wr.heap.size := (HM.out.at 0 B.m rfl).2
     have hhb : B.h < wr.heap.size := (HM.out.at 3 B.h rfl).2
     have MVm : Hid ((Value.slice ah ln ch).ownBlock ≠ some B.m) := Lib.hid (fun e => by have := HM.out.apart (y + 5) 0 B.m (by show (vs' y).ownBlock = _; rw [HVS.out]; exact e) rfl; omega)
     have MVh : Hid ((Value.slice ah ln ch).ownBlock ≠ some B.h) := Lib.hid (fun e => by have := HM.out.apart (y + 5) 3 B.h (by show (vs' y).ownBlock = _; rw [HVS.out]; exact e) rfl; omega)
     have mh : B.m ≠ B.h := fun e => by have := HM.out.apart 0 3 B.m rfl (by show some B.h = _; rw [e]); omega
     have hbs : w0.heap.size ≤ wr.heap.size := HM.out.below.size
     have HNW : Hid ((wr.drew.alloc (.cells #[.int .i64 x0] 3)).heap[wr.heap.size]? = some (.cells #[.int .i64 x0] 3 (0, 0))) := Lib.hid (heap_alloc_new wr.drew _)
     have B1 : Hid (ln + 1 ≤ maxLen) := Lib.hid (by unfold maxLen; omega)
     have B2 : Hid ((ln + 1) * 8 ≤ 140737488355328) := Lib.hid (by omega)
     have B4 : Hid ((wr.drew.alloc (.cells #[.int .i64 x0] 3)).heap.size = wr.heap.size + 1) := Lib.hid (size_drew_alloc _ _)
     have B3 : Hid (w0.heap.size ≤ (wr.drew.alloc (.cells #[.int .i64 x0] 3)).heap.size) := Lib.hid (by have := B4.out; omega)
     have HRow : Hid ((wr.drew.alloc (.cells #[.int .i64 x0] 3)).ownsRow w0.heap.size 3 1 (.slice ah ln ch) ln (intsR (H' y))) := Lib.hid ((Chg.row (Chg.drew wr (fun _ => False)) HRow0.out (fun _ _ q => q)).alloc _)
     have CM : Hid (wr.drew.cell? ⟨B.m, 18, none⟩ = some (.slice (some ⟨B.h, 0, none⟩) (L.length + 1) (L.length + 1))) := Lib.hid c18
     have CMa : Hid ((wr.alloc (.cells #[.int .i64 x0] 3)).drew.cell? ⟨B.m, 18, none⟩ = some (.slice (some ⟨B.h, 0, none⟩) (L.length + 1) (L.length + 1))) := Lib.hid (by
      show (wr.alloc (.cells #[.int .i64 x0] 3)).cell? _ = _
      rw [World.cell?_alloc_past (hn := hmb)]; exact c18)
     have CHa : Hid ((wr.alloc (.cells #[.int .i64 x0] 3)).drew.cell? ⟨B.h, y, none⟩ = some (.slice ah ln ch)) := Lib.hid (by
      show (wr.alloc (.cells #[.int .i64 x0] 3)).cell? _ = _
      rw [World.cell?_alloc_past (hn := hhb)]; exact c18y)
     have CH : Hid (wr.drew.cell? ⟨B.h, y, none⟩ = some (.slice ah ln ch)) := Lib.hid c18y
     have CF : Hid (wr.drew.frozen? ⟨B.h, y, none⟩ = false) := Lib.hid f18y
     have hlt1 : (i : Int) < (N' : Int) := by omega
     have Hlt := Lib.hid hlt
     have HYL := Lib.hid hyL
     clear hrow hah hvs hln hH' hy hyb hba ee2 ee3 hlt hi HRow0 hyL f18y
     go_wp2_with fail
     have hS0 : wr.drew.cell? ⟨B.m, 18, none⟩ = some (.slice (some ⟨B.h, 0, none⟩) (L.length + 1) (L.length + 1)) := CM.out
     have d18y : wr.drew.cell? ⟨B.h, y, none⟩ = some (.slice ah ln ch) := CH.out
     have d18a := CHa.out
     have hhb' : B.h < wr.drew.heap.size := hhb
     clear c18 c18y hcell
     refine wp_region_held_drew (S := (fun w' => w'.cell? ⟨B.m, 18, none⟩ = some (.slice (some ⟨B.h, 0, none⟩) (L.length + 1) (L.length + 1)))) (by kernel_rfl) hS0 (fun hHeld => ?_)
     refine tk 0 (h := ?_)
     refine tk 1 (h := ?_)
     refine tk 2 (h := ?_)
     refine tk 3 (h := ?_)
     refine tk 4 (h := ?_)
     refine tk 5 (h := ?_)
     refine tk 6 (h := ?_)
     refine tk 7 (h := ?_)
     refine tk 8 (h := ?_)
     refine tk 9 (h := ?_)
     refine tk 10 (h := ?_)
     refine tk 12 (h := ?_)
     refine rd2 11 13 (h := fun K' hK => ?_) (h' := fun K' hK => ?_)
     ·go_simp
      refine hK.out _ _ hS0 (fun hHeld => ?_)
      clear hK K'
      try simp only [Act.put, p1, p2, p3]
      refine rd 13 (h := fun K' hK => ?_)
      go_simp
      refine hK.out _ _ CMa.out (fun hHeld => ?_)
      clear hK K'
      try simp only [Act.put, p1, p2, p3]
      refine rd 14 (h := fun K' hK => ?_)
      refine step_append_lies _ rfl (.tmp 59) (.tmp 61) 94 rfl w0.heap.size 3 i0 (.int .i64 0) 1 8 Tryz.underlying94 hi0 hz0 hz1 hz2 rfl (by decide) _ _ _ rfl HRow.out ⟨wr.heap.size, 0, none⟩ 1 1 [.int .i64 x0] rfl rfl (World.news_of_block (cs := #[.int .i64 x0]) (t := 3) (fr := (0, 0)) HNW.out) (by simp [Value.oneCell']) (by omega) B1.out B2.out B3.out (wr.heap.size + 1) B4.out ?_
      intro gz3 cap4 w6 hown6 hgrow7 hat6 hlt6
      have hgrow6 : (wr.drew.alloc (.cells #[.int .i64 x0] 3)).grownBy w6 (Value.slice ah ln ch).ownBlock := hgrow7
      clear hgrow7
      have e18 : w6.cell? ⟨B.m, 18, none⟩ = some (.slice (some ⟨B.h, 0, none⟩) (L.length + 1) (L.length + 1)) := farc (wq := wr.drew) hmb hgrow6 MVm.out CM.out
      have e18y : w6.cell? ⟨B.h, y, none⟩ = some (.slice ah ln ch) := farc (wq := wr.drew) hhb hgrow6 MVh.out CH.out
      have f18y : w6.frozen? ⟨B.h, y, none⟩ = false := farf (wq := wr.drew) hhb hgrow6 MVh.out CF.out
      refine hK.out _ _ e18 (fun hHeld => ?_)
      clear hK K'
      try simp only [Act.put, p1, p2, p3]
      refine tk 15 (h := ?_)
      refine rd 16 (h := fun K' hK => ?_)
      go_simp
      refine hK.out _ _ (by rw [World.cell?_setCell_other _ _ _ _ (by simp [mh])]; exact e18) (fun hHeld => ?_)
      clear hK K'
      try simp only [Act.put, p1, p2, p3]
      refine wpAnyH_done (by kernel_rfl) ?_ _
      have CC : Chg (fun k => some k = (vs' y).ownBlock) wr w6 := by
       rw [HVS.out]
       exact (Chg.drew wr _).trans ((Chg.alloc wr.drew _ _).trans (Chg.grown hgrow6))
      have hat7 : (vs' y).ownBlock = some gz3 ∨ wr.heap.size ≤ gz3 := by
       rw [HVS.out]
       rcases hat6 with q | q
       ·exact .inl q
       ·exact .inr (by omega)
      have HH := Lib.hid (HM.out.hung HYL.out (n := x0) (by rw [← HLN.out]; exact hown6) CC hat7)
      have HGL : Hid (ga < wr.heap.size) := Lib.hid (World.ownsRow.lt HOA.out ga rfl).2
      have HFN : Hid (∀ i k, tagged B v (fun i => if i = y then Value.slice (some ⟨gz3, 0, none⟩) (ln + 1) cap4 else vs' i) i = some k → k ≠ ga) := Lib.hid (HM.out.hung_far HGL.out HFAR.out hat7)
      clear hown6 hgrow6 hat6 hlt6 e18 e18y f18y CC hat7 hHeld
      go_wp2_with fail
      go_roundw
      case rel => exact ⟨i + 1, _, by have := Hlt.out; omega, by go_num, Lib.hid (by rw [hstep.out]; have := HH.out.1; rw [← HLN.out] at this; exact this), Lib.hid (HOA.out.chg (by have := HH.out.2; rw [← HLN.out] at this; exact this) (fun k hk e => by
       have e2 : k = ga := by injection hk with hk; exact hk.symm
       subst e2
       rcases e with q | q
       ·exact HFAR.out 3 _ (by show some B.h = some k; rw [q]) rfl
       ·exact HFAR.out (y + 5) _ q.symm rfl)), HFN⟩
      case measure => have := Hlt.out; simp [intOf]; omega
     ·go_simp
      refine hK.out _ _ CMa.out (fun hHeld => ?_)
      clear hK K'
      try simp only [Act.put, p1, p2, p3]
      refine rd 11 (h := fun K' hK => ?_)
      go_simp
      refine hK.out _ _ CMa.out (fun hHeld => ?_)
      clear hK K'
      try simp only [Act.put, p1, p2, p3]
      refine rd 14 (h := fun K' hK => ?_)
      refine step_append_lies _ rfl (.tmp 59) (.tmp 61) 94 rfl w0.heap.size 3 i0 (.int .i64 0) 1 8 Tryz.underlying94 hi0 hz0 hz1 hz2 rfl (by decide) _ _ _ rfl HRow.out ⟨wr.heap.size, 0, none⟩ 1 1 [.int .i64 x0] rfl rfl (World.news_of_block (cs := #[.int .i64 x0]) (t := 3) (fr := (0, 0)) HNW.out) (by simp [Value.oneCell']) (by omega) B1.out B2.out B3.out (wr.heap.size + 1) B4.out ?_
      intro gz3 cap4 w6 hown6 hgrow7 hat6 hlt6
      have hgrow6 : (wr.drew.alloc (.cells #[.int .i64 x0] 3)).grownBy w6 (Value.slice ah ln ch).ownBlock := hgrow7
      clear hgrow7
      have e18 : w6.cell? ⟨B.m, 18, none⟩ = some (.slice (some ⟨B.h, 0, none⟩) (L.length + 1) (L.length + 1)) := farc (wq := wr.drew) hmb hgrow6 MVm.out CM.out
      have e18y : w6.cell? ⟨B.h, y, none⟩ = some (.slice ah ln ch) := farc (wq := wr.drew) hhb hgrow6 MVh.out CH.out
      have f18y : w6.frozen? ⟨B.h, y, none⟩ = false := farf (wq := wr.drew) hhb hgrow6 MVh.out CF.out
      refine hK.out _ _ e18 (fun hHeld => ?_)
      clear hK K'
      try simp only [Act.put, p1, p2, p3]
      refine tk 15 (h := ?_)
      refine rd 16 (h := fun K' hK => ?_)
      go_simp
      refine hK.out _ _ (by rw [World.cell?_setCell_other _ _ _ _ (by simp [mh])]; exact e18) (fun hHeld => ?_)
      clear hK K'
      try simp only [Act.put, p1, p2, p3]
      refine wpAnyH_done (by kernel_rfl) ?_ _
      have CC : Chg (fun k => some k = (vs' y).ownBlock) wr w6 := by
       rw [HVS.out]
       exact (Chg.drew wr _).trans ((Chg.alloc wr.drew _ _).trans (Chg.grown hgrow6))
      have hat7 : (vs' y).ownBlock = some gz3 ∨ wr.heap.size ≤ gz3 := by
       rw [HVS.out]
       rcases hat6 with q | q
       ·exact .inl q
       ·exact .inr (by omega)
      have HH := Lib.hid (HM.out.hung HYL.out (n := x0) (by rw [← HLN.out]; exact hown6) CC hat7)
      have HGL : Hid (ga < wr.heap.size) := Lib.hid (World.ownsRow.lt HOA.out ga rfl).2
      have HFN : Hid (∀ i k, tagged B v (fun i => if i = y then Value.slice (some ⟨gz3, 0, none⟩) (ln + 1) cap4 else vs' i) i = some k → k ≠ ga) := Lib.hid (HM.out.hung_far HGL.out HFAR.out hat7)
      clear hown6 hgrow6 hat6 hlt6 e18 e18y f18y CC hat7 hHeld
      go_wp2_with fail
      go_roundw
      case rel => exact ⟨i + 1, _, by have := Hlt.out; omega, by go_num, Lib.hid (by rw [hstep.out]; have := HH.out.1; rw [← HLN.out] at this; exact this), Lib.hid (HOA.out.chg (by have := HH.out.2; rw [← HLN.out] at this; exact this) (fun k hk e => by
       have e2 : k = ga := by injection hk with hk; exact hk.symm
       subst e2
       rcases e with q | q
       ·exact HFAR.out 3 _ (by show some B.h = some k; rw [q]) rfl
       ·exact HFAR.out (y + 5) _ q.symm rfl)), HFN⟩
      case measure => have := Hlt.out; simp [intOf]; omega
    ·obtain rfl : i = N' := by omega
     have hlt1 : decide ((i : Int) < i) = false := by simp
     clear hlt hi
     go_wp2_with fail
     go_end0
     exact ⟨rfl, vs', by have := HM.out; rw [HNA.out, List.take_length] at this; exact this⟩
end
end Go.Proofs.YtgeonppckeiceaaGreatDoor
