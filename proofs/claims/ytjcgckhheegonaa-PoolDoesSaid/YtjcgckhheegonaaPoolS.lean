/- The program's pool: a part held (tools/stage13/hold.py). -/
import Derived.Test.YtjcgckhheegonaaPoolR
namespace Go.Proofs.Ytjcgckhheegonaa
open Go.RowKit
set_option linter.unusedVariables false
set_option linter.unusedSimpArgs false
set_option maxRecDepth 20000
theorem chg_drew {S : Nat → Prop} {w u : World} (h : Chg S w.drew u) : Chg S w u := ⟨h.os, h.tape, h.output, h.size, h.block⟩
theorem part_a (w u : World) (h : Below (w.alloc (.map #[] 0)).drew.heap.size (w.alloc (.map #[] 0)).drew u) : MapL .i64 Fr.ix encS u w.heap.size [] ∧ Below w.heap.size w u := by
  have h2 : Below (w.alloc (.map #[] 0)).heap.size (w.alloc (.map #[] 0)) u := ⟨h.os, h.tape, h.output, h.size, h.block⟩
  exact ⟨(MapL.made w).below h2, (below_alloc w _).trans (h2.mono (below_alloc w _).size)⟩
theorem part_b (w u : World) (h : Below w.drew.heap.size w.drew u) : MapL .i64 Fr.ix encS (u.alloc (.map #[] 0)) u.heap.size [] ∧ Below w.heap.size w (u.alloc (.map #[] 0)) := by
  have h2 : Below w.heap.size w u := ⟨h.os, h.tape, h.output, h.size, h.block⟩
  exact ⟨MapL.made u, h2.trans ((below_alloc u _).mono h2.size)⟩
theorem ins_at (f : Fr) (w : World) (g : Nat) (h : MapL .i64 Fr.ix encS w g []) : ∃ w', (Instr.mapUpdate 77 (.map (some g)) (.int .i64 f.ix) (.string f.s)).run Try.prog w = .ok () w' ∧ MapL .i64 Fr.ix encS w' g [f] ∧ Chg (fun j => j = g) w w' :=
  h.put_new Try.underlying77 Try.underlying3 f (fun y hy => by simp at hy)
theorem fin_hold {wc w3 w6 w7 : World} {p bh bp g : Nat} {s b : Int} {l l' : List Ms} {ps ps' : List (Ms × Nat)} (h : PAt wc p bh bp s b l ps) (c3 : Chg (fun j => j = bh) wc w3) (h3 : MapL .u64 keyH encH w3 bh l') (b6 : Below w3.heap.size w3 w6) (hgs : wc.heap.size ≤ g) (c7 : Chg (fun j => j = bp) w6 w7) (h7 : MapL .u64 keyP encP w7 bp ps')
    (hfst : ps'.map Prod.fst = l') (heach : ∀ x, x ∈ ps' → x ∈ ps ∨ (x.2 = g ∧ MapL .i64 Fr.ix encS w6 g x.1.parts)) : PAt w7 p bh bp s b l' ps' ∧ Chg (fun k => k = bh ∨ k = bp) wc w7 := by
  have hA := h.apart
  have hbh := h.heads.lt
  have hbp := h.parts.lt
  have c : Chg (fun k => k = bh ∨ k = bp) wc w7 := ((c3.mono (fun _ e => .inl e)).trans (Chg.of_below b6)).trans (c7.mono (fun _ e => .inr e))
  refine ⟨⟨c.blk h.blk (fun e => by rcases e with e | e; exact hA.1 e; exact hA.2.1 e), (h3.below b6).chg c7 h.ne, h7, hfst, fun x hx => ?_, h.ne, fun x hx => ?_⟩, c⟩
  · rcases heach x hx with q | ⟨q1, q2⟩
    · exact (h.each x q).chg c (fun e => by rcases e with e | e; exact (h.off x q).1 e; exact (h.off x q).2 e)
    · rw [q1]; exact q2.chg c7 (by omega)
  · rcases heach x hx with q | ⟨q1, _⟩
    · exact h.off x q
    · exact ⟨by omega, by omega⟩
theorem put_nw (bp : Nat) (ps : List (Ms × Nat)) (m : Ms) (g : Nat) (id : Int) (hid : (headM m).id = id) (w : World) (h : MapL .u64 keyP encP w bp ps) (hn : ∀ y, y ∈ ps → keyP y ≠ keyH m) : ∃ w', (Instr.mapUpdate 59 (.map (some bp)) (.int .u64 id) (.map (some g))).run Try.prog w.drew = .ok () w' ∧ MapL .u64 keyP encP w' bp (ps ++ [(m, g)]) ∧ Chg (fun j => j = bp) w w' := by
  subst hid
  obtain ⟨w', h1, h2, h3⟩ := MapL.put_new (w := w.drew) h Try.underlying59 Try.underlying32 (m, g) hn
  exact ⟨w', h1, h2, chg_drew h3⟩
theorem put_od (bp : Nat) (ps : List (Ms × Nat)) (m : Ms) (g : Nat) (id : Int) (hid : (headM m).id = id) (w : World) (h : MapL .u64 keyP encP w bp ps) (hn : ∃ y, y ∈ ps ∧ keyP y = keyH m) : ∃ w', (Instr.mapUpdate 59 (.map (some bp)) (.int .u64 id) (.map (some g))).run Try.prog w.drew = .ok () w' ∧ MapL .u64 keyP encP w' bp (ps.map (fun y => if keyP y == keyP (m, g) then (m, g) else y)) ∧ Chg (fun j => j = bp) w w' := by
  subst hid
  obtain ⟨w', h1, h2, h3⟩ := MapL.put_old (w := w.drew) h Try.underlying59 Try.underlying32 (m, g) hn
  exact ⟨w', h1, h2, chg_drew h3⟩
set_option maxHeartbeats 4000000 in
theorem hold_new {w : World} {p bh bp : Nat} {s b : Int} {l : List Ms} {ps : List (Ms × Nat)} (h : PAt w p bh bp s b l ps) (id ix ct now : Int) (sz : ByteArray) (hsz : sz.size ≤ 1000000) (hf : findM id l = none) :
    Calls Try.prog 28 #[.pointer (some ⟨p, 0, none⟩), .agg #[.int .u64 id, .int .i64 ix, .int .i64 ct, .string sz], .int .u64 now] w fun e w' => e = .returned (.tuple #[]) ∧ ∃ nb ps', w.heap.size ≤ nb ∧ PAt w' p bh bp s b (l ++ [⟨[⟨id, ix, ct, sz⟩], now⟩]) ps' ∧ (∀ x, x ∈ ps' → x ∈ ps ∨ x.2 = nb) ∧ Chg (fun k => k = bh ∨ k = bp) w w' := by
  have HH := Lib.hid h
  have HF := Lib.hid hf
  have H1 : Hid (∀ W, Below w.heap.size w W → (Instr.lookup 58 (.map (some bh)) (.int .u64 id) true).run Try.prog W = .ok (.tuple #[.agg #[.int .i64 0, .int .u64 0], .bool false]) W) := Lib.hid (by
    rcases look_h h id with ⟨_, q⟩ | ⟨m, q, _⟩
    · exact q
    · rw [hf] at q; cases q)
  clear hf
  obtain ⟨u1, hu1⟩ : ∃ u1, u1 = w.alloc (.cells #[.int .u64 id, .int .i64 ix, .int .i64 ct, .string sz] 35) := ⟨_, rfl⟩
  obtain ⟨B, hB0⟩ : ∃ B, B = w.heap.size := ⟨_, rfl⟩
  have hb1 : Below w.heap.size w u1 := by rw [hu1]; exact below_alloc w _
  have hbx : u1.heap[B]? = some (.cells #[.int .u64 id, .int .i64 ix, .int .i64 ct, .string sz] 35 (0, 0)) := by rw [hu1, hB0]; exact heap_alloc_new w _
  have HBX := Lib.hid hbx
  have HB1 := Lib.hid hb1
  have HU := Lib.hid hu1
  have HBE := Lib.hid hB0
  have HSZ := Lib.hid hsz
  have HBH := Lib.hid (And.intro HH.out.heads.lt (And.intro HH.out.parts.lt (blk_lt HH.out.blk)))
  clear h hb1 hbx hsz
  go_enter Try.func28, Try.ntmps28
  go_upto_region 1 with fail
  rw [← hu1, ← hB0]
  clear hu1 hB0
  go_cut [6, 7] from 9 to 18 (fun x6 x7 wx => ∃ g, x6 = .pointer (some ⟨g, 0, none⟩) ∧ x7 = .bool false ∧ Below u1.heap.size u1 wx)
  case first =>
    obtain ⟨_, _, k2, k3, _, _⟩ := (HH.out.below HB1.out).cells
    have b0 : u1.cell? ⟨B, 0, none⟩ = some (.int .u64 id) := by rw [cell_atA 0 HBX.out]; rfl
    have b0' : ∀ o, (u1.alloc o).cell? ⟨B, 0, none⟩ = some (.int .u64 id) := fun o => ((below_alloc u1 o).cell (block_lt_of_cell b0)).trans b0
    have k2' : ∀ o, (u1.alloc o).cell? ⟨p, 2, none⟩ = some (.map (some bh)) := fun o => ((below_alloc u1 o).cell (block_lt_of_cell k2)).trans k2
    have q1 : (Instr.lookup 58 (.map (some bh)) (.int .u64 id) true).run Try.prog u1.drew = _ := H1.out _ (below_drew1 HB1.out)
    have q2 : ∀ o, (Instr.lookup 58 (.map (some bh)) (.int .u64 id) true).run Try.prog (u1.alloc o).drew = _ := fun o => H1.out _ (below_drew1 (HB1.out.trans ((below_alloc u1 o).mono HB1.out.size)))
    go_region
    go_wp2_with fail
    go_meet
    exact ⟨u1.heap.size, rfl, rfl, below_drew1 (below_alloc u1 _)⟩
  case rest =>
    obtain ⟨g, rfl, rfl, hbc⟩ := hcut
    obtain ⟨wb, hwb⟩ : ∃ wb, wb = wc := ⟨_, rfl⟩
    subst hwb
    have HWC : Hid (Below w.heap.size w wb) := Lib.hid (HB1.out.trans (hbc.mono HB1.out.size))
    have HBC := Lib.hid ((hbc.block B (blk_lt HBX.out)).trans HBX.out)
    have HHC := Lib.hid (HH.out.below HWC.out)
    clear hbc
    obtain ⟨w3, hrun3, hm3, hc3⟩ : ∃ w3, (Instr.mapUpdate 58 (.map (some bh)) (.int .u64 id) (.agg #[.int .i64 ct, .int .u64 now])).run Try.prog wb.drew = .ok () w3 ∧ MapL .u64 keyH encH w3 bh (l ++ [(⟨[⟨id, ix, ct, sz⟩], now⟩ : Ms)]) ∧ Chg (fun j => j = bh) wb.drew w3 :=
      MapL.put_new (w := wb.drew) (HHC.out.heads) Try.underlying58 Try.underlying32 (⟨[⟨id, ix, ct, sz⟩], now⟩ : Ms) (find_no HF.out)
    obtain ⟨_, _, k2, k3, _, _⟩ := HHC.out.cells
    have b0 : wb.cell? ⟨B, 0, none⟩ = some (.int .u64 id) := by rw [cell_atA 0 HBC.out]; rfl
    have b2 : wb.cell? ⟨B, 2, none⟩ = some (.int .i64 ct) := by rw [cell_atA 2 HBC.out]; rfl
    have HM3 := Lib.hid hm3
    have HC3 := Lib.hid (chg_drew hc3)
    clear hm3 hc3
    go_wp2_with fail
    go_region
    clear k2 k3 b0 b2 hrun3
    have HB3 : Hid (w3.heap[B]? = some (.cells #[.int .u64 id, .int .i64 ix, .int .i64 ct, .string sz] 35 (0, 0))) := Lib.hid (HC3.out.blk HBC.out (fun e => by have := HBH.out.1; have := HBE.out; omega))
    have HP3 : Hid (w3.cell? ⟨p, 3, none⟩ = some (.map (some bp))) := Lib.hid (by rw [cell_atA 3 (HC3.out.blk HHC.out.blk HHC.out.apart.1)]; rfl)
    have HQ3 : Hid (MapL .u64 keyP encP w3 bp ps) := Lib.hid (HHC.out.parts.chg HC3.out (fun e => HHC.out.ne e.symm))
    go_upto_region 4 with fail
    go_cut [8] from 31 to 37 (fun x8 wx => ∃ g2, x8 = .map (some g2) ∧ MapL .i64 Fr.ix encS wx g2 [⟨id, ix, ct, sz⟩] ∧ w3.heap.size ≤ g2 ∧ Below w3.heap.size w3 wx)
    case first =>
      have b1 : w3.cell? ⟨B, 1, none⟩ = some (.int .i64 ix) := by rw [cell_atA 1 HB3.out]; rfl
      have b3 : w3.cell? ⟨B, 3, none⟩ = some (.string sz) := by rw [cell_atA 3 HB3.out]; rfl
      have b1' : ∀ o, (w3.alloc o).cell? ⟨B, 1, none⟩ = some (.int .i64 ix) := fun o => ((below_alloc w3 o).cell (block_lt_of_cell b1)).trans b1
      have b3' : ∀ o, (w3.alloc o).cell? ⟨B, 3, none⟩ = some (.string sz) := fun o => ((below_alloc w3 o).cell (block_lt_of_cell b3)).trans b3
      have hmk := fun t W => run_makeMap (P := Try.prog) t W
      go_region_with (first
        | (go_at_call 26; refine (clone_any sz _ HSZ.out).mono ?_; rintro e w4 ⟨rfl, hb4⟩; have hb5 := part_a w3 w4 hb4; have b14 := (hb5.2.cell (block_lt_of_cell b1)).trans b1; obtain ⟨w5, hrun5, hm5, hc5⟩ := ins_at ⟨id, ix, ct, sz⟩ w4 w3.heap.size hb5.1; have HK : Hid (MapL .i64 Fr.ix encS w5 w3.heap.size [⟨id, ix, ct, sz⟩] ∧ w3.heap.size ≤ w3.heap.size ∧ Below w3.heap.size w3 w5) := Lib.hid ⟨hm5, Nat.le_refl _, hb5.2.trans (hc5.below (fun k e => Nat.le_of_eq e.symm) hb5.2.size)⟩; clear hb5 hm5 hc5 hb4)
        | (go_at_call 26; refine (clone_any sz _ HSZ.out).mono ?_; rintro e w4 ⟨rfl, hb4⟩; have hb5 := part_b w3 w4 hb4; have b14 := (hb5.2.cell (block_lt_of_cell b1)).trans b1; have b15 := ((undrew hb4).cell (block_lt_of_cell b1)).trans b1; obtain ⟨w5, hrun5, hm5, hc5⟩ := ins_at ⟨id, ix, ct, sz⟩ (w4.alloc (.map #[] 0)) w4.heap.size hb5.1; have HK : Hid (MapL .i64 Fr.ix encS w5 w4.heap.size [⟨id, ix, ct, sz⟩] ∧ w3.heap.size ≤ w4.heap.size ∧ Below w3.heap.size w3 w5) := Lib.hid ⟨hm5, (undrew hb4).size, hb5.2.trans (hc5.below (fun k e => by rw [e]; exact (undrew hb4).size) hb5.2.size)⟩; clear hb5 hm5 hc5))
      all_goals
        go_wp2_with fail
        go_meet
        exact ⟨_, rfl, HK.out⟩
    case rest =>
      obtain ⟨g2, rfl, hm4, hl4, hb4⟩ := hcut
      have HM4 := Lib.hid hm4
      have HL4 := Lib.hid hl4
      have HB4 := Lib.hid hb4
      have HBD := Lib.hid ((hb4.block B (blk_lt HB3.out)).trans HB3.out)
      clear hm4 hl4 hb4
      have k3 : wc.cell? ⟨p, 3, none⟩ = some (.map (some bp)) := (HB4.out.cell (block_lt_of_cell HP3.out)).trans HP3.out
      have b0 : wc.cell? ⟨B, 0, none⟩ = some (.int .u64 id) := by rw [cell_atA 0 HBD.out]; rfl
      have HQ4 := Lib.hid (HQ3.out.below HB4.out)
      have q3 : (Instr.lookup 59 (.map (some bp)) (.int .u64 id) false).run Try.prog wc.drew = .ok (.map none) wc.drew := by
        rcases MapL.look1 (w := wc.drew) HQ4.out Try.underlying59 Try.underlying32 (Try.zeroValue77 _) id with ⟨_, q⟩ | ⟨y, hy, e, _⟩
        · exact q
        · exact absurd e (find_no HF.out y.1 (HH.out.mem' hy))
      go_wp2_with fail
      go_region_with (first | (go_at_call 38; refine (copy_nil g2 _).mono ?_; rintro e w6 ⟨rfl, hb6⟩; replace hb6 := undrew hb6; have k36 := (hb6.cell (block_lt_of_cell k3)).trans k3; have b06 := (hb6.cell (block_lt_of_cell b0)).trans b0; obtain ⟨w7, hrun7, hm7, hc7⟩ := put_nw bp ps ⟨[⟨id, ix, ct, sz⟩], now⟩ g2 id rfl w6 (HQ4.out.below hb6) (fun y hy => find_no HF.out y.1 (HH.out.mem' hy)); have HB6 := Lib.hid hb6; have HM7 := Lib.hid hm7; have HC7 := Lib.hid hc7; clear hb6 hm7 hc7))
      all_goals
       go_wp2_with fail
       go_region
       go_wp2_with fail
       go_end0
       obtain ⟨r1, r2⟩ := fin_hold HHC.out HC3.out HM3.out (HB4.out.trans (HB6.out.mono HB4.out.size)) (g := g2) (Nat.le_trans HC3.out.size HL4.out) HC7.out HM7.out (by rw [List.map_append, HH.out.fst]; rfl) (fun x hx => by
         rcases List.mem_append.1 hx with q | q
         · exact .inl q
         · simp only [List.mem_singleton] at q
           subst q
           exact .inr ⟨rfl, HM4.out.below HB6.out⟩)
       exact ⟨rfl, g2, _, Nat.le_trans HWC.out.size (Nat.le_trans HC3.out.size HL4.out), r1, fun x hx => by
         rcases List.mem_append.1 hx with q | q
         · exact .inl q
         · simp only [List.mem_singleton] at q
           subst q
           exact .inr rfl, (Chg.of_below HWC.out).trans r2⟩
theorem put_en {id : Int} {f : Fr} {l : List Ms} (h : ∀ m, m ∈ l → m.parts ≠ []) : l.map (en .u64 keyH encH) = (putM id f l).map (en .u64 keyH encH) := by
  unfold putM
  rw [List.map_map]
  apply List.map_congr_left
  intro m hm
  simp only [Function.comp]
  split
  · unfold en keyH encH
    rw [head_app (h m hm)]
  · rfl
theorem apart_lt {a b c g : Nat} (h1 : a < b) (h2 : b ≤ c) (h3 : c ≤ g) : g ≠ a := by omega
theorem no_ix {fs : List Fr} {id ix ct : Int} {sz : ByteArray} (h : fs.any (fun g => g.ix == ix) = false) : ∀ x, x ∈ fs → ∀ y, y ∈ [(⟨id, ix, ct, sz⟩ : Fr)] → y.ix ≠ x.ix := fun x hx y hy e => by
  simp only [List.mem_singleton] at hy
  subst hy
  have e2 : x.ix = ix := e.symm
  have h9 : fs.any (fun g => g.ix == ix) = true := List.any_eq_true.2 ⟨x, hx, by rw [e2]; exact beq_self_eq_true ix⟩
  rw [h] at h9; cases h9
theorem cell_chg {S : Nat → Prop} {w u : World} {A : Addr} {v : Value} (hc : Chg S w u) (h : w.cell? A = some v) (hn : ¬ S A.block) : u.cell? A = some v := by
  have e := hc.block A.block (block_lt_of_cell h) hn
  unfold World.cell? at h ⊢
  rw [e]; exact h
theorem head_id {w : World} {p bh bp : Nat} {s b id : Int} {l : List Ms} {ps : List (Ms × Nat)} {m : Ms} {yb : Nat} {f : Fr} (h0 : ∀ m, m ∈ l → m.parts ≠ []) (hx : (m, yb) ∈ ps) (h : PAt w p bh bp s b l ps) (hid : (headM m).id = id) : (headM ⟨m.parts ++ [f], m.since⟩).id = id := by
  rw [head_app (h0 m (h.mem' hx))]; exact hid
theorem put_fst {w : World} {p bh bp g yb : Nat} {s b id : Int} {l : List Ms} {ps : List (Ms × Nat)} {m : Ms} {f : Fr} (h : PAt w p bh bp s b l ps) (hx : (m, yb) ∈ ps) (hid : (headM m).id = id) (hid2 : (headM ⟨m.parts ++ [f], m.since⟩).id = id) :
    (ps.map (fun y => if keyP y == keyP (⟨m.parts ++ [f], m.since⟩, g) then ((⟨m.parts ++ [f], m.since⟩ : Ms), g) else y)).map Prod.fst = putM id f l := by
  rw [← h.fst]
  unfold putM
  rw [List.map_map, List.map_map]
  apply List.map_congr_left
  intro y hy
  simp only [Function.comp]
  have e : keyP ((⟨m.parts ++ [f], m.since⟩ : Ms), g) = id := hid2
  rw [e, show keyP y = (headM y.1).id from rfl]
  by_cases q : (headM y.1).id = id
  · rw [if_pos (beq_iff_eq.2 q), if_pos (beq_iff_eq.2 q)]
    have : y = (m, yb) := uniq h.parts.once hy hx (q.trans hid.symm)
    rw [this]
  · rw [if_neg (fun r => q (beq_iff_eq.1 r)), if_neg (fun r => q (beq_iff_eq.1 r))]
set_option maxHeartbeats 4000000 in
theorem hold_old {w : World} {p bh bp : Nat} {s b : Int} {l : List Ms} {ps : List (Ms × Nat)} (h : PAt w p bh bp s b l ps) (id ix ct now : Int) (sz : ByteArray) (hsz : sz.size ≤ 1000000) (x : Ms × Nat) (hx : x ∈ ps) (hid : (headM x.1).id = id) (hno : x.1.parts.any (fun g => g.ix == ix) = false) (hne0 : ∀ m, m ∈ l → m.parts ≠ []) :
    Calls Try.prog 28 #[.pointer (some ⟨p, 0, none⟩), .agg #[.int .u64 id, .int .i64 ix, .int .i64 ct, .string sz], .int .u64 now] w fun e w' => e = .returned (.tuple #[]) ∧ ∃ nb ps', w.heap.size ≤ nb ∧ PAt w' p bh bp s b (putM id ⟨id, ix, ct, sz⟩ l) ps' ∧ (∀ x, x ∈ ps' → x ∈ ps ∨ x.2 = nb) ∧ Chg (fun k => k = bh ∨ k = bp) w w' := by
  have HH := Lib.hid h
  obtain ⟨m, yb⟩ := x
  have HX := Lib.hid hx
  have HID := Lib.hid hid
  have HNO := Lib.hid hno
  have HM0 := Lib.hid hne0
  have H1 : Hid (∀ W, Below w.heap.size w W → (Instr.lookup 58 (.map (some bh)) (.int .u64 id) true).run Try.prog W = .ok (.tuple #[.agg #[.int .i64 (headM m).ct, .int .u64 m.since], .bool true]) W) := Lib.hid (by
    rcases look_h h id with ⟨q, _⟩ | ⟨m2, q, q2⟩
    · exact absurd hid (find_no q m (h.mem' hx))
    · obtain ⟨r1, r2⟩ := find_ok q
      have e : m2 = m := uniq h.heads.once r1 (h.mem' hx) (r2.trans hid.symm)
      rw [e] at q2
      exact q2)
  obtain ⟨c0, hc0⟩ : ∃ c0, (headM m).ct = c0 := ⟨_, rfl⟩
  obtain ⟨s0, hs0⟩ : ∃ s0, m.since = s0 := ⟨_, rfl⟩
  rw [hc0, hs0] at H1
  have HC0 := Lib.hid hc0
  have HS0 := Lib.hid hs0
  clear hx hid hno hc0 hs0 hne0
  obtain ⟨u1, hu1⟩ : ∃ u1, u1 = w.alloc (.cells #[.int .u64 id, .int .i64 ix, .int .i64 ct, .string sz] 35) := ⟨_, rfl⟩
  obtain ⟨B, hB0⟩ : ∃ B, B = w.heap.size := ⟨_, rfl⟩
  have hb1 : Below w.heap.size w u1 := by rw [hu1]; exact below_alloc w _
  have hbx : u1.heap[B]? = some (.cells #[.int .u64 id, .int .i64 ix, .int .i64 ct, .string sz] 35 (0, 0)) := by rw [hu1, hB0]; exact heap_alloc_new w _
  have HBX := Lib.hid hbx
  have HB1 := Lib.hid hb1
  have HU := Lib.hid hu1
  have HBE := Lib.hid hB0
  have HSZ := Lib.hid hsz
  have HBH := Lib.hid (And.intro HH.out.heads.lt (And.intro HH.out.parts.lt (blk_lt HH.out.blk)))
  clear h hb1 hbx hsz
  go_enter Try.func28, Try.ntmps28
  go_upto_region 1 with fail
  rw [← hu1, ← hB0]
  clear hu1 hB0
  go_cut [6, 7] from 9 to 18 (fun x6 x7 wx => ∃ g, x6 = .pointer (some ⟨g, 0, none⟩) ∧ x7 = .bool true ∧ Below u1.heap.size u1 wx)
  case first =>
    obtain ⟨_, _, k2, k3, _, _⟩ := (HH.out.below HB1.out).cells
    have b0 : u1.cell? ⟨B, 0, none⟩ = some (.int .u64 id) := by rw [cell_atA 0 HBX.out]; rfl
    have b0' : ∀ o, (u1.alloc o).cell? ⟨B, 0, none⟩ = some (.int .u64 id) := fun o => ((below_alloc u1 o).cell (block_lt_of_cell b0)).trans b0
    have k2' : ∀ o, (u1.alloc o).cell? ⟨p, 2, none⟩ = some (.map (some bh)) := fun o => ((below_alloc u1 o).cell (block_lt_of_cell k2)).trans k2
    have q1 : (Instr.lookup 58 (.map (some bh)) (.int .u64 id) true).run Try.prog u1.drew = _ := H1.out _ (below_drew1 HB1.out)
    have q2 : ∀ o, (Instr.lookup 58 (.map (some bh)) (.int .u64 id) true).run Try.prog (u1.alloc o).drew = _ := fun o => H1.out _ (below_drew1 (HB1.out.trans ((below_alloc u1 o).mono HB1.out.size)))
    go_region
    go_wp2_with fail
    go_meet
    exact ⟨u1.heap.size, rfl, rfl, below_drew1 (below_alloc u1 _)⟩
  case rest =>
    obtain ⟨g, rfl, rfl, hbc⟩ := hcut
    obtain ⟨wb, hwb⟩ : ∃ wb, wb = wc := ⟨_, rfl⟩
    subst hwb
    have HWC : Hid (Below w.heap.size w wb) := Lib.hid (HB1.out.trans (hbc.mono HB1.out.size))
    have HBC := Lib.hid ((hbc.block B (blk_lt HBX.out)).trans HBX.out)
    have HHC := Lib.hid (HH.out.below HWC.out)
    clear hbc
    obtain ⟨w3, hw3⟩ : ∃ w3, w3 = wb := ⟨_, rfl⟩
    have HW3 := Lib.hid hw3
    have HB3 : Hid (w3.heap[B]? = some (.cells #[.int .u64 id, .int .i64 ix, .int .i64 ct, .string sz] 35 (0, 0))) := Lib.hid (by rw [hw3]; exact HBC.out)
    have HP3 : Hid (w3.cell? ⟨p, 3, none⟩ = some (.map (some bp))) := Lib.hid (by rw [hw3]; exact HHC.out.cells.2.2.2.1)
    have HQ3 : Hid (MapL .u64 keyP encP w3 bp ps) := Lib.hid (by rw [hw3]; exact HHC.out.parts)
    have HC3 : Hid (Chg (fun j => j = bh) wb w3) := Lib.hid (by rw [hw3]; exact Chg.of_below (Below.refl _ _))
    have HM3 : Hid (MapL .u64 keyH encH w3 bh (putM id ⟨id, ix, ct, sz⟩ l)) := Lib.hid (by rw [hw3]; exact HHC.out.heads.congr (put_en HM0.out))
    rw [← hw3]
    clear hw3
    go_upto_region 4 with fail
    go_cut [8] from 31 to 37 (fun x8 wx => ∃ g2, x8 = .map (some g2) ∧ MapL .i64 Fr.ix encS wx g2 [⟨id, ix, ct, sz⟩] ∧ w3.heap.size ≤ g2 ∧ Below w3.heap.size w3 wx)
    case first =>
      have b1 : w3.cell? ⟨B, 1, none⟩ = some (.int .i64 ix) := by rw [cell_atA 1 HB3.out]; rfl
      have b3 : w3.cell? ⟨B, 3, none⟩ = some (.string sz) := by rw [cell_atA 3 HB3.out]; rfl
      have b1' : ∀ o, (w3.alloc o).cell? ⟨B, 1, none⟩ = some (.int .i64 ix) := fun o => ((below_alloc w3 o).cell (block_lt_of_cell b1)).trans b1
      have b3' : ∀ o, (w3.alloc o).cell? ⟨B, 3, none⟩ = some (.string sz) := fun o => ((below_alloc w3 o).cell (block_lt_of_cell b3)).trans b3
      have hmk := fun t W => run_makeMap (P := Try.prog) t W
      go_region_with (first
        | (go_at_call 26; refine (clone_any sz _ HSZ.out).mono ?_; rintro e w4 ⟨rfl, hb4⟩; have hb5 := part_a w3 w4 hb4; have b14 := (hb5.2.cell (block_lt_of_cell b1)).trans b1; obtain ⟨w5, hrun5, hm5, hc5⟩ := ins_at ⟨id, ix, ct, sz⟩ w4 w3.heap.size hb5.1; have HK : Hid (MapL .i64 Fr.ix encS w5 w3.heap.size [⟨id, ix, ct, sz⟩] ∧ w3.heap.size ≤ w3.heap.size ∧ Below w3.heap.size w3 w5) := Lib.hid ⟨hm5, Nat.le_refl _, hb5.2.trans (hc5.below (fun k e => Nat.le_of_eq e.symm) hb5.2.size)⟩; clear hb5 hm5 hc5 hb4)
        | (go_at_call 26; refine (clone_any sz _ HSZ.out).mono ?_; rintro e w4 ⟨rfl, hb4⟩; have hb5 := part_b w3 w4 hb4; have b14 := (hb5.2.cell (block_lt_of_cell b1)).trans b1; have b15 := ((undrew hb4).cell (block_lt_of_cell b1)).trans b1; obtain ⟨w5, hrun5, hm5, hc5⟩ := ins_at ⟨id, ix, ct, sz⟩ (w4.alloc (.map #[] 0)) w4.heap.size hb5.1; have HK : Hid (MapL .i64 Fr.ix encS w5 w4.heap.size [⟨id, ix, ct, sz⟩] ∧ w3.heap.size ≤ w4.heap.size ∧ Below w3.heap.size w3 w5) := Lib.hid ⟨hm5, (undrew hb4).size, hb5.2.trans (hc5.below (fun k e => by rw [e]; exact (undrew hb4).size) hb5.2.size)⟩; clear hb5 hm5 hc5))
      all_goals
        go_wp2_with fail
        go_meet
        exact ⟨_, rfl, HK.out⟩
    case rest =>
      obtain ⟨g2, rfl, hm4, hl4, hb4⟩ := hcut
      have HM4 := Lib.hid hm4
      have HL4 := Lib.hid hl4
      have HB4 := Lib.hid hb4
      have HBD := Lib.hid ((hb4.block B (blk_lt HB3.out)).trans HB3.out)
      clear hm4 hl4 hb4
      have k3 : wc.cell? ⟨p, 3, none⟩ = some (.map (some bp)) := (HB4.out.cell (block_lt_of_cell HP3.out)).trans HP3.out
      have b0 : wc.cell? ⟨B, 0, none⟩ = some (.int .u64 id) := by rw [cell_atA 0 HBD.out]; rfl
      have HQ4 := Lib.hid (HQ3.out.below HB4.out)
      have q3 : (Instr.lookup 59 (.map (some bp)) (.int .u64 id) false).run Try.prog wc.drew = .ok (.map (some yb)) wc.drew := by
        rcases MapL.look1 (w := wc.drew) HQ4.out Try.underlying59 Try.underlying32 (Try.zeroValue77 _) id with ⟨q, _⟩ | ⟨y, hy, e, q⟩
        · exact absurd HID.out (q _ HX.out)
        · rw [uniq HQ4.out.once hy HX.out (e.trans HID.out.symm)] at q
          exact q
      have HCP := copy_k g2 yb [⟨id, ix, ct, sz⟩] m.parts wc.drew HM4.out (((HHC.out.each _ HX.out).chg HC3.out (HHC.out.off _ HX.out).1).below (below_drew1 HB4.out)) (apart_lt (HHC.out.each _ HX.out).lt HC3.out.size HL4.out) (no_ix HNO.out)
      have hpg := (apart_lt HBH.out.2.2 HWC.out.size (Nat.le_trans HC3.out.size HL4.out)).symm
      have hbg := (apart_lt HBH.out.2.1 HWC.out.size (Nat.le_trans HC3.out.size HL4.out)).symm
      have hBg := (apart_lt (blk_lt HBC.out) HC3.out.size HL4.out).symm
      have HG := Lib.hid (And.intro hpg (And.intro hbg hBg))
      clear hpg hbg hBg
      have PUT := fun w6 hm => put_od bp ps ⟨m.parts ++ [⟨id, ix, ct, sz⟩], m.since⟩ g2 id (head_id HM0.out HX.out HH.out HID.out) w6 hm ⟨_, HX.out, (HID.out.trans (head_id HM0.out HX.out HH.out HID.out).symm)⟩
      have HPUT := Lib.hid PUT
      have HCP2 := Lib.hid HCP
      clear PUT HCP
      go_wp2_with fail
      go_region_with (first | (go_at_call 38; refine HCP2.out.mono ?_; rintro e w6 ⟨rfl, hm6, hc6⟩; replace hc6 := chg_drew hc6; have k36 := cell_chg hc6 k3 HG.out.1; have b06 := cell_chg hc6 b0 HG.out.2.2; obtain ⟨w7, hrun7, hm7, hc7⟩ := HPUT.out w6 (HQ4.out.chg hc6 HG.out.2.1); have HM6 := Lib.hid hm6; have HC6 := Lib.hid hc6; have HM7 := Lib.hid hm7; have HC7 := Lib.hid hc7; clear hm6 hc6 hm7 hc7))
      all_goals
       go_wp2_with fail
       go_region
       go_wp2_with fail
       go_end0
       have HX2 : Hid (∀ x, x ∈ ps.map (fun y => if keyP y == keyP (⟨m.parts ++ [⟨id, ix, ct, sz⟩], m.since⟩, g2) then ((⟨m.parts ++ [⟨id, ix, ct, sz⟩], m.since⟩ : Ms), g2) else y) → x ∈ ps ∨ x = ((⟨m.parts ++ [⟨id, ix, ct, sz⟩], m.since⟩ : Ms), g2)) := Lib.hid (fun x hx => by
         obtain ⟨y, hy, rfl⟩ := List.mem_map.1 hx
         split
         · exact .inr rfl
         · exact .inl hy)
       have HB6 : Hid (Below w3.heap.size w3 w6) := Lib.hid (HB4.out.trans (HC6.out.below (fun k e => by rw [e]; exact HL4.out) HB4.out.size))
       obtain ⟨r1, r2⟩ := fin_hold HHC.out HC3.out HM3.out HB6.out (g := g2) (Nat.le_trans HC3.out.size HL4.out) HC7.out HM7.out (put_fst HH.out HX.out HID.out (head_id HM0.out HX.out HH.out HID.out)) (fun x hx => by
         rcases HX2.out x hx with q | q
         · exact .inl q
         · subst q
           exact .inr ⟨rfl, HM6.out.perm List.perm_append_comm⟩)
       exact ⟨rfl, g2, _, Nat.le_trans HWC.out.size (Nat.le_trans HC3.out.size HL4.out), r1, fun x hx => by
         rcases HX2.out x hx with q | q
         · exact .inl q
         · subst q; exact .inr rfl, (Chg.of_below HWC.out).trans r2⟩
end Go.Proofs.Ytjcgckhheegonaa
