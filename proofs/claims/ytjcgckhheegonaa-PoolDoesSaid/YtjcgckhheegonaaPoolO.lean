/- The program's pool: its maps copied ahead of a change; made; what it holds. -/
import Derived.Test.YtjcgckhheegonaaPoolN
import Derived.Carry
namespace Go.Proofs.Ytjcgckhheegonaa
open Go.RowKit
set_option linter.unusedVariables false
set_option linter.unusedSimpArgs false
set_option maxRecDepth 20000
theorem owned {w w' : World} {p bh bp h2 p2 : Nat} {s b : Int} {l : List Ms} {ps : List (Ms × Nat)} (h : PAt w p bh bp s b l ps) (hb : Below w.heap.size w w') (hh : MapL .u64 keyH encH w' h2 l) (hp : MapL .u64 keyP encP w' p2 ps) (e1 : w.heap.size ≤ h2) (e2 : w.heap.size ≤ p2) (hne : h2 ≠ p2) (u : World) (hu : u = (w'.setCell ⟨p, 2, none⟩ (.map (some h2))).setCell ⟨p, 3, none⟩ (.map (some p2)) ∨ u = (w'.setCell ⟨p, 3, none⟩ (.map (some p2))).setCell ⟨p, 2, none⟩ (.map (some h2))) :
    PAt u p h2 p2 s b l ps ∧ Chg (fun k => k = p) w u := by
  have hpl := blk_lt h.blk
  have hbk : w'.heap[p]? = some (.cells #[.int .i64 s, .int .i64 b, .map (some bh), .map (some bp)] 61 (0, 0)) := (hb.block p hpl).trans h.blk
  have hc : Chg (fun k => k = p) w' u := by rcases hu with rfl | rfl <;> exact (Chg.setCell _ _ _ _).trans (Chg.setCell _ _ _ _)
  have hk : u.heap[p]? = some (.cells #[.int .i64 s, .int .i64 b, .map (some h2), .map (some p2)] 61 (0, 0)) := by
    rcases hu with rfl | rfl
    · have h1 := heap_setCell_same w' p 2 _ _ (.map (some h2)) hbk
      have h2 := heap_setCell_same _ p 3 _ _ (.map (some p2)) h1
      simpa using h2
    · have h1 := heap_setCell_same w' p 3 _ _ (.map (some p2)) hbk
      have h2 := heap_setCell_same _ p 2 _ _ (.map (some h2)) h1
      simpa using h2
  refine ⟨⟨hk, hh.chg hc (by omega), hp.chg hc (by omega), h.fst, fun x hx => ?_, hne, fun x hx => ?_⟩, (Chg.of_below hb).trans hc⟩
  · exact ((h.each x hx).below hb).chg hc (h.apart.2.2 x hx)
  · have := (h.each x hx).lt
    exact ⟨by omega, by omega⟩
theorem undrew {w u : World} (h : Below w.drew.heap.size w.drew u) : Below w.heap.size w u := Below.trans (b := w.drew) ⟨rfl, rfl, rfl, Nat.le_refl _, fun _ _ => rfl⟩ h
theorem clone_h2 (b : Nat) (l : List Ms) (w : World) (h : MapL .u64 keyH encH w b l) :
    Calls Try.prog 35 #[.map (some b)] w fun e w' => ∃ h2, e = .returned (.map (some h2)) ∧ MapL .u64 keyH encH w' h2 l ∧ w.heap.size ≤ h2 ∧ Below w.heap.size w w' := by
  obtain ⟨es, k, hb, hm⟩ := cloned h
  refine (clone_h b es k w hb).mono ?_
  rintro e w' ⟨rfl, rfl⟩
  exact ⟨_, rfl, hm, Nat.le_refl _, below_alloc w _⟩
theorem clone_p2 (b : Nat) (l : List (Ms × Nat)) (w : World) (h : MapL .u64 keyP encP w b l) :
    Calls Try.prog 36 #[.map (some b)] w fun e w' => ∃ h2, e = .returned (.map (some h2)) ∧ MapL .u64 keyP encP w' h2 l ∧ w.heap.size ≤ h2 ∧ Below w.heap.size w w' := by
  obtain ⟨es, k, hb, hm⟩ := cloned h
  refine (clone_p b es k w hb).mono ?_
  rintro e w' ⟨rfl, rfl⟩
  exact ⟨_, rfl, hm, Nat.le_refl _, below_alloc w _⟩
set_option maxHeartbeats 2000000 in
theorem own_k {w : World} {p bh bp : Nat} {s b : Int} {l : List Ms} {ps : List (Ms × Nat)} (h : PAt w p bh bp s b l ps) :
    Calls Try.prog 21 #[.pointer (some ⟨p, 0, none⟩)] w fun e w' => ∃ bh' bp', e = .returned (.tuple #[]) ∧ PAt w' p bh' bp' s b l ps ∧ w.heap.size ≤ bh' ∧ w.heap.size ≤ bp' ∧ Chg (fun k => k = p) w w' := by
  obtain ⟨_, _, c2, c3, f2, f3⟩ := h.cells
  have fz : ∀ u, Below w.heap.size w u → u.cell? ⟨p, 2, none⟩ = some (.map (some bh)) ∧ u.cell? ⟨p, 3, none⟩ = some (.map (some bp)) ∧ u.frozen? ⟨p, 2, none⟩ = false ∧ u.frozen? ⟨p, 3, none⟩ = false := fun u hb => by
    have hk := (hb.block p (blk_lt h.blk)).trans h.blk
    exact ⟨by rw [cell_atA 2 hk]; rfl, by rw [cell_atA 3 hk]; rfl, frz_atA 2 hk, frz_atA 3 hk⟩
  have HH := Lib.hid h
  have FZ := Lib.hid fz
  clear h fz
  go_enter Try.func21, Try.ntmps21
  go_region_with (first
    | (go_at_call 35; refine (clone_h2 bh l _ ?_).mono ?_; exact HH.out.heads; rintro e w2 ⟨h2, rfl, hm2, hl2, hb2⟩; replace hb2 := undrew hb2; have hc2 := (FZ.out w2 hb2).2.1; have HM2 := Lib.hid (And.intro hm2 (And.intro hl2 hb2)); clear hm2 hl2 hb2)
    | (go_at_call 36; refine (clone_p2 bp ps _ ?_).mono ?_; exact HH.out.parts.below HM2.out.2.2; rintro e w3 ⟨p2, rfl, hm3, hl3, hb3⟩; have hx := (FZ.out w3 (HM2.out.2.2.trans (hb3.mono HM2.out.2.2.size))); obtain ⟨hx2, hx3, hf2, hf3⟩ := hx; have HM3 := Lib.hid (And.intro hm3 (And.intro hl3 hb3)); clear hm3 hl3 hb3))
  all_goals
    have key := owned HH.out (HM2.out.2.2.trans (HM3.out.2.2.mono HM2.out.2.2.size)) (HM2.out.1.below HM3.out.2.2) HM3.out.1 HM2.out.2.1 (Nat.le_trans HM2.out.2.2.size HM3.out.2.1) (by have := HM2.out.1.lt; have := HM3.out.2.1; omega) _ (by first | exact .inl rfl | exact .inr rfl)
    go_end0
    exact ⟨h2, p2, rfl, key.1, HM2.out.2.1, Nat.le_trans HM2.out.2.2.size HM3.out.2.1, key.2⟩
theorem MapL.made_at {β : Type} {q : IntKind} {key : β → Int} {enc : β → Value} {w : World} {m : Nat} (h : w.heap[m]? = some (.map #[] 0)) : MapL q key enc w m [] := ⟨#[], 0, h, MapKept.stamped_empty 0, List.Perm.refl _⟩
set_option maxHeartbeats 1000000 in
theorem new_no (slots bytes : Int) (w : World) (h : ¬ (1 ≤ slots ∧ slots ≤ 16 ∧ 1 ≤ bytes ∧ bytes ≤ 65536)) : Calls Try.prog 9 #[.int .i64 slots, .int .i64 bytes] w fun e w' => e = .returned (.tuple #[.pointer none, .int .i64 1]) ∧ Below w.heap.size w w' := by
  by_cases h1 : slots < 1
  · clear h
    go_enter Try.func9, Try.ntmps9
    go_wp2
    exact bodyPost_ret (v := .tuple #[.pointer none, .int .i64 1]) (by simp [results, Try.results9, go_sem]) rfl ⟨rfl, Below.refl _ _⟩
  · by_cases h2 : 16 < slots
    · clear h
      go_enter Try.func9, Try.ntmps9
      go_wp2
      exact bodyPost_ret (v := .tuple #[.pointer none, .int .i64 1]) (by simp [results, Try.results9, go_sem]) rfl ⟨rfl, Below.refl _ _⟩
    · by_cases h3 : bytes < 1
      · clear h
        go_enter Try.func9, Try.ntmps9
        go_wp2
        exact bodyPost_ret (v := .tuple #[.pointer none, .int .i64 1]) (by simp [results, Try.results9, go_sem]) rfl ⟨rfl, Below.refl _ _⟩
      · have h4 : 65536 < bytes := by omega
        clear h
        go_enter Try.func9, Try.ntmps9
        go_wp2
        exact bodyPost_ret (v := .tuple #[.pointer none, .int .i64 1]) (by simp [results, Try.results9, go_sem]) rfl ⟨rfl, Below.refl _ _⟩
set_option maxHeartbeats 1000000 in
theorem new_at (slots bytes : Int) (w : World) (h : 1 ≤ slots ∧ slots ≤ 16 ∧ 1 ≤ bytes ∧ bytes ≤ 65536) : Calls Try.prog 9 #[.int .i64 slots, .int .i64 bytes] w fun e w' => ∃ p bh bp, e = .returned (.tuple #[.pointer (some ⟨p, 0, none⟩), .int .i64 0]) ∧ PAt w' p bh bp slots bytes [] [] ∧ w.heap.size ≤ p ∧ w.heap.size ≤ bh ∧ w.heap.size ≤ bp ∧ Below w.heap.size w w' := by
  obtain ⟨h1, h2, h3, h4⟩ := h
  have g1 : ¬ slots < 1 := by omega
  have g2 : ¬ 16 < slots := by omega
  have g3 : ¬ bytes < 1 := by omega
  have g4 : ¬ 65536 < bytes := by omega
  clear h1 h2 h3 h4
  have hmk := fun t W => run_makeMap (P := Try.prog) t W
  go_enter Try.func9, Try.ntmps9
  go_wp2
  refine bodyPost_ret (v := .tuple #[.pointer (some ⟨w.heap.size + 2, 0, none⟩), .int .i64 0]) (by simp [results, Try.results9, go_sem]) rfl ?_
  have s1 : (w.alloc (.map #[] 0)).heap.size = w.heap.size + 1 := by simp
  have s2 : ((w.alloc (.map #[] 0)).alloc (.map #[] 0)).heap.size = w.heap.size + 2 := by simp
  have b1 := below_alloc w (.map #[] 0)
  have b2 := below_alloc (w.alloc (.map #[] 0)) (.map #[] 0)
  have b3 := below_alloc ((w.alloc (.map #[] 0)).alloc (.map #[] 0)) (.cells #[.int .i64 slots, .int .i64 bytes, .map (some w.heap.size), .map (some (w.heap.size + 1))] 61)
  refine ⟨_, rfl, w.heap.size, w.heap.size + 1, ⟨?_, ?_, ?_, rfl, fun x hx => by simp at hx, by omega, fun x hx => by simp at hx⟩, by omega, Nat.le_refl _, by omega, b1.trans ((b2.mono b1.size).trans (b3.mono (by rw [s2]; omega)))⟩
  · have := heap_alloc_new ((w.alloc (.map #[] 0)).alloc (.map #[] 0)) (.cells #[.int .i64 slots, .int .i64 bytes, .map (some w.heap.size), .map (some (w.heap.size + 1))] 61)
    rw [s2] at this
    exact this
  · refine MapL.made_at ?_
    have := heap_alloc_new w (.map #[] 0)
    exact (b3.block _ (by rw [s2]; omega)).trans ((b2.block _ (by rw [s1]; omega)).trans this)
  · refine MapL.made_at ?_
    have := heap_alloc_new (w.alloc (.map #[] 0)) (.map #[] 0)
    rw [s1] at this
    exact (b3.block _ (by rw [s2]; omega)).trans this
/-! ### What is held -/
theorem Rng.left_eq {β : Type} {q : IntKind} {key : β → Int} {enc : β → Value} {w : World} {b r : Nat} {l left : List β} (h : Rng q key enc w b r l left) : w.rangeLeft b r = left.length := by
  obtain ⟨es, clock, since, seen, c0, hb, _, _, hr, _, hk, _⟩ := h
  simp only [World.rangeLeft, hb, hr]
  have := hk.size
  rw [Array.length_toList] at this
  exact this
theorem heldM_perm {a b : List Ms} (h : a.Perm b) : heldM a = heldM b := by
  induction h with
  | nil => rfl
  | cons x _ ih => rw [heldM_cons, heldM_cons, ih]
  | swap x y l => simp only [heldM_cons]; omega
  | trans _ _ i1 i2 => rw [i1, i2]
theorem sumS_perm {a b : List Fr} (h : a.Perm b) : sumS a = sumS b := by
  induction h with
  | nil => rfl
  | cons x _ ih => simp only [sumS, List.foldr_cons] at ih ⊢; omega
  | swap x y l => simp only [sumS, List.foldr_cons]; omega
  | trans _ _ i1 i2 => rw [i1, i2]
theorem i64_mil {x : Int} (h0 : 0 ≤ x) (h1 : x ≤ 10000000) : IntKind.i64.wrap x = x := by
  first | (simp only [IntKind.wrap]; omega) | (simp [IntKind.wrap, IntKind.bits, IntKind.signed]; omega)
set_option maxHeartbeats 4000000 in
theorem held_at {w : World} {p bh bp : Nat} {s b : Int} {l : List Ms} {ps : List (Ms × Nat)} (h : PAt w p bh bp s b l ps) (hB : heldM l ≤ 65536) :
    Calls Try.prog 17 #[.pointer (some ⟨p, 0, none⟩)] w fun e w' => e = .returned (.tuple #[.int .i64 l.length, .int .i64 (heldM l)]) ∧ Below w.heap.size w w' := by
  obtain ⟨_, _, c2, c3, _, _⟩ := h.cells
  have HH := Lib.hid h
  have HB := Lib.hid hB
  clear h hB
  go_enter Try.func17, Try.ntmps17
  go_wp2_with (first | (at_range; refine wpList_rangeL rfl _ _ _ _ rfl Try.underlying59 rfl HH.out.parts ?_; intro w1 hr1 hb1 hs1) | go_in)
  go_frame
  go_loopw [4, 6, 8] (fun x4 x6 x8 wr => ∃ (left : List (Ms × Nat)) (acc : Nat), x4 = .int .i64 acc ∧ acc + heldM (left.map Prod.fst) = heldM l ∧ (∀ x, x ∈ left → x ∈ ps) ∧ Rng .u64 keyP encP wr bp w.heap.size ps left ∧ Below w.heap.size w wr) (fun x4 x6 x8 wr => wr.rangeLeft bp w.heap.size)
  case atStart =>
    exact ⟨ps, 0, rfl, by rw [HH.out.fst, Nat.zero_add], fun x hx => hx, hr1, hb1⟩
  case round =>
    obtain ⟨left, acc, rfl, ha, hsub, hrg, hlow⟩ := hrel
    have HRG := Lib.hid hrg
    have HA := Lib.hid ha
    have HS := Lib.hid hsub
    have HL := Lib.hid hlow
    have HC2 : Hid (wr.cell? ⟨p, 2, none⟩ = some (.map (some bh))) := Lib.hid ((hlow.cell (block_lt_of_cell c2)).trans c2)
    have HM2 := Lib.hid (HH.out.heads.below hlow)
    clear hrg ha hsub hlow hr1 hb1 hs1
    go_wp2_with (first | (at_next; refine wpList_nextL rfl _ rfl rfl HRG.out ?_ ?_) | go_in)
    · intro h0
      have hc2 := HC2.out
      have HACC : Hid (acc = heldM l) := Lib.hid (by rw [← HA.out, h0]; rfl)
      clear h0
      go_wp2_with (first | (at_len; refine wpList_lenL rfl _ _ _ _ rfl Try.underlying58 rfl HM2.out ?_) | go_in)
      exact bodyPost_ret (v := .tuple #[.int .i64 l.length, .int .i64 acc]) (by simp [results, Try.results17, go_sem]) rfl ⟨by rw [HACC.out], HL.out⟩
    · intro ym yb left' w2 hperm hr2 hc2 hs2 hen
      have HY : Hid ((ym, yb) ∈ ps) := Lib.hid (HS.out _ (hperm.mem_iff.2 (List.mem_cons_self ..)))
      have HP := Lib.hid hperm
      have HR2 := Lib.hid hr2
      have HL2 : Hid (Below w.heap.size w w2) := Lib.hid (HL.out.trans (hc2.below (fun k e => Nat.le_of_eq e.symm) HL.out.size))
      have HE := Lib.hid ((HH.out.each _ HY.out).below HL2.out)
      clear hperm hr2 hc2 hs2
      go_wp2_with (first | (at_range; refine wpList_rangeL rfl _ _ _ _ rfl Try.underlying77 rfl HE.out ?_; intro w3 hr3 hb3 hs3) | go_in)
      have HR3 := Lib.hid hr3
      have HB3 := Lib.hid hb3
      clear hr3 hb3 hs3 hen
      go_loopw [4, 8] (fun x4 x8 wq => ∃ (lf : List Fr) (a2 : Nat), x4 = .int .i64 a2 ∧ a2 + sumS lf = acc + sumS ym.parts ∧ Rng .i64 Fr.ix encS wq yb w2.heap.size ym.parts lf ∧ Below w2.heap.size w2 wq) (fun x4 x8 wq => wq.rangeLeft yb w2.heap.size)
      case atStart => exact ⟨ym.parts, acc, rfl, rfl, HR3.out, HB3.out⟩
      case round =>
        clear HR3 HB3
        obtain ⟨lf, a2, rfl, ha2, hrq, hbq⟩ := hrel
        have HRQ := Lib.hid hrq
        have HA2 := Lib.hid ha2
        have HBQ := Lib.hid hbq
        clear hrq ha2 hbq
        have HSUM : Hid (heldM (left.map Prod.fst) = sumS ym.parts + heldM (left'.map Prod.fst)) := Lib.hid (heldM_perm (HP.out.map Prod.fst))
        go_wp2_with (first | (at_next; refine wpList_nextL rfl _ rfl rfl HRQ.out ?_ ?_) | go_in)
        · intro h0
          have HAC : Hid (a2 = acc + sumS ym.parts) := Lib.hid (by rw [← HA2.out, h0]; rfl)
          clear h0
          go_wp2
          go_roundw
          case rel => exact ⟨left', a2, rfl, by rw [HAC.out, ← HA.out, HSUM.out]; omega, fun x hx => HS.out x (HP.out.mem_iff.2 (List.mem_cons_of_mem _ hx)), HR2.out.below HBQ.out, HL2.out.trans (HBQ.out.mono HL2.out.size)⟩
          case measure => rw [(HR2.out.below HBQ.out).left_eq, HRG.out.left_eq, HP.out.length_eq]; exact Nat.lt_succ_self _
        · intro fi lf' w4 hperm hr4 hc4 hs4 hen4
          have HSS : Hid (sumS lf = fi.s.size + sumS lf') := Lib.hid (sumS_perm hperm)
          have HLN : Hid (lf.length = lf'.length + 1) := Lib.hid hperm.length_eq
          have HR4 := Lib.hid hr4
          have HB4 : Hid (Below w2.heap.size w2 w4) := Lib.hid (HBQ.out.trans (hc4.below (fun k e => Nat.le_of_eq e.symm) HBQ.out.size))
          have hbig : a2 + fi.s.size ≤ 65536 := by
            have := HA2.out; have := HSS.out; have := HA.out; have := HSUM.out; have := HB.out; omega
          have hwr : IntKind.i64.wrap ((a2 : Int) + (fi.s.size : Int)) = ((a2 + fi.s.size : Nat) : Int) := by rw [i64_mil (by omega) (by omega)]; omega
          clear hperm hr4 hc4 hs4 hbig
          unfold encS at hen4 ⊢
          go_wp2
          go_roundw
          case rel => exact ⟨lf', a2 + fi.s.size, rfl, by rw [← HA2.out, HSS.out]; omega, HR4.out, HB4.out⟩
          case measure => rw [HR4.out.left_eq, HRQ.out.left_eq, HLN.out]; exact Nat.lt_succ_self _
end Go.Proofs.Ytjcgckhheegonaa
