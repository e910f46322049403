/- The document's set of alarms: place, Drop, Put, Due, First; two rows of numbers compared. -/
import Derived.Test.YtcnfchjiiglijaaAlarmD
namespace Go.Proofs.Ytcnfchjiiglijaa
open Go.RowKit
set_option linter.unusedVariables false
set_option linter.unusedSimpArgs false
set_option maxRecDepth 20000

theorem Chg.setCell (w : World) (b i : Nat) (v : Value) : Chg (fun k => k = b) w (w.setCell ⟨b, i, none⟩ v) := ⟨rfl, rfl, rfl, by simp, fun k _ hs => Below.heap_setCell _ _ _ k hs⟩
theorem Chg.out {w w1 w2 : World} {B q : Nat} (h : Below B w w1) (hc : Chg (fun k => k = q) w1 w2) (hq : B ≤ q) (hB : B ≤ w1.heap.size) : Below B w w2 := h.trans (hc.below (fun k e => by rw [e]; exact hq) hB)
theorem Chg.mono {S T : Nat → Prop} {w w' : World} (h : Chg S w w') (hs : ∀ k, S k → T k) : Chg T w w' := ⟨h.os, h.tape, h.output, h.size, fun k hk ht => h.block k hk (fun q => ht (hs k q))⟩
/-- The document's set at block q: its row, how many at most. -/
def RAl (w : World) (q : Nat) (L : List On) (most : Int) : Prop :=
  ∃ a cap, w.heap[q]? = some (.cells #[.slice a L.length cap, .int .i64 most] 28 (0, 0)) ∧ RowO w a cap L ∧ ∀ p, a = some p → p.block ≠ q ∧ ∃ cs fr, w.heap[p.block]? = some (.cells cs 70 fr)
theorem RAl.lt {w : World} {q : Nat} {L : List On} {most : Int} (h : RAl w q L most) : q < w.heap.size := by
  obtain ⟨a, cap, h1, _⟩ := h
  exact blk_lt h1
theorem RAl.below {w w' : World} {q : Nat} {L : List On} {most : Int} (h : RAl w q L most) (hb : Below w.heap.size w w') : RAl w' q L most := by
  obtain ⟨a, cap, h1, h2, h3⟩ := h
  exact ⟨a, cap, (hb.block q (blk_lt h1)).trans h1, h2.below hb, fun p hp => by obtain ⟨x, cs, fr, y⟩ := h3 p hp; exact ⟨x, cs, fr, (hb.block _ (blk_lt y)).trans y⟩⟩
/-- Kept where nothing of the document's own kinds turns. -/
theorem RAl.keep {S : Nat → Prop} {w w' : World} {q : Nat} {L : List On} {most : Int} (h : RAl w q L most) (hc : Chg S w w') (hs : ∀ k, S k → ∀ cs fr, w.heap[k]? ≠ some (.cells cs 28 fr) ∧ w.heap[k]? ≠ some (.cells cs 70 fr)) : RAl w' q L most := by
  obtain ⟨a, cap, h1, h2, h3⟩ := h
  refine ⟨a, cap, hc.blk h1 (fun k => (hs _ k _ _).1 h1), h2.chg hc (fun p hp k => ?_), fun p hp => ?_⟩
  · obtain ⟨_, cs, fr, y⟩ := h3 p hp
    exact (hs _ k _ _).2 y
  · obtain ⟨x, cs, fr, y⟩ := h3 p hp
    exact ⟨x, cs, fr, hc.blk y (fun k => (hs _ k _ _).2 y)⟩
theorem cell_atA {w : World} {g : Nat} (j : Nat) {cs : Array Value} {t : TypeId} {p : Nat × Nat} (h : w.heap[g]? = some (.cells cs t p)) : w.cell? ⟨g, j, none⟩ = cs[j]? := by simp [World.cell?, h]
theorem frz_atA {w : World} {g : Nat} (j : Nat) {cs : Array Value} {t : TypeId} (h : w.heap[g]? = some (.cells cs t (0, 0))) : w.frozen? ⟨g, j, none⟩ = false := by simp [World.frozen?, h]
theorem take_gt {L : List On} {k : Nat} (h : k < L.length) : L.take (k + 1) = L.take k ++ [gt L k] := by
  rw [List.take_succ_eq_append_getElem h, gt_eq h]
set_option maxHeartbeats 4000000 in
theorem rplace_k (q : Nat) (id most : Int) (L : List On) (w : World) (h : Hid (RAl w q L most)) :
    Calls Try.prog 25 #[.pointer (some ⟨q, 0, none⟩), .int .u64 id] w fun e w' => e = .returned (.int .i64 (placeD id L)) ∧ Below w.heap.size w w' := by
  obtain ⟨a, cap, h1, h2, h3⟩ := h.out
  have HB0 := Lib.hid h1
  have HR := Lib.hid h2
  have hlen := h2.len
  obtain ⟨n, hn⟩ : ∃ n, L.length = n := ⟨_, rfl⟩
  have HN := Lib.hid hn
  rw [hn] at HB0 hlen
  clear h1 h2 h3 hn
  go_enter Try.func25, Try.ntmps25
  go_wp2_with fail
  go_loopw [5] (fun i wr => ∃ k : Nat, k ≤ n ∧ i = .int .i64 k ∧ Hid (∀ j, j < k → ((gt L j).id == id) = false) ∧ Hid (Below w.heap.size w wr)) (fun i _ => n - (intOf i).toNat)
  case atStart => exact ⟨0, Nat.zero_le _, rfl, Lib.hid (fun j hj => absurd hj (Nat.not_lt_zero _)), Lib.hid (Below.refl _ _)⟩
  case round =>
    obtain ⟨k, hk, rfl, HJ, HB⟩ := hrel
    have hq := (HB.out.block q (blk_lt HB0.out)).trans HB0.out
    have c0 := cell_atA 0 hq
    simp at c0
    clear hq
    by_cases hlt : k < n
    · have hlt' : (k : Int) < (n : Int) := by omega
      have e1 : decide (k < n) = true := by simpa using hlt
      obtain ⟨_, _, b, off, hr⟩ := HR.out.below HB.out
      obtain ⟨hae, x0, x1⟩ := hr k (by rw [HN.out]; exact hlt)
      subst hae
      clear hr
      cases hb : ((gt L k).id == id) with
      | true =>
        have HP : Hid (placeD id L = (k : Int)) := Lib.hid (by
          have := found_is HJ.out (by rw [HN.out]; exact hlt) hb
          unfold placeD
          rw [this, if_pos (by rw [HN.out]; exact hlt)])
        obtain ⟨oid, hoid⟩ : ∃ x, (gt L k).id = x := ⟨_, rfl⟩
        rw [hoid] at x0 hb
        clear hlt hoid x1
        go_wp2_with fail
        go_ret
        exact ⟨by rw [HP.out]; rfl, HB.out⟩
      | false =>
        have HJ2 : Hid (∀ j, j < k + 1 → ((gt L j).id == id) = false) := Lib.hid (fun j hj => by
          rcases Nat.lt_or_ge j k with q | q
          · exact HJ.out j q
          · obtain rfl : j = k := by omega
            exact hb)
        obtain ⟨oid, hoid⟩ : ∃ x, (gt L k).id = x := ⟨_, rfl⟩
        rw [hoid] at x0 hb
        have HK := Lib.hid hlt
        clear hlt hoid x1
        go_wp2_with fail
        go_roundw
        case rel => exact ⟨k + 1, by have := HK.out; omega, by go_num, HJ2, HB⟩
        case measure => have := HK.out; simp [intOf]; omega
    · obtain rfl : k = n := by omega
      have e1 : decide (k < k) = false := decide_eq_false (Nat.lt_irrefl _)
      have HP : Hid (placeD id L = -1) := Lib.hid (by
        have h1 := found_all HJ.out (by rw [HN.out]; exact Nat.le_refl _)
        unfold placeD
        rw [if_neg (by have := HN.out; omega)])
      clear hlt
      go_wp2_with fail
      go_ret
      exact ⟨by rw [HP.out]; rfl, HB.out⟩
set_option maxHeartbeats 2000000 in
theorem rfirst_k (q : Nat) (most : Int) (L : List On) (w : World) (h : Hid (RAl w q L most)) :
    Calls Try.prog 18 #[.pointer (some ⟨q, 0, none⟩)] w fun e w' => e = .returned (.tuple #[.int .u64 (firstD L).1, .bool (firstD L).2]) ∧ Below w.heap.size w w' := by
  obtain ⟨a, cap, h1, h2, h3⟩ := h.out
  have c0 := cell_atA 0 h1
  simp at c0
  have hlen := h2.len
  cases L with
  | nil =>
    clear h1 h2 h3
    go_enter Try.func18, Try.ntmps18
    go_wp2_with fail
    go_ret2
    exact ⟨rfl, Below.refl _ _⟩
  | cons o r =>
    obtain ⟨_, _, b, off, hr⟩ := h2
    obtain ⟨hae, x0, x1⟩ := hr 0 (by simp)
    subst hae
    obtain ⟨n, hn⟩ : ∃ n, (o :: r).length = n := ⟨_, rfl⟩
    have hn0 : (0 : Int) < (n : Int) := by rw [← hn]; simp
    have hn1 : ((n : Int) == 0) = false := by simp; omega
    have x1' : w.cell? ⟨b, off + 1, none⟩ = some (.int .u64 o.at_) := by simpa [gt] using x1
    rw [hn] at c0 hlen
    clear h1 h3 hr x0 x1 hn
    go_enter Try.func18, Try.ntmps18
    go_wp2_with fail
    go_ret2
    exact ⟨rfl, Below.refl _ _⟩
theorem RAl.cell {w : World} {q : Nat} {L : List On} {most : Int} (h : RAl w q L most) : ∃ a cap, w.cell? ⟨q, 0, none⟩ = some (.slice a L.length cap) ∧ w.cell? ⟨q, 1, none⟩ = some (.int .i64 most) ∧ w.frozen? ⟨q, 0, none⟩ = false ∧ RowO w a cap L ∧ w.heap[q]? = some (.cells #[.slice a L.length cap, .int .i64 most] 28 (0, 0)) := by
  obtain ⟨a, cap, h1, h2, h3⟩ := h
  refine ⟨a, cap, by rw [cell_atA 0 h1]; rfl, by rw [cell_atA 1 h1]; rfl, frz_atA 0 h1, h2, h1⟩
/-- The set with another row of the call's own. -/
theorem RAl.put {w : World} {q n cap base : Nat} {a a2 : Option Addr} {most : Int} {L : List On} {c2 : Nat} (h : w.heap[q]? = some (.cells #[.slice a n cap, .int .i64 most] 28 (0, 0))) (hr : RowO w a2 c2 L) (hb : ∀ p, a2 = some p → base ≤ p.block ∧ ∃ cs fr, w.heap[p.block]? = some (.cells cs 70 fr)) (hq : q < base) : RAl (w.setCell ⟨q, 0, none⟩ (.slice a2 L.length c2)) q L most := by
  refine ⟨a2, c2, ?_, hr.chg (Chg.setCell w q 0 _) (fun p hp e => by have := (hb p hp).1; omega), fun p hp => ⟨fun e => by have := (hb p hp).1; omega, by obtain ⟨x, cs, fr, y⟩ := hb p hp; exact ⟨cs, fr, (Chg.setCell w q 0 _).blk y (by omega)⟩⟩⟩
  have := heap_setCell_same w q 0 #[.slice a n cap, .int .i64 most] 28 (.slice a2 L.length c2) h
  simpa using this
set_option maxHeartbeats 4000000 in
theorem rdrop_no (q : Nat) (id most : Int) (L : List On) (w : World) (h : Hid (RAl w q L most)) (hf : Hid (¬ foundD id L < L.length)) :
    Calls Try.prog 13 #[.pointer (some ⟨q, 0, none⟩), .int .u64 id] w fun e w' => e = .returned (.bool false) ∧ Below w.heap.size w w' := by
  have HP : Hid (placeD id L = -1) := Lib.hid (by unfold placeD; rw [if_neg hf.out])
  go_enter Try.func13, Try.ntmps13
  go_wp2_with fail
  refine (rplace_k q id most L _ h).mono ?_
  rintro e w1 ⟨rfl, hb⟩
  rw [HP.out]
  have HB := Lib.hid hb
  clear hb
  go_wp2_with fail
  go_ret
  exact ⟨rfl, HB.out⟩
set_option maxHeartbeats 4000000 in
theorem rdrop_yes2 (q : Nat) (id most : Int) (L : List On) (w : World) (h : Hid (RAl w q L most)) (hL : Hid (L.length ≤ 1000)) (n i b off cap : Nat) (hf : Hid (foundD id L = i ∧ L.length = n)) (hi : i < n) (hq : Hid (w.heap[q]? = some (.cells #[.slice (some ⟨b, off, none⟩) n cap, .int .i64 most] 28 (0, 0)))) (hr : Hid (n ≤ cap ∧ cap ≤ maxLen ∧ b ≠ q ∧ ∀ j, j < n → w.cell? ⟨b, off + j * 2, none⟩ = some (.int .u64 (gt L j).id) ∧ w.cell? ⟨b, off + j * 2 + 1, none⟩ = some (.int .u64 (gt L j).at_))) (hcap : i + 1 < cap) :
    Calls Try.prog 13 #[.pointer (some ⟨q, 0, none⟩), .int .u64 id] w fun e w' => e = .returned (.bool true) ∧ RAl w' q (L.take i ++ L.drop (i + 1)) most ∧ Chg (fun k => k = q) w w' := by
  have HP : Hid (placeD id L = (i : Int)) := Lib.hid (by unfold placeD; rw [hf.out.1, if_pos (by rw [hf.out.2]; exact hi)])
  have hii : (0 : Int) ≤ (i : Int) := by omega
  have hi0 : decide ((i : Int) < 0) = false := by simp
  have hi1 : (i : Int) ≤ (cap : Int) := by omega
  have hi2 : (i : Int) + 1 < (cap : Int) := by omega
  have hi3 : (i : Int) + 1 ≤ (n : Int) := by omega
  have hn3 : (n : Int) ≤ 1000 := by have := hL.out; have := hf.out.2; omega
  have HI : Hid (i < n ∧ n ≤ 1000 ∧ i + 1 < cap) := Lib.hid (by omega)
  clear hi hcap
  go_enter Try.func13, Try.ntmps13
  go_wp2_with fail
  refine (rplace_k q id most L _ h).mono ?_
  rintro e w1 ⟨rfl, hb⟩
  rw [HP.out]
  have HB := Lib.hid hb
  have HQ1 := Lib.hid ((hb.block q (blk_lt hq.out)).trans hq.out)
  clear hb
  -- the boxes and rows in the worlds to come
  have c0 := cell_atA 0 ((below_alloc w1 (.cells #[] 70)).block q (blk_lt HQ1.out) |>.trans HQ1.out)
  simp at c0
  have HRW : Hid (∀ W, Below w.heap.size w W → ∀ j, j < n → W.cell? ⟨b, off + j * 2, none⟩ = some (.int .u64 (gt L j).id) ∧ W.cell? ⟨b, off + j * 2 + 1, none⟩ = some (.int .u64 (gt L j).at_)) := Lib.hid (fun W hW j hj => by
    obtain ⟨x0, x1⟩ := hr.out.2.2.2 j hj
    exact ⟨(hW.cell (block_lt_of_cell x0)).trans x0, (hW.cell (block_lt_of_cell x1)).trans x1⟩)
  have HBA : Hid (Below w.heap.size w (w1.alloc (.cells #[] 70))) := Lib.hid (HB.out.trans ((below_alloc _ _).mono HB.out.size))
  have HG : Hid (∀ j, j < i → gt (L.take i) j = gt L j) := Lib.hid (fun j hj => by simp only [gt, List.getD_eq_getElem?_getD]; rw [List.getElem?_take_of_lt hj])
  have HG2 : Hid (∀ j, gt (L.drop (i + 1)) j = gt L (i + 1 + j)) := Lib.hid (fun j => by simp only [gt, List.getD_eq_getElem?_getD, List.getElem?_drop])
  have HTL : Hid ((L.take i).length = i ∧ (L.drop (i + 1)).length = n - (i + 1)) := Lib.hid ⟨by rw [List.length_take, hf.out.2]; have := HI.out; omega, by rw [List.length_drop, hf.out.2]⟩
  obtain ⟨G, hG⟩ : ∃ G, L.take i ++ L.drop (i + 1) = G := ⟨_, rfl⟩
  have HGE := Lib.hid hG
  clear hG
  have HO0 : Hid (OwnO 70 w1.heap.size (.slice (some ⟨w1.heap.size, 0, none⟩) 0 0) [] (w1.alloc (.cells #[] 70))) := Lib.hid (OwnO.new _ _ (Nat.le_refl _))
  go_wp2_with (first | (at_builtin; refine wpList_appO rfl (.tmp 12) (.tmp 18) 26 70 Try.underlying26 infoO rfl w1.heap.size _ [] (L.take i) _ rfl HO0.out b off i cap rfl HTL.out.1.symm (fun j hj => by rw [HTL.out.1] at hj; rw [HG.out j hj]; exact HRW.out _ HBA.out j (by have := HI.out; omega)) (by rw [HTL.out.1]; have := HI.out; simp; omega) (by simp) ?_; intro v1 w2 hA; have HA1 := Lib.hid hA; clear hA; have HB2 : Hid (Below w.heap.size w w2) := Lib.hid (HBA.out.trans (HA1.out.low.mono HB.out.size)); have c2 := cell_atA 0 ((HB2.out.block q (blk_lt hq.out)).trans hq.out); simp at c2) | (at_builtin; refine wpList_appO rfl (.tmp 20) (.tmp 27) 26 70 Try.underlying26 infoO rfl w1.heap.size _ ([] ++ L.take i) (L.drop (i + 1)) _ rfl HA1.out.own b (off + (i + 1) * 2) (n - (i + 1)) (cap - (i + 1)) rfl (by first | exact HTL.out.2.symm | (rw [HTL.out.2]; have := HI.out; omega)) (fun j hj => by rw [HTL.out.2] at hj; rw [HG2.out j]; have := HRW.out _ HB2.out (i + 1 + j) (by omega); rw [show off + (i + 1 + j) * 2 = off + (i + 1) * 2 + j * 2 by omega] at this; exact this) (by rw [List.nil_append, HTL.out.1, HTL.out.2]; have := HI.out; omega) (by have := HA1.out.size; simp at this; omega) ?_; intro v2 w3 hA; have HA2 := Lib.hid hA; clear hA; have HB3 : Hid (Below w.heap.size w w3) := Lib.hid (HB2.out.trans (HA2.out.low.mono HB.out.size)); have hq3 := (HB3.out.block q (blk_lt hq.out)).trans hq.out; have HQ3 := Lib.hid hq3; have c3 := cell_atA 0 hq3; simp at c3; have f3 := frz_atA 0 hq3; clear hq3; have hown2 : OwnO 70 w1.heap.size v2 G w3 := (by have := HA2.out.own; rw [List.nil_append, HGE.out] at this; exact this); obtain ⟨a2, k2, hv2, hr2, hb2⟩ := hown2.at; subst hv2; clear hown2; have HR2 := Lib.hid (And.intro hr2 hb2); clear hr2 hb2))
  go_ret
  refine ⟨rfl, ?_, ?_⟩
  · rw [HGE.out]
    exact RAl.put (base := w1.heap.size) HQ3.out HR2.out.1 HR2.out.2 (blk_lt HQ1.out)
  · exact (Chg.of_below HB3.out).trans (Chg.setCell _ _ _ _)
set_option maxHeartbeats 4000000 in
theorem rdrop_yes1 (q : Nat) (id most : Int) (L : List On) (w : World) (h : Hid (RAl w q L most)) (hL : Hid (L.length ≤ 1000)) (n i b off cap : Nat) (hf : Hid (foundD id L = i ∧ L.length = n)) (hi : i < n) (hq : Hid (w.heap[q]? = some (.cells #[.slice (some ⟨b, off, none⟩) n cap, .int .i64 most] 28 (0, 0)))) (hr : Hid (n ≤ cap ∧ cap ≤ maxLen ∧ b ≠ q ∧ ∀ j, j < n → w.cell? ⟨b, off + j * 2, none⟩ = some (.int .u64 (gt L j).id) ∧ w.cell? ⟨b, off + j * 2 + 1, none⟩ = some (.int .u64 (gt L j).at_))) (hcap : i + 1 = cap) :
    Calls Try.prog 13 #[.pointer (some ⟨q, 0, none⟩), .int .u64 id] w fun e w' => e = .returned (.bool true) ∧ RAl w' q (L.take i ++ L.drop (i + 1)) most ∧ Chg (fun k => k = q) w w' := by
  have HP : Hid (placeD id L = (i : Int)) := Lib.hid (by unfold placeD; rw [hf.out.1, if_pos (by rw [hf.out.2]; exact hi)])
  have hii : (0 : Int) ≤ (i : Int) := by omega
  have hi0 : decide ((i : Int) < 0) = false := by simp
  have hi1 : (i : Int) ≤ (cap : Int) := by omega
  have hi2 : (i : Int) + 1 = (cap : Int) := by omega
  have hi3 : (i : Int) + 1 ≤ (n : Int) := by omega
  have hn3 : (n : Int) ≤ 1000 := by have := hL.out; have := hf.out.2; omega
  have HI : Hid (i < n ∧ n ≤ 1000 ∧ i + 1 = cap) := Lib.hid (by omega)
  clear hi hcap
  go_enter Try.func13, Try.ntmps13
  go_wp2_with fail
  refine (rplace_k q id most L _ h).mono ?_
  rintro e w1 ⟨rfl, hb⟩
  rw [HP.out]
  have HB := Lib.hid hb
  have HQ1 := Lib.hid ((hb.block q (blk_lt hq.out)).trans hq.out)
  clear hb
  -- the boxes and rows in the worlds to come
  have c0 := cell_atA 0 ((below_alloc w1 (.cells #[] 70)).block q (blk_lt HQ1.out) |>.trans HQ1.out)
  simp at c0
  have HRW : Hid (∀ W, Below w.heap.size w W → ∀ j, j < n → W.cell? ⟨b, off + j * 2, none⟩ = some (.int .u64 (gt L j).id) ∧ W.cell? ⟨b, off + j * 2 + 1, none⟩ = some (.int .u64 (gt L j).at_)) := Lib.hid (fun W hW j hj => by
    obtain ⟨x0, x1⟩ := hr.out.2.2.2 j hj
    exact ⟨(hW.cell (block_lt_of_cell x0)).trans x0, (hW.cell (block_lt_of_cell x1)).trans x1⟩)
  have HBA : Hid (Below w.heap.size w (w1.alloc (.cells #[] 70))) := Lib.hid (HB.out.trans ((below_alloc _ _).mono HB.out.size))
  have HG : Hid (∀ j, j < i → gt (L.take i) j = gt L j) := Lib.hid (fun j hj => by simp only [gt, List.getD_eq_getElem?_getD]; rw [List.getElem?_take_of_lt hj])
  have HG2 : Hid (∀ j, gt (L.drop (i + 1)) j = gt L (i + 1 + j)) := Lib.hid (fun j => by simp only [gt, List.getD_eq_getElem?_getD, List.getElem?_drop])
  have HTL : Hid ((L.take i).length = i ∧ (L.drop (i + 1)).length = n - (i + 1)) := Lib.hid ⟨by rw [List.length_take, hf.out.2]; have := HI.out; omega, by rw [List.length_drop, hf.out.2]⟩
  obtain ⟨G, hG⟩ : ∃ G, L.take i ++ L.drop (i + 1) = G := ⟨_, rfl⟩
  have HGE := Lib.hid hG
  clear hG
  have HO0 : Hid (OwnO 70 w1.heap.size (.slice (some ⟨w1.heap.size, 0, none⟩) 0 0) [] (w1.alloc (.cells #[] 70))) := Lib.hid (OwnO.new _ _ (Nat.le_refl _))
  go_wp2_with (first | (at_builtin; refine wpList_appO rfl (.tmp 12) (.tmp 18) 26 70 Try.underlying26 infoO rfl w1.heap.size _ [] (L.take i) _ rfl HO0.out b off i cap rfl HTL.out.1.symm (fun j hj => by rw [HTL.out.1] at hj; rw [HG.out j hj]; exact HRW.out _ HBA.out j (by have := HI.out; omega)) (by rw [HTL.out.1]; have := HI.out; simp; omega) (by simp) ?_; intro v1 w2 hA; have HA1 := Lib.hid hA; clear hA; have HB2 : Hid (Below w.heap.size w w2) := Lib.hid (HBA.out.trans (HA1.out.low.mono HB.out.size)); have c2 := cell_atA 0 ((HB2.out.block q (blk_lt hq.out)).trans hq.out); simp at c2) | (at_builtin; refine wpList_appO rfl (.tmp 20) (.tmp 27) 26 70 Try.underlying26 infoO rfl w1.heap.size _ ([] ++ L.take i) (L.drop (i + 1)) _ rfl HA1.out.own b off (n - cap) 0 rfl (by first | exact HTL.out.2.symm | (rw [HTL.out.2]; have := HI.out; omega)) (fun j hj => by rw [HTL.out.2] at hj; have := HI.out; have := hr.out.1; omega) (by rw [List.nil_append, HTL.out.1, HTL.out.2]; have := HI.out; omega) (by have := HA1.out.size; simp at this; omega) ?_; intro v2 w3 hA; have HA2 := Lib.hid hA; clear hA; have HB3 : Hid (Below w.heap.size w w3) := Lib.hid (HB2.out.trans (HA2.out.low.mono HB.out.size)); have hq3 := (HB3.out.block q (blk_lt hq.out)).trans hq.out; have HQ3 := Lib.hid hq3; have c3 := cell_atA 0 hq3; simp at c3; have f3 := frz_atA 0 hq3; clear hq3; have hown2 : OwnO 70 w1.heap.size v2 G w3 := (by have := HA2.out.own; rw [List.nil_append, HGE.out] at this; exact this); obtain ⟨a2, k2, hv2, hr2, hb2⟩ := hown2.at; subst hv2; clear hown2; have HR2 := Lib.hid (And.intro hr2 hb2); clear hr2 hb2))
  go_ret
  refine ⟨rfl, ?_, ?_⟩
  · rw [HGE.out]
    exact RAl.put (base := w1.heap.size) HQ3.out HR2.out.1 HR2.out.2 (blk_lt HQ1.out)
  · exact (Chg.of_below HB3.out).trans (Chg.setCell _ _ _ _)
theorem rdrop_k (q : Nat) (id most : Int) (L : List On) (w : World) (h : RAl w q L most) (hL : L.length ≤ 1000) :
    Calls Try.prog 13 #[.pointer (some ⟨q, 0, none⟩), .int .u64 id] w fun e w' => e = .returned (.bool (hasD id L)) ∧ RAl w' q (dropD id L) most ∧ Chg (fun k => k = q) w w' := by
  by_cases hf : foundD id L < L.length
  · have e1 : hasD id L = true := by unfold hasD; simpa using hf
    have e2 : dropD id L = L.take (foundD id L) ++ L.drop (foundD id L + 1) := by unfold dropD; rw [if_pos hf]
    rw [e1, e2]
    obtain ⟨a, cap, h1, h2, h3⟩ := (show RAl w q L most from h)
    obtain ⟨r1, r2, b, off, r3⟩ := h2
    obtain ⟨hae, _⟩ := r3 0 (by omega)
    subst hae
    have hr : Hid (L.length ≤ cap ∧ cap ≤ maxLen ∧ b ≠ q ∧ ∀ j, j < L.length → w.cell? ⟨b, off + j * 2, none⟩ = some (.int .u64 (gt L j).id) ∧ w.cell? ⟨b, off + j * 2 + 1, none⟩ = some (.int .u64 (gt L j).at_)) := Lib.hid ⟨r1, r2, (h3 _ rfl).1, fun j hj => (r3 j hj).2⟩
    by_cases hc : foundD id L + 1 < cap
    · exact rdrop_yes2 q id most L w (Lib.hid h) (Lib.hid hL) _ _ b off cap (Lib.hid ⟨rfl, rfl⟩) hf (Lib.hid h1) hr hc
    · exact rdrop_yes1 q id most L w (Lib.hid h) (Lib.hid hL) _ _ b off cap (Lib.hid ⟨rfl, rfl⟩) hf (Lib.hid h1) hr (by omega)
  · have e1 : hasD id L = false := by unfold hasD; simpa using hf
    have e2 : dropD id L = L := by unfold dropD; rw [if_neg hf]
    rw [e1, e2]
    exact (rdrop_no q id most L w (Lib.hid h) (Lib.hid hf)).mono fun e w' ⟨he, hb⟩ => ⟨he, h.below hb, Chg.of_below hb⟩
end Go.Proofs.Ytcnfchjiiglijaa
