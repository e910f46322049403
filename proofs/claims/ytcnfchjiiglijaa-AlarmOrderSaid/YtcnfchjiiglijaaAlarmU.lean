/- The document's Due; two rows of numbers compared. -/
import Derived.Test.YtcnfchjiiglijaaAlarmT
namespace Go.Proofs.Ytcnfchjiiglijaa
open Go.RowKit
set_option linter.unusedVariables false
set_option linter.unusedSimpArgs false
set_option maxRecDepth 20000

theorem while_is (p : On → Bool) (L : List On) (k : Nat) (hk : k ≤ L.length) (h : ∀ j, j < k → p (gt L j) = true) (he : k = L.length ∨ p (gt L k) = false) : L.takeWhile p = L.take k ∧ L.dropWhile p = L.drop k := by
  induction L generalizing k with
  | nil => simp at hk; subst hk; simp
  | cons o r ih =>
    cases k with
    | zero =>
      rcases he with he | he
      · simp at he
      · have : p o = false := by simpa [gt] using he
        simp [this]
    | succ k =>
      have h0 : p o = true := by have := h 0 (by omega); simpa [gt] using this
      obtain ⟨a, b⟩ := ih k (by simpa using hk) (fun j hj => by have := h (j + 1) (by omega); simpa [gt] using this) (by
        rcases he with he | he
        · left; simpa using he
        · right; simpa [gt] using he)
      rw [List.takeWhile_cons, List.dropWhile_cons, h0]
      simp [a, b]
def lenA (v : Option Value) : Nat := match v with | some (.slice _ n _) => n | _ => 0
theorem drop_cons {L : List On} {k : Nat} (h : k < L.length) : L.drop k = gt L k :: L.drop (k + 1) := by
  rw [List.drop_eq_getElem_cons h, gt_eq h]
theorem chg_low {B : Nat} {w w' : World} (h : Below B w w') (hs : w.heap.size ≤ w'.heap.size) : Chg (fun k => B ≤ k) w w' := ⟨h.os, h.tape, h.output, hs, fun k _ hk => h.block k (by omega)⟩
theorem chg_step {S : Nat → Prop} {w w1 w2 : World} (h : Chg S w w1) (k : Chg (fun k => w.heap.size ≤ k) w1 w2) : Chg S w w2 := ⟨k.os.trans h.os, k.tape.trans h.tape, k.output.trans h.output, Nat.le_trans h.size k.size, fun j hj hs => (k.block j (Nat.lt_of_lt_of_le hj h.size) (by omega)).trans (h.block j hj hs)⟩
/-- The document's set, its row in block b. -/
def RAlB (w : World) (q b : Nat) (L : List On) (most : Int) : Prop := ∃ off cap, w.heap[q]? = some (.cells #[.slice (some ⟨b, off, none⟩) L.length cap, .int .i64 most] 28 (0, 0)) ∧ RowO w (some ⟨b, off, none⟩) cap L
theorem RAlB.al {w : World} {q b : Nat} {L : List On} {most : Int} (h : RAlB w q b L most) (hb : b ≠ q) (hty : ∃ cs fr, w.heap[b]? = some (.cells cs 70 fr)) : RAl w q L most := by
  obtain ⟨off, cap, h1, h2⟩ := h
  exact ⟨_, cap, h1, h2, fun p hp => by cases hp; exact ⟨hb, hty⟩⟩
theorem RAlB.len {w : World} {q b : Nat} {L : List On} {most : Int} (h : RAlB w q b L most) : lenA (w.cell? ⟨q, 0, none⟩) = L.length := by
  obtain ⟨off, cap, h1, h2⟩ := h
  rw [cell_atA 0 h1]; rfl
theorem RAlB.step {w : World} {q b off n cap : Nat} {most : Int} {o : On} {r : List On} (hq : w.heap[q]? = some (.cells #[.slice (some ⟨b, off, none⟩) n cap, .int .i64 most] 28 (0, 0))) (hr : RowO w (some ⟨b, off, none⟩) cap (o :: r)) (hb : b ≠ q) (hn : n = r.length + 1) :
    (1 < cap → RAlB (w.setCell ⟨q, 0, none⟩ (.slice (some ⟨b, off + 2, none⟩) (n - 1) (cap - 1))) q b r most) ∧ (cap = 1 → RAlB (w.setCell ⟨q, 0, none⟩ (.slice (some ⟨b, off, none⟩) (n - 1) 0)) q b r most) := by
  subst hn
  obtain ⟨h1, h2, b', off', h3⟩ := hr
  obtain ⟨e0, _, _⟩ := h3 0 (by simp)
  injection e0 with e0
  injection e0 with e1 e2
  subst e1; subst e2
  simp only [List.length_cons] at h1
  constructor
  · intro hc
    refine ⟨off + 2, cap - 1, ?_, ?_⟩
    · have := heap_setCell_same w q 0 #[.slice (some ⟨b, off, none⟩) (r.length + 1) cap, .int .i64 most] 28 (.slice (some ⟨b, off + 2, none⟩) (r.length + 1 - 1) (cap - 1)) hq
      simpa using this
    · refine RowO.chg (w := w) (S := fun k => k = q) ⟨by omega, by omega, b, off + 2, fun j hj => ?_⟩ (Chg.setCell _ _ _ _) (fun p hp e => by cases hp; exact hb e)
      obtain ⟨_, x0, x1⟩ := h3 (j + 1) (by simpa using hj)
      refine ⟨rfl, ?_, ?_⟩
      · rw [show off + 2 + j * 2 = off + (j + 1) * 2 by omega, x0]; simp [gt]
      · rw [show off + 2 + j * 2 + 1 = off + (j + 1) * 2 + 1 by omega, x1]; simp [gt]
  · intro hc
    have hr0 : r = [] := List.eq_nil_of_length_eq_zero (by omega)
    subst hr0
    refine ⟨off, 0, ?_, ⟨Nat.le_refl _, Nat.zero_le _, b, off, fun j hj => absurd hj (Nat.not_lt_zero _)⟩⟩
    have := heap_setCell_same w q 0 #[.slice (some ⟨b, off, none⟩) (0 + 1) cap, .int .i64 most] 28 (.slice (some ⟨b, off, none⟩) (0 + 1 - 1) 0) hq
    simpa using this
set_option maxHeartbeats 8000000 in
set_option maxRecDepth 100000 in
theorem rdue_none (q : Nat) (now most : Int) (w : World) (h : RAl w q [] most) :
    Calls Try.prog 16 #[.pointer (some ⟨q, 0, none⟩), .int .u64 now] w fun e w' => ∃ v, e = .returned v ∧ Own 29 .u64 w.heap.size v [] w' ∧ Below w.heap.size w w' := by
  have HR := Lib.hid (h.below (below_alloc w (.cells #[] 29)))
  have HO : Hid (Own 29 .u64 w.heap.size (.slice (some ⟨w.heap.size, 0, none⟩) 0 0) [] (w.alloc (.cells #[] 29))) := Lib.hid (Own.new _ _ _ (Nat.le_refl _))
  clear h
  go_enter Try.func16, Try.ntmps16
  go_wp2_with fail
  go_loopw [5] (fun v wr => v = .slice (some ⟨w.heap.size, 0, none⟩) 0 0 ∧ wr = w.alloc (.cells #[] 29)) (fun _ _ => 0)
  case atStart => exact ⟨rfl, rfl⟩
  case round =>
    obtain ⟨rfl, rfl⟩ := hrel
    obtain ⟨a, cap, c0, _⟩ := HR.out.cell
    simp only [List.length_nil] at c0
    go_wp2_with fail
    go_ret
    exact ⟨_, rfl, HO.out, below_alloc _ _⟩
set_option maxHeartbeats 8000000 in
set_option maxRecDepth 100000 in
theorem rdue_some (q b : Nat) (now most : Int) (L : List On) (w : World) (hL : Hid (L.length ≤ 1000)) (hr0 : Hid (RAlB w q b L most)) (HBQ : Hid (b ≠ q)) (HBW : Hid (b < w.heap.size)) (HQW : Hid (q < w.heap.size)) (HTY : Hid (∃ cs fr, w.heap[b]? = some (.cells cs 70 fr))) :
    Calls Try.prog 16 #[.pointer (some ⟨q, 0, none⟩), .int .u64 now] w fun e w' => ∃ v, e = .returned v ∧ Own 29 .u64 w.heap.size v (dueD now L) w' ∧ RAl w' q (restD now L) most ∧ Chg (fun k => k = q) w w' := by
  have HR1 : Hid (RAlB (w.alloc (.cells #[] 29)) q b (L.drop 0) most) := Lib.hid (by
    obtain ⟨off, cap, x1, x2⟩ := hr0.out
    exact ⟨off, cap, ((below_alloc w _).block q (blk_lt x1)).trans x1, x2.below (below_alloc _ _)⟩)
  have HO1 : Hid (Own 29 .u64 w.heap.size (.slice (some ⟨w.heap.size, 0, none⟩) 0 0) ((L.take 0).map On.id) (w.alloc (.cells #[] 29))) := Lib.hid (Own.new _ _ _ (Nat.le_refl _))
  have HC1 : Hid (Chg (fun k => k = q) w (w.alloc (.cells #[] 29))) := Lib.hid (Chg.of_below (below_alloc _ _))
  obtain ⟨n, hn⟩ : ∃ n, L.length = n := ⟨_, rfl⟩
  have HN := Lib.hid hn
  clear hn hr0
  go_enter Try.func16, Try.ntmps16
  go_wp2_with fail
  go_loopw [5] (fun v wr => ∃ k : Nat, k ≤ n ∧ Hid (∀ j, j < k → decide ((gt L j).at_ ≤ now) = true) ∧ Hid (Own 29 .u64 w.heap.size v ((L.take k).map On.id) wr) ∧ Hid (RAlB wr q b (L.drop k) most) ∧ Hid (Chg (fun k => k = q) w wr)) (fun _ wr => lenA (wr.cell? ⟨q, 0, none⟩))
  case atStart => exact ⟨0, Nat.zero_le _, Lib.hid (fun j hj => absurd hj (Nat.not_lt_zero _)), HO1, HR1, HC1⟩
  case round =>
    clear HO1 HR1 HC1
    obtain ⟨k, hk, HJ, HO, HRB, HC⟩ := hrel
    have HLR := Lib.hid HRB.out.len
    obtain ⟨off', cap', hq, hr⟩ := HRB.out
    have HQ := Lib.hid hq
    have HR := Lib.hid hr
    clear hq hr
    have HML : Hid ((L.drop k).length = n - k) := Lib.hid (by rw [List.length_drop, HN.out])
    by_cases hlt : k < n
    · have HK := Lib.hid hlt
      have HDC := Lib.hid (drop_cons (L := L) (k := k) (by rw [HN.out]; exact hlt))
      have HTK0 := Lib.hid (take_gt (L := L) (k := k) (by rw [HN.out]; exact hlt))
      obtain ⟨r, hrd⟩ : ∃ r, L.drop (k + 1) = r := ⟨_, rfl⟩
      have HDR2 := Lib.hid hrd
      obtain ⟨o, hod⟩ : ∃ o, gt L k = o := ⟨_, rfl⟩
      have HOD := Lib.hid hod
      rw [hrd, hod] at HDC
      rw [hod] at HTK0
      rw [HDC.out] at HQ HR HML HLR
      obtain ⟨mm, hmm⟩ : ∃ mm, (o :: r).length = mm := ⟨_, rfl⟩
      rw [hmm] at HQ HLR
      have HMR : Hid (mm = r.length + 1) := Lib.hid (by rw [← hmm]; rfl)
      have hm0 : (0 : Int) < (mm : Int) := by rw [HMR.out]; omega
      have hm1 : decide (0 < mm) = true := by simp; omega
      have hm2 : 0 < mm := by omega
      obtain ⟨oid, oat⟩ := o
      have HTK : Hid ((L.take (k + 1)).map On.id = (L.take k).map On.id ++ [oid]) := Lib.hid (by rw [HTK0.out, List.map_append]; rfl)
      have HTL : Hid (((L.take k).map On.id).length < 100000) := Lib.hid (by rw [List.length_map, List.length_take]; have := hL.out; omega)
      have c0 := cell_atA 0 HQ.out
      simp at c0
      obtain ⟨rl1, rl2, b', off2, r3⟩ := HR.out
      obtain ⟨e0, x0, x1⟩ := r3 0 (by simp)
      injection e0 with e0
      injection e0 with e1 e2
      subst e1; subst e2
      have x0' : wr.cell? ⟨b, off', none⟩ = some (.int .u64 oid) := by simpa [gt] using x0
      have x1' : wr.cell? ⟨b, off' + 1, none⟩ = some (.int .u64 oat) := by simpa [gt] using x1
      have hcap1 : 1 ≤ cap' := by simp only [List.length_cons] at rl1; omega
      have hcap2 : (mm : Int) ≤ (cap' : Int) := by have := HMR.out; simp only [List.length_cons] at rl1; omega
      clear r3 x0 x1 rl1 rl2 hrd hod hmm hlt hk
      cases hb : decide (oat ≤ now) with
      | true =>
        have HAL : Hid (∀ j, j < k + 1 → decide ((gt L j).at_ ≤ now) = true) := Lib.hid (fun j hj => by
          rcases Nat.lt_or_ge j k with q | q
          · exact HJ.out j q
          · obtain rfl : j = k := by omega
            rw [HOD.out]; exact hb)
        by_cases hcp : cap' = 1
        · skip
          have hcc : (cap' : Int) = 1 := by omega
          subst hcp
          go_wp2_with (at_builtin; refine wpList_app rfl (.tmp 24) (.tmp 32) 35 29 .u64 8 Try.underlying35 infoU (by decide) rfl w.heap.size _ ((L.take k).map On.id) oid _ rfl (HO.out.below (below_alloc _ _)) wr.heap.size 1 rfl (heap_alloc_new wr _) HTL.out (by have := HC.out.size; simp; omega) ?_; intro v1 x1 hA; have HA := Lib.hid hA; clear hA; have HX : Hid (Chg (fun k => w.heap.size ≤ k) wr x1) := Lib.hid ((Chg.of_below (below_alloc wr _)).trans (chg_low HA.out.low HA.out.size)); have hq1 := HX.out.blk HQ.out (by have := HQW.out; omega); have HQ1 := Lib.hid hq1; have c1 := cell_atA 0 hq1; simp at c1; have f1 := frz_atA 0 hq1; clear hq1)
          go_roundw
          case rel =>
            have hr1 := HR.out.chg HX.out (fun p hp => by cases hp; have := HBW.out; dsimp only; omega)
            have hst := (RAlB.step HQ1.out hr1 HBQ.out HMR.out).2 rfl
            exact ⟨k + 1, by have := HK.out; omega, HAL, Lib.hid (by rw [HTK.out]; exact HA.out.own.chg (Chg.setCell _ _ _ _) (fun j hj e => by have := (World.ownsRow.lt HA.out.own j hj).1; have := HQW.out; omega)), Lib.hid (by rw [HDR2.out]; exact hst), Lib.hid ((chg_step HC.out HX.out).trans (Chg.setCell _ _ _ _))⟩
          case measure =>
            have hr1 := HR.out.chg HX.out (fun p hp => by cases hp; have := HBW.out; dsimp only; omega)
            have hst := (RAlB.step HQ1.out hr1 HBQ.out HMR.out).2 rfl
            rw [hst.len, HLR.out]
            have := HMR.out
            omega
        · have HCP : Hid (1 < cap') := Lib.hid (by omega)
          have hcc : (1 : Int) < (cap' : Int) := by omega

          go_wp2_with (at_builtin; refine wpList_app rfl (.tmp 24) (.tmp 32) 35 29 .u64 8 Try.underlying35 infoU (by decide) rfl w.heap.size _ ((L.take k).map On.id) oid _ rfl (HO.out.below (below_alloc _ _)) wr.heap.size 1 rfl (heap_alloc_new wr _) HTL.out (by have := HC.out.size; simp; omega) ?_; intro v1 x1 hA; have HA := Lib.hid hA; clear hA; have HX : Hid (Chg (fun k => w.heap.size ≤ k) wr x1) := Lib.hid ((Chg.of_below (below_alloc wr _)).trans (chg_low HA.out.low HA.out.size)); have hq1 := HX.out.blk HQ.out (by have := HQW.out; omega); have HQ1 := Lib.hid hq1; have c1 := cell_atA 0 hq1; simp at c1; have f1 := frz_atA 0 hq1; clear hq1)
          go_roundw
          case rel =>
            have hr1 := HR.out.chg HX.out (fun p hp => by cases hp; have := HBW.out; dsimp only; omega)
            have hst := (RAlB.step HQ1.out hr1 HBQ.out HMR.out).1 HCP.out
            exact ⟨k + 1, by have := HK.out; omega, HAL, Lib.hid (by rw [HTK.out]; exact HA.out.own.chg (Chg.setCell _ _ _ _) (fun j hj e => by have := (World.ownsRow.lt HA.out.own j hj).1; have := HQW.out; omega)), Lib.hid (by rw [HDR2.out]; exact hst), Lib.hid ((chg_step HC.out HX.out).trans (Chg.setCell _ _ _ _))⟩
          case measure =>
            have hr1 := HR.out.chg HX.out (fun p hp => by cases hp; have := HBW.out; dsimp only; omega)
            have hst := (RAlB.step HQ1.out hr1 HBQ.out HMR.out).1 HCP.out
            rw [hst.len, HLR.out]
            have := HMR.out
            omega
      | false =>
        have HW := Lib.hid (while_is (fun o => decide (o.at_ ≤ now)) L k (by rw [HN.out]; exact Nat.le_of_lt HK.out) HJ.out (.inr (by rw [HOD.out]; exact hb)))
        go_wp2_with fail
        go_ret
        refine ⟨_, rfl, ?_, ?_, HC.out⟩
        · unfold dueD; rw [HW.out.1]; exact HO.out
        · unfold restD; rw [HW.out.2]; exact HRB.out.al HBQ.out (by obtain ⟨cs, fr, y⟩ := HTY.out; exact ⟨cs, fr, HC.out.blk y HBQ.out⟩)
    · obtain rfl : k = n := by omega
      have HW := Lib.hid (while_is (fun o => decide (o.at_ ≤ now)) L k (by rw [HN.out]; exact Nat.le_refl _) HJ.out (.inl HN.out.symm))
      rw [HML.out, Nat.sub_self] at HQ
      have c0 := cell_atA 0 HQ.out
      simp at c0
      clear hlt hk
      go_wp2_with fail
      go_ret
      refine ⟨_, rfl, ?_, ?_, HC.out⟩
      · unfold dueD; rw [HW.out.1]; exact HO.out
      · unfold restD; rw [HW.out.2]; exact HRB.out.al HBQ.out (by obtain ⟨cs, fr, y⟩ := HTY.out; exact ⟨cs, fr, HC.out.blk y HBQ.out⟩)
theorem rdue_k (q : Nat) (now most : Int) (L : List On) (w : World) (h : RAl w q L most) (hL : L.length ≤ 1000) :
    Calls Try.prog 16 #[.pointer (some ⟨q, 0, none⟩), .int .u64 now] w fun e w' => ∃ v, e = .returned v ∧ Own 29 .u64 w.heap.size v (dueD now L) w' ∧ RAl w' q (restD now L) most ∧ Chg (fun k => k = q) w w' := by
  cases L with
  | nil => exact (rdue_none q now most w h).mono fun e w' ⟨v, he, ho, hb⟩ => ⟨v, he, ho, h.below hb, Chg.of_below hb⟩
  | cons o r =>
    have hq := h.lt
    obtain ⟨a, cap, h1, h2, h3⟩ := h
    have h2' := h2
    obtain ⟨_, _, b, off, hr⟩ := h2'
    obtain ⟨hae, x0, _⟩ := hr 0 (by simp)
    subst hae
    exact rdue_some q b now most (o :: r) w (Lib.hid hL) (Lib.hid ⟨off, cap, h1, h2⟩) (Lib.hid (h3 _ rfl).1) (Lib.hid (block_lt_of_cell x0)) (Lib.hid hq) (Lib.hid (h3 _ rfl).2)
end Go.Proofs.Ytcnfchjiiglijaa
