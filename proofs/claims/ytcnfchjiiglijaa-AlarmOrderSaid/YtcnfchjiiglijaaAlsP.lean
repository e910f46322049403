/- The program's Put and Drop. -/
import Derived.Test.YtcnfchjiiglijaaAlsT
namespace Go.Proofs.Ytcnfchjiiglijaa
open Go.RowKit
set_option linter.unusedVariables false
set_option linter.unusedSimpArgs false
set_option maxRecDepth 20000
def FSub (F F' : Nat → Prop) (w : World) : Prop := ∀ k, F' k → F k ∨ w.heap.size ≤ k
section
variable {F : Nat → Prop} {w w' : World} {p c q m : Nat} {v : Value} {H L : List On} {most mm : Int}
/-- The set behind a step, in all that its promises say. -/
theorem Als.took {c' : Nat} {v' : Value} {H' L' : List On} {w1 : World} (hF : ∀ k, F k ↔ Fq p c q m v k) (hb : Below w.heap.size w w1) (r1 : Alq w' p c' q m v' H' (max 0 most)) (r2 : Chg (Fq p c q m v) w1 w') (r3 : w1.heap.size ≤ c') (r4 : ∀ k, v'.ownBlock = some k → some k = v.ownBlock ∨ w1.heap.size ≤ k)
    (hp : H'.Perm L') (hr : Rise L') (hl : (L'.length : Int) ≤ max 0 most) : ∃ F', Als F' w' p L' most ∧ FSub F F' w ∧ Chg F w w' := by
  refine ⟨Fq p c' q m v', ⟨c', q, m, v', H', r1, hp, hr, hl, fun k => Iff.rfl⟩, fun k hk => ?_, (Chg.of_below hb).trans ⟨r2.os, r2.tape, r2.output, r2.size, fun k hk hn => r2.block k hk (fun e => hn ((hF k).2 e))⟩⟩
  rcases hk with e | e | e | e | e
  · exact .inl ((hF k).2 (.inl e))
  · exact .inr (by have := hb.size; omega)
  · exact .inl ((hF k).2 (.inr (.inr (.inl e))))
  · exact .inl ((hF k).2 (.inr (.inr (.inr (.inl e)))))
  · rcases r4 k e.symm with r | r
    · exact .inl ((hF k).2 (.inr (.inr (.inr (.inr r)))))
    · exact .inr (Nat.le_trans hb.size r)
theorem Rise.drop {id : Int} (h : Rise L) : Rise (dropD id L) := ⟨drop_srt h.1, drop_nt h.2.1, fun o ho => h.2.2 o ((drop_sub id L).subset ho)⟩
theorem Rise.put {id at_ : Int} (h : Rise L) (hid : U64 id) (hat : U64 at_) : Rise (insD ⟨id, at_⟩ (dropD id L)) :=
  ⟨put_srt h.1 h.2.1, put_nt h.2.1, fun o ho => by
    rcases (put_mem h.2.1 o).1 ho with e | ⟨e, _⟩
    · subst e; exact ⟨hid, hat⟩
    · exact h.2.2 o e⟩
theorem moved_perm {id at_ : Int} {H' : List On} (hp : H.Perm L) (hr : Rise L) (h : ∃ i, i < H.length ∧ (gt H i).id = id ∧ H'.Perm (H.set i ⟨id, at_⟩)) : H'.Perm (insD ⟨id, at_⟩ (dropD id L)) := by
  obtain ⟨i, hi, he, hh⟩ := h
  obtain ⟨R, h1, h2⟩ := set_split hi (⟨id, at_⟩ : On)
  exact hh.trans (h2.symm.trans (((drop_of hp h1 he hr.2.1).cons _).trans (ins_perm _ _).symm))
theorem new_perm {id at_ : Int} {H' : List On} (hp : H.Perm L) (hb : hasD id L = false) (h : H'.Perm (⟨id, at_⟩ :: H)) : H'.Perm (insD ⟨id, at_⟩ (dropD id L)) := by
  rw [drop_none hb]
  exact h.trans ((hp.cons _).trans (ins_perm _ _).symm)
set_option maxHeartbeats 4000000 in
theorem drop_k (F : Nat → Prop) (p : Nat) (id most : Int) (L : List On) (w : World) (h : Als F w p L most) (hL : L.length ≤ 1000) (hid : U64 id) :
    Calls Try.prog 12 #[.pointer (some ⟨p, 0, none⟩), .int .u64 id] w fun e w' => ∃ F', e = .returned (.bool (hasD id L)) ∧ Als F' w' p (dropD id L) most ∧ FSub F F' w ∧ Chg F w w' := by
  have HL := Lib.hid h
  obtain ⟨c, q, m, v, H, h1, h2, h3, h4, hF⟩ := h
  have hle := h2.length_eq
  have HA := Lib.hid h1
  have HX := Lib.hid (And.intro h2 (And.intro h3 (And.intro h4 hF)))
  have HLE := Lib.hid (show H.length ≤ 1000 by omega)
  rw [← has_perm h2]
  cases hb : hasD id H with
  | false =>
    have HB := Lib.hid hb
    clear h1 h2 h3 h4 hF hle hL hid hb
    go_enter Try.func12, Try.ntmps12
    go_wp2_with fail
    refine (a_queue HA.out).mono ?_
    rintro e w1 ⟨rfl, hb1⟩
    have HB1 := Lib.hid hb1
    clear hb1
    go_wp2_with fail
    refine (q_has (HA.out.below HB1.out).que id).mono ?_
    rintro e w2 ⟨rfl, hb2⟩
    rw [HB.out]
    have HB2 := Lib.hid (HB1.out.trans (hb2.mono HB1.out.size))
    clear hb2
    go_wp2_with fail
    go_ret
    refine ⟨F, rfl, ?_, fun k hk => .inl hk, Chg.of_below HB2.out⟩
    rw [drop_none (by rw [← has_perm HX.out.1]; exact HB.out)]
    exact HL.out.keep (Chg.of_below (S := fun _ => False) HB2.out) (fun _ _ e => e)
  | true =>
    have HB := Lib.hid hb
    clear h1 h2 h3 h4 hF hle hL hid hb
    go_enter Try.func12, Try.ntmps12
    go_wp2_with fail
    refine (a_queue HA.out).mono ?_
    rintro e w1 ⟨rfl, hb1⟩
    have HB1 := Lib.hid hb1
    clear hb1
    go_wp2_with fail
    refine (q_has (HA.out.below HB1.out).que id).mono ?_
    rintro e w2 ⟨rfl, hb2⟩
    rw [HB.out]
    have HB2 := Lib.hid (HB1.out.trans (hb2.mono HB1.out.size))
    clear hb2
    go_wp2_with fail
    refine (a_take (fun H' => ∃ o, o.id = id ∧ (o :: H').Perm H) id 0 true (HA.out.below HB2.out) (fun W hW => take_gone id 0 hW HA.out.heap HLE.out HB.out)).mono ?_
    rintro e w3 ⟨rfl, c', v', H', r1, r2, r3, r4, r5⟩
    have HR := Lib.hid (And.intro r1 (And.intro r2 (And.intro r3 (And.intro r4 r5))))
    clear r1 r2 r3 r4 r5
    go_wp2_with fail
    go_ret
    obtain ⟨r1, ⟨o, ho, hs⟩, r3, r4, r5⟩ := HR.out
    obtain ⟨h2, h3, h4, hF⟩ := HX.out
    obtain ⟨F', f1, f2, f3⟩ := Als.took hF HB2.out r1 r3 r4 r5 (drop_of h2 hs ho h3.2.1) h3.drop (by have := dropD_len id L; omega)
    exact ⟨F', rfl, f1, f2, f3⟩
set_option maxHeartbeats 4000000 in
theorem put_k (F : Nat → Prop) (p : Nat) (id at_ most : Int) (L : List On) (w : World) (h : Als F w p L most) (hL : L.length ≤ 1000) (hid : U64 id) (hat : U64 at_) :
    Calls Try.prog 10 #[.pointer (some ⟨p, 0, none⟩), .int .u64 id, .int .u64 at_] w fun e w' => ∃ F', e = .returned (.int .i64 (putD most id at_ L).2) ∧ Als F' w' p (putD most id at_ L).1 most ∧ FSub F F' w ∧ Chg F w w' := by
  have HL := Lib.hid h
  obtain ⟨c, q, m, v, H, h1, h2, h3, h4, hF⟩ := h
  have hle := h2.length_eq
  obtain ⟨mm, hmm⟩ : ∃ mm, max 0 most = mm := ⟨_, rfl⟩
  have HMM := Lib.hid hmm
  rw [hmm] at h1
  have HA := Lib.hid h1
  have HX := Lib.hid (And.intro h2 (And.intro h3 (And.intro h4 hF)))
  have HLE := Lib.hid (show H.length ≤ 1000 by omega)
  have HU := Lib.hid (And.intro hid hat)
  obtain ⟨n, hn⟩ : ∃ n, H.length = n := ⟨_, rfl⟩
  have HN := Lib.hid hn
  cases hb : hasD id H with
  | true =>
    have HB := Lib.hid hb
    have HD : Hid (putD most id at_ L = (insD ⟨id, at_⟩ (dropD id L), 0)) := Lib.hid (put_fits (.inl (by rw [← has_perm h2]; exact hb)))
    clear h1 h2 h3 h4 hF hle hL hid hat hb hmm hn
    go_enter Try.func10, Try.ntmps10
    go_wp2_with fail
    refine (a_queue HA.out).mono ?_
    rintro e w1 ⟨rfl, hb1⟩
    have HB1 := Lib.hid hb1
    have HA1 := Lib.hid (HA.out.below hb1)
    have HP0 := Lib.hid (HA.out.below hb1).cells.1
    clear hb1
    go_wp2_with fail
    refine wp_region_held_drew (S := fun u => u.cell? ⟨p, 0, none⟩ = some (.int .i64 mm)) (by kernel_rfl) (show w1.drew.cell? _ = _ from HP0.out) (fun hHeld => ?_)
    clear HP0
    refine wpAnyH_take (i := 0) (oi := ?o1) (v := ?v1) ?i1 (by kernel_rfl) (by kernel_rfl) (by kernel_rfl) ?q1 (Or.inl ⟨?w1, ?y1⟩) (by assumption) ?r1
    case' i1 => simp only [List.getElem?_toArray, List.getElem?_cons_succ, List.getElem?_cons_zero]
    case i1 => rfl
    case q1 => exact fun _ _ _ h => h
    case w1 => rfl
    case y1 => (intro w hSw; (try dsimp only at hSw); go_simp) <;> with_reducible rfl
    try simp only [Act.put, List.setIfInBounds_toArray, List.set_cons_zero, List.set_cons_succ]
    refine wpAnyH_take (i := 1) (oi := ?o2) (v := ?v2) ?i2 (by kernel_rfl) (by kernel_rfl) (by kernel_rfl) ?q2 (Or.inl ⟨?w2, ?y2⟩) (by assumption) ?r2
    case' i2 => simp only [List.getElem?_toArray, List.getElem?_cons_succ, List.getElem?_cons_zero]
    case i2 => rfl
    case q2 => exact fun _ _ _ h => h
    case w2 => rfl
    case y2 => (intro w hSw; (try dsimp only at hSw); go_simp) <;> with_reducible rfl
    try simp only [Act.put, List.setIfInBounds_toArray, List.set_cons_zero, List.set_cons_succ]
    refine wpAnyH_ready (rs := [2]) (by kernel_rfl) (by simp) ?_
    refine AllReadyH.cons (o := ?o3) ?i3 (fun K' hK => ?_) AllReadyH.nil
    case' i3 => simp only [List.getElem?_toArray, List.getElem?_cons_succ, List.getElem?_cons_zero]
    case i3 => rfl
    go_simp
    go_at_call 22
    refine (q_has (show QAt w1.drew q m v H from ⟨HA1.out.que.blk, HA1.out.que.row, HA1.out.que.map, HA1.out.que.once⟩) id).mono ?_
    rintro e w2 ⟨rfl, hb2⟩
    rw [HB.out]
    have hb12 : Below w1.heap.size w1 w2 := ⟨hb2.os, hb2.tape, hb2.output, hb2.size, hb2.block⟩
    have HB2 := Lib.hid (HB1.out.trans (hb12.mono HB1.out.size))
    have HA2 := Lib.hid (HA1.out.below hb12)
    have hH : w2.cell? ⟨p, 0, none⟩ = some (.int .i64 mm) := HA2.out.cells.1
    clear hb2 hb12 hHeld
    go_wp2_with fail
    refine hK.out _ _ hH (fun hHeld => ?_)
    clear hK K' hH
    try simp only [Act.put, List.setIfInBounds_toArray, List.set_cons_zero, List.set_cons_succ]
    refine wpAnyH_take (i := 3) (oi := ?o4) (v := ?v4) ?i4 (by kernel_rfl) (by kernel_rfl) (by kernel_rfl) ?q4 (Or.inl ⟨?w4, ?y4⟩) (by assumption) ?r4
    case' i4 => simp only [List.getElem?_toArray, List.getElem?_cons_succ, List.getElem?_cons_zero]
    case i4 => rfl
    case q4 => exact fun _ _ _ h => h
    case w4 => rfl
    case y4 => (intro w hSw; (try dsimp only at hSw); go_simp) <;> with_reducible rfl
    try simp only [Act.put, List.setIfInBounds_toArray, List.set_cons_zero, List.set_cons_succ]
    refine wpAnyH_take (i := 4) (oi := ?o5) (v := ?v5) ?i5 (by kernel_rfl) (by kernel_rfl) (by kernel_rfl) ?q5 (Or.inl ⟨?w5, ?y5⟩) (by assumption) ?r5
    case' i5 => simp only [List.getElem?_toArray, List.getElem?_cons_succ, List.getElem?_cons_zero]
    case i5 => rfl
    case q5 => exact fun _ _ _ h => h
    case w5 => rfl
    case y5 => (intro w hSw; (try dsimp only at hSw); go_simp) <;> with_reducible rfl
    try simp only [Act.put, List.setIfInBounds_toArray, List.set_cons_zero, List.set_cons_succ]
    refine wpAnyH_take (i := 5) (oi := ?o6) (v := undef) ?i6 (by kernel_rfl) (by kernel_rfl) (by kernel_rfl) ?q6 (Or.inr ⟨?w6, rfl⟩) (by assumption) ?r6
    case' i6 => simp only [List.getElem?_toArray, List.getElem?_cons_succ, List.getElem?_cons_zero]
    case i6 => rfl
    case q6 => exact fun _ _ _ h => h
    case w6 => rfl
    try simp only [Act.put, List.setIfInBounds_toArray, List.set_cons_zero, List.set_cons_succ]
    refine wpAnyH_take (i := 6) (oi := ?o7) (v := undef) ?i7 (by kernel_rfl) (by kernel_rfl) (by kernel_rfl) ?q7 (Or.inr ⟨?w7, rfl⟩) (by assumption) ?r7
    case' i7 => simp only [List.getElem?_toArray, List.getElem?_cons_succ, List.getElem?_cons_zero]
    case i7 => rfl
    case q7 => exact fun _ _ _ h => h
    case w7 => rfl
    try simp only [Act.put, List.setIfInBounds_toArray, List.set_cons_zero, List.set_cons_succ]
    refine wpAnyH_take (i := 7) (oi := ?o8) (v := undef) ?i8 (by kernel_rfl) (by kernel_rfl) (by kernel_rfl) ?q8 (Or.inr ⟨?w8, rfl⟩) (by assumption) ?r8
    case' i8 => simp only [List.getElem?_toArray, List.getElem?_cons_succ, List.getElem?_cons_zero]
    case i8 => rfl
    case q8 => exact fun _ _ _ h => h
    case w8 => rfl
    try simp only [Act.put, List.setIfInBounds_toArray, List.set_cons_zero, List.set_cons_succ]
    refine wpAnyH_take (i := 8) (oi := ?o9) (v := undef) ?i9 (by kernel_rfl) (by kernel_rfl) (by kernel_rfl) ?q9 (Or.inr ⟨?w9, rfl⟩) (by assumption) ?r9
    case' i9 => simp only [List.getElem?_toArray, List.getElem?_cons_succ, List.getElem?_cons_zero]
    case i9 => rfl
    case q9 => exact fun _ _ _ h => h
    case w9 => rfl
    try simp only [Act.put, List.setIfInBounds_toArray, List.set_cons_zero, List.set_cons_succ]
    refine wpAnyH_take (i := 9) (oi := ?o10) (v := undef) ?i10 (by kernel_rfl) (by kernel_rfl) (by kernel_rfl) ?q10 (Or.inr ⟨?w10, rfl⟩) (by assumption) ?r10
    case' i10 => simp only [List.getElem?_toArray, List.getElem?_cons_succ, List.getElem?_cons_zero]
    case i10 => rfl
    case q10 => exact fun _ _ _ h => h
    case w10 => rfl
    try simp only [Act.put, List.setIfInBounds_toArray, List.set_cons_zero, List.set_cons_succ]
    refine wpAnyH_take (i := 10) (oi := ?o11) (v := undef) ?i11 (by kernel_rfl) (by kernel_rfl) (by kernel_rfl) ?q11 (Or.inr ⟨?w11, rfl⟩) (by assumption) ?r11
    case' i11 => simp only [List.getElem?_toArray, List.getElem?_cons_succ, List.getElem?_cons_zero]
    case i11 => rfl
    case q11 => exact fun _ _ _ h => h
    case w11 => rfl
    try simp only [Act.put, List.setIfInBounds_toArray, List.set_cons_zero, List.set_cons_succ]
    refine wpAnyH_take (i := 11) (oi := ?o12) (v := undef) ?i12 (by kernel_rfl) (by kernel_rfl) (by kernel_rfl) ?q12 (Or.inr ⟨?w12, rfl⟩) (by assumption) ?r12
    case' i12 => simp only [List.getElem?_toArray, List.getElem?_cons_succ, List.getElem?_cons_zero]
    case i12 => rfl
    case q12 => exact fun _ _ _ h => h
    case w12 => rfl
    try simp only [Act.put, List.setIfInBounds_toArray, List.set_cons_zero, List.set_cons_succ]
    refine wpAnyH_take (i := 12) (oi := ?o13) (v := ?v13) ?i13 (by kernel_rfl) (by kernel_rfl) (by kernel_rfl) ?q13 (Or.inl ⟨?w13, ?y13⟩) (by assumption) ?r13
    case' i13 => simp only [List.getElem?_toArray, List.getElem?_cons_succ, List.getElem?_cons_zero]
    case i13 => rfl
    case q13 => exact fun _ _ _ h => h
    case w13 => rfl
    case y13 => (intro w hSw; (try dsimp only at hSw); go_simp) <;> with_reducible rfl
    try simp only [Act.put, List.setIfInBounds_toArray, List.set_cons_zero, List.set_cons_succ]
    refine wpAnyH_done (by kernel_rfl) ?_ _
    go_wp2_with fail
    refine (a_take (fun H' => ∃ i, i < H.length ∧ (gt H i).id = id ∧ H'.Perm (H.set i ⟨id, at_⟩)) id at_ false HA2.out (fun W hW => take_move id at_ hW HA.out.heap HLE.out HB.out)).mono ?_
    rintro e w4 ⟨rfl, c', v', H', r1, r2, r3, r4, r5⟩
    have HR := Lib.hid (And.intro r1 (And.intro r2 (And.intro r3 (And.intro r4 r5))))
    clear r1 r2 r3 r4 r5
    go_wp2_with fail
    go_ret
    obtain ⟨r1, r2, r3, r4, r5⟩ := HR.out
    obtain ⟨h2, h3, h4, hF⟩ := HX.out
    rw [← HMM.out] at r1
    obtain ⟨F', f1, f2, f3⟩ := Als.took hF HB2.out r1 r3 r4 r5 (moved_perm h2 h3 r2) (h3.put HU.out.1 HU.out.2) (by rw [put_len, if_pos (by rw [← has_perm h2]; exact HB.out)]; simpa using h4)
    exact ⟨F', by rw [HD.out]; rfl, by rw [HD.out]; exact f1, f2, f3⟩
  | false =>
    have HB := Lib.hid hb
    by_cases hf : (n : Int) = mm
    · have HD : Hid (putD most id at_ L = (L, 8)) := Lib.hid (put_full (by rw [← has_perm h2]; exact hb) (by omega))
      have t0 : ((n : Int) == mm) = true := by simpa using hf
      clear h1 h2 h3 h4 hF hle hL hid hat hb hmm hn hf
      go_enter Try.func10, Try.ntmps10
      go_wp2_with fail
      refine (a_queue HA.out).mono ?_
      rintro e w1 ⟨rfl, hb1⟩
      have HB1 := Lib.hid hb1
      have HA1 := Lib.hid (HA.out.below hb1)
      have HP0 := Lib.hid (HA.out.below hb1).cells.1
      clear hb1
      go_wp2_with fail
      refine wp_region_held_drew (S := fun u => u.cell? ⟨p, 0, none⟩ = some (.int .i64 mm)) (by kernel_rfl) (show w1.drew.cell? _ = _ from HP0.out) (fun hHeld => ?_)
      clear HP0
      refine wpAnyH_take (i := 0) (oi := ?o14) (v := ?v14) ?i14 (by kernel_rfl) (by kernel_rfl) (by kernel_rfl) ?q14 (Or.inl ⟨?w14, ?y14⟩) (by assumption) ?r14
      case' i14 => simp only [List.getElem?_toArray, List.getElem?_cons_succ, List.getElem?_cons_zero]
      case i14 => rfl
      case q14 => exact fun _ _ _ h => h
      case w14 => rfl
      case y14 => (intro w hSw; (try dsimp only at hSw); go_simp) <;> with_reducible rfl
      try simp only [Act.put, List.setIfInBounds_toArray, List.set_cons_zero, List.set_cons_succ]
      refine wpAnyH_take (i := 1) (oi := ?o15) (v := ?v15) ?i15 (by kernel_rfl) (by kernel_rfl) (by kernel_rfl) ?q15 (Or.inl ⟨?w15, ?y15⟩) (by assumption) ?r15
      case' i15 => simp only [List.getElem?_toArray, List.getElem?_cons_succ, List.getElem?_cons_zero]
      case i15 => rfl
      case q15 => exact fun _ _ _ h => h
      case w15 => rfl
      case y15 => (intro w hSw; (try dsimp only at hSw); go_simp) <;> with_reducible rfl
      try simp only [Act.put, List.setIfInBounds_toArray, List.set_cons_zero, List.set_cons_succ]
      refine wpAnyH_ready (rs := [2]) (by kernel_rfl) (by simp) ?_
      refine AllReadyH.cons (o := ?o16) ?i16 (fun K' hK => ?_) AllReadyH.nil
      case' i16 => simp only [List.getElem?_toArray, List.getElem?_cons_succ, List.getElem?_cons_zero]
      case i16 => rfl
      go_simp
      go_at_call 22
      refine (q_has (show QAt w1.drew q m v H from ⟨HA1.out.que.blk, HA1.out.que.row, HA1.out.que.map, HA1.out.que.once⟩) id).mono ?_
      rintro e w2 ⟨rfl, hb2⟩
      rw [HB.out]
      have hb12 : Below w1.heap.size w1 w2 := ⟨hb2.os, hb2.tape, hb2.output, hb2.size, hb2.block⟩
      have HB2 := Lib.hid (HB1.out.trans (hb12.mono HB1.out.size))
      have HA2 := Lib.hid (HA1.out.below hb12)
      have hH : w2.cell? ⟨p, 0, none⟩ = some (.int .i64 mm) := HA2.out.cells.1
      clear hb2 hb12 hHeld
      go_wp2_with fail
      refine hK.out _ _ hH (fun hHeld => ?_)
      clear hK K' hH
      try simp only [Act.put, List.setIfInBounds_toArray, List.set_cons_zero, List.set_cons_succ]
      refine wpAnyH_take (i := 3) (oi := ?o17) (v := ?v17) ?i17 (by kernel_rfl) (by kernel_rfl) (by kernel_rfl) ?q17 (Or.inl ⟨?w17, ?y17⟩) (by assumption) ?r17
      case' i17 => simp only [List.getElem?_toArray, List.getElem?_cons_succ, List.getElem?_cons_zero]
      case i17 => rfl
      case q17 => exact fun _ _ _ h => h
      case w17 => rfl
      case y17 => (intro w hSw; (try dsimp only at hSw); go_simp) <;> with_reducible rfl
      try simp only [Act.put, List.setIfInBounds_toArray, List.set_cons_zero, List.set_cons_succ]
      refine wpAnyH_take (i := 4) (oi := ?o18) (v := ?v18) ?i18 (by kernel_rfl) (by kernel_rfl) (by kernel_rfl) ?q18 (Or.inl ⟨?w18, ?y18⟩) (by assumption) ?r18
      case' i18 => simp only [List.getElem?_toArray, List.getElem?_cons_succ, List.getElem?_cons_zero]
      case i18 => rfl
      case q18 => exact fun _ _ _ h => h
      case w18 => rfl
      case y18 => (intro w hSw; (try dsimp only at hSw); go_simp) <;> with_reducible rfl
      try simp only [Act.put, List.setIfInBounds_toArray, List.set_cons_zero, List.set_cons_succ]
      refine wpAnyH_take (i := 5) (oi := ?o19) (v := ?v19) ?i19 (by kernel_rfl) (by kernel_rfl) (by kernel_rfl) ?q19 (Or.inl ⟨?w19, ?y19⟩) (by assumption) ?r19
      case' i19 => simp only [List.getElem?_toArray, List.getElem?_cons_succ, List.getElem?_cons_zero]
      case i19 => rfl
      case q19 => exact fun _ _ _ h => h
      case w19 => rfl
      case y19 => (intro w hSw; (try dsimp only at hSw); go_simp) <;> with_reducible rfl
      try simp only [Act.put, List.setIfInBounds_toArray, List.set_cons_zero, List.set_cons_succ]
      refine wpAnyH_take (i := 7) (oi := ?o20) (v := ?v20) ?i20 (by kernel_rfl) (by kernel_rfl) (by kernel_rfl) ?q20 (Or.inl ⟨?w20, ?y20⟩) (by assumption) ?r20
      case' i20 => simp only [List.getElem?_toArray, List.getElem?_cons_succ, List.getElem?_cons_zero]
      case i20 => rfl
      case q20 => exact fun _ _ _ h => h
      case w20 => rfl
      case y20 => (intro w hSw; (try dsimp only at hSw); go_simp) <;> with_reducible rfl
      try simp only [Act.put, List.setIfInBounds_toArray, List.set_cons_zero, List.set_cons_succ]
      refine wpAnyH_take (i := 8) (oi := ?o21) (v := ?v21) ?i21 (by kernel_rfl) (by kernel_rfl) (by kernel_rfl) ?q21 (Or.inl ⟨?w21, ?y21⟩) (by assumption) ?r21
      case' i21 => simp only [List.getElem?_toArray, List.getElem?_cons_succ, List.getElem?_cons_zero]
      case i21 => rfl
      case q21 => exact fun _ _ _ h => h
      case w21 => rfl
      case y21 => (intro w hSw; (try dsimp only at hSw); go_simp) <;> with_reducible rfl
      try simp only [Act.put, List.setIfInBounds_toArray, List.set_cons_zero, List.set_cons_succ]
      refine wpAnyH_take (i := 9) (oi := ?o22) (v := ?v22) ?i22 (by kernel_rfl) (by kernel_rfl) (by kernel_rfl) ?q22 (Or.inl ⟨?w22, ?y22⟩) (by assumption) ?r22
      case' i22 => simp only [List.getElem?_toArray, List.getElem?_cons_succ, List.getElem?_cons_zero]
      case i22 => rfl
      case q22 => exact fun _ _ _ h => h
      case w22 => rfl
      case y22 => (intro w hSw; (try dsimp only at hSw); go_simp) <;> with_reducible rfl
      try simp only [Act.put, List.setIfInBounds_toArray, List.set_cons_zero, List.set_cons_succ]
      refine wpAnyH_take (i := 10) (oi := ?o23) (v := ?v23) ?i23 (by kernel_rfl) (by kernel_rfl) (by kernel_rfl) ?q23 (Or.inl ⟨?w23, ?y23⟩) (by assumption) ?r23
      case' i23 => simp only [List.getElem?_toArray, List.getElem?_cons_succ, List.getElem?_cons_zero]
      case i23 => rfl
      case q23 => exact fun _ _ _ h => h
      case w23 => rfl
      case y23 => (intro w hSw; (try dsimp only at hSw); go_simp) <;> with_reducible rfl
      try simp only [Act.put, List.setIfInBounds_toArray, List.set_cons_zero, List.set_cons_succ]
      refine wpAnyH_ready (rs := [6]) (by kernel_rfl) (by simp) ?_
      refine AllReadyH.cons (o := ?o24) ?i24 (fun K' hK => ?_) AllReadyH.nil
      case' i24 => simp only [List.getElem?_toArray, List.getElem?_cons_succ, List.getElem?_cons_zero]
      case i24 => rfl
      go_simp
      go_at_call 23
      refine (qat_len HA2.out.que).mono ?_
      rintro e w3 ⟨rfl, hb3⟩
      rw [HN.out]
      have HB3 := Lib.hid (HB2.out.trans (hb3.mono HB2.out.size))
      have HA3 := Lib.hid (HA2.out.below hb3)
      have hH : w3.cell? ⟨p, 0, none⟩ = some (.int .i64 mm) := HA3.out.cells.1
      clear hb3 hHeld
      go_wp2_with fail
      refine hK.out _ _ hH (fun hHeld => ?_)
      clear hK K' hH
      try simp only [Act.put, List.setIfInBounds_toArray, List.set_cons_zero, List.set_cons_succ]
      refine wpAnyH_take (i := 11) (oi := ?o25) (v := ?v25) ?i25 (by kernel_rfl) (by kernel_rfl) (by kernel_rfl) ?q25 (Or.inl ⟨?w25, ?y25⟩) (by assumption) ?r25
      case' i25 => simp only [List.getElem?_toArray, List.getElem?_cons_succ, List.getElem?_cons_zero]
      case i25 => rfl
      case q25 => exact fun _ _ _ h => h
      case w25 => rfl
      case y25 => (intro w hSw; (try dsimp only at hSw); go_simp) <;> with_reducible rfl
      try simp only [Act.put, List.setIfInBounds_toArray, List.set_cons_zero, List.set_cons_succ]
      refine wpAnyH_take (i := 12) (oi := ?o26) (v := ?v26) ?i26 (by kernel_rfl) (by kernel_rfl) (by kernel_rfl) ?q26 (Or.inl ⟨?w26, ?y26⟩) (by assumption) ?r26
      case' i26 => simp only [List.getElem?_toArray, List.getElem?_cons_succ, List.getElem?_cons_zero]
      case i26 => rfl
      case q26 => exact fun _ _ _ h => h
      case w26 => rfl
      case y26 => (intro w hSw; (try dsimp only at hSw); go_simp) <;> with_reducible rfl
      try simp only [Act.put, List.setIfInBounds_toArray, List.set_cons_zero, List.set_cons_succ]
      refine wpAnyH_done (by kernel_rfl) ?_ _
      go_wp2_with fail
      go_ret
      refine ⟨F, ?_, ?_, fun k hk => .inl hk, Chg.of_below HB3.out⟩
      · rw [HD.out]; rfl
      · rw [HD.out]; exact HL.out.keep (Chg.of_below (S := fun _ => False) HB3.out) (fun _ _ e => e)
    · have HROOM : Hid ((L.length : Int) + 1 ≤ max 0 most) := Lib.hid (by omega)
      have HD : Hid (putD most id at_ L = (insD ⟨id, at_⟩ (dropD id L), 0)) := Lib.hid (put_fits (.inr (by omega)))
      have t0 : ((n : Int) == mm) = false := by simpa using hf
      clear h1 h2 h3 h4 hF hle hL hid hat hb hmm hn hf
      go_enter Try.func10, Try.ntmps10
      go_wp2_with fail
      refine (a_queue HA.out).mono ?_
      rintro e w1 ⟨rfl, hb1⟩
      have HB1 := Lib.hid hb1
      have HA1 := Lib.hid (HA.out.below hb1)
      have HP0 := Lib.hid (HA.out.below hb1).cells.1
      clear hb1
      go_wp2_with fail
      refine wp_region_held_drew (S := fun u => u.cell? ⟨p, 0, none⟩ = some (.int .i64 mm)) (by kernel_rfl) (show w1.drew.cell? _ = _ from HP0.out) (fun hHeld => ?_)
      clear HP0
      refine wpAnyH_take (i := 0) (oi := ?o27) (v := ?v27) ?i27 (by kernel_rfl) (by kernel_rfl) (by kernel_rfl) ?q27 (Or.inl ⟨?w27, ?y27⟩) (by assumption) ?r27
      case' i27 => simp only [List.getElem?_toArray, List.getElem?_cons_succ, List.getElem?_cons_zero]
      case i27 => rfl
      case q27 => exact fun _ _ _ h => h
      case w27 => rfl
      case y27 => (intro w hSw; (try dsimp only at hSw); go_simp) <;> with_reducible rfl
      try simp only [Act.put, List.setIfInBounds_toArray, List.set_cons_zero, List.set_cons_succ]
      refine wpAnyH_take (i := 1) (oi := ?o28) (v := ?v28) ?i28 (by kernel_rfl) (by kernel_rfl) (by kernel_rfl) ?q28 (Or.inl ⟨?w28, ?y28⟩) (by assumption) ?r28
      case' i28 => simp only [List.getElem?_toArray, List.getElem?_cons_succ, List.getElem?_cons_zero]
      case i28 => rfl
      case q28 => exact fun _ _ _ h => h
      case w28 => rfl
      case y28 => (intro w hSw; (try dsimp only at hSw); go_simp) <;> with_reducible rfl
      try simp only [Act.put, List.setIfInBounds_toArray, List.set_cons_zero, List.set_cons_succ]
      refine wpAnyH_ready (rs := [2]) (by kernel_rfl) (by simp) ?_
      refine AllReadyH.cons (o := ?o29) ?i29 (fun K' hK => ?_) AllReadyH.nil
      case' i29 => simp only [List.getElem?_toArray, List.getElem?_cons_succ, List.getElem?_cons_zero]
      case i29 => rfl
      go_simp
      go_at_call 22
      refine (q_has (show QAt w1.drew q m v H from ⟨HA1.out.que.blk, HA1.out.que.row, HA1.out.que.map, HA1.out.que.once⟩) id).mono ?_
      rintro e w2 ⟨rfl, hb2⟩
      rw [HB.out]
      have hb12 : Below w1.heap.size w1 w2 := ⟨hb2.os, hb2.tape, hb2.output, hb2.size, hb2.block⟩
      have HB2 := Lib.hid (HB1.out.trans (hb12.mono HB1.out.size))
      have HA2 := Lib.hid (HA1.out.below hb12)
      have hH : w2.cell? ⟨p, 0, none⟩ = some (.int .i64 mm) := HA2.out.cells.1
      clear hb2 hb12 hHeld
      go_wp2_with fail
      refine hK.out _ _ hH (fun hHeld => ?_)
      clear hK K' hH
      try simp only [Act.put, List.setIfInBounds_toArray, List.set_cons_zero, List.set_cons_succ]
      refine wpAnyH_take (i := 3) (oi := ?o30) (v := ?v30) ?i30 (by kernel_rfl) (by kernel_rfl) (by kernel_rfl) ?q30 (Or.inl ⟨?w30, ?y30⟩) (by assumption) ?r30
      case' i30 => simp only [List.getElem?_toArray, List.getElem?_cons_succ, List.getElem?_cons_zero]
      case i30 => rfl
      case q30 => exact fun _ _ _ h => h
      case w30 => rfl
      case y30 => (intro w hSw; (try dsimp only at hSw); go_simp) <;> with_reducible rfl
      try simp only [Act.put, List.setIfInBounds_toArray, List.set_cons_zero, List.set_cons_succ]
      refine wpAnyH_take (i := 4) (oi := ?o31) (v := ?v31) ?i31 (by kernel_rfl) (by kernel_rfl) (by kernel_rfl) ?q31 (Or.inl ⟨?w31, ?y31⟩) (by assumption) ?r31
      case' i31 => simp only [List.getElem?_toArray, List.getElem?_cons_succ, List.getElem?_cons_zero]
      case i31 => rfl
      case q31 => exact fun _ _ _ h => h
      case w31 => rfl
      case y31 => (intro w hSw; (try dsimp only at hSw); go_simp) <;> with_reducible rfl
      try simp only [Act.put, List.setIfInBounds_toArray, List.set_cons_zero, List.set_cons_succ]
      refine wpAnyH_take (i := 5) (oi := ?o32) (v := ?v32) ?i32 (by kernel_rfl) (by kernel_rfl) (by kernel_rfl) ?q32 (Or.inl ⟨?w32, ?y32⟩) (by assumption) ?r32
      case' i32 => simp only [List.getElem?_toArray, List.getElem?_cons_succ, List.getElem?_cons_zero]
      case i32 => rfl
      case q32 => exact fun _ _ _ h => h
      case w32 => rfl
      case y32 => (intro w hSw; (try dsimp only at hSw); go_simp) <;> with_reducible rfl
      try simp only [Act.put, List.setIfInBounds_toArray, List.set_cons_zero, List.set_cons_succ]
      refine wpAnyH_take (i := 7) (oi := ?o33) (v := ?v33) ?i33 (by kernel_rfl) (by kernel_rfl) (by kernel_rfl) ?q33 (Or.inl ⟨?w33, ?y33⟩) (by assumption) ?r33
      case' i33 => simp only [List.getElem?_toArray, List.getElem?_cons_succ, List.getElem?_cons_zero]
      case i33 => rfl
      case q33 => exact fun _ _ _ h => h
      case w33 => rfl
      case y33 => (intro w hSw; (try dsimp only at hSw); go_simp) <;> with_reducible rfl
      try simp only [Act.put, List.setIfInBounds_toArray, List.set_cons_zero, List.set_cons_succ]
      refine wpAnyH_take (i := 8) (oi := ?o34) (v := ?v34) ?i34 (by kernel_rfl) (by kernel_rfl) (by kernel_rfl) ?q34 (Or.inl ⟨?w34, ?y34⟩) (by assumption) ?r34
      case' i34 => simp only [List.getElem?_toArray, List.getElem?_cons_succ, List.getElem?_cons_zero]
      case i34 => rfl
      case q34 => exact fun _ _ _ h => h
      case w34 => rfl
      case y34 => (intro w hSw; (try dsimp only at hSw); go_simp) <;> with_reducible rfl
      try simp only [Act.put, List.setIfInBounds_toArray, List.set_cons_zero, List.set_cons_succ]
      refine wpAnyH_take (i := 9) (oi := ?o35) (v := ?v35) ?i35 (by kernel_rfl) (by kernel_rfl) (by kernel_rfl) ?q35 (Or.inl ⟨?w35, ?y35⟩) (by assumption) ?r35
      case' i35 => simp only [List.getElem?_toArray, List.getElem?_cons_succ, List.getElem?_cons_zero]
      case i35 => rfl
      case q35 => exact fun _ _ _ h => h
      case w35 => rfl
      case y35 => (intro w hSw; (try dsimp only at hSw); go_simp) <;> with_reducible rfl
      try simp only [Act.put, List.setIfInBounds_toArray, List.set_cons_zero, List.set_cons_succ]
      refine wpAnyH_take (i := 10) (oi := ?o36) (v := ?v36) ?i36 (by kernel_rfl) (by kernel_rfl) (by kernel_rfl) ?q36 (Or.inl ⟨?w36, ?y36⟩) (by assumption) ?r36
      case' i36 => simp only [List.getElem?_toArray, List.getElem?_cons_succ, List.getElem?_cons_zero]
      case i36 => rfl
      case q36 => exact fun _ _ _ h => h
      case w36 => rfl
      case y36 => (intro w hSw; (try dsimp only at hSw); go_simp) <;> with_reducible rfl
      try simp only [Act.put, List.setIfInBounds_toArray, List.set_cons_zero, List.set_cons_succ]
      refine wpAnyH_ready (rs := [6]) (by kernel_rfl) (by simp) ?_
      refine AllReadyH.cons (o := ?o37) ?i37 (fun K' hK => ?_) AllReadyH.nil
      case' i37 => simp only [List.getElem?_toArray, List.getElem?_cons_succ, List.getElem?_cons_zero]
      case i37 => rfl
      go_simp
      go_at_call 23
      refine (qat_len HA2.out.que).mono ?_
      rintro e w3 ⟨rfl, hb3⟩
      rw [HN.out]
      have HB3 := Lib.hid (HB2.out.trans (hb3.mono HB2.out.size))
      have HA3 := Lib.hid (HA2.out.below hb3)
      have hH : w3.cell? ⟨p, 0, none⟩ = some (.int .i64 mm) := HA3.out.cells.1
      clear hb3 hHeld
      go_wp2_with fail
      refine hK.out _ _ hH (fun hHeld => ?_)
      clear hK K' hH
      try simp only [Act.put, List.setIfInBounds_toArray, List.set_cons_zero, List.set_cons_succ]
      refine wpAnyH_take (i := 11) (oi := ?o38) (v := ?v38) ?i38 (by kernel_rfl) (by kernel_rfl) (by kernel_rfl) ?q38 (Or.inl ⟨?w38, ?y38⟩) (by assumption) ?r38
      case' i38 => simp only [List.getElem?_toArray, List.getElem?_cons_succ, List.getElem?_cons_zero]
      case i38 => rfl
      case q38 => exact fun _ _ _ h => h
      case w38 => rfl
      case y38 => (intro w hSw; (try dsimp only at hSw); go_simp) <;> with_reducible rfl
      try simp only [Act.put, List.setIfInBounds_toArray, List.set_cons_zero, List.set_cons_succ]
      refine wpAnyH_take (i := 12) (oi := ?o39) (v := ?v39) ?i39 (by kernel_rfl) (by kernel_rfl) (by kernel_rfl) ?q39 (Or.inl ⟨?w39, ?y39⟩) (by assumption) ?r39
      case' i39 => simp only [List.getElem?_toArray, List.getElem?_cons_succ, List.getElem?_cons_zero]
      case i39 => rfl
      case q39 => exact fun _ _ _ h => h
      case w39 => rfl
      case y39 => (intro w hSw; (try dsimp only at hSw); go_simp) <;> with_reducible rfl
      try simp only [Act.put, List.setIfInBounds_toArray, List.set_cons_zero, List.set_cons_succ]
      refine wpAnyH_done (by kernel_rfl) ?_ _
      go_wp2_with fail
      refine (a_take (fun H' => H'.Perm (⟨id, at_⟩ :: H)) id at_ false HA3.out (fun W hW => take_new id at_ hW HA.out.heap HLE.out HB.out)).mono ?_
      rintro e w4 ⟨rfl, c', v', H', r1, r2, r3, r4, r5⟩
      have HR := Lib.hid (And.intro r1 (And.intro r2 (And.intro r3 (And.intro r4 r5))))
      clear r1 r2 r3 r4 r5
      go_wp2_with fail
      go_ret
      obtain ⟨r1, r2, r3, r4, r5⟩ := HR.out
      obtain ⟨h2, h3, h4, hF⟩ := HX.out
      rw [← HMM.out] at r1
      obtain ⟨F', f1, f2, f3⟩ := Als.took hF HB3.out r1 r3 r4 r5 (new_perm h2 (by rw [← has_perm h2]; exact HB.out) r2) (h3.put HU.out.1 HU.out.2) (by rw [put_len, if_neg (by rw [← has_perm h2, HB.out]; simp)]; have := HROOM.out; push_cast; omega)
      exact ⟨F', by rw [HD.out]; rfl, by rw [HD.out]; exact f1, f2, f3⟩
end
end Go.Proofs.Ytcnfchjiiglijaa
