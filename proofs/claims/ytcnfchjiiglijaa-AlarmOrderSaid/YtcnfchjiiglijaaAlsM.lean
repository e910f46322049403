/- The program's set of alarms in memory: its box, the moment that it is at, the queue; New, Len, First. -/
import Derived.Test.YtcnfchjiiglijaaQueT
namespace Go.Proofs.Ytcnfchjiiglijaa
open Go.RowKit
set_option linter.unusedVariables false
set_option linter.unusedSimpArgs false
set_option maxRecDepth 20000
/-- A number of 64 bits. -/
def U64 (x : Int) : Prop := 0 ≤ x ∧ x ≤ 18446744073709551615
/-- Rising in time, of one time in number; and no number twice. -/
def Rise (L : List On) : Prop := L.Pairwise (fun a b => ltO a b = true) ∧ (L.map On.id).Nodup ∧ ∀ o, o ∈ L → U64 o.id ∧ U64 o.at_
def nowCl (q : Nat) : Array Value := #[.pointer (some ⟨q, 0, none⟩), .pointer none, .int .u64 0, .int .u64 0, .bool false]
/-- The set's box at p, its moment at c, its queue at q, with a map at m, a row v, in which H lies as a heap; room for mm. -/
structure Alq (w : World) (p c q m : Nat) (v : Value) (H : List On) (mm : Int) : Prop where
  box : w.heap[p]? = some (.cells #[.int .i64 mm, .pointer (some ⟨c, 0, none⟩)] 65 (0, 0))
  now : w.heap[c]? = some (.cells (nowCl q) 63 (0, 0))
  que : QAt w q m v H
  heap : HeapOn H.length H
def Fq (p c q m : Nat) (v : Value) (k : Nat) : Prop := k = p ∨ k = c ∨ k = q ∨ k = m ∨ some k = v.ownBlock
/-- The program's set of alarms behind the pointer to block p: F, the blocks that are its own; what it holds, rising; how many at most. -/
def Als (F : Nat → Prop) (w : World) (p : Nat) (L : List On) (most : Int) : Prop :=
  ∃ c q m v H, Alq w p c q m v H (max 0 most) ∧ H.Perm L ∧ Rise L ∧ (L.length : Int) ≤ max 0 most ∧ ∀ k, F k ↔ Fq p c q m v k
section
variable {F S : Nat → Prop} {w w' : World} {p c q m : Nat} {v : Value} {H L : List On} {most mm : Int}
theorem Alq.kinds (h : Alq w p c q m v H mm) (k : Nat) (hk : Fq p c q m v k) : (∃ es cl, w.heap[k]? = some (.map es cl)) ∨ ∃ cs t, w.heap[k]? = some (.cells cs t (0, 0)) ∧ (t = 65 ∨ t = 63 ∨ t = 57 ∨ t = 59) := by
  rcases hk with rfl | rfl | rfl | rfl | e
  · exact .inr ⟨_, _, h.box, .inl rfl⟩
  · exact .inr ⟨_, _, h.now, .inr (.inl rfl)⟩
  · exact .inr ⟨_, _, h.que.blk, .inr (.inr (.inl rfl))⟩
  · obtain ⟨es, cl, r, _⟩ := h.que.map
    exact .inl ⟨es, cl, r⟩
  · obtain ⟨_, _, cs, r⟩ := h.que.apart.2 k e.symm
    exact .inr ⟨cs, _, r, .inr (.inr (.inr rfl))⟩
theorem Alq.lt (h : Alq w p c q m v H mm) (k : Nat) (hk : Fq p c q m v k) : k < w.heap.size := by
  rcases h.kinds k hk with ⟨es, cl, r⟩ | ⟨cs, t, r, _⟩
  · exact blk_lt r
  · exact blk_lt r
theorem Alq.apart (h : Alq w p c q m v H mm) : p ≠ c ∧ p ≠ q ∧ p ≠ m ∧ c ≠ q ∧ c ≠ m ∧ (∀ k, v.ownBlock = some k → k ≠ p ∧ k ≠ c) := by
  have h1 := h.box
  have h2 := h.now
  have h3 := h.que.blk
  obtain ⟨es, cl, h4, _⟩ := h.que.map
  refine ⟨fun e => ?_, fun e => ?_, fun e => ?_, fun e => ?_, fun e => ?_, fun k hk => ?_⟩
  · subst e; rw [h1] at h2; injection h2 with h2; injection h2 with _ h2; cases h2
  · subst e; rw [h1] at h3; injection h3 with h3; injection h3 with _ h3; cases h3
  · subst e; rw [h1] at h4; cases h4
  · subst e; rw [h2] at h3; injection h3 with h3; injection h3 with _ h3; cases h3
  · subst e; rw [h2] at h4; cases h4
  · obtain ⟨_, _, cs, r⟩ := h.que.apart.2 k hk
    refine ⟨fun e => ?_, fun e => ?_⟩
    · subst e; rw [h1] at r; injection r with r; injection r with _ r; cases r
    · subst e; rw [h2] at r; injection r with r; injection r with _ r; cases r
theorem Alq.chg (h : Alq w p c q m v H mm) (hc : Chg S w w') (hn : ∀ k, Fq p c q m v k → ¬ S k) : Alq w' p c q m v H mm :=
  ⟨hc.blk h.box (hn p (.inl rfl)), hc.blk h.now (hn c (.inr (.inl rfl))), h.que.chg hc (hn q (.inr (.inr (.inl rfl)))) (hn m (.inr (.inr (.inr (.inl rfl))))) (fun k hk => hn k (.inr (.inr (.inr (.inr hk.symm))))), h.heap⟩
theorem Alq.below (h : Alq w p c q m v H mm) (hb : Below w.heap.size w w') : Alq w' p c q m v H mm := h.chg (Chg.of_below (S := fun _ => False) hb) (fun _ _ e => e)
theorem Als.lt (h : Als F w p L most) (k : Nat) (hk : F k) : k < w.heap.size := by
  obtain ⟨c, q, m, v, H, h1, _, _, _, hF⟩ := h
  exact h1.lt k ((hF k).1 hk)
theorem Als.alien (h : Als F w p L most) (k : Nat) (hk : F k) (cs : Array Value) (fr : Nat × Nat) : w.heap[k]? ≠ some (.cells cs 28 fr) ∧ w.heap[k]? ≠ some (.cells cs 70 fr) := by
  obtain ⟨c, q, m, v, H, h1, _, _, _, hF⟩ := h
  rcases h1.kinds k ((hF k).1 hk) with ⟨es, cl, r⟩ | ⟨cs2, t, r, ht⟩
  · rw [r]; exact ⟨fun e => (by cases e), fun e => (by cases e)⟩
  · rw [r]
    refine ⟨fun e => ?_, fun e => ?_⟩
    · injection e with e; injection e with _ e; rw [e] at ht; rcases ht with q | q | q | q <;> cases q
    · injection e with e; injection e with _ e; rw [e] at ht; rcases ht with q | q | q | q <;> cases q
theorem Als.rise (h : Als F w p L most) : Rise L := by
  obtain ⟨c, q, m, v, H, _, _, h3, _⟩ := h
  exact h3
theorem Als.keep (h : Als F w p L most) (hc : Chg S w w') (hn : ∀ k, F k → ¬ S k) : Als F w' p L most := by
  obtain ⟨c, q, m, v, H, h1, h2, h3, h4, hF⟩ := h
  exact ⟨c, q, m, v, H, h1.chg hc (fun k hk => hn k ((hF k).2 hk)), h2, h3, h4, hF⟩
theorem Alq.cells (h : Alq w p c q m v H mm) : w.cell? ⟨p, 0, none⟩ = some (.int .i64 mm) ∧ w.cell? ⟨p, 1, none⟩ = some (.pointer (some ⟨c, 0, none⟩)) ∧ w.cell? ⟨c, 0, none⟩ = some (.pointer (some ⟨q, 0, none⟩)) :=
  ⟨by rw [cell_atA 0 h.box]; rfl, by rw [cell_atA 1 h.box]; rfl, by rw [cell_atA 0 h.now]; rfl⟩
set_option maxHeartbeats 2000000 in
theorem a_queue (h : Alq w p c q m v H mm) : Calls Try.prog 21 #[.pointer (some ⟨p, 0, none⟩)] w fun e w' => e = .returned (.pointer (some ⟨q, 0, none⟩)) ∧ Below w.heap.size w w' := by
  obtain ⟨_, c0, c1⟩ := h.cells
  clear h
  go_enter Try.func21, Try.ntmps21
  go_wp2_with fail
  go_ret
  exact ⟨rfl, Below.refl _ _⟩
set_option maxHeartbeats 2000000 in
theorem qat_len (h : QAt w q m v H) : Calls Try.prog 23 #[.pointer (some ⟨q, 0, none⟩)] w fun e w' => e = .returned (.int .i64 H.length) ∧ Below w.heap.size w w' := by
  obtain ⟨a, cap, _, c0, _, _, hr⟩ := h.cells
  have hlen := hr.len
  clear h hr
  go_enter Try.func23, Try.ntmps23
  go_wp2_with fail
  go_ret
  exact ⟨rfl, Below.refl _ _⟩
set_option maxHeartbeats 2000000 in
theorem len_k (F : Nat → Prop) (p : Nat) (most : Int) (L : List On) (w : World) (h : Als F w p L most) (hL : L.length ≤ 1000) :
    Calls Try.prog 19 #[.pointer (some ⟨p, 0, none⟩)] w fun e w' => e = .returned (.int .i64 L.length) ∧ Below w.heap.size w w' := by
  obtain ⟨c, q, m, v, H, h1, h2, _⟩ := h
  have HA := Lib.hid h1
  rw [← h2.length_eq]
  clear h1 h2 hL
  go_enter Try.func19, Try.ntmps19
  go_wp2_with fail
  refine (a_queue HA.out).mono ?_
  rintro e w1 ⟨rfl, hb1⟩
  have HB1 := Lib.hid hb1
  clear hb1
  go_wp2_with fail
  refine (qat_len (HA.out.below HB1.out).que).mono ?_
  rintro e w2 ⟨rfl, hb2⟩
  have HB2 := Lib.hid hb2
  clear hb2
  go_wp2_with fail
  go_ret
  exact ⟨rfl, HB1.out.trans (HB2.out.mono HB1.out.size)⟩
/-- A heap's root is the rising row's first. -/
theorem first_is (hp : H.Perm L) (hh : HeapOn H.length H) (hr : Rise L) (h0 : 0 < L.length) : gt H 0 = gt L 0 := head_is hh hp hr.1 h0
set_option maxHeartbeats 2000000 in
theorem first_k (F : Nat → Prop) (p : Nat) (most : Int) (L : List On) (w : World) (h : Als F w p L most) (hL : L.length ≤ 1000) :
    Calls Try.prog 17 #[.pointer (some ⟨p, 0, none⟩)] w fun e w' => e = .returned (.tuple #[.int .u64 (firstD L).1, .bool (firstD L).2]) ∧ Below w.heap.size w w' := by
  obtain ⟨c, q, m, v, H, h1, h2, h3, _⟩ := h
  have HA := Lib.hid h1
  have hlen := h2.length_eq
  cases L with
  | nil =>
    obtain rfl : H = [] := List.eq_nil_of_length_eq_zero hlen
    clear h1 h2 h3 hlen hL
    go_enter Try.func17, Try.ntmps17
    go_wp2_with fail
    refine (a_queue HA.out).mono ?_
    rintro e w1 ⟨rfl, hb1⟩
    have HB1 := Lib.hid hb1
    clear hb1
    go_wp2_with fail
    refine (qat_len (HA.out.below HB1.out).que).mono ?_
    rintro e w2 ⟨rfl, hb2⟩
    have HB2 := Lib.hid hb2
    clear hb2
    go_wp2_with fail
    go_ret2
    exact ⟨rfl, HB1.out.trans (HB2.out.mono HB1.out.size)⟩
  | cons o r =>
    have hg := first_is h2 h1.heap h3 (by simp)
    have hg0 : gt (o :: r) 0 = o := rfl
    rw [hg0] at hg
    obtain ⟨g, cap, hv, hn1, hn2, hr⟩ := h1.que.row.pos (by rw [hlen]; simp)
    obtain ⟨x0, x1, _, _⟩ := hr 0 (by rw [hlen]; simp)
    rw [hg] at x1
    simp at x1
    have c0 := cell_atA 0 h1.que.blk
    simp at c0
    rw [hv] at c0
    obtain ⟨n, hn⟩ : ∃ n, H.length = n := ⟨_, rfl⟩
    rw [hn] at c0 hn1
    have hn0 : (0 : Int) < (n : Int) := by rw [← hn, hlen]; simp
    have hn4 : ((n : Int) == 0) = false := by simp; omega
    have hn3 : n ≤ 9223372036854775807 := by unfold maxLen at hn2; omega
    have HN := Lib.hid hn
    have HF : Hid ((firstD (o :: r)) = (o.at_, true)) := Lib.hid rfl
    rw [HF.out]
    clear h1 h2 h3 hlen hL hg hg0 hr x0 hv hn hn1 hn2
    obtain ⟨oa, hoa⟩ : ∃ x, o.at_ = x := ⟨_, rfl⟩
    rw [hoa] at x1 ⊢
    go_enter Try.func17, Try.ntmps17
    go_wp2_with fail
    refine (a_queue HA.out).mono ?_
    rintro e w1 ⟨rfl, hb1⟩
    have HB1 := Lib.hid hb1
    have d0 := (hb1.cell (block_lt_of_cell c0)).trans c0
    have d1 := (hb1.cell (block_lt_of_cell x1)).trans x1
    clear hb1 c0 x1
    go_wp2_with fail
    refine (qat_len (HA.out.below HB1.out).que).mono ?_
    rintro e w2 ⟨rfl, hb2⟩
    rw [HN.out]
    have HB2 := Lib.hid hb2
    have e0 := (hb2.cell (block_lt_of_cell d0)).trans d0
    have e1 := (hb2.cell (block_lt_of_cell d1)).trans d1
    clear hb2 d0 d1
    go_wp2_with fail
    go_ret2
    exact ⟨rfl, HB1.out.trans (HB2.out.mono HB1.out.size)⟩
set_option maxHeartbeats 2000000 in
theorem new_k (most : Int) (w : World) : Calls Try.prog 9 #[.int .i64 most] w fun e w' => ∃ p F, e = .returned (.pointer (some ⟨p, 0, none⟩)) ∧ Als F w' p [] most ∧ (∀ k, F k → w.heap.size ≤ k) ∧ Below w.heap.size w w' := by
  obtain ⟨mm, hmm⟩ : ∃ mm, max 0 most = mm := ⟨_, rfl⟩
  have hm1 : (if most < 0 then 0 else most) = mm := by split <;> omega
  have hm2 : (if 0 < most then most else 0) = mm := by split <;> omega
  have hm3 : max most 0 = mm := by omega
  have HM := Lib.hid hmm
  clear hmm
  have hmk : (Instr.makeMap 54 none).run Try.prog w = .ok (.map (some w.heap.size)) (w.alloc (.map #[] 0)) := run_makeMap _ _
  go_enter Try.func9, Try.ntmps9
  go_wp2_with fail
  go_ret
  refine ⟨w.heap.size + 1 + 1 + 1, Fq (w.heap.size + 1 + 1 + 1) (w.heap.size + 1 + 1) (w.heap.size + 1) w.heap.size (.slice Option.none 0 0), rfl, ?_⟩
  obtain ⟨w1, h1⟩ : ∃ u, u = w.alloc (.map #[] 0) := ⟨_, rfl⟩
  have s1 : w1.heap.size = w.heap.size + 1 := by rw [h1, World.size_alloc]
  have b1 : Below w.heap.size w w1 := by rw [h1]; exact below_alloc _ _
  have m1 : MapP w1 w.heap.size (fun _ _ => False) := by rw [h1]; exact MapP.made w
  rw [← h1]
  clear h1
  obtain ⟨w2, h2⟩ : ∃ u, u = w1.alloc (.cells #[.slice Option.none 0 0, .map (some w.heap.size)] 57) := ⟨_, rfl⟩
  have s2 : w2.heap.size = w.heap.size + 1 + 1 := by rw [h2, World.size_alloc, s1]
  have b2 : Below w1.heap.size w1 w2 := by rw [h2]; exact below_alloc _ _
  have n2 : w2.heap[w.heap.size + 1]? = some (.cells #[.slice Option.none 0 0, .map (some w.heap.size)] 57 (0, 0)) := by rw [h2, ← s1]; exact heap_alloc_new _ _
  rw [← h2]
  clear h2
  obtain ⟨w3, h3⟩ : ∃ u, u = w2.alloc (.cells (nowCl (w.heap.size + 1)) 63) := ⟨_, rfl⟩
  have s3 : w3.heap.size = w.heap.size + 1 + 1 + 1 := by rw [h3, World.size_alloc, s2]
  have b3 : Below w2.heap.size w2 w3 := by rw [h3]; exact below_alloc _ _
  have n3 : w3.heap[w.heap.size + 1 + 1]? = some (.cells (nowCl (w.heap.size + 1)) 63 (0, 0)) := by rw [h3, ← s2]; exact heap_alloc_new _ _
  have e3 : w2.alloc (.cells #[.pointer (some ⟨w.heap.size + 1, 0, none⟩), .pointer none, .int .u64 0, .int .u64 0, .bool false] 63) = w3 := h3.symm
  rw [e3]
  clear h3 e3
  obtain ⟨w4, h4⟩ : ∃ u, u = w3.alloc (.cells #[.int .i64 mm, .pointer (some ⟨w.heap.size + 1 + 1, 0, none⟩)] 65) := ⟨_, rfl⟩
  have b4 : Below w3.heap.size w3 w4 := by rw [h4]; exact below_alloc _ _
  have n4 : w4.heap[w.heap.size + 1 + 1 + 1]? = some (.cells #[.int .i64 mm, .pointer (some ⟨w.heap.size + 1 + 1, 0, none⟩)] 65 (0, 0)) := by rw [h4, ← s3]; exact heap_alloc_new _ _
  rw [← h4]
  clear h4
  have k2 := (b4.block _ (by omega)).trans ((b3.block _ (by omega)).trans n2)
  have k3 := (b4.block _ (by omega)).trans n3
  refine ⟨⟨_, _, _, _, [], ⟨by rw [HM.out]; exact n4, k3, ⟨k2, OwnO.nil _ _ _, ((((m1.below b2).below b3).below b4)).congr places_nil, List.nodup_nil⟩, fun j _ h => absurd h (by simp)⟩, List.Perm.refl _, ⟨List.Pairwise.nil, List.nodup_nil, fun o ho => by cases ho⟩, by rw [HM.out]; simp; omega, fun k => Iff.rfl⟩, fun k hk => ?_, ?_⟩
  · rcases hk with q | q | q | q | q
    · omega
    · omega
    · omega
    · omega
    · cases q
  · exact ((b1.trans (b2.mono (by omega))).trans (b3.mono (by omega))).trans (b4.mono (by omega))
end
end Go.Proofs.Ytcnfchjiiglijaa
