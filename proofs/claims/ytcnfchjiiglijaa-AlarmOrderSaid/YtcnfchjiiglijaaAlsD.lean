/- The program's Due. -/
import Derived.Test.YtcnfchjiiglijaaAlsP
import Derived.Test.YtcnfchjiiglijaaAlarmU
namespace Go.Proofs.Ytcnfchjiiglijaa
open Go.RowKit
set_option linter.unusedVariables false
set_option linter.unusedSimpArgs false
set_option maxRecDepth 20000
/-- How many the queue behind p has. -/
def lenOf (w : World) (p : Nat) : Nat := match w.cell? ⟨p, 1, none⟩ with
  | some (.pointer (some a)) => (match w.cell? ⟨a.block, 0, none⟩ with
    | some (.pointer (some b)) => lenA (w.cell? ⟨b.block, 0, none⟩)
    | _ => 0)
  | _ => 0
/-- One number appended to a row of the call's own: what has turned. -/
theorem wpList_appG {ops : Array Oper} {rest : List Oper} {o : Oper} {a : Act} {Q : Exit → Act → World → Prop} (hgd : o.guard = none) (s xo : Operand) (t e : TypeId) (k : IntKind) (bytes : Nat)
    (ht : Try.prog.underlying t = some (.slice e)) (hinf : (Try.prog.info? e).map (fun i => (i.zero, i.size, i.bytes)) = some (some (.int k 0), 1, bytes)) (hby : bytes ≤ 8)
    (ho : o.op = .call { callee := .builtin .append, args := #[s, xo], argTypes := #[t, t] })
    (base : Nat) (v : Value) (M : List Int) (x : Int) (w : World) (hs : a.eval s = v) (hown : Own e k base v M w)
    (B c : Nat) (hx : a.eval xo = .slice (some ⟨B, 0, none⟩) 1 c) (hB : w.heap[B]? = some (.cells #[.int k x] e (0, 0))) (hM : M.length < 100000) (hbase : base ≤ w.heap.size)
    (h : ∀ v' w', Own e k base v' (M ++ [x]) w' → Chg (fun j => some j = v.ownBlock) w w' → wpList Try.prog ops Q rest (a.put o.dst v') w') : wpList Try.prog ops Q (o :: rest) a w := by
  obtain ⟨i0, hi0, hz0, hz1, hz2⟩ := info_parts hinf
  have hm : M.length + 1 ≤ maxLen := by unfold maxLen; omega
  have hmul : (M.length + 1) * bytes ≤ (M.length + 1) * 8 := Nat.mul_le_mul_left _ hby
  refine wpList_append_lies w hgd s xo t ho base e i0 (.int k 0) 1 bytes ht hi0 hz0 hz1 hz2 rfl (by decide) v M.length (valsR k M) hs hown ⟨B, 0, none⟩ 1 c [.int k x] hx rfl (World.news_of_block (cs := #[.int k x]) (t := e) (fr := (0, 0)) hB) (by simp [Value.oneCell']) (by omega) hm (Nat.le_trans hmul (by omega)) hbase w.heap.size rfl ?_
  intro g cap w' h1 h2 h3 h4
  exact h _ w' (Own.app rfl h1) (Chg.grown h2)
section
variable {F : Nat → Prop} {w w' : World} {p c q m : Nat} {v : Value} {H L : List On} {most mm : Int}
theorem Alq.len (h : Alq w p c q m v H mm) : lenOf w p = H.length := by
  obtain ⟨_, c1, c2⟩ := h.cells
  obtain ⟨a, cap, hv, c0, _⟩ := h.que.cells
  unfold lenOf
  rw [c1]
  simp only
  rw [c2]
  simp only
  rw [c0]
  rfl
theorem Als.len (h : Als F w p L most) : lenOf w p = L.length := by
  obtain ⟨c, q, m, v, H, h1, h2, _⟩ := h
  rw [h1.len, h2.length_eq]
/-- A row of numbers is none of the set's blocks. -/
theorem Alq.off (h : Alq w p c q m v H mm) {base : Nat} {u : Value} {ks : List Int} (ho : Own 29 .u64 base u ks w) : ∀ k, u.ownBlock = some k → ¬ Fq p c q m v k := by
  intro k hk hf
  have h' : w.ownsRow base 29 1 u ks.length (valsR .u64 ks) := ho
  rcases h'.2 with ⟨hv, _⟩ | ⟨g, cap, cur, hv, _, hg, _⟩
  · rw [hv] at hk; cases hk
  · rw [hv] at hk
    obtain rfl : g = k := Option.some.inj hk
    rcases h.kinds g hf with ⟨es, cl, r⟩ | ⟨cs2, t, r, ht⟩
    · rw [hg] at r; cases r
    · rw [hg] at r
      injection r with r
      injection r with _ r
      rw [← r] at ht
      rcases ht with q | q | q | q <;> cases q
theorem Als.off (h : Als F w p L most) {base : Nat} {u : Value} {ks : List Int} (ho : Own 29 .u64 base u ks w) : ∀ k, u.ownBlock = some k → ¬ F k := by
  obtain ⟨c, q, m, v, H, h1, _, _, _, hF⟩ := h
  exact fun k hk hf => h1.off ho k hk ((hF k).1 hf)
theorem drop_first (o : On) (r : List On) : dropD o.id (o :: r) = r := by
  have : foundD o.id (o :: r) = 0 := by simp [foundD, List.findIdx_cons]
  unfold dropD
  rw [this]
  simp
theorem has_first (o : On) (r : List On) : hasD o.id (o :: r) = true := has_iff.2 ⟨o, by simp, rfl⟩
set_option maxHeartbeats 8000000 in
set_option maxRecDepth 100000 in
theorem due_k (F : Nat → Prop) (p : Nat) (now most : Int) (L : List On) (w : World) (h : Als F w p L most) (hL : L.length ≤ 1000) (hnow : U64 now) :
    Calls Try.prog 15 #[.pointer (some ⟨p, 0, none⟩), .int .u64 now] w fun e w' => ∃ F' v, e = .returned v ∧ Own 29 .u64 w.heap.size v (dueD now L) w' ∧ (∀ k, v.ownBlock = some k → ¬ F' k) ∧ Als F' w' p (restD now L) most ∧ FSub F F' w ∧ Chg F w w' := by
  have HL := Lib.hid h
  have HLE := Lib.hid hL
  clear hL hnow
  go_enter Try.func15, Try.ntmps15
  go_wp2_with fail
  refine (first_k F p most L _ HL.out HLE.out).mono ?_
  rintro e w1 ⟨rfl, hb1⟩
  have HB1 := Lib.hid hb1
  clear hb1 h
  go_wp2_with fail
  go_loopw [5, 6, 7] (fun l a i wr => ∃ (F2 : Nat → Prop) (M : List Int) (R : List On) (u : Value), u = l ∧ a = .int .u64 (firstD R).1 ∧ i = .bool (firstD R).2 ∧ Hid (Own 29 .u64 w.heap.size u M wr) ∧ Hid (Als F2 wr p R most) ∧ Hid (FSub F F2 w) ∧ Hid (Chg F w wr) ∧ Hid (M ++ dueD now R = dueD now L ∧ restD now R = restD now L ∧ M.length + R.length = L.length)) (fun _ _ _ wr => lenOf wr p)
  case atStart => exact ⟨F, [], L, _, rfl, rfl, rfl, Lib.hid (Own.nil _ _ _ _), Lib.hid (HL.out.keep (Chg.of_below (S := fun _ => False) HB1.out) (fun _ _ e => e)), Lib.hid (fun k hk => .inl hk), Lib.hid (Chg.of_below HB1.out), Lib.hid ⟨rfl, rfl, by simp⟩⟩
  case round =>
    obtain ⟨F2, M, R, l, rfl, rfl, rfl, HO, HAL, HFS, HC, HE⟩ := hrel
    clear HB1
    cases R with
    | nil =>
      have z0 : (firstD []).1 = 0 := rfl
      have z1 : (firstD []).2 = false := rfl
      rw [z0, z1]
      go_wp2_with fail
      go_ret
      refine ⟨F2, _, rfl, ?_, ?_, ?_, HFS.out, HC.out⟩
      · rw [← HE.out.1]
        have : dueD now [] = [] := rfl
        rw [this, List.append_nil]
        exact HO.out
      · exact HAL.out.off HO.out
      · rw [← HE.out.2.1]
        exact HAL.out
    | cons o r =>
      obtain ⟨oid, oat⟩ := o
      have z0 : (firstD (⟨oid, oat⟩ :: r)).1 = oat := rfl
      have z1 : (firstD (⟨oid, oat⟩ :: r)).2 = true := rfl
      rw [z0, z1]
      cases hb : decide (oat ≤ now) with
      | false =>
        have HDN := Lib.hid (due_none (now := now) (o := ⟨oid, oat⟩) (r := r) (by have := of_decide_eq_false hb; dsimp only; omega))
        go_wp2_with fail
        go_ret
        refine ⟨F2, _, rfl, ?_, ?_, ?_, HFS.out, HC.out⟩
        · rw [← HE.out.1, HDN.out.1, List.append_nil]
          exact HO.out
        · exact HAL.out.off HO.out
        · rw [← HE.out.2.1, HDN.out.2]
          exact HAL.out
      | true =>
        have HDS := Lib.hid (due_some (now := now) (o := ⟨oid, oat⟩) (r := r) (by have := of_decide_eq_true hb; dsimp only; omega))
        obtain ⟨c, q, m, v, H, h1, h2, h3, h4, hF⟩ := HAL.out
        have hlen := h2.length_eq
        have hg := first_is h2 h1.heap h3 (by simp)
        have hg0 : gt ((⟨oid, oat⟩ : On) :: r) 0 = ⟨oid, oat⟩ := rfl
        rw [hg0] at hg
        obtain ⟨g, cap, hv, hn1, hn2, hr⟩ := h1.que.row.pos (by rw [hlen]; simp)
        obtain ⟨x0, x1, _, _⟩ := hr 0 (by rw [hlen]; simp)
        rw [hg] at x0 x1
        simp at x0 x1
        have c0 := cell_atA 0 h1.que.blk
        simp at c0
        rw [hv] at c0
        obtain ⟨n, hn⟩ : ∃ n, H.length = n := ⟨_, rfl⟩
        rw [hn] at c0 hn1
        have hn0 : (0 : Int) < (n : Int) := by rw [← hn, hlen]; simp
        have hn3 : n ≤ 9223372036854775807 := by unfold maxLen at hn2; omega
        have HA := Lib.hid h1
        have HX := Lib.hid (And.intro h2 (And.intro h3 (And.intro h4 hF)))
        have HHE : Hid (H.length ≤ 1000) := Lib.hid (by have := HLE.out; have := HE.out.2.2; simp only [List.length_cons] at hlen this; omega)
        have HHB : Hid (hasD oid H = true) := Lib.hid (by rw [has_perm h2]; exact has_first ⟨oid, oat⟩ r)
        clear h1 h2 h3 h4 hF hlen hg hg0 hr hv hn hn1 hn2
        go_wp2_with fail
        refine (a_queue HA.out).mono ?_
        rintro e w2 ⟨rfl, hb2⟩
        have HB2 := Lib.hid hb2
        have d0 := (hb2.cell (block_lt_of_cell c0)).trans c0
        have d1 := (hb2.cell (block_lt_of_cell x0)).trans x0
        have d2 := (hb2.cell (block_lt_of_cell x1)).trans x1
        clear hb2 c0 x0 x1
        go_wp2_with fail
        obtain ⟨u3, hu3⟩ : ∃ u, u = w2.alloc (.cells #[.int .u64 oid, .int .u64 oat] 59) := ⟨_, rfl⟩
        obtain ⟨B, hB⟩ : ∃ B, B = w2.heap.size := ⟨_, rfl⟩
        have hb3 : Below w2.heap.size w2 u3 := by rw [hu3]; exact below_alloc _ _
        have hbx : u3.heap[B]? = some (.cells #[.int .u64 oid, .int .u64 oat] 59 (0, 0)) := by rw [hu3, hB]; exact heap_alloc_new _ _
        rw [← hu3, ← hB]
        have HB3 := Lib.hid (HB2.out.trans (hb3.mono HB2.out.size))
        have HBX := Lib.hid hbx
        have HBB : Hid (wr.heap.size ≤ B) := Lib.hid (by rw [hB]; exact HB2.out.size)
        clear hu3 hB hb3 hbx d0 d1 d2 HB2
        refine (a_take (fun H' => ∃ o, o.id = oid ∧ (o :: H').Perm H) oid oat true (HA.out.below HB3.out) (fun W hW => take_gone oid oat hW HA.out.heap HHE.out HHB.out)).mono ?_
        rintro e w4 ⟨rfl, c', v', H', r1, ⟨o2, ho2, hs2⟩, r3, r4, r5⟩
        obtain ⟨h2, h3, h4, hF⟩ := HX.out
        have hdr := drop_of h2 hs2 ho2 h3.2.1
        have hdf := drop_first ⟨oid, oat⟩ r
        dsimp only at hdf
        rw [hdf] at hdr
        have hrr := h3.drop (id := oid)
        rw [hdf] at hrr
        obtain ⟨F3, f1, f2, f3⟩ := Als.took (L' := r) hF HB3.out r1 r3 r4 r5 hdr hrr (by simp only [List.length_cons] at h4; omega)
        have hO4 : Own 29 .u64 w.heap.size l M w4 := HO.out.chg f3 (fun k hk e => HAL.out.off HO.out k hk e)
        have HR := Lib.hid (And.intro f1 (And.intro f2 (And.intro f3 hO4)))
        have hbx4 : w4.heap[B]? = some (.cells #[.int .u64 oid, .int .u64 oat] 59 (0, 0)) := r3.blk HBX.out (fun e => by have := HA.out.lt B e; have := HBB.out; omega)
        have k0 := cell_atA 0 hbx4
        have k1 := cell_atA 1 hbx4
        simp at k0 k1
        clear r1 hs2 ho2 r3 r4 r5 h2 h3 h4 hF hdr hdf hrr f1 f2 f3 hO4 hbx4
        have HSZ : Hid (w.heap.size ≤ w4.heap.size ∧ M.length < 100000) := Lib.hid ⟨Nat.le_trans HC.out.size HR.out.2.2.1.size, by have := HE.out.2.2; have := HLE.out; omega⟩
        go_wp2_with (at_builtin; refine wpList_appG rfl (.tmp 36) (.tmp 39) 35 29 .u64 8 Try.underlying35 infoU (by decide) rfl w.heap.size _ M oid _ rfl (HR.out.2.2.2.below (below_alloc _ _)) w4.heap.size 1 rfl (heap_alloc_new w4 _) HSZ.out.2 (by have := HSZ.out.1; simp; omega) ?_; intro v5 w5 hA hG; have HA5 := Lib.hid hA; have HG5 := Lib.hid hG; clear hA hG)
        have HC5 : Hid (Chg (fun k => some k = l.ownBlock) w4 w5) := Lib.hid ((Chg.of_below (below_alloc w4 _)).trans HG5.out)
        have HAL5 : Hid (Als F3 w5 p r most) := Lib.hid (HR.out.1.keep HC5.out (fun k hk e => HR.out.1.off HR.out.2.2.2 k e.symm hk))
        refine (first_k F3 p most r _ HAL5.out (by have h8 := HE.out.2.2; have := HLE.out; simp only [List.length_cons] at h8; omega)).mono ?_
        rintro e w6 ⟨rfl, hb6⟩
        have HB6 := Lib.hid hb6
        clear hb6
        go_wp2_with fail
        go_roundw
        case rel =>
          have hsub : FSub F F3 w := fun k hk => by
            rcases HR.out.2.1 k hk with e | e
            · exact HFS.out k e
            · exact .inr (Nat.le_trans HC.out.size e)
          have hc4 : Chg F w w4 := HC.out.wide HR.out.2.2.1 (fun k e => HFS.out k e)
          have hc5 : Chg F w w5 := hc4.wide HC5.out (fun k e => .inr (World.ownsRow.lt HR.out.2.2.2 k e.symm).1)
          refine ⟨F3, M ++ [oid], r, _, rfl, rfl, rfl, Lib.hid (HA5.out.below HB6.out), Lib.hid (HAL5.out.keep (Chg.of_below (S := fun _ => False) HB6.out) (fun _ _ e => e)), Lib.hid hsub, Lib.hid (hc5.trans (Chg.of_below HB6.out)), Lib.hid ⟨?_, ?_, ?_⟩⟩
          · rw [← HE.out.1, HDS.out.1, List.append_assoc]; rfl
          · rw [← HE.out.2.1, HDS.out.2]
          · have := HE.out.2.2
            simp only [List.length_append, List.length_cons, List.length_nil] at this ⊢
            omega
        case measure =>
          rw [(HAL5.out.keep (Chg.of_below (S := fun _ => False) HB6.out) (fun _ _ e => e)).len, HAL.out.len]
          simp
end
end Go.Proofs.Ytcnfchjiiglijaa
