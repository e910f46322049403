/- The document's pool: a part added (tools/stage13/radd.py). -/
import Derived.Test.YtjcgckhheegonaaPoolGb
import Derived.Test.YtjcgckhheegonaaPoolGc
import Derived.Test.YtjcgckhheegonaaPoolS
import Derived.Deep.RegionLaw
namespace Go.Proofs.Ytjcgckhheegonaa
open Go.RowKit
set_option linter.unusedVariables false
set_option linter.unusedSimpArgs false
set_option maxRecDepth 20000
theorem bx4 {W : World} {B : Nat} {a b c d : Value} {T : TypeId} (h : W.heap[B]? = some (.cells #[a, b, c, d] T (0, 0))) : W.cell? ⟨B, 0, none⟩ = some a ∧ W.cell? ⟨B, 1, none⟩ = some b ∧ W.cell? ⟨B, 2, none⟩ = some c ∧ W.cell? ⟨B, 3, none⟩ = some d :=
  ⟨by rw [cell_atA 0 h]; rfl, by rw [cell_atA 1 h]; rfl, by rw [cell_atA 2 h]; rfl, by rw [cell_atA 3 h]; rfl⟩
theorem parts_few {m : Ms} (h : Mok m) : m.parts.length ≤ 1000 := by
  have h1 := h.less
  have h2 : headM m ∈ m.parts := by
    unfold headM
    cases hp : m.parts with
    | nil => exact absurd hp h.some_
    | cons f r => simp
  have := rightF_iff.1 (h.right _ h2)
  omega
theorem rheld_e {w : World} {q : Nat} {P : Pl} {v : Value} {xs : List Mv} (h : RPl w q P v xs) (hB : heldM P.l ≤ 65536) (hl : P.l.length ≤ 1000) (hps : ∀ m, m ∈ P.l → m.parts.length ≤ 1000) (a b : Int) (ha : (P.l.length : Int) = a) (hb : (heldM P.l : Int) = b) :
    Calls Try.prog 18 #[.pointer (some ⟨q, 0, none⟩)] w fun e w' => e = .returned (.tuple #[.int .i64 a, .int .i64 b]) ∧ w' = w := by
  subst ha hb
  exact rheld_k h hB hl hps
theorem wpList_appR {ops : Array Oper} {rest : List Oper} {o : Oper} {a : Act} {Q : Exit → Act → World → Prop} (hgd : o.guard = none) (s xo : Operand)
    (ho : o.op = .call { callee := .builtin .append, args := #[s, xo], argTypes := #[69, 69] })
    (base : Nat) (v : Value) (M N : List Fr) (w : World) (hs : a.eval s = v) (hown : OwnF 40 base v M w)
    (b off m c : Nat) (hx : a.eval xo = .slice (some ⟨b, off, none⟩) m c) (hm : m = N.length) (hB : ∀ j, j < N.length → w.cell? ⟨b, off + j * 4, none⟩ = some (.int .u64 (N.getD j zeroF).id) ∧ w.cell? ⟨b, off + j * 4 + 1, none⟩ = some (.int .i64 (N.getD j zeroF).ix) ∧ w.cell? ⟨b, off + j * 4 + 2, none⟩ = some (.int .i64 (N.getD j zeroF).ct) ∧ w.cell? ⟨b, off + j * 4 + 3, none⟩ = some (.string (N.getD j zeroF).s)) (hM : M.length + N.length < 100000) (hbase : base ≤ w.heap.size)
    (h : ∀ v' w', OwnF 40 base v' (M ++ N) w' → w.grownBy w' v.ownBlock → wpList Try.prog ops Q rest (a.put o.dst v') w') : wpList Try.prog ops Q (o :: rest) a w := by
  subst hm
  obtain ⟨i0, hi0, hz0, hz1, hz2⟩ : ∃ i0, Try.prog.info? 40 = some i0 ∧ i0.zero = some zeroF.v ∧ i0.size = 4 ∧ i0.bytes = 40 := by
    have hinf := infoR
    cases hi : Try.prog.info? 40 with
    | none => rw [hi] at hinf; cases hinf
    | some i0 =>
      rw [hi] at hinf
      simp only [Option.map_some, Option.some.injEq, Prod.mk.injEq] at hinf
      exact ⟨i0, rfl, hinf.1, hinf.2.1, hinf.2.2⟩
  refine wpList_append_own w hgd s xo 69 ho base 40 i0 zeroF.v 4 40 Try.underlying69 hi0 hz0 hz1 hz2 rfl (by decide) v M.length (cellsF M) hs hown ⟨b, off, none⟩ N.length c (cellsF N) hx (cellsF_len N) ?_ (cellsF_one N) (by unfold maxLen; omega) (by omega) hbase ?_
  · intro j u hu
    have hj : j < N.length * 4 := by
      rcases Nat.lt_or_ge j (N.length * 4) with q | q
      · exact q
      · rw [List.getElem?_eq_none (by rw [cellsF_len]; exact q)] at hu; cases hu
    have hadd : (⟨b, off, none⟩ : Addr).add j = ⟨b, off + j, none⟩ := by
      unfold Addr.add
      split
      · rename_i h0; subst h0; rfl
      · rfl
    rw [hadd]
    obtain ⟨c0, c1, c2, c3⟩ := hB (j / 4) (by omega)
    have hu2 := cellsF_at N (j / 4) (j % 4) (Nat.mod_lt _ (by omega)) (by omega)
    rw [show j / 4 * 4 + j % 4 = j by omega, hu] at hu2
    have h4 : j % 4 = 0 ∨ j % 4 = 1 ∨ j % 4 = 2 ∨ j % 4 = 3 := by omega
    rcases h4 with q | q | q | q
    · rw [q] at hu2
      rw [show off + j = off + j / 4 * 4 by omega, c0]
      exact hu2.symm
    · rw [q] at hu2
      rw [show off + j = off + j / 4 * 4 + 1 by omega, c1]
      exact hu2.symm
    · rw [q] at hu2
      rw [show off + j = off + j / 4 * 4 + 2 by omega, c2]
      exact hu2.symm
    · rw [q] at hu2
      rw [show off + j = off + j / 4 * 4 + 3 by omega, c3]
      exact hu2.symm
  · intro v' w' h1 h2 _
    refine h v' w' ?_ h2
    unfold OwnF
    rw [List.length_append, cellsF_app]
    exact h1
theorem row_formF {t : TypeId} {base : Nat} {v : Value} {fs : List Fr} {w : World} (h : OwnF t base v fs w) : ∃ a c, v = .slice a fs.length c := by
  obtain ⟨a, c, e, _⟩ := h.at
  exact ⟨a, c, e⟩
theorem box_of4 {W : World} {B : Nat} {f : Fr} {T : TypeId} (h : W.heap[B]? = some (.cells #[.int .u64 f.id, .int .i64 f.ix, .int .i64 f.ct, .string f.s] T (0, 0))) : ∀ j, j < [f].length → W.cell? ⟨B, 0 + j * 4, none⟩ = some (.int .u64 ([f].getD j zeroF).id) ∧ W.cell? ⟨B, 0 + j * 4 + 1, none⟩ = some (.int .i64 ([f].getD j zeroF).ix) ∧ W.cell? ⟨B, 0 + j * 4 + 2, none⟩ = some (.int .i64 ([f].getD j zeroF).ct) ∧ W.cell? ⟨B, 0 + j * 4 + 3, none⟩ = some (.string ([f].getD j zeroF).s) := fun j hj => by
  obtain rfl : j = 0 := by simpa using hj
  obtain ⟨h0, h1, h2, h3⟩ := bx4 h
  exact ⟨by simpa using h0, by simpa using h1, by simpa using h2, by simpa using h3⟩
/-- The one message of a number. -/
def AtK (L : List Ms) (id : Int) (K : Nat) : Prop := ∀ j, j < L.length → ((headM (L.getD j ⟨[], 0⟩)).id = id ↔ j = K)
theorem getD_some {α : Type} {d : α} {L : List α} {i : Nat} (h : i < L.length) : L.getD i d = L[i] := by
  rw [List.getD_eq_getElem?_getD, List.getElem?_eq_getElem h]; rfl
theorem put_set {L : List Ms} {id : Int} {K : Nat} (h : AtK L id K) (hK : K < L.length) (f : Fr) {m : Ms} (hm : L.getD K ⟨[], 0⟩ = m) : L.set K ⟨m.parts ++ [f], m.since⟩ = putM id f L := by
  unfold putM
  apply List.ext_getElem
  · simp
  · intro i h1 h2
    have hi : i < L.length := by simpa using h1
    have hk := h i hi
    rw [getD_some hi] at hk
    rw [getD_some hK] at hm
    rw [List.getElem_map, List.getElem_set]
    by_cases e : K = i
    · subst e
      rw [if_pos rfl, if_pos (beq_iff_eq.2 (hk.2 rfl)), hm]
    · rw [if_neg e, if_neg (fun q => e (hk.1 (beq_iff_eq.1 q)).symm)]
theorem wo_cut {L : List Ms} {id : Int} {K : Nat} (h : AtK L id K) (hK : K < L.length) : L.take K ++ L.drop (K + 1) = wo id L := by
  unfold wo
  rw [← List.eraseIdx_eq_take_drop_succ]
  refine (filter_one (j := K) (e := L[K]) (by simp [hK]) ?_ (fun i x hi hne => ?_)).symm
  · have := (h K hK).2 rfl
    rw [getD_some hK] at this
    simp [this]
  · have hil := (List.getElem?_eq_some_iff.1 hi).1
    have := h i hil
    rw [getD_some hil] at this
    rw [List.getElem?_eq_getElem hil] at hi
    have e := Option.some.inj hi
    rw [e] at this
    have : (headM x).id ≠ id := fun q => hne (this.1 q)
    simpa using this
theorem own_up {v v2 : Value} {a b : Nat} (h : ∀ k, v2.ownBlock = some k → some k = v.ownBlock ∨ b ≤ k) (hab : a ≤ b) : ∀ k, v2.ownBlock = some k → some k = v.ownBlock ∨ a ≤ k := fun k hk => by
  rcases h k hk with r | r
  · exact .inl r
  · exact .inr (Nat.le_trans hab r)
theorem chg_ro {w u v' : World} {q g : Nat} {v : Value} (hc : Chg (fun k => k = q) w u) (hg : some g = v.ownBlock ∨ w.heap.size ≤ g) (hv : Chg (fun k => k = g) u v') : Chg (fun k => k = q ∨ some k = v.ownBlock) w v' :=
  (hc.mono (fun k e => .inl e)).wide hv (fun k e => by
    rw [e]
    rcases hg with r | r
    · exact .inl (.inr r)
    · exact .inr r)
theorem RPl.setK {w : World} {q : Nat} {P : Pl} {xs : List Mv} {g n cap K base : Nat} {u : Value} {f : Fr} {m : Ms} (h : RPl w q P (.slice (some ⟨g, 0, none⟩) n cap) xs) (hn : n = xs.length) (hK : K < xs.length) (hm : (xs.getD K zeroG).1 = m) (hu : OwnF 40 base u (m.parts ++ [f]) w) :
    RPl (w.setCell ⟨g, K * 2, none⟩ u) q { P with l := P.l.set K ⟨m.parts ++ [f], m.since⟩ } (.slice (some ⟨g, 0, none⟩) n cap) (xs.set K (⟨m.parts ++ [f], m.since⟩, u)) ∧ RK w g := by
  obtain ⟨cs, hg⟩ := h.rowK g rfl
  have hc := Chg.setCell w g (K * 2) u
  have hqg : q ≠ g := fun e => by
    have h1 := h.blk
    rw [e, hg] at h1
    injection h1 with h1
    injection h1 with _ h1 _
    cases h1
  have hfg : ∀ (b2 : Nat) (v2 : Value) (fs : List Fr), OwnF 40 b2 v2 fs w → ∀ k, v2.ownBlock = some k → ¬ k = g := fun b2 v2 fs ho k hk e => by
    have ho' : w.ownsRow b2 40 4 v2 fs.length (cellsF fs) := ho
    rcases ho'.2 with ⟨hv, _⟩ | ⟨g', cap', cur, hv, _, hg', _⟩
    · rw [hv] at hk; cases hk
    · rw [hv] at hk
      simp only [Value.ownBlock, Option.some.injEq] at hk
      rw [hk, e, hg] at hg'
      injection hg' with hg'
      injection hg' with _ hg' _
      cases hg'
  subst hn
  have hrow := (World.ownsRow.stored h.row (K * 2) u).1
  rw [← cellsG_set u ⟨m.parts ++ [f], m.since⟩ xs K hK (by rw [hm])] at hrow
  refine ⟨⟨hc.blk h.blk hqg, ?_, ?_, fun x hx => ?_⟩, ⟨_, _, _, hg, .inr rfl⟩⟩
  · rw [List.length_set]; exact hrow
  · rw [List.map_set, h.fst]
  · rcases List.mem_or_eq_of_mem_set hx with q1 | q1
    · exact (h.each x q1).chg hc (hfg _ _ _ (h.each x q1))
    · subst q1
      have hu0 : OwnF 40 0 u (m.parts ++ [f]) w := World.ownsRow.mono hu (Nat.zero_le _)
      exact hu0.chg hc (hfg _ _ _ hu0)
theorem OwnF.off_pool {w : World} {q base : Nat} {P : Pl} {v u : Value} {xs : List Mv} {fs : List Fr} (h : RPl w q P v xs) (hu : OwnF 40 base u fs w) : ∀ k, u.ownBlock = some k → ¬ k = q := fun k hk e => by
  have ho' : w.ownsRow base 40 4 u fs.length (cellsF fs) := hu
  rcases ho'.2 with ⟨hv, _⟩ | ⟨g', cap', cur, hv, _, hg', _⟩
  · rw [hv] at hk; cases hk
  · rw [hv] at hk
    simp only [Value.ownBlock, Option.some.injEq] at hk
    have h1 := h.blk
    rw [hk, e, h1] at hg'
    injection hg' with hg'
    injection hg' with _ hg' _
    cases hg'
theorem sum_one_le {L : List Ms} {m : Ms} (h : m ∈ L) : sumS m.parts ≤ heldM L := by
  induction L with
  | nil => simp at h
  | cons x r ih =>
    rw [heldM_cons]
    rcases List.mem_cons.1 h with e | e
    · rw [e]; omega
    · have := ih e; omega
theorem OwnF.of_block {w : World} {g : Nat} {f : Fr} (h : w.heap[g]? = some (.cells #[.int .u64 f.id, .int .i64 f.ix, .int .i64 f.ct, .string f.s] 40 (0, 0))) : OwnF 40 0 (.slice (some ⟨g, 0, none⟩) 1 1) [f] w := by
  refine ⟨rfl, .inr ⟨g, 1, _, rfl, Nat.zero_le _, h, Nat.le_refl _, by decide, rfl, rfl⟩⟩
theorem step_appG {ops : Array Oper} {o : Oper} {a : Act} {K : Act → World → Prop} {Q : Exit → Act → World → Prop} {E : Prop} (w : World) (hgd : o.guard = none) (s xo : Operand)
    (ho : o.op = .call { callee := .builtin .append, args := #[s, xo], argTypes := #[62, 62] })
    (v : Value) (M : List Mv) (x : Mv) (hs : a.eval s = v) (hown : w.ownsRow 0 71 2 v M.length (cellsG M))
    (B c : Nat) (hx : a.eval xo = .slice (some ⟨B, 0, none⟩) 1 c) (hB : w.heap[B]? = some (.cells #[x.2, .int .u64 x.1.since] 71 (0, 0))) (hone : x.2.oneCell' = true) (hM : M.length < 90000)
    (h : ∀ g cap w', w'.ownsRow 0 71 2 (.slice (some ⟨g, 0, none⟩) (M.length + 1) cap) (M ++ [x]).length (cellsG (M ++ [x])) → w.grownBy w' v.ownBlock → (v.ownBlock = some g ∨ g = w.heap.size) → K (a.put o.dst (.slice (some ⟨g, 0, none⟩) (M.length + 1) cap)) w') :
    if Region.wanted o (yielded ops a.tmps) = true then Oper.wp Try.prog o a w K Q else E := by
  obtain ⟨i0, hi0, hz0, hz1, hz2⟩ : ∃ i0, Try.prog.info? 71 = some i0 ∧ i0.zero = some (.agg #[.slice none 0 0, .int .u64 0]) ∧ i0.size = 2 ∧ i0.bytes = 32 := by
    have hinf := infoM
    cases hi : Try.prog.info? 71 with
    | none => rw [hi] at hinf; cases hinf
    | some i0 =>
      rw [hi] at hinf
      simp only [Option.map_some, Option.some.injEq, Prod.mk.injEq] at hinf
      exact ⟨i0, rfl, hinf.1, hinf.2.1, hinf.2.2⟩
  refine step_append_lies w hgd s xo 62 ho 0 71 i0 (.agg #[.slice none 0 0, .int .u64 0]) 2 32 Try.underlying62 hi0 hz0 hz1 hz2 rfl (by decide) v M.length (cellsG M) hs hown ⟨B, 0, none⟩ 1 c [x.2, .int .u64 x.1.since] hx rfl (World.news_of_block (cs := #[x.2, .int .u64 x.1.since]) (fr := (0, 0)) hB) ?_ (by decide) (by unfold maxLen; omega) (by omega) (Nat.zero_le _) w.heap.size rfl ?_
  · intro u hu
    simp only [List.mem_cons, List.not_mem_nil, or_false] at hu
    rcases hu with rfl | rfl
    · exact hone
    · rfl
  · intro g cap w' h1 h2 h3 _
    refine h g cap w' ?_ h2 h3
    rw [List.length_append, cellsG_app]
    exact h1
/-- A message put behind the others. -/
theorem RPl.push {wz w4 : World} {q : Nat} {P : Pl} {v : Value} {xs : List Mv} {g cap : Nat} {f : Fr} {now : Int} {u : Value} (h : RPl wz q P v xs) (hu : OwnF 40 0 u [f] w4) (h1 : w4.ownsRow 0 71 2 (.slice (some ⟨g, 0, none⟩) (xs.length + 1) cap) (xs ++ [((⟨[f], now⟩ : Ms), u)]).length (cellsG (xs ++ [((⟨[f], now⟩ : Ms), u)])))
    (hc : Chg (fun k => some k = v.ownBlock) wz w4) (hg : v.ownBlock = some g ∨ wz.heap.size ≤ g) :
    RPl (w4.setCell ⟨q, 0, none⟩ (.slice (some ⟨g, 0, none⟩) (xs.length + 1) cap)) q { P with l := P.l ++ [⟨[f], now⟩] } (.slice (some ⟨g, 0, none⟩) (xs.length + 1) cap) (xs ++ [((⟨[f], now⟩ : Ms), u)]) ∧ Chg (fun k => k = q ∨ some k = v.ownBlock) wz (w4.setCell ⟨q, 0, none⟩ (.slice (some ⟨g, 0, none⟩) (xs.length + 1) cap)) := by
  have hql := blk_lt h.blk
  have hqv : ¬ some q = v.ownBlock := fun e => by
    obtain ⟨cs, hcs⟩ := h.rowK q e.symm
    have h9 := h.blk
    rw [hcs] at h9
    injection h9 with h9
    injection h9 with _ h9 _
    cases h9
  have hb4 := hc.blk h.blk hqv
  have hR4 : ∀ x, x ∈ xs → OwnF 40 0 x.2 x.1.parts w4 := fun x hx => (h.each x hx).chg hc (fun k hk e => by
    obtain ⟨cs, hcs⟩ := h.partK hx k hk
    obtain ⟨cs2, hcs2⟩ := h.rowK k e.symm
    rw [hcs] at hcs2
    injection hcs2 with hcs2
    injection hcs2 with _ hcs2 _
    cases hcs2)
  have h4 : RPl w4 q P v xs → True := fun _ => trivial
  have hset := Chg.setCell w4 q 0 (.slice (some ⟨g, 0, none⟩) (xs.length + 1) cap)
  have hoff : ∀ (v2 : Value) (fs : List Fr), OwnF 40 0 v2 fs w4 → ∀ k, v2.ownBlock = some k → ¬ k = q := fun v2 fs ho k hk e => by
    have ho' : w4.ownsRow 0 40 4 v2 fs.length (cellsF fs) := ho
    rcases ho'.2 with ⟨hv, _⟩ | ⟨g', cap', cur, hv, _, hg', _⟩
    · rw [hv] at hk; cases hk
    · rw [hv] at hk
      simp only [Value.ownBlock, Option.some.injEq] at hk
      rw [hk, e, hb4] at hg'
      injection hg' with hg'
      injection hg' with _ hg' _
      cases hg'
  refine ⟨⟨?_, hset.row h1 (fun k hk e => ?_), ?_, fun x hx => ?_⟩, (hc.mono (fun k e => .inr e)).trans (hset.mono (fun k e => .inl e))⟩
  · have := heap_setCell_same w4 q 0 _ _ (.slice (some ⟨g, 0, none⟩) (xs.length + 1) cap) hb4
    simpa using this
  · simp only [Value.ownBlock, Option.some.injEq] at hk
    rcases hg with r | r
    · exact hqv (by rw [r, hk, e])
    · omega
  · rw [List.map_append, h.fst]; rfl
  · rcases List.mem_append.1 hx with r | r
    · exact (hR4 x r).chg hset (hoff _ _ (hR4 x r))
    · simp only [List.mem_singleton] at r
      subst r
      exact hu.chg hset (hoff _ _ hu)
theorem push_facts {wz W w4 : World} {q : Nat} {P : Pl} {v : Value} {xs : List Mv} (h : RPl wz q P v xs) (hb : Below wz.heap.size wz W) (hg : W.grownBy w4 v.ownBlock) : Chg (fun k => some k = v.ownBlock) wz w4 ∧ w4.cell? ⟨q, 0, none⟩ = some v ∧ w4.frozen? ⟨q, 0, none⟩ = false ∧ ∀ k, k < W.heap.size → wz.heap.size ≤ k → w4.heap[k]? = W.heap[k]? := by
  have hqv : ¬ some q = v.ownBlock := fun e => by
    obtain ⟨cs, hcs⟩ := h.rowK q e.symm
    have h9 := h.blk
    rw [hcs] at h9
    injection h9 with h9
    injection h9 with _ h9 _
    cases h9
  have hc : Chg (fun k => some k = v.ownBlock) wz w4 := (Chg.of_below hb).trans (Chg.grown hg)
  have hb4 := hc.blk h.blk hqv
  refine ⟨hc, by rw [cell_atA 0 hb4]; rfl, frz_atA 0 hb4, fun k hk hk2 => (Chg.grown hg).block k hk (fun e => ?_)⟩
  obtain ⟨cs, hcs⟩ := h.rowK k e.symm
  have := blk_lt hcs
  omega
set_option maxHeartbeats 4000000 in
theorem radd_bad {w : World} {q : Nat} {P : Pl} {v : Value} {xs : List Mv} (h : RPl w q P v xs) (hok : Pok P) (hsin : ∀ m, m ∈ P.l → U64 m.since) (id ix ct now : Int) (sz : ByteArray) (hsz : sz.size ≤ 1000000) (hnow : U64 now)
    (hr : rightF ⟨id, ix, ct, sz⟩ = false)  :
    Calls Try.prog 15 #[.pointer (some ⟨q, 0, none⟩), .agg #[.int .u64 id, .int .i64 ix, .int .i64 ct, .string sz], .int .u64 now] w fun e w' => e = .returned (.tuple #[.string ⟨#[]⟩, .bool false, .int .i64 1]) ∧ ∃ v' xs', RPl w' q { P with l := P.l } v' xs' ∧ Chg (fun k => k = q ∨ some k = v.ownBlock) w w' ∧ ∀ k, v'.ownBlock = some k → some k = v.ownBlock ∨ w.heap.size ≤ k := by
  have HH := Lib.hid h
  have HOK := Lib.hid hok
  have HSI := Lib.hid hsin
  have HSZ := Lib.hid hsz
  have HNW := Lib.hid hnow
  have HR : Hid (rightF ⟨id, ix, ct, sz⟩ = false) := Lib.hid hr
  have HLE : Hid (P.l.length ≤ 1000) := Lib.hid (by have h1 := hok.many; have h2 := hok.s2; omega)

  obtain ⟨u1, hu1⟩ : ∃ u1, u1 = w.alloc (.cells #[.int .u64 id, .int .i64 ix, .int .i64 ct, .string sz] 40) := ⟨_, rfl⟩
  obtain ⟨B, hB0⟩ : ∃ B, B = w.heap.size := ⟨_, rfl⟩
  have hb1 : Below w.heap.size w u1 := by rw [hu1]; exact below_alloc w _
  have hbx : u1.heap[B]? = some (.cells #[.int .u64 id, .int .i64 ix, .int .i64 ct, .string sz] 40 (0, 0)) := by rw [hu1, hB0]; exact heap_alloc_new w _
  have HBX := Lib.hid hbx
  have HU1 := Lib.hid hb1
  have HUE := Lib.hid hu1
  have HBE := Lib.hid hB0
  have HPL := Lib.hid (blk_lt h.blk)
  have HSM : Hid (sz.size ≤ maxLen) := Lib.hid (by unfold maxLen; omega)
  obtain ⟨a0, a1, a2, a3⟩ := bx4 hbx
  clear h hok hsin hsz hnow hr hb1 hbx
  go_enter Try.func15, Try.ntmps15
  go_upto_region 1 with fail
  rw [← hu1, ← hB0]
  clear hu1 hB0
  go_wp2_with (first
    | (go_at_call 30; refine (rright_f id ix ct sz _ HSM.out false HR).mono ?_; rintro e w1 ⟨rfl, hb1⟩; have HB1 : Hid (Below w.heap.size w w1) := Lib.hid (HU1.out.trans (hb1.mono HU1.out.size)); have HX1 := Lib.hid ((hb1.block B (blk_lt HBX.out)).trans HBX.out); clear hb1 a0 a1 a2 a3)
    | fail
    | go_in)
  exact bodyPost_ret (v := .tuple #[.string ⟨#[]⟩, .bool false, .int .i64 1]) (by simp [results, Try.results15, go_sem]) rfl ⟨rfl, v, xs, HH.out.below HB1.out, Chg.of_below HB1.out, fun k hk => .inl hk.symm⟩
set_option maxHeartbeats 4000000 in
theorem radd_one {w : World} {q : Nat} {P : Pl} {v : Value} {xs : List Mv} (h : RPl w q P v xs) (hok : Pok P) (hsin : ∀ m, m ∈ P.l → U64 m.since) (id ix now : Int) (sz : ByteArray) (hsz : sz.size ≤ 1000000) (hnow : U64 now)
    (hr : rightF ⟨id, ix, 1, sz⟩ = true)  :
    Calls Try.prog 15 #[.pointer (some ⟨q, 0, none⟩), .agg #[.int .u64 id, .int .i64 ix, .int .i64 1, .string sz], .int .u64 now] w fun e w' => e = .returned (.tuple #[.string sz, .bool true, .int .i64 0]) ∧ ∃ v' xs', RPl w' q { P with l := expM now P.l } v' xs' ∧ Chg (fun k => k = q ∨ some k = v.ownBlock) w w' ∧ ∀ k, v'.ownBlock = some k → some k = v.ownBlock ∨ w.heap.size ≤ k := by
  have HH := Lib.hid h
  have HOK := Lib.hid hok
  have HSI := Lib.hid hsin
  have HSZ := Lib.hid hsz
  have HNW := Lib.hid hnow
  have HR : Hid (rightF ⟨id, ix, 1, sz⟩ = true) := Lib.hid hr
  have HLE : Hid (P.l.length ≤ 1000) := Lib.hid (by have h1 := hok.many; have h2 := hok.s2; omega)

  obtain ⟨u1, hu1⟩ : ∃ u1, u1 = w.alloc (.cells #[.int .u64 id, .int .i64 ix, .int .i64 1, .string sz] 40) := ⟨_, rfl⟩
  obtain ⟨B, hB0⟩ : ∃ B, B = w.heap.size := ⟨_, rfl⟩
  have hb1 : Below w.heap.size w u1 := by rw [hu1]; exact below_alloc w _
  have hbx : u1.heap[B]? = some (.cells #[.int .u64 id, .int .i64 ix, .int .i64 1, .string sz] 40 (0, 0)) := by rw [hu1, hB0]; exact heap_alloc_new w _
  have HBX := Lib.hid hbx
  have HU1 := Lib.hid hb1
  have HUE := Lib.hid hu1
  have HBE := Lib.hid hB0
  have HPL := Lib.hid (blk_lt h.blk)
  have HSM : Hid (sz.size ≤ maxLen) := Lib.hid (by unfold maxLen; omega)
  obtain ⟨a0, a1, a2, a3⟩ := bx4 hbx
  clear h hok hsin hsz hnow hr hb1 hbx
  go_enter Try.func15, Try.ntmps15
  go_upto_region 1 with fail
  rw [← hu1, ← hB0]
  clear hu1 hB0
  go_wp2_with (first
    | (go_at_call 30; refine (rright_f id ix 1 sz _ HSM.out true HR).mono ?_; rintro e w1 ⟨rfl, hb1⟩; have HB1 : Hid (Below w.heap.size w w1) := Lib.hid (HU1.out.trans (hb1.mono HU1.out.size)); have HX1 := Lib.hid ((hb1.block B (blk_lt HBX.out)).trans HBX.out); clear hb1 a0 a1 a2 a3)
    | (go_at_call 12; refine (rexp_k (HH.out.below HB1.out) HLE.out HSI.out now HNW.out).mono ?_; rintro e w2 ⟨rfl, v2, xs2, hx2, hch, hov⟩; have HOV2 : Hid (∀ k, v2.ownBlock = some k → some k = v.ownBlock ∨ w.heap.size ≤ k) := Lib.hid (own_up hov HB1.out.size); have HX2 := Lib.hid hx2; have HC2 := Lib.hid ((Chg.of_below HB1.out).trans hch); have HBX2 := Lib.hid (hch.blk HX1.out (fun e => by have := HPL.out; have := HBE.out; omega)); obtain ⟨x0, x1, x2, x3⟩ := bx4 HBX2.out; clear hx2 hch hov)
    | go_in)
  exact bodyPost_ret (v := .tuple #[.string sz, .bool true, .int .i64 0]) (by simp [results, Try.results15, go_sem]) rfl ⟨rfl, v2, xs2, HX2.out, (HC2.out.mono (fun k e => .inl e)), HOV2.out⟩
set_option maxHeartbeats 4000000 in
theorem radd_n8 {w : World} {q : Nat} {P : Pl} {v : Value} {xs : List Mv} (h : RPl w q P v xs) (hok : Pok P) (hsin : ∀ m, m ∈ P.l → U64 m.since) (id ix ct now : Int) (sz : ByteArray) (hsz : sz.size ≤ 1000000) (hnow : U64 now)
    (hr : rightF ⟨id, ix, ct, sz⟩ = true) (hc : ¬ ct = 1) (K : Nat) (hK : ∀ j, j < (expM now P.l).length → ((headM ((expM now P.l).getD j ⟨[], 0⟩)).id = id ↔ j = K)) (hKN : (expM now P.l).length ≤ K) (hs : P.slots ≤ ((expM now P.l).length : Int)) :
    Calls Try.prog 15 #[.pointer (some ⟨q, 0, none⟩), .agg #[.int .u64 id, .int .i64 ix, .int .i64 ct, .string sz], .int .u64 now] w fun e w' => e = .returned (.tuple #[.string ⟨#[]⟩, .bool false, .int .i64 8]) ∧ ∃ v' xs', RPl w' q { P with l := expM now P.l } v' xs' ∧ Chg (fun k => k = q ∨ some k = v.ownBlock) w w' ∧ ∀ k, v'.ownBlock = some k → some k = v.ownBlock ∨ w.heap.size ≤ k := by
  have HH := Lib.hid h
  have HOK := Lib.hid hok
  have HSI := Lib.hid hsin
  have HSZ := Lib.hid hsz
  have HNW := Lib.hid hnow
  have HR : Hid (rightF ⟨id, ix, ct, sz⟩ = true) := Lib.hid hr
  have HLE : Hid (P.l.length ≤ 1000) := Lib.hid (by have h1 := hok.many; have h2 := hok.s2; omega)
  have HO1 : Hid (Pok { P with l := expM now P.l }) := Lib.hid (hok.exp now)
  have hcb : (ct == 1) = false := by simpa using hc
  obtain ⟨L1, hL1⟩ : ∃ L1, expM now P.l = L1 := ⟨_, rfl⟩
  have HL1 := Lib.hid hL1
  rw [hL1] at HO1 hK hKN hs
  have HK := Lib.hid hK
  obtain ⟨n, hn⟩ : ∃ n, L1.length = n := ⟨_, rfl⟩
  have HN := Lib.hid hn
  have hn16 : (n : Int) ≤ 16 := by have h1 := HO1.out.many; have h2 := HO1.out.s2; simp only at h1 h2; omega
  rw [hL1]
  have HKN : Hid (n ≤ K) := Lib.hid (by rw [← hn]; exact hKN)
  clear hKN
  rw [hn] at hs
  clear hK hL1 hn
  obtain ⟨u1, hu1⟩ : ∃ u1, u1 = w.alloc (.cells #[.int .u64 id, .int .i64 ix, .int .i64 ct, .string sz] 40) := ⟨_, rfl⟩
  obtain ⟨B, hB0⟩ : ∃ B, B = w.heap.size := ⟨_, rfl⟩
  have hb1 : Below w.heap.size w u1 := by rw [hu1]; exact below_alloc w _
  have hbx : u1.heap[B]? = some (.cells #[.int .u64 id, .int .i64 ix, .int .i64 ct, .string sz] 40 (0, 0)) := by rw [hu1, hB0]; exact heap_alloc_new w _
  have HBX := Lib.hid hbx
  have HU1 := Lib.hid hb1
  have HUE := Lib.hid hu1
  have HBE := Lib.hid hB0
  have HPL := Lib.hid (blk_lt h.blk)
  have HSM : Hid (sz.size ≤ maxLen) := Lib.hid (by unfold maxLen; omega)
  obtain ⟨a0, a1, a2, a3⟩ := bx4 hbx
  clear h hok hsin hsz hnow hr hb1 hbx
  go_enter Try.func15, Try.ntmps15
  go_upto_region 1 with fail
  rw [← hu1, ← hB0]
  clear hu1 hB0
  go_wp2_with (first
    | (go_at_call 30; refine (rright_f id ix ct sz _ HSM.out true HR).mono ?_; rintro e w1 ⟨rfl, hb1⟩; have HB1 : Hid (Below w.heap.size w w1) := Lib.hid (HU1.out.trans (hb1.mono HU1.out.size)); have HX1 := Lib.hid ((hb1.block B (blk_lt HBX.out)).trans HBX.out); clear hb1 a0 a1 a2 a3)
    | (go_at_call 12; refine (rexp_k (HH.out.below HB1.out) HLE.out HSI.out now HNW.out).mono ?_; rintro e w2 ⟨rfl, v2, xs2, hx2, hch, hov⟩; have HOV2 : Hid (∀ k, v2.ownBlock = some k → some k = v.ownBlock ∨ w.heap.size ≤ k) := Lib.hid (own_up hov HB1.out.size); have HX2 := Lib.hid hx2; have HC2 := Lib.hid ((Chg.of_below HB1.out).trans hch); have HBX2 := Lib.hid (hch.blk HX1.out (fun e => by have := HPL.out; have := HBE.out; omega)); obtain ⟨x0, x1, x2, x3⟩ := bx4 HBX2.out; clear hx2 hch hov)
    | go_in)
  have HX3 : Hid (RPl w2 q { P with l := L1 } v2 xs2) := Lib.hid (by have := HX2.out; rw [HL1.out] at this; exact this)
  have HXN : Hid (xs2.length = n) := Lib.hid (by rw [HX3.out.len]; exact HN.out)
  clear x0 x1 x2 x3 HX2
  go_loopw [9, 10] (fun x9 x10 wr => ∃ (i : Nat) (y : Int), i ≤ n ∧ x9 = .int .i64 y ∧ x10 = .int .i64 i ∧ Hid (y = if K < i then (K : Int) else -1) ∧ Hid (Below w2.heap.size w2 wr)) (fun _ x10 _ => n - (intG x10).toNat)
  case atStart => exact ⟨0, -1, Nat.zero_le _, rfl, rfl, Lib.hid (by rw [if_neg (by omega)]), Lib.hid (Below.refl _ _)⟩
  case round =>
    obtain ⟨i, y, hi, rfl, rfl, HY, HW⟩ := hrel
    have HXW := Lib.hid (HX3.out.below HW.out)
    have HBW := Lib.hid ((HW.out.block B (blk_lt HBX2.out)).trans HBX2.out)
    by_cases hin : i < n
    · obtain ⟨a, cap, g, hv, c0, _, _, _, d1, d2, hrw⟩ := HXW.out.cells
      obtain ⟨rfl, e0, _, _⟩ := hrw i (by rw [HXN.out]; exact hin)
      obtain ⟨b, cb, gb, hvb, f1, f2, hrb⟩ := HXW.out.parts (j := i) (by rw [HXN.out]; exact hin)
      have hm9 : (xs2.getD i zeroG).1 ∈ L1 := by have := HX3.out.fst; simp only at this; rw [← this]; exact List.mem_map.2 ⟨_, HX3.out.at (by rw [HXN.out]; exact hin), rfl⟩
      have hmok := HO1.out.each _ hm9
      have hpos : 0 < (xs2.getD i zeroG).1.parts.length := List.length_pos_iff.2 hmok.some_
      obtain ⟨rfl, k0, _, _, _⟩ := hrb 0 hpos
      have hhd : (headM (xs2.getD i zeroG).1).id = ((xs2.getD i zeroG).1.parts.getD 0 zeroF).id := rfl
      obtain ⟨bid, hbid⟩ : ∃ bid, ((xs2.getD i zeroG).1.parts.getD 0 zeroF).id = bid := ⟨_, rfl⟩
      have hKi := HK.out i (by rw [HN.out]; exact hin)
      rw [← fst_getD HX3.out.fst (by rw [HXN.out]; exact hin), hhd, hbid] at hKi
      rw [hvb] at e0
      rw [hbid] at k0
      obtain ⟨nb, hnb⟩ : ∃ nb, (xs2.getD i zeroG).1.parts.length = nb := ⟨_, rfl⟩
      rw [hnb] at e0 hpos f1
      rw [HXN.out] at c0 d1
      have i1 : (i : Int) < (n : Int) := by omega
      have p1 : (0 : Int) < (nb : Int) := by omega
      have HI := Lib.hid hin
      obtain ⟨z0, _, _, _⟩ := bx4 HBW.out
      simp only [Nat.zero_mul] at k0
      clear hv hrw hvb hrb hm9 hmok hhd hbid hnb hi hin d2 f2
      by_cases hiK : i = K
      · have hbe : bid = id := hKi.2 hiK
        rw [hbe] at k0
        clear hbe
        have HIK := Lib.hid hiK
        clear hiK hKi
        go_wp2_with fail
        go_quiet (fail)
        go_wp2_with fail
        go_roundw
        case rel => exact ⟨i + 1, (i : Int), HI.out, rfl, by go_num, Lib.hid (by rw [if_pos (by have := HIK.out; omega), HIK.out]), Lib.hid (below_drew HW.out _)⟩
        case measure => have := HI.out; simp [intG]; omega
      · have hbe : ¬ bid = id := fun e => hiK (hKi.1 e)
        have HIK := Lib.hid hiK
        clear hiK hKi
        go_wp2_with fail
        go_quiet (fail)
        go_wp2_with fail
        go_roundw
        case rel => exact ⟨i + 1, y, HI.out, rfl, by go_num, Lib.hid (by
          have h9 := HIK.out
          rw [HY.out]
          by_cases hq : K < i
          · rw [if_pos hq, if_pos (by omega)]
          · rw [if_neg hq, if_neg (by omega)]), Lib.hid (below_drew HW.out _)⟩
        case measure => have := HI.out; simp [intG]; omega
    · obtain rfl : i = n := by omega
      have t0 : decide (i < i) = false := decide_eq_false (Nat.lt_irrefl _)
      clear hi hin
      have HCW := Lib.hid (HC2.out.trans (Chg.of_below HW.out))
      obtain ⟨a, cap, g, hv, c0, c1, c2, fz, d1, d2, hrw⟩ := HXW.out.cells
      rw [HXN.out] at c0 d1
      have HRW := Lib.hid hrw
      have HV := Lib.hid hv
      obtain ⟨z0, z1, z2, z3⟩ := bx4 HBW.out
      clear hrw hv
      obtain ⟨hh, hhh⟩ : ∃ hh : Int, (heldM L1 : Int) = hh := ⟨_, rfl⟩
      have HHH := Lib.hid hhh
      have hhb : 0 ≤ hh ∧ hh ≤ 65536 := by have h1 := HO1.out.held; have h2 := HO1.out.b2; simp only at h1 h2; omega
      have HHB : Hid (heldM L1 ≤ 65536) := Lib.hid (by have h1 := HO1.out.held; have h2 := HO1.out.b2; simp only at h1 h2; omega)
      have HPS : Hid (∀ m, m ∈ L1 → m.parts.length ≤ 1000) := Lib.hid (fun m hm => parts_few (HO1.out.each m hm))
      have hwr : IntKind.i64.wrap (hh + (sz.size : Int)) = hh + (sz.size : Int) := i64_mill (by omega) (by have := HSZ.out; omega)
      obtain ⟨h0, h65⟩ := hhb
      clear hhh h65 h0
      have HYN : Hid (y = -1) := Lib.hid (by rw [HY.out, if_neg (by have := HKN.out; omega)])
      obtain rfl := HYN.out
      go_wp2_with (first | (go_at_call 18; refine (rheld_e HXW.out HHB.out (by have := HN.out; simp only; omega) HPS.out (i : Int) hh (by simp only; rw [HN.out]) HHH.out).mono ?_; rintro e w9 ⟨rfl, rfl⟩) | go_in)
      go_quiet (fail)
      go_wp2_with fail
      exact bodyPost_ret (v := .tuple #[.string ⟨#[]⟩, .bool false, .int .i64 8]) (by simp [results, Try.results15, go_sem]) rfl ⟨rfl, v2, xs2, HXW.out.below (below_drew (Below.refl _ _) _), (HCW.out.trans (Chg.drew _ _)).mono (fun k e => .inl e), HOV2.out⟩

set_option maxHeartbeats 4000000 in
theorem radd_n8b {w : World} {q : Nat} {P : Pl} {v : Value} {xs : List Mv} (h : RPl w q P v xs) (hok : Pok P) (hsin : ∀ m, m ∈ P.l → U64 m.since) (id ix ct now : Int) (sz : ByteArray) (hsz : sz.size ≤ 1000000) (hnow : U64 now)
    (hr : rightF ⟨id, ix, ct, sz⟩ = true) (hc : ¬ ct = 1) (K : Nat) (hK : ∀ j, j < (expM now P.l).length → ((headM ((expM now P.l).getD j ⟨[], 0⟩)).id = id ↔ j = K)) (hKN : (expM now P.l).length ≤ K) (hs : ¬ P.slots ≤ ((expM now P.l).length : Int)) (hb : P.bytes < (heldM (expM now P.l) : Int) + (sz.size : Int)) :
    Calls Try.prog 15 #[.pointer (some ⟨q, 0, none⟩), .agg #[.int .u64 id, .int .i64 ix, .int .i64 ct, .string sz], .int .u64 now] w fun e w' => e = .returned (.tuple #[.string ⟨#[]⟩, .bool false, .int .i64 8]) ∧ ∃ v' xs', RPl w' q { P with l := expM now P.l } v' xs' ∧ Chg (fun k => k = q ∨ some k = v.ownBlock) w w' ∧ ∀ k, v'.ownBlock = some k → some k = v.ownBlock ∨ w.heap.size ≤ k := by
  have HH := Lib.hid h
  have HOK := Lib.hid hok
  have HSI := Lib.hid hsin
  have HSZ := Lib.hid hsz
  have HNW := Lib.hid hnow
  have HR : Hid (rightF ⟨id, ix, ct, sz⟩ = true) := Lib.hid hr
  have HLE : Hid (P.l.length ≤ 1000) := Lib.hid (by have h1 := hok.many; have h2 := hok.s2; omega)
  have HO1 : Hid (Pok { P with l := expM now P.l }) := Lib.hid (hok.exp now)
  have hcb : (ct == 1) = false := by simpa using hc
  obtain ⟨L1, hL1⟩ : ∃ L1, expM now P.l = L1 := ⟨_, rfl⟩
  have HL1 := Lib.hid hL1
  rw [hL1] at HO1 hK hKN hs hb
  have HK := Lib.hid hK
  obtain ⟨n, hn⟩ : ∃ n, L1.length = n := ⟨_, rfl⟩
  have HN := Lib.hid hn
  have hn16 : (n : Int) ≤ 16 := by have h1 := HO1.out.many; have h2 := HO1.out.s2; simp only at h1 h2; omega
  rw [hL1]
  have HKN : Hid (n ≤ K) := Lib.hid (by rw [← hn]; exact hKN)
  clear hKN
  rw [hn] at hs
  clear hK hL1 hn
  obtain ⟨u1, hu1⟩ : ∃ u1, u1 = w.alloc (.cells #[.int .u64 id, .int .i64 ix, .int .i64 ct, .string sz] 40) := ⟨_, rfl⟩
  obtain ⟨B, hB0⟩ : ∃ B, B = w.heap.size := ⟨_, rfl⟩
  have hb1 : Below w.heap.size w u1 := by rw [hu1]; exact below_alloc w _
  have hbx : u1.heap[B]? = some (.cells #[.int .u64 id, .int .i64 ix, .int .i64 ct, .string sz] 40 (0, 0)) := by rw [hu1, hB0]; exact heap_alloc_new w _
  have HBX := Lib.hid hbx
  have HU1 := Lib.hid hb1
  have HUE := Lib.hid hu1
  have HBE := Lib.hid hB0
  have HPL := Lib.hid (blk_lt h.blk)
  have HSM : Hid (sz.size ≤ maxLen) := Lib.hid (by unfold maxLen; omega)
  obtain ⟨a0, a1, a2, a3⟩ := bx4 hbx
  clear h hok hsin hsz hnow hr hb1 hbx
  go_enter Try.func15, Try.ntmps15
  go_upto_region 1 with fail
  rw [← hu1, ← hB0]
  clear hu1 hB0
  go_wp2_with (first
    | (go_at_call 30; refine (rright_f id ix ct sz _ HSM.out true HR).mono ?_; rintro e w1 ⟨rfl, hb1⟩; have HB1 : Hid (Below w.heap.size w w1) := Lib.hid (HU1.out.trans (hb1.mono HU1.out.size)); have HX1 := Lib.hid ((hb1.block B (blk_lt HBX.out)).trans HBX.out); clear hb1 a0 a1 a2 a3)
    | (go_at_call 12; refine (rexp_k (HH.out.below HB1.out) HLE.out HSI.out now HNW.out).mono ?_; rintro e w2 ⟨rfl, v2, xs2, hx2, hch, hov⟩; have HOV2 : Hid (∀ k, v2.ownBlock = some k → some k = v.ownBlock ∨ w.heap.size ≤ k) := Lib.hid (own_up hov HB1.out.size); have HX2 := Lib.hid hx2; have HC2 := Lib.hid ((Chg.of_below HB1.out).trans hch); have HBX2 := Lib.hid (hch.blk HX1.out (fun e => by have := HPL.out; have := HBE.out; omega)); obtain ⟨x0, x1, x2, x3⟩ := bx4 HBX2.out; clear hx2 hch hov)
    | go_in)
  have HX3 : Hid (RPl w2 q { P with l := L1 } v2 xs2) := Lib.hid (by have := HX2.out; rw [HL1.out] at this; exact this)
  have HXN : Hid (xs2.length = n) := Lib.hid (by rw [HX3.out.len]; exact HN.out)
  clear x0 x1 x2 x3 HX2
  go_loopw [9, 10] (fun x9 x10 wr => ∃ (i : Nat) (y : Int), i ≤ n ∧ x9 = .int .i64 y ∧ x10 = .int .i64 i ∧ Hid (y = if K < i then (K : Int) else -1) ∧ Hid (Below w2.heap.size w2 wr)) (fun _ x10 _ => n - (intG x10).toNat)
  case atStart => exact ⟨0, -1, Nat.zero_le _, rfl, rfl, Lib.hid (by rw [if_neg (by omega)]), Lib.hid (Below.refl _ _)⟩
  case round =>
    obtain ⟨i, y, hi, rfl, rfl, HY, HW⟩ := hrel
    have HXW := Lib.hid (HX3.out.below HW.out)
    have HBW := Lib.hid ((HW.out.block B (blk_lt HBX2.out)).trans HBX2.out)
    by_cases hin : i < n
    · obtain ⟨a, cap, g, hv, c0, _, _, _, d1, d2, hrw⟩ := HXW.out.cells
      obtain ⟨rfl, e0, _, _⟩ := hrw i (by rw [HXN.out]; exact hin)
      obtain ⟨b, cb, gb, hvb, f1, f2, hrb⟩ := HXW.out.parts (j := i) (by rw [HXN.out]; exact hin)
      have hm9 : (xs2.getD i zeroG).1 ∈ L1 := by have := HX3.out.fst; simp only at this; rw [← this]; exact List.mem_map.2 ⟨_, HX3.out.at (by rw [HXN.out]; exact hin), rfl⟩
      have hmok := HO1.out.each _ hm9
      have hpos : 0 < (xs2.getD i zeroG).1.parts.length := List.length_pos_iff.2 hmok.some_
      obtain ⟨rfl, k0, _, _, _⟩ := hrb 0 hpos
      have hhd : (headM (xs2.getD i zeroG).1).id = ((xs2.getD i zeroG).1.parts.getD 0 zeroF).id := rfl
      obtain ⟨bid, hbid⟩ : ∃ bid, ((xs2.getD i zeroG).1.parts.getD 0 zeroF).id = bid := ⟨_, rfl⟩
      have hKi := HK.out i (by rw [HN.out]; exact hin)
      rw [← fst_getD HX3.out.fst (by rw [HXN.out]; exact hin), hhd, hbid] at hKi
      rw [hvb] at e0
      rw [hbid] at k0
      obtain ⟨nb, hnb⟩ : ∃ nb, (xs2.getD i zeroG).1.parts.length = nb := ⟨_, rfl⟩
      rw [hnb] at e0 hpos f1
      rw [HXN.out] at c0 d1
      have i1 : (i : Int) < (n : Int) := by omega
      have p1 : (0 : Int) < (nb : Int) := by omega
      have HI := Lib.hid hin
      obtain ⟨z0, _, _, _⟩ := bx4 HBW.out
      simp only [Nat.zero_mul] at k0
      clear hv hrw hvb hrb hm9 hmok hhd hbid hnb hi hin d2 f2
      by_cases hiK : i = K
      · have hbe : bid = id := hKi.2 hiK
        rw [hbe] at k0
        clear hbe
        have HIK := Lib.hid hiK
        clear hiK hKi
        go_wp2_with fail
        go_quiet (fail)
        go_wp2_with fail
        go_roundw
        case rel => exact ⟨i + 1, (i : Int), HI.out, rfl, by go_num, Lib.hid (by rw [if_pos (by have := HIK.out; omega), HIK.out]), Lib.hid (below_drew HW.out _)⟩
        case measure => have := HI.out; simp [intG]; omega
      · have hbe : ¬ bid = id := fun e => hiK (hKi.1 e)
        have HIK := Lib.hid hiK
        clear hiK hKi
        go_wp2_with fail
        go_quiet (fail)
        go_wp2_with fail
        go_roundw
        case rel => exact ⟨i + 1, y, HI.out, rfl, by go_num, Lib.hid (by
          have h9 := HIK.out
          rw [HY.out]
          by_cases hq : K < i
          · rw [if_pos hq, if_pos (by omega)]
          · rw [if_neg hq, if_neg (by omega)]), Lib.hid (below_drew HW.out _)⟩
        case measure => have := HI.out; simp [intG]; omega
    · obtain rfl : i = n := by omega
      have t0 : decide (i < i) = false := decide_eq_false (Nat.lt_irrefl _)
      clear hi hin
      have HCW := Lib.hid (HC2.out.trans (Chg.of_below HW.out))
      obtain ⟨a, cap, g, hv, c0, c1, c2, fz, d1, d2, hrw⟩ := HXW.out.cells
      rw [HXN.out] at c0 d1
      have HRW := Lib.hid hrw
      have HV := Lib.hid hv
      obtain ⟨z0, z1, z2, z3⟩ := bx4 HBW.out
      clear hrw hv
      obtain ⟨hh, hhh⟩ : ∃ hh : Int, (heldM L1 : Int) = hh := ⟨_, rfl⟩
      have HHH := Lib.hid hhh
      have hhb : 0 ≤ hh ∧ hh ≤ 65536 := by have h1 := HO1.out.held; have h2 := HO1.out.b2; simp only at h1 h2; omega
      have HHB : Hid (heldM L1 ≤ 65536) := Lib.hid (by have h1 := HO1.out.held; have h2 := HO1.out.b2; simp only at h1 h2; omega)
      have HPS : Hid (∀ m, m ∈ L1 → m.parts.length ≤ 1000) := Lib.hid (fun m hm => parts_few (HO1.out.each m hm))
      have hwr : IntKind.i64.wrap (hh + (sz.size : Int)) = hh + (sz.size : Int) := i64_mill (by omega) (by have := HSZ.out; omega)
      obtain ⟨h0, h65⟩ := hhb
      clear hhh h65 h0
      rw [HHH.out] at hb
      have HYN : Hid (y = -1) := Lib.hid (by rw [HY.out, if_neg (by have := HKN.out; omega)])
      obtain rfl := HYN.out
      go_wp2_with (first | (go_at_call 18; refine (rheld_e HXW.out HHB.out (by have := HN.out; simp only; omega) HPS.out (i : Int) hh (by simp only; rw [HN.out]) HHH.out).mono ?_; rintro e w9 ⟨rfl, rfl⟩) | go_in)
      go_quiet (fail)
      go_wp2_with fail
      exact bodyPost_ret (v := .tuple #[.string ⟨#[]⟩, .bool false, .int .i64 8]) (by simp [results, Try.results15, go_sem]) rfl ⟨rfl, v2, xs2, HXW.out.below (below_drew (Below.refl _ _) _), (HCW.out.trans (Chg.drew _ _)).mono (fun k e => .inl e), HOV2.out⟩

set_option maxHeartbeats 4000000 in
theorem radd_s3 {w : World} {q : Nat} {P : Pl} {v : Value} {xs : List Mv} (h : RPl w q P v xs) (hok : Pok P) (hsin : ∀ m, m ∈ P.l → U64 m.since) (id ix ct now : Int) (sz : ByteArray) (hsz : sz.size ≤ 1000000) (hnow : U64 now)
    (hr : rightF ⟨id, ix, ct, sz⟩ = true) (hc : ¬ ct = 1) (K : Nat) (hK : ∀ j, j < (expM now P.l).length → ((headM ((expM now P.l).getD j ⟨[], 0⟩)).id = id ↔ j = K)) (hKN : K < (expM now P.l).length) (m : Ms) (hm : (expM now P.l).getD K ⟨[], 0⟩ = m) (h3 : ¬ (headM m).ct = ct) :
    Calls Try.prog 15 #[.pointer (some ⟨q, 0, none⟩), .agg #[.int .u64 id, .int .i64 ix, .int .i64 ct, .string sz], .int .u64 now] w fun e w' => e = .returned (.tuple #[.string ⟨#[]⟩, .bool false, .int .i64 3]) ∧ ∃ v' xs', RPl w' q { P with l := expM now P.l } v' xs' ∧ Chg (fun k => k = q ∨ some k = v.ownBlock) w w' ∧ ∀ k, v'.ownBlock = some k → some k = v.ownBlock ∨ w.heap.size ≤ k := by
  have HH := Lib.hid h
  have HOK := Lib.hid hok
  have HSI := Lib.hid hsin
  have HSZ := Lib.hid hsz
  have HNW := Lib.hid hnow
  have HR : Hid (rightF ⟨id, ix, ct, sz⟩ = true) := Lib.hid hr
  have HLE : Hid (P.l.length ≤ 1000) := Lib.hid (by have h1 := hok.many; have h2 := hok.s2; omega)
  have HO1 : Hid (Pok { P with l := expM now P.l }) := Lib.hid (hok.exp now)
  have hcb : (ct == 1) = false := by simpa using hc
  obtain ⟨L1, hL1⟩ : ∃ L1, expM now P.l = L1 := ⟨_, rfl⟩
  have HL1 := Lib.hid hL1
  rw [hL1] at HO1 hK hKN hm
  have HK := Lib.hid hK
  obtain ⟨n, hn⟩ : ∃ n, L1.length = n := ⟨_, rfl⟩
  have HN := Lib.hid hn
  have hn16 : (n : Int) ≤ 16 := by have h1 := HO1.out.many; have h2 := HO1.out.s2; simp only at h1 h2; omega
  rw [hL1]
  have HKN : Hid (K < n) := Lib.hid (by rw [← hn]; exact hKN)
  clear hKN
  have HMM := Lib.hid hm
  clear hm
  clear hK hL1 hn
  obtain ⟨u1, hu1⟩ : ∃ u1, u1 = w.alloc (.cells #[.int .u64 id, .int .i64 ix, .int .i64 ct, .string sz] 40) := ⟨_, rfl⟩
  obtain ⟨B, hB0⟩ : ∃ B, B = w.heap.size := ⟨_, rfl⟩
  have hb1 : Below w.heap.size w u1 := by rw [hu1]; exact below_alloc w _
  have hbx : u1.heap[B]? = some (.cells #[.int .u64 id, .int .i64 ix, .int .i64 ct, .string sz] 40 (0, 0)) := by rw [hu1, hB0]; exact heap_alloc_new w _
  have HBX := Lib.hid hbx
  have HU1 := Lib.hid hb1
  have HUE := Lib.hid hu1
  have HBE := Lib.hid hB0
  have HPL := Lib.hid (blk_lt h.blk)
  have HSM : Hid (sz.size ≤ maxLen) := Lib.hid (by unfold maxLen; omega)
  obtain ⟨a0, a1, a2, a3⟩ := bx4 hbx
  clear h hok hsin hsz hnow hr hb1 hbx
  go_enter Try.func15, Try.ntmps15
  go_upto_region 1 with fail
  rw [← hu1, ← hB0]
  clear hu1 hB0
  go_wp2_with (first
    | (go_at_call 30; refine (rright_f id ix ct sz _ HSM.out true HR).mono ?_; rintro e w1 ⟨rfl, hb1⟩; have HB1 : Hid (Below w.heap.size w w1) := Lib.hid (HU1.out.trans (hb1.mono HU1.out.size)); have HX1 := Lib.hid ((hb1.block B (blk_lt HBX.out)).trans HBX.out); clear hb1 a0 a1 a2 a3)
    | (go_at_call 12; refine (rexp_k (HH.out.below HB1.out) HLE.out HSI.out now HNW.out).mono ?_; rintro e w2 ⟨rfl, v2, xs2, hx2, hch, hov⟩; have HOV2 : Hid (∀ k, v2.ownBlock = some k → some k = v.ownBlock ∨ w.heap.size ≤ k) := Lib.hid (own_up hov HB1.out.size); have HX2 := Lib.hid hx2; have HC2 := Lib.hid ((Chg.of_below HB1.out).trans hch); have HBX2 := Lib.hid (hch.blk HX1.out (fun e => by have := HPL.out; have := HBE.out; omega)); obtain ⟨x0, x1, x2, x3⟩ := bx4 HBX2.out; clear hx2 hch hov)
    | go_in)
  have HX3 : Hid (RPl w2 q { P with l := L1 } v2 xs2) := Lib.hid (by have := HX2.out; rw [HL1.out] at this; exact this)
  have HXN : Hid (xs2.length = n) := Lib.hid (by rw [HX3.out.len]; exact HN.out)
  clear x0 x1 x2 x3 HX2
  go_loopw [9, 10] (fun x9 x10 wr => ∃ (i : Nat) (y : Int), i ≤ n ∧ x9 = .int .i64 y ∧ x10 = .int .i64 i ∧ Hid (y = if K < i then (K : Int) else -1) ∧ Hid (Below w2.heap.size w2 wr)) (fun _ x10 _ => n - (intG x10).toNat)
  case atStart => exact ⟨0, -1, Nat.zero_le _, rfl, rfl, Lib.hid (by rw [if_neg (by omega)]), Lib.hid (Below.refl _ _)⟩
  case round =>
    obtain ⟨i, y, hi, rfl, rfl, HY, HW⟩ := hrel
    have HXW := Lib.hid (HX3.out.below HW.out)
    have HBW := Lib.hid ((HW.out.block B (blk_lt HBX2.out)).trans HBX2.out)
    by_cases hin : i < n
    · obtain ⟨a, cap, g, hv, c0, _, _, _, d1, d2, hrw⟩ := HXW.out.cells
      obtain ⟨rfl, e0, _, _⟩ := hrw i (by rw [HXN.out]; exact hin)
      obtain ⟨b, cb, gb, hvb, f1, f2, hrb⟩ := HXW.out.parts (j := i) (by rw [HXN.out]; exact hin)
      have hm9 : (xs2.getD i zeroG).1 ∈ L1 := by have := HX3.out.fst; simp only at this; rw [← this]; exact List.mem_map.2 ⟨_, HX3.out.at (by rw [HXN.out]; exact hin), rfl⟩
      have hmok := HO1.out.each _ hm9
      have hpos : 0 < (xs2.getD i zeroG).1.parts.length := List.length_pos_iff.2 hmok.some_
      obtain ⟨rfl, k0, _, _, _⟩ := hrb 0 hpos
      have hhd : (headM (xs2.getD i zeroG).1).id = ((xs2.getD i zeroG).1.parts.getD 0 zeroF).id := rfl
      obtain ⟨bid, hbid⟩ : ∃ bid, ((xs2.getD i zeroG).1.parts.getD 0 zeroF).id = bid := ⟨_, rfl⟩
      have hKi := HK.out i (by rw [HN.out]; exact hin)
      rw [← fst_getD HX3.out.fst (by rw [HXN.out]; exact hin), hhd, hbid] at hKi
      rw [hvb] at e0
      rw [hbid] at k0
      obtain ⟨nb, hnb⟩ : ∃ nb, (xs2.getD i zeroG).1.parts.length = nb := ⟨_, rfl⟩
      rw [hnb] at e0 hpos f1
      rw [HXN.out] at c0 d1
      have i1 : (i : Int) < (n : Int) := by omega
      have p1 : (0 : Int) < (nb : Int) := by omega
      have HI := Lib.hid hin
      obtain ⟨z0, _, _, _⟩ := bx4 HBW.out
      simp only [Nat.zero_mul] at k0
      clear hv hrw hvb hrb hm9 hmok hhd hbid hnb hi hin d2 f2
      by_cases hiK : i = K
      · have hbe : bid = id := hKi.2 hiK
        rw [hbe] at k0
        clear hbe
        have HIK := Lib.hid hiK
        clear hiK hKi
        go_wp2_with fail
        go_quiet (fail)
        go_wp2_with fail
        go_roundw
        case rel => exact ⟨i + 1, (i : Int), HI.out, rfl, by go_num, Lib.hid (by rw [if_pos (by have := HIK.out; omega), HIK.out]), Lib.hid (below_drew HW.out _)⟩
        case measure => have := HI.out; simp [intG]; omega
      · have hbe : ¬ bid = id := fun e => hiK (hKi.1 e)
        have HIK := Lib.hid hiK
        clear hiK hKi
        go_wp2_with fail
        go_quiet (fail)
        go_wp2_with fail
        go_roundw
        case rel => exact ⟨i + 1, y, HI.out, rfl, by go_num, Lib.hid (by
          have h9 := HIK.out
          rw [HY.out]
          by_cases hq : K < i
          · rw [if_pos hq, if_pos (by omega)]
          · rw [if_neg hq, if_neg (by omega)]), Lib.hid (below_drew HW.out _)⟩
        case measure => have := HI.out; simp [intG]; omega
    · obtain rfl : i = n := by omega
      have t0 : decide (i < i) = false := decide_eq_false (Nat.lt_irrefl _)
      clear hi hin
      have HCW := Lib.hid (HC2.out.trans (Chg.of_below HW.out))
      obtain ⟨a, cap, g, hv, c0, c1, c2, fz, d1, d2, hrw⟩ := HXW.out.cells
      rw [HXN.out] at c0 d1
      have HRW := Lib.hid hrw
      have HV := Lib.hid hv
      obtain ⟨z0, z1, z2, z3⟩ := bx4 HBW.out
      clear hrw hv
      obtain ⟨hh, hhh⟩ : ∃ hh : Int, (heldM L1 : Int) = hh := ⟨_, rfl⟩
      have HHH := Lib.hid hhh
      have hhb : 0 ≤ hh ∧ hh ≤ 65536 := by have h1 := HO1.out.held; have h2 := HO1.out.b2; simp only at h1 h2; omega
      have HHB : Hid (heldM L1 ≤ 65536) := Lib.hid (by have h1 := HO1.out.held; have h2 := HO1.out.b2; simp only at h1 h2; omega)
      have HPS : Hid (∀ m, m ∈ L1 → m.parts.length ≤ 1000) := Lib.hid (fun m hm => parts_few (HO1.out.each m hm))
      have hwr : IntKind.i64.wrap (hh + (sz.size : Int)) = hh + (sz.size : Int) := i64_mill (by omega) (by have := HSZ.out; omega)
      obtain ⟨h0, h65⟩ := hhb
      clear hhh h65 h0
      have HYN : Hid (y = (K : Int)) := Lib.hid (by rw [HY.out, if_pos HKN.out])
      obtain rfl := HYN.out
      obtain ⟨rfl, e0, _, fzg⟩ := HRW.out K (by rw [HXN.out]; exact HKN.out)
      obtain ⟨b, cb, gb, hvb, f1, f2, hrb⟩ := HXW.out.parts (j := K) (by rw [HXN.out]; exact HKN.out)
      have hme : (xs2.getD K zeroG).1 = m := by rw [fst_getD HX3.out.fst (by rw [HXN.out]; exact HKN.out)]; exact HMM.out
      rw [hme] at hvb f1 hrb
      have hm9 : m ∈ L1 := by rw [← HMM.out, getD_some (by rw [HN.out]; exact HKN.out)]; exact List.getElem_mem _
      have hmok := HO1.out.each _ hm9
      have hpos : 0 < m.parts.length := List.length_pos_iff.2 hmok.some_
      obtain ⟨rfl, _, _, k2, _⟩ := hrb 0 hpos
      have hcte : (m.parts.getD 0 zeroF).ct = (headM m).ct := rfl
      rw [hcte] at k2
      simp only [Nat.zero_mul, Nat.zero_add] at k2
      obtain ⟨nb, hnb⟩ : ∃ nb, m.parts.length = nb := ⟨_, rfl⟩
      have hnbk : (nb : Int) ≤ 1000 := by have := parts_few hmok; omega
      rw [hvb] at e0
      rw [hnb] at e0 hpos f1
      have HNB := Lib.hid hnb
      have HRB := Lib.hid hrb
      have HM9 := Lib.hid hm9
      have HMO := Lib.hid hmok
      have HVB := Lib.hid hvb
      have HME := Lib.hid hme
      have hk1 : (K : Int) < (i : Int) := by have := HKN.out; omega
      have hp1 : (0 : Int) < (nb : Int) := by omega
      have hk0 : (0 : Int) ≤ (K : Int) := by omega
      clear hvb hrb hnb hme hm9 hmok hcte hpos f2 d2
      go_wp2_with (first | (go_at_call 18; refine (rheld_e HXW.out HHB.out (by have := HN.out; simp only; omega) HPS.out (i : Int) hh (by simp only; rw [HN.out]) HHH.out).mono ?_; rintro e w9 ⟨rfl, rfl⟩) | go_in)
      go_quiet (fail)
      have HX9 := Lib.hid (HXW.out.below (below_drew (Below.refl _ _) nq))
      have HC9 := Lib.hid (HCW.out.trans (Chg.drew (S := fun k => k = q) w9 nq))
      have HB9 := Lib.hid (show (w9.drewN nq).heap[B]? = _ from HBW.out)
      have HW9 := Lib.hid (below_drew (Below.refl w9.heap.size w9) nq)
      clear k2
      go_wp2_with fail
      exact bodyPost_ret (v := .tuple #[.string ⟨#[]⟩, .bool false, .int .i64 3]) (by simp [results, Try.results15, go_sem]) rfl ⟨rfl, v2, xs2, HX9.out, (HC9.out).mono (fun k e => .inl e), HOV2.out⟩

set_option maxHeartbeats 4000000 in
theorem radd_s6 {w : World} {q : Nat} {P : Pl} {v : Value} {xs : List Mv} (h : RPl w q P v xs) (hok : Pok P) (hsin : ∀ m, m ∈ P.l → U64 m.since) (id ix ct now : Int) (sz : ByteArray) (hsz : sz.size ≤ 1000000) (hnow : U64 now)
    (hr : rightF ⟨id, ix, ct, sz⟩ = true) (hc : ¬ ct = 1) (K : Nat) (hK : ∀ j, j < (expM now P.l).length → ((headM ((expM now P.l).getD j ⟨[], 0⟩)).id = id ↔ j = K)) (hKN : K < (expM now P.l).length) (m : Ms) (hm : (expM now P.l).getD K ⟨[], 0⟩ = m) (h3 : (headM m).ct = ct) (D : Nat) (hD : ∀ j, j < m.parts.length → ((m.parts.getD j zeroF).ix = ix ↔ j = D)) (hDn : D < m.parts.length) :
    Calls Try.prog 15 #[.pointer (some ⟨q, 0, none⟩), .agg #[.int .u64 id, .int .i64 ix, .int .i64 ct, .string sz], .int .u64 now] w fun e w' => e = .returned (.tuple #[.string ⟨#[]⟩, .bool false, .int .i64 6]) ∧ ∃ v' xs', RPl w' q { P with l := expM now P.l } v' xs' ∧ Chg (fun k => k = q ∨ some k = v.ownBlock) w w' ∧ ∀ k, v'.ownBlock = some k → some k = v.ownBlock ∨ w.heap.size ≤ k := by
  have HH := Lib.hid h
  have HOK := Lib.hid hok
  have HSI := Lib.hid hsin
  have HSZ := Lib.hid hsz
  have HNW := Lib.hid hnow
  have HR : Hid (rightF ⟨id, ix, ct, sz⟩ = true) := Lib.hid hr
  have HLE : Hid (P.l.length ≤ 1000) := Lib.hid (by have h1 := hok.many; have h2 := hok.s2; omega)
  have HO1 : Hid (Pok { P with l := expM now P.l }) := Lib.hid (hok.exp now)
  have hcb : (ct == 1) = false := by simpa using hc
  obtain ⟨L1, hL1⟩ : ∃ L1, expM now P.l = L1 := ⟨_, rfl⟩
  have HL1 := Lib.hid hL1
  rw [hL1] at HO1 hK hKN hm
  have HK := Lib.hid hK
  obtain ⟨n, hn⟩ : ∃ n, L1.length = n := ⟨_, rfl⟩
  have HN := Lib.hid hn
  have hn16 : (n : Int) ≤ 16 := by have h1 := HO1.out.many; have h2 := HO1.out.s2; simp only at h1 h2; omega
  rw [hL1]
  have HKN : Hid (K < n) := Lib.hid (by rw [← hn]; exact hKN)
  clear hKN
  have HMM := Lib.hid hm
  clear hm
  have HD := Lib.hid hD
  clear hD
  clear hK hL1 hn
  obtain ⟨u1, hu1⟩ : ∃ u1, u1 = w.alloc (.cells #[.int .u64 id, .int .i64 ix, .int .i64 ct, .string sz] 40) := ⟨_, rfl⟩
  obtain ⟨B, hB0⟩ : ∃ B, B = w.heap.size := ⟨_, rfl⟩
  have hb1 : Below w.heap.size w u1 := by rw [hu1]; exact below_alloc w _
  have hbx : u1.heap[B]? = some (.cells #[.int .u64 id, .int .i64 ix, .int .i64 ct, .string sz] 40 (0, 0)) := by rw [hu1, hB0]; exact heap_alloc_new w _
  have HBX := Lib.hid hbx
  have HU1 := Lib.hid hb1
  have HUE := Lib.hid hu1
  have HBE := Lib.hid hB0
  have HPL := Lib.hid (blk_lt h.blk)
  have HSM : Hid (sz.size ≤ maxLen) := Lib.hid (by unfold maxLen; omega)
  obtain ⟨a0, a1, a2, a3⟩ := bx4 hbx
  clear h hok hsin hsz hnow hr hb1 hbx
  go_enter Try.func15, Try.ntmps15
  go_upto_region 1 with fail
  rw [← hu1, ← hB0]
  clear hu1 hB0
  go_wp2_with (first
    | (go_at_call 30; refine (rright_f id ix ct sz _ HSM.out true HR).mono ?_; rintro e w1 ⟨rfl, hb1⟩; have HB1 : Hid (Below w.heap.size w w1) := Lib.hid (HU1.out.trans (hb1.mono HU1.out.size)); have HX1 := Lib.hid ((hb1.block B (blk_lt HBX.out)).trans HBX.out); clear hb1 a0 a1 a2 a3)
    | (go_at_call 12; refine (rexp_k (HH.out.below HB1.out) HLE.out HSI.out now HNW.out).mono ?_; rintro e w2 ⟨rfl, v2, xs2, hx2, hch, hov⟩; have HOV2 : Hid (∀ k, v2.ownBlock = some k → some k = v.ownBlock ∨ w.heap.size ≤ k) := Lib.hid (own_up hov HB1.out.size); have HX2 := Lib.hid hx2; have HC2 := Lib.hid ((Chg.of_below HB1.out).trans hch); have HBX2 := Lib.hid (hch.blk HX1.out (fun e => by have := HPL.out; have := HBE.out; omega)); obtain ⟨x0, x1, x2, x3⟩ := bx4 HBX2.out; clear hx2 hch hov)
    | go_in)
  have HX3 : Hid (RPl w2 q { P with l := L1 } v2 xs2) := Lib.hid (by have := HX2.out; rw [HL1.out] at this; exact this)
  have HXN : Hid (xs2.length = n) := Lib.hid (by rw [HX3.out.len]; exact HN.out)
  clear x0 x1 x2 x3 HX2
  go_loopw [9, 10] (fun x9 x10 wr => ∃ (i : Nat) (y : Int), i ≤ n ∧ x9 = .int .i64 y ∧ x10 = .int .i64 i ∧ Hid (y = if K < i then (K : Int) else -1) ∧ Hid (Below w2.heap.size w2 wr)) (fun _ x10 _ => n - (intG x10).toNat)
  case atStart => exact ⟨0, -1, Nat.zero_le _, rfl, rfl, Lib.hid (by rw [if_neg (by omega)]), Lib.hid (Below.refl _ _)⟩
  case round =>
    obtain ⟨i, y, hi, rfl, rfl, HY, HW⟩ := hrel
    have HXW := Lib.hid (HX3.out.below HW.out)
    have HBW := Lib.hid ((HW.out.block B (blk_lt HBX2.out)).trans HBX2.out)
    by_cases hin : i < n
    · obtain ⟨a, cap, g, hv, c0, _, _, _, d1, d2, hrw⟩ := HXW.out.cells
      obtain ⟨rfl, e0, _, _⟩ := hrw i (by rw [HXN.out]; exact hin)
      obtain ⟨b, cb, gb, hvb, f1, f2, hrb⟩ := HXW.out.parts (j := i) (by rw [HXN.out]; exact hin)
      have hm9 : (xs2.getD i zeroG).1 ∈ L1 := by have := HX3.out.fst; simp only at this; rw [← this]; exact List.mem_map.2 ⟨_, HX3.out.at (by rw [HXN.out]; exact hin), rfl⟩
      have hmok := HO1.out.each _ hm9
      have hpos : 0 < (xs2.getD i zeroG).1.parts.length := List.length_pos_iff.2 hmok.some_
      obtain ⟨rfl, k0, _, _, _⟩ := hrb 0 hpos
      have hhd : (headM (xs2.getD i zeroG).1).id = ((xs2.getD i zeroG).1.parts.getD 0 zeroF).id := rfl
      obtain ⟨bid, hbid⟩ : ∃ bid, ((xs2.getD i zeroG).1.parts.getD 0 zeroF).id = bid := ⟨_, rfl⟩
      have hKi := HK.out i (by rw [HN.out]; exact hin)
      rw [← fst_getD HX3.out.fst (by rw [HXN.out]; exact hin), hhd, hbid] at hKi
      rw [hvb] at e0
      rw [hbid] at k0
      obtain ⟨nb, hnb⟩ : ∃ nb, (xs2.getD i zeroG).1.parts.length = nb := ⟨_, rfl⟩
      rw [hnb] at e0 hpos f1
      rw [HXN.out] at c0 d1
      have i1 : (i : Int) < (n : Int) := by omega
      have p1 : (0 : Int) < (nb : Int) := by omega
      have HI := Lib.hid hin
      obtain ⟨z0, _, _, _⟩ := bx4 HBW.out
      simp only [Nat.zero_mul] at k0
      clear hv hrw hvb hrb hm9 hmok hhd hbid hnb hi hin d2 f2
      by_cases hiK : i = K
      · have hbe : bid = id := hKi.2 hiK
        rw [hbe] at k0
        clear hbe
        have HIK := Lib.hid hiK
        clear hiK hKi
        go_wp2_with fail
        go_quiet (fail)
        go_wp2_with fail
        go_roundw
        case rel => exact ⟨i + 1, (i : Int), HI.out, rfl, by go_num, Lib.hid (by rw [if_pos (by have := HIK.out; omega), HIK.out]), Lib.hid (below_drew HW.out _)⟩
        case measure => have := HI.out; simp [intG]; omega
      · have hbe : ¬ bid = id := fun e => hiK (hKi.1 e)
        have HIK := Lib.hid hiK
        clear hiK hKi
        go_wp2_with fail
        go_quiet (fail)
        go_wp2_with fail
        go_roundw
        case rel => exact ⟨i + 1, y, HI.out, rfl, by go_num, Lib.hid (by
          have h9 := HIK.out
          rw [HY.out]
          by_cases hq : K < i
          · rw [if_pos hq, if_pos (by omega)]
          · rw [if_neg hq, if_neg (by omega)]), Lib.hid (below_drew HW.out _)⟩
        case measure => have := HI.out; simp [intG]; omega
    · obtain rfl : i = n := by omega
      have t0 : decide (i < i) = false := decide_eq_false (Nat.lt_irrefl _)
      clear hi hin
      have HCW := Lib.hid (HC2.out.trans (Chg.of_below HW.out))
      obtain ⟨a, cap, g, hv, c0, c1, c2, fz, d1, d2, hrw⟩ := HXW.out.cells
      rw [HXN.out] at c0 d1
      have HRW := Lib.hid hrw
      have HV := Lib.hid hv
      obtain ⟨z0, z1, z2, z3⟩ := bx4 HBW.out
      clear hrw hv
      obtain ⟨hh, hhh⟩ : ∃ hh : Int, (heldM L1 : Int) = hh := ⟨_, rfl⟩
      have HHH := Lib.hid hhh
      have hhb : 0 ≤ hh ∧ hh ≤ 65536 := by have h1 := HO1.out.held; have h2 := HO1.out.b2; simp only at h1 h2; omega
      have HHB : Hid (heldM L1 ≤ 65536) := Lib.hid (by have h1 := HO1.out.held; have h2 := HO1.out.b2; simp only at h1 h2; omega)
      have HPS : Hid (∀ m, m ∈ L1 → m.parts.length ≤ 1000) := Lib.hid (fun m hm => parts_few (HO1.out.each m hm))
      have hwr : IntKind.i64.wrap (hh + (sz.size : Int)) = hh + (sz.size : Int) := i64_mill (by omega) (by have := HSZ.out; omega)
      obtain ⟨h0, h65⟩ := hhb
      clear hhh h65 h0
      have HYN : Hid (y = (K : Int)) := Lib.hid (by rw [HY.out, if_pos HKN.out])
      obtain rfl := HYN.out
      obtain ⟨rfl, e0, _, fzg⟩ := HRW.out K (by rw [HXN.out]; exact HKN.out)
      obtain ⟨b, cb, gb, hvb, f1, f2, hrb⟩ := HXW.out.parts (j := K) (by rw [HXN.out]; exact HKN.out)
      have hme : (xs2.getD K zeroG).1 = m := by rw [fst_getD HX3.out.fst (by rw [HXN.out]; exact HKN.out)]; exact HMM.out
      rw [hme] at hvb f1 hrb
      have hm9 : m ∈ L1 := by rw [← HMM.out, getD_some (by rw [HN.out]; exact HKN.out)]; exact List.getElem_mem _
      have hmok := HO1.out.each _ hm9
      have hpos : 0 < m.parts.length := List.length_pos_iff.2 hmok.some_
      obtain ⟨rfl, _, _, k2, _⟩ := hrb 0 hpos
      have hcte : (m.parts.getD 0 zeroF).ct = (headM m).ct := rfl
      rw [hcte] at k2
      simp only [Nat.zero_mul, Nat.zero_add] at k2
      obtain ⟨nb, hnb⟩ : ∃ nb, m.parts.length = nb := ⟨_, rfl⟩
      have hnbk : (nb : Int) ≤ 1000 := by have := parts_few hmok; omega
      rw [hvb] at e0
      rw [hnb] at e0 hpos f1
      have HNB := Lib.hid hnb
      have HRB := Lib.hid hrb
      have HM9 := Lib.hid hm9
      have HMO := Lib.hid hmok
      have HVB := Lib.hid hvb
      have HME := Lib.hid hme
      have hk1 : (K : Int) < (i : Int) := by have := HKN.out; omega
      have hp1 : (0 : Int) < (nb : Int) := by omega
      have hk0 : (0 : Int) ≤ (K : Int) := by omega
      clear hvb hrb hnb hme hm9 hmok hcte hpos f2 d2
      rw [HNB.out] at hDn
      rw [h3] at k2
      go_wp2_with (first | (go_at_call 18; refine (rheld_e HXW.out HHB.out (by have := HN.out; simp only; omega) HPS.out (i : Int) hh (by simp only; rw [HN.out]) HHH.out).mono ?_; rintro e w9 ⟨rfl, rfl⟩) | go_in)
      go_quiet (fail)
      have HX9 := Lib.hid (HXW.out.below (below_drew (Below.refl _ _) nq))
      have HC9 := Lib.hid (HCW.out.trans (Chg.drew (S := fun k => k = q) w9 nq))
      have HB9 := Lib.hid (show (w9.drewN nq).heap[B]? = _ from HBW.out)
      have HW9 := Lib.hid (below_drew (Below.refl w9.heap.size w9) nq)
      clear c0 c1 c2 fz fzg e0 k2 z0 z1 z2 z3
      go_wp2_with fail
      go_loopw [14] (fun x14 wq => ∃ j : Nat, j ≤ nb ∧ j ≤ D ∧ x14 = .int .i64 j ∧ Hid (Below w9.heap.size w9 wq)) (fun x14 _ => nb - (intG x14).toNat)
      case atStart => exact ⟨0, Nat.zero_le _, Nat.zero_le _, rfl, HW9⟩
      case round =>
        clear HX9 HC9 HB9 HW9
        obtain ⟨j, hj, hjD, rfl, HWQ⟩ := hrel
        have HXQ := Lib.hid (HXW.out.below HWQ.out)
        have HBQ := Lib.hid ((HWQ.out.block B (blk_lt HBW.out)).trans HBW.out)
        have HCQ := Lib.hid (HCW.out.trans (Chg.of_below (S := fun k => k = q) HWQ.out))
        obtain ⟨z0, z1, z2, z3⟩ := bx4 HBQ.out
        by_cases hjn : j < nb
        · obtain ⟨_, _, r1, _, _⟩ := HRB.out j (by rw [HNB.out]; exact hjn)
          have r1' := (HWQ.out.cell (block_lt_of_cell r1)).trans r1
          obtain ⟨jx, hjx⟩ : ∃ jx, (m.parts.getD j zeroF).ix = jx := ⟨_, rfl⟩
          have hDj := HD.out j (by rw [HNB.out]; exact hjn)
          rw [hjx] at r1' hDj
          have j1 : (j : Int) < (nb : Int) := by omega
          have HJ := Lib.hid hjn
          have HJD := Lib.hid hjD
          clear r1 hjx hj hjn hjD
          by_cases hjx : j = D
          · have hje : jx = ix := hDj.2 hjx
            rw [hje] at r1'
            clear hje hDj hjx
            go_wp2_with fail
            go_quiet (fail)
            go_wp2_with fail
            exact bodyPost_ret (v := .tuple #[.string ⟨#[]⟩, .bool false, .int .i64 6]) (by simp [results, Try.results15, go_sem]) rfl ⟨rfl, v2, xs2, HXQ.out.below (below_drew (Below.refl _ _) _), (HCQ.out.trans (Chg.drew _ _)).mono (fun k e => .inl e), HOV2.out⟩
          · have hne : ¬ jx = ix := fun e => hjx (hDj.1 e)
            have HJX := Lib.hid hjx
            clear hjx hDj
            go_wp2_with fail
            go_quiet (fail)
            go_wp2_with fail
            go_roundw
            case rel => exact ⟨j + 1, HJ.out, by have := HJX.out; have := HJD.out; omega, by go_num, Lib.hid (below_drew HWQ.out _)⟩
            case measure => have := HJ.out; simp [intG]; omega
        · obtain rfl : j = nb := by omega
          have t1 : decide (j < j) = false := decide_eq_false (Nat.lt_irrefl _)
          omega

set_option maxHeartbeats 4000000 in
theorem radd_s8 {w : World} {q : Nat} {P : Pl} {v : Value} {xs : List Mv} (h : RPl w q P v xs) (hok : Pok P) (hsin : ∀ m, m ∈ P.l → U64 m.since) (id ix ct now : Int) (sz : ByteArray) (hsz : sz.size ≤ 1000000) (hnow : U64 now)
    (hr : rightF ⟨id, ix, ct, sz⟩ = true) (hc : ¬ ct = 1) (K : Nat) (hK : ∀ j, j < (expM now P.l).length → ((headM ((expM now P.l).getD j ⟨[], 0⟩)).id = id ↔ j = K)) (hKN : K < (expM now P.l).length) (m : Ms) (hm : (expM now P.l).getD K ⟨[], 0⟩ = m) (h3 : (headM m).ct = ct) (D : Nat) (hD : ∀ j, j < m.parts.length → ((m.parts.getD j zeroF).ix = ix ↔ j = D)) (hDn : m.parts.length ≤ D) (hb : P.bytes < (heldM (expM now P.l) : Int) + (sz.size : Int)) :
    Calls Try.prog 15 #[.pointer (some ⟨q, 0, none⟩), .agg #[.int .u64 id, .int .i64 ix, .int .i64 ct, .string sz], .int .u64 now] w fun e w' => e = .returned (.tuple #[.string ⟨#[]⟩, .bool false, .int .i64 8]) ∧ ∃ v' xs', RPl w' q { P with l := expM now P.l } v' xs' ∧ Chg (fun k => k = q ∨ some k = v.ownBlock) w w' ∧ ∀ k, v'.ownBlock = some k → some k = v.ownBlock ∨ w.heap.size ≤ k := by
  have HH := Lib.hid h
  have HOK := Lib.hid hok
  have HSI := Lib.hid hsin
  have HSZ := Lib.hid hsz
  have HNW := Lib.hid hnow
  have HR : Hid (rightF ⟨id, ix, ct, sz⟩ = true) := Lib.hid hr
  have HLE : Hid (P.l.length ≤ 1000) := Lib.hid (by have h1 := hok.many; have h2 := hok.s2; omega)
  have HO1 : Hid (Pok { P with l := expM now P.l }) := Lib.hid (hok.exp now)
  have hcb : (ct == 1) = false := by simpa using hc
  obtain ⟨L1, hL1⟩ : ∃ L1, expM now P.l = L1 := ⟨_, rfl⟩
  have HL1 := Lib.hid hL1
  rw [hL1] at HO1 hK hKN hm hb
  have HK := Lib.hid hK
  obtain ⟨n, hn⟩ : ∃ n, L1.length = n := ⟨_, rfl⟩
  have HN := Lib.hid hn
  have hn16 : (n : Int) ≤ 16 := by have h1 := HO1.out.many; have h2 := HO1.out.s2; simp only at h1 h2; omega
  rw [hL1]
  have HKN : Hid (K < n) := Lib.hid (by rw [← hn]; exact hKN)
  clear hKN
  have HMM := Lib.hid hm
  clear hm
  have HD := Lib.hid hD
  clear hD
  clear hK hL1 hn
  obtain ⟨u1, hu1⟩ : ∃ u1, u1 = w.alloc (.cells #[.int .u64 id, .int .i64 ix, .int .i64 ct, .string sz] 40) := ⟨_, rfl⟩
  obtain ⟨B, hB0⟩ : ∃ B, B = w.heap.size := ⟨_, rfl⟩
  have hb1 : Below w.heap.size w u1 := by rw [hu1]; exact below_alloc w _
  have hbx : u1.heap[B]? = some (.cells #[.int .u64 id, .int .i64 ix, .int .i64 ct, .string sz] 40 (0, 0)) := by rw [hu1, hB0]; exact heap_alloc_new w _
  have HBX := Lib.hid hbx
  have HU1 := Lib.hid hb1
  have HUE := Lib.hid hu1
  have HBE := Lib.hid hB0
  have HPL := Lib.hid (blk_lt h.blk)
  have HSM : Hid (sz.size ≤ maxLen) := Lib.hid (by unfold maxLen; omega)
  obtain ⟨a0, a1, a2, a3⟩ := bx4 hbx
  clear h hok hsin hsz hnow hr hb1 hbx
  go_enter Try.func15, Try.ntmps15
  go_upto_region 1 with fail
  rw [← hu1, ← hB0]
  clear hu1 hB0
  go_wp2_with (first
    | (go_at_call 30; refine (rright_f id ix ct sz _ HSM.out true HR).mono ?_; rintro e w1 ⟨rfl, hb1⟩; have HB1 : Hid (Below w.heap.size w w1) := Lib.hid (HU1.out.trans (hb1.mono HU1.out.size)); have HX1 := Lib.hid ((hb1.block B (blk_lt HBX.out)).trans HBX.out); clear hb1 a0 a1 a2 a3)
    | (go_at_call 12; refine (rexp_k (HH.out.below HB1.out) HLE.out HSI.out now HNW.out).mono ?_; rintro e w2 ⟨rfl, v2, xs2, hx2, hch, hov⟩; have HOV2 : Hid (∀ k, v2.ownBlock = some k → some k = v.ownBlock ∨ w.heap.size ≤ k) := Lib.hid (own_up hov HB1.out.size); have HX2 := Lib.hid hx2; have HC2 := Lib.hid ((Chg.of_below HB1.out).trans hch); have HBX2 := Lib.hid (hch.blk HX1.out (fun e => by have := HPL.out; have := HBE.out; omega)); obtain ⟨x0, x1, x2, x3⟩ := bx4 HBX2.out; clear hx2 hch hov)
    | go_in)
  have HX3 : Hid (RPl w2 q { P with l := L1 } v2 xs2) := Lib.hid (by have := HX2.out; rw [HL1.out] at this; exact this)
  have HXN : Hid (xs2.length = n) := Lib.hid (by rw [HX3.out.len]; exact HN.out)
  clear x0 x1 x2 x3 HX2
  go_loopw [9, 10] (fun x9 x10 wr => ∃ (i : Nat) (y : Int), i ≤ n ∧ x9 = .int .i64 y ∧ x10 = .int .i64 i ∧ Hid (y = if K < i then (K : Int) else -1) ∧ Hid (Below w2.heap.size w2 wr)) (fun _ x10 _ => n - (intG x10).toNat)
  case atStart => exact ⟨0, -1, Nat.zero_le _, rfl, rfl, Lib.hid (by rw [if_neg (by omega)]), Lib.hid (Below.refl _ _)⟩
  case round =>
    obtain ⟨i, y, hi, rfl, rfl, HY, HW⟩ := hrel
    have HXW := Lib.hid (HX3.out.below HW.out)
    have HBW := Lib.hid ((HW.out.block B (blk_lt HBX2.out)).trans HBX2.out)
    by_cases hin : i < n
    · obtain ⟨a, cap, g, hv, c0, _, _, _, d1, d2, hrw⟩ := HXW.out.cells
      obtain ⟨rfl, e0, _, _⟩ := hrw i (by rw [HXN.out]; exact hin)
      obtain ⟨b, cb, gb, hvb, f1, f2, hrb⟩ := HXW.out.parts (j := i) (by rw [HXN.out]; exact hin)
      have hm9 : (xs2.getD i zeroG).1 ∈ L1 := by have := HX3.out.fst; simp only at this; rw [← this]; exact List.mem_map.2 ⟨_, HX3.out.at (by rw [HXN.out]; exact hin), rfl⟩
      have hmok := HO1.out.each _ hm9
      have hpos : 0 < (xs2.getD i zeroG).1.parts.length := List.length_pos_iff.2 hmok.some_
      obtain ⟨rfl, k0, _, _, _⟩ := hrb 0 hpos
      have hhd : (headM (xs2.getD i zeroG).1).id = ((xs2.getD i zeroG).1.parts.getD 0 zeroF).id := rfl
      obtain ⟨bid, hbid⟩ : ∃ bid, ((xs2.getD i zeroG).1.parts.getD 0 zeroF).id = bid := ⟨_, rfl⟩
      have hKi := HK.out i (by rw [HN.out]; exact hin)
      rw [← fst_getD HX3.out.fst (by rw [HXN.out]; exact hin), hhd, hbid] at hKi
      rw [hvb] at e0
      rw [hbid] at k0
      obtain ⟨nb, hnb⟩ : ∃ nb, (xs2.getD i zeroG).1.parts.length = nb := ⟨_, rfl⟩
      rw [hnb] at e0 hpos f1
      rw [HXN.out] at c0 d1
      have i1 : (i : Int) < (n : Int) := by omega
      have p1 : (0 : Int) < (nb : Int) := by omega
      have HI := Lib.hid hin
      obtain ⟨z0, _, _, _⟩ := bx4 HBW.out
      simp only [Nat.zero_mul] at k0
      clear hv hrw hvb hrb hm9 hmok hhd hbid hnb hi hin d2 f2
      by_cases hiK : i = K
      · have hbe : bid = id := hKi.2 hiK
        rw [hbe] at k0
        clear hbe
        have HIK := Lib.hid hiK
        clear hiK hKi
        go_wp2_with fail
        go_quiet (fail)
        go_wp2_with fail
        go_roundw
        case rel => exact ⟨i + 1, (i : Int), HI.out, rfl, by go_num, Lib.hid (by rw [if_pos (by have := HIK.out; omega), HIK.out]), Lib.hid (below_drew HW.out _)⟩
        case measure => have := HI.out; simp [intG]; omega
      · have hbe : ¬ bid = id := fun e => hiK (hKi.1 e)
        have HIK := Lib.hid hiK
        clear hiK hKi
        go_wp2_with fail
        go_quiet (fail)
        go_wp2_with fail
        go_roundw
        case rel => exact ⟨i + 1, y, HI.out, rfl, by go_num, Lib.hid (by
          have h9 := HIK.out
          rw [HY.out]
          by_cases hq : K < i
          · rw [if_pos hq, if_pos (by omega)]
          · rw [if_neg hq, if_neg (by omega)]), Lib.hid (below_drew HW.out _)⟩
        case measure => have := HI.out; simp [intG]; omega
    · obtain rfl : i = n := by omega
      have t0 : decide (i < i) = false := decide_eq_false (Nat.lt_irrefl _)
      clear hi hin
      have HCW := Lib.hid (HC2.out.trans (Chg.of_below HW.out))
      obtain ⟨a, cap, g, hv, c0, c1, c2, fz, d1, d2, hrw⟩ := HXW.out.cells
      rw [HXN.out] at c0 d1
      have HRW := Lib.hid hrw
      have HV := Lib.hid hv
      obtain ⟨z0, z1, z2, z3⟩ := bx4 HBW.out
      clear hrw hv
      obtain ⟨hh, hhh⟩ : ∃ hh : Int, (heldM L1 : Int) = hh := ⟨_, rfl⟩
      have HHH := Lib.hid hhh
      have hhb : 0 ≤ hh ∧ hh ≤ 65536 := by have h1 := HO1.out.held; have h2 := HO1.out.b2; simp only at h1 h2; omega
      have HHB : Hid (heldM L1 ≤ 65536) := Lib.hid (by have h1 := HO1.out.held; have h2 := HO1.out.b2; simp only at h1 h2; omega)
      have HPS : Hid (∀ m, m ∈ L1 → m.parts.length ≤ 1000) := Lib.hid (fun m hm => parts_few (HO1.out.each m hm))
      have hwr : IntKind.i64.wrap (hh + (sz.size : Int)) = hh + (sz.size : Int) := i64_mill (by omega) (by have := HSZ.out; omega)
      obtain ⟨h0, h65⟩ := hhb
      clear hhh h65 h0
      rw [HHH.out] at hb
      have HYN : Hid (y = (K : Int)) := Lib.hid (by rw [HY.out, if_pos HKN.out])
      obtain rfl := HYN.out
      obtain ⟨rfl, e0, _, fzg⟩ := HRW.out K (by rw [HXN.out]; exact HKN.out)
      obtain ⟨b, cb, gb, hvb, f1, f2, hrb⟩ := HXW.out.parts (j := K) (by rw [HXN.out]; exact HKN.out)
      have hme : (xs2.getD K zeroG).1 = m := by rw [fst_getD HX3.out.fst (by rw [HXN.out]; exact HKN.out)]; exact HMM.out
      rw [hme] at hvb f1 hrb
      have hm9 : m ∈ L1 := by rw [← HMM.out, getD_some (by rw [HN.out]; exact HKN.out)]; exact List.getElem_mem _
      have hmok := HO1.out.each _ hm9
      have hpos : 0 < m.parts.length := List.length_pos_iff.2 hmok.some_
      obtain ⟨rfl, _, _, k2, _⟩ := hrb 0 hpos
      have hcte : (m.parts.getD 0 zeroF).ct = (headM m).ct := rfl
      rw [hcte] at k2
      simp only [Nat.zero_mul, Nat.zero_add] at k2
      obtain ⟨nb, hnb⟩ : ∃ nb, m.parts.length = nb := ⟨_, rfl⟩
      have hnbk : (nb : Int) ≤ 1000 := by have := parts_few hmok; omega
      rw [hvb] at e0
      rw [hnb] at e0 hpos f1
      have HNB := Lib.hid hnb
      have HRB := Lib.hid hrb
      have HM9 := Lib.hid hm9
      have HMO := Lib.hid hmok
      have HVB := Lib.hid hvb
      have HME := Lib.hid hme
      have hk1 : (K : Int) < (i : Int) := by have := HKN.out; omega
      have hp1 : (0 : Int) < (nb : Int) := by omega
      have hk0 : (0 : Int) ≤ (K : Int) := by omega
      clear hvb hrb hnb hme hm9 hmok hcte hpos f2 d2
      rw [HNB.out] at hDn
      have HDN := Lib.hid hDn
      clear hDn
      rw [h3] at k2
      go_wp2_with (first | (go_at_call 18; refine (rheld_e HXW.out HHB.out (by have := HN.out; simp only; omega) HPS.out (i : Int) hh (by simp only; rw [HN.out]) HHH.out).mono ?_; rintro e w9 ⟨rfl, rfl⟩) | go_in)
      go_quiet (fail)
      have HX9 := Lib.hid (HXW.out.below (below_drew (Below.refl _ _) nq))
      have HC9 := Lib.hid (HCW.out.trans (Chg.drew (S := fun k => k = q) w9 nq))
      have HB9 := Lib.hid (show (w9.drewN nq).heap[B]? = _ from HBW.out)
      have HW9 := Lib.hid (below_drew (Below.refl w9.heap.size w9) nq)
      clear c0 c1 c2 fz fzg e0 k2 z0 z1 z2 z3
      go_wp2_with fail
      go_loopw [14] (fun x14 wq => ∃ j : Nat, j ≤ nb ∧ j ≤ D ∧ x14 = .int .i64 j ∧ Hid (Below w9.heap.size w9 wq)) (fun x14 _ => nb - (intG x14).toNat)
      case atStart => exact ⟨0, Nat.zero_le _, Nat.zero_le _, rfl, HW9⟩
      case round =>
        clear HX9 HC9 HB9 HW9
        obtain ⟨j, hj, hjD, rfl, HWQ⟩ := hrel
        have HXQ := Lib.hid (HXW.out.below HWQ.out)
        have HBQ := Lib.hid ((HWQ.out.block B (blk_lt HBW.out)).trans HBW.out)
        have HCQ := Lib.hid (HCW.out.trans (Chg.of_below (S := fun k => k = q) HWQ.out))
        obtain ⟨z0, z1, z2, z3⟩ := bx4 HBQ.out
        by_cases hjn : j < nb
        · obtain ⟨_, _, r1, _, _⟩ := HRB.out j (by rw [HNB.out]; exact hjn)
          have r1' := (HWQ.out.cell (block_lt_of_cell r1)).trans r1
          obtain ⟨jx, hjx⟩ : ∃ jx, (m.parts.getD j zeroF).ix = jx := ⟨_, rfl⟩
          have hDj := HD.out j (by rw [HNB.out]; exact hjn)
          rw [hjx] at r1' hDj
          have j1 : (j : Int) < (nb : Int) := by omega
          have HJ := Lib.hid hjn
          have HJD := Lib.hid hjD
          clear r1 hjx hj hjn hjD
          by_cases hjx : j = D
          · have := HDN.out; have := HJ.out; omega
          · have hne : ¬ jx = ix := fun e => hjx (hDj.1 e)
            have HJX := Lib.hid hjx
            clear hjx hDj
            go_wp2_with fail
            go_quiet (fail)
            go_wp2_with fail
            go_roundw
            case rel => exact ⟨j + 1, HJ.out, by have := HJX.out; have := HJD.out; omega, by go_num, Lib.hid (below_drew HWQ.out _)⟩
            case measure => have := HJ.out; simp [intG]; omega
        · obtain rfl : j = nb := by omega
          have t1 : decide (j < j) = false := decide_eq_false (Nat.lt_irrefl _)
          obtain ⟨_, _, _, _, _, _, c2, _, _, _, _⟩ := HXQ.out.cells
          clear hj hjD hjn
          go_wp2_with fail
          go_quiet (fail)
          go_wp2_with fail
          exact bodyPost_ret (v := .tuple #[.string ⟨#[]⟩, .bool false, .int .i64 8]) (by simp [results, Try.results15, go_sem]) rfl ⟨rfl, v2, xs2, HXQ.out.below (below_drew (Below.refl _ _) _), (HCQ.out.trans (Chg.drew _ _)).mono (fun k e => .inl e), HOV2.out⟩

set_option maxHeartbeats 4000000 in
theorem radd_more {w : World} {q : Nat} {P : Pl} {v : Value} {xs : List Mv} (h : RPl w q P v xs) (hok : Pok P) (hsin : ∀ m, m ∈ P.l → U64 m.since) (id ix ct now : Int) (sz : ByteArray) (hsz : sz.size ≤ 1000000) (hnow : U64 now)
    (hr : rightF ⟨id, ix, ct, sz⟩ = true) (hc : ¬ ct = 1) (K : Nat) (hK : ∀ j, j < (expM now P.l).length → ((headM ((expM now P.l).getD j ⟨[], 0⟩)).id = id ↔ j = K)) (hKN : K < (expM now P.l).length) (m : Ms) (hm : (expM now P.l).getD K ⟨[], 0⟩ = m) (h3 : (headM m).ct = ct) (D : Nat) (hD : ∀ j, j < m.parts.length → ((m.parts.getD j zeroF).ix = ix ↔ j = D)) (hDn : m.parts.length ≤ D) (hb : ¬ P.bytes < (heldM (expM now P.l) : Int) + (sz.size : Int)) (nb : Nat) (hnbm : m.parts.length = nb) (hlt : (nb : Int) + 1 < ct) :
    Calls Try.prog 15 #[.pointer (some ⟨q, 0, none⟩), .agg #[.int .u64 id, .int .i64 ix, .int .i64 ct, .string sz], .int .u64 now] w fun e w' => e = .returned (.tuple #[.string ⟨#[]⟩, .bool false, .int .i64 0]) ∧ ∃ v' xs', RPl w' q { P with l := putM id ⟨id, ix, ct, sz⟩ (expM now P.l) } v' xs' ∧ Chg (fun k => k = q ∨ some k = v.ownBlock) w w' ∧ ∀ k, v'.ownBlock = some k → some k = v.ownBlock ∨ w.heap.size ≤ k := by
  have HH := Lib.hid h
  have HOK := Lib.hid hok
  have HSI := Lib.hid hsin
  have HSZ := Lib.hid hsz
  have HNW := Lib.hid hnow
  have HR : Hid (rightF ⟨id, ix, ct, sz⟩ = true) := Lib.hid hr
  have HLE : Hid (P.l.length ≤ 1000) := Lib.hid (by have h1 := hok.many; have h2 := hok.s2; omega)
  have HO1 : Hid (Pok { P with l := expM now P.l }) := Lib.hid (hok.exp now)
  have hcb : (ct == 1) = false := by simpa using hc
  obtain ⟨L1, hL1⟩ : ∃ L1, expM now P.l = L1 := ⟨_, rfl⟩
  have HL1 := Lib.hid hL1
  rw [hL1] at HO1 hK hKN hm hb
  have HK := Lib.hid hK
  obtain ⟨n, hn⟩ : ∃ n, L1.length = n := ⟨_, rfl⟩
  have HN := Lib.hid hn
  have hn16 : (n : Int) ≤ 16 := by have h1 := HO1.out.many; have h2 := HO1.out.s2; simp only at h1 h2; omega
  rw [hL1]
  have HKN : Hid (K < n) := Lib.hid (by rw [← hn]; exact hKN)
  clear hKN
  have HMM := Lib.hid hm
  clear hm
  have HD := Lib.hid hD
  clear hD
  clear hK hL1 hn
  obtain ⟨u1, hu1⟩ : ∃ u1, u1 = w.alloc (.cells #[.int .u64 id, .int .i64 ix, .int .i64 ct, .string sz] 40) := ⟨_, rfl⟩
  obtain ⟨B, hB0⟩ : ∃ B, B = w.heap.size := ⟨_, rfl⟩
  have hb1 : Below w.heap.size w u1 := by rw [hu1]; exact below_alloc w _
  have hbx : u1.heap[B]? = some (.cells #[.int .u64 id, .int .i64 ix, .int .i64 ct, .string sz] 40 (0, 0)) := by rw [hu1, hB0]; exact heap_alloc_new w _
  have HBX := Lib.hid hbx
  have HU1 := Lib.hid hb1
  have HUE := Lib.hid hu1
  have HBE := Lib.hid hB0
  have HPL := Lib.hid (blk_lt h.blk)
  have HSM : Hid (sz.size ≤ maxLen) := Lib.hid (by unfold maxLen; omega)
  obtain ⟨a0, a1, a2, a3⟩ := bx4 hbx
  clear h hok hsin hsz hnow hr hb1 hbx
  go_enter Try.func15, Try.ntmps15
  go_upto_region 1 with fail
  rw [← hu1, ← hB0]
  clear hu1 hB0
  go_wp2_with (first
    | (go_at_call 30; refine (rright_f id ix ct sz _ HSM.out true HR).mono ?_; rintro e w1 ⟨rfl, hb1⟩; have HB1 : Hid (Below w.heap.size w w1) := Lib.hid (HU1.out.trans (hb1.mono HU1.out.size)); have HX1 := Lib.hid ((hb1.block B (blk_lt HBX.out)).trans HBX.out); clear hb1 a0 a1 a2 a3)
    | (go_at_call 12; refine (rexp_k (HH.out.below HB1.out) HLE.out HSI.out now HNW.out).mono ?_; rintro e w2 ⟨rfl, v2, xs2, hx2, hch, hov⟩; have HOV2 : Hid (∀ k, v2.ownBlock = some k → some k = v.ownBlock ∨ w.heap.size ≤ k) := Lib.hid (own_up hov HB1.out.size); have HX2 := Lib.hid hx2; have HC2 := Lib.hid ((Chg.of_below HB1.out).trans hch); have HBX2 := Lib.hid (hch.blk HX1.out (fun e => by have := HPL.out; have := HBE.out; omega)); obtain ⟨x0, x1, x2, x3⟩ := bx4 HBX2.out; clear hx2 hch hov)
    | go_in)
  have HX3 : Hid (RPl w2 q { P with l := L1 } v2 xs2) := Lib.hid (by have := HX2.out; rw [HL1.out] at this; exact this)
  have HXN : Hid (xs2.length = n) := Lib.hid (by rw [HX3.out.len]; exact HN.out)
  clear x0 x1 x2 x3 HX2
  go_loopw [9, 10] (fun x9 x10 wr => ∃ (i : Nat) (y : Int), i ≤ n ∧ x9 = .int .i64 y ∧ x10 = .int .i64 i ∧ Hid (y = if K < i then (K : Int) else -1) ∧ Hid (Below w2.heap.size w2 wr)) (fun _ x10 _ => n - (intG x10).toNat)
  case atStart => exact ⟨0, -1, Nat.zero_le _, rfl, rfl, Lib.hid (by rw [if_neg (by omega)]), Lib.hid (Below.refl _ _)⟩
  case round =>
    obtain ⟨i, y, hi, rfl, rfl, HY, HW⟩ := hrel
    have HXW := Lib.hid (HX3.out.below HW.out)
    have HBW := Lib.hid ((HW.out.block B (blk_lt HBX2.out)).trans HBX2.out)
    by_cases hin : i < n
    · obtain ⟨a, cap, g, hv, c0, _, _, _, d1, d2, hrw⟩ := HXW.out.cells
      obtain ⟨rfl, e0, _, _⟩ := hrw i (by rw [HXN.out]; exact hin)
      obtain ⟨b, cb, gb, hvb, f1, f2, hrb⟩ := HXW.out.parts (j := i) (by rw [HXN.out]; exact hin)
      have hm9 : (xs2.getD i zeroG).1 ∈ L1 := by have := HX3.out.fst; simp only at this; rw [← this]; exact List.mem_map.2 ⟨_, HX3.out.at (by rw [HXN.out]; exact hin), rfl⟩
      have hmok := HO1.out.each _ hm9
      have hpos : 0 < (xs2.getD i zeroG).1.parts.length := List.length_pos_iff.2 hmok.some_
      obtain ⟨rfl, k0, _, _, _⟩ := hrb 0 hpos
      have hhd : (headM (xs2.getD i zeroG).1).id = ((xs2.getD i zeroG).1.parts.getD 0 zeroF).id := rfl
      obtain ⟨bid, hbid⟩ : ∃ bid, ((xs2.getD i zeroG).1.parts.getD 0 zeroF).id = bid := ⟨_, rfl⟩
      have hKi := HK.out i (by rw [HN.out]; exact hin)
      rw [← fst_getD HX3.out.fst (by rw [HXN.out]; exact hin), hhd, hbid] at hKi
      rw [hvb] at e0
      rw [hbid] at k0
      obtain ⟨nb, hnb⟩ : ∃ nb, (xs2.getD i zeroG).1.parts.length = nb := ⟨_, rfl⟩
      rw [hnb] at e0 hpos f1
      rw [HXN.out] at c0 d1
      have i1 : (i : Int) < (n : Int) := by omega
      have p1 : (0 : Int) < (nb : Int) := by omega
      have HI := Lib.hid hin
      obtain ⟨z0, _, _, _⟩ := bx4 HBW.out
      simp only [Nat.zero_mul] at k0
      clear hv hrw hvb hrb hm9 hmok hhd hbid hnb hi hin d2 f2
      by_cases hiK : i = K
      · have hbe : bid = id := hKi.2 hiK
        rw [hbe] at k0
        clear hbe
        have HIK := Lib.hid hiK
        clear hiK hKi
        go_wp2_with fail
        go_quiet (fail)
        go_wp2_with fail
        go_roundw
        case rel => exact ⟨i + 1, (i : Int), HI.out, rfl, by go_num, Lib.hid (by rw [if_pos (by have := HIK.out; omega), HIK.out]), Lib.hid (below_drew HW.out _)⟩
        case measure => have := HI.out; simp [intG]; omega
      · have hbe : ¬ bid = id := fun e => hiK (hKi.1 e)
        have HIK := Lib.hid hiK
        clear hiK hKi
        go_wp2_with fail
        go_quiet (fail)
        go_wp2_with fail
        go_roundw
        case rel => exact ⟨i + 1, y, HI.out, rfl, by go_num, Lib.hid (by
          have h9 := HIK.out
          rw [HY.out]
          by_cases hq : K < i
          · rw [if_pos hq, if_pos (by omega)]
          · rw [if_neg hq, if_neg (by omega)]), Lib.hid (below_drew HW.out _)⟩
        case measure => have := HI.out; simp [intG]; omega
    · obtain rfl : i = n := by omega
      have t0 : decide (i < i) = false := decide_eq_false (Nat.lt_irrefl _)
      clear hi hin
      have HCW := Lib.hid (HC2.out.trans (Chg.of_below HW.out))
      obtain ⟨a, cap, g, hv, c0, c1, c2, fz, d1, d2, hrw⟩ := HXW.out.cells
      rw [HXN.out] at c0 d1
      have HRW := Lib.hid hrw
      have HV := Lib.hid hv
      obtain ⟨z0, z1, z2, z3⟩ := bx4 HBW.out
      clear hrw hv
      obtain ⟨hh, hhh⟩ : ∃ hh : Int, (heldM L1 : Int) = hh := ⟨_, rfl⟩
      have HHH := Lib.hid hhh
      have hhb : 0 ≤ hh ∧ hh ≤ 65536 := by have h1 := HO1.out.held; have h2 := HO1.out.b2; simp only at h1 h2; omega
      have HHB : Hid (heldM L1 ≤ 65536) := Lib.hid (by have h1 := HO1.out.held; have h2 := HO1.out.b2; simp only at h1 h2; omega)
      have HPS : Hid (∀ m, m ∈ L1 → m.parts.length ≤ 1000) := Lib.hid (fun m hm => parts_few (HO1.out.each m hm))
      have hwr : IntKind.i64.wrap (hh + (sz.size : Int)) = hh + (sz.size : Int) := i64_mill (by omega) (by have := HSZ.out; omega)
      obtain ⟨h0, h65⟩ := hhb
      clear hhh h65 h0
      rw [HHH.out] at hb
      have HYN : Hid (y = (K : Int)) := Lib.hid (by rw [HY.out, if_pos HKN.out])
      obtain rfl := HYN.out
      obtain ⟨rfl, e0, _, fzg⟩ := HRW.out K (by rw [HXN.out]; exact HKN.out)
      obtain ⟨b, cb, gb, hvb, f1, f2, hrb⟩ := HXW.out.parts (j := K) (by rw [HXN.out]; exact HKN.out)
      have hme : (xs2.getD K zeroG).1 = m := by rw [fst_getD HX3.out.fst (by rw [HXN.out]; exact HKN.out)]; exact HMM.out
      rw [hme] at hvb f1 hrb
      have hm9 : m ∈ L1 := by rw [← HMM.out, getD_some (by rw [HN.out]; exact HKN.out)]; exact List.getElem_mem _
      have hmok := HO1.out.each _ hm9
      have hpos : 0 < m.parts.length := List.length_pos_iff.2 hmok.some_
      obtain ⟨rfl, _, _, k2, _⟩ := hrb 0 hpos
      have hcte : (m.parts.getD 0 zeroF).ct = (headM m).ct := rfl
      rw [hcte] at k2
      simp only [Nat.zero_mul, Nat.zero_add] at k2
      have hnb := hnbm
      have hnbk : (nb : Int) ≤ 1000 := by have := parts_few hmok; omega
      rw [hvb] at e0
      rw [hnb] at e0 hpos f1
      have HNB := Lib.hid hnb
      have HRB := Lib.hid hrb
      have HM9 := Lib.hid hm9
      have HMO := Lib.hid hmok
      have HVB := Lib.hid hvb
      have HME := Lib.hid hme
      have hk1 : (K : Int) < (i : Int) := by have := HKN.out; omega
      have hp1 : (0 : Int) < (nb : Int) := by omega
      have hk0 : (0 : Int) ≤ (K : Int) := by omega
      clear hvb hrb hnb hme hm9 hmok hcte hpos f2 d2
      rw [HNB.out] at hDn
      have HDN := Lib.hid hDn
      clear hDn hnbm
      rw [h3] at k2
      go_wp2_with (first | (go_at_call 18; refine (rheld_e HXW.out HHB.out (by have := HN.out; simp only; omega) HPS.out (i : Int) hh (by simp only; rw [HN.out]) HHH.out).mono ?_; rintro e w9 ⟨rfl, rfl⟩) | go_in)
      go_quiet (fail)
      have HX9 := Lib.hid (HXW.out.below (below_drew (Below.refl _ _) nq))
      have HC9 := Lib.hid (HCW.out.trans (Chg.drew (S := fun k => k = q) w9 nq))
      have HB9 := Lib.hid (show (w9.drewN nq).heap[B]? = _ from HBW.out)
      have HW9 := Lib.hid (below_drew (Below.refl w9.heap.size w9) nq)
      clear c0 c1 c2 fz fzg e0 k2 z0 z1 z2 z3
      go_wp2_with fail
      go_loopw [14] (fun x14 wq => ∃ j : Nat, j ≤ nb ∧ j ≤ D ∧ x14 = .int .i64 j ∧ Hid (Below w9.heap.size w9 wq)) (fun x14 _ => nb - (intG x14).toNat)
      case atStart => exact ⟨0, Nat.zero_le _, Nat.zero_le _, rfl, HW9⟩
      case round =>
        clear HX9 HC9 HB9 HW9
        obtain ⟨j, hj, hjD, rfl, HWQ⟩ := hrel
        have HXQ := Lib.hid (HXW.out.below HWQ.out)
        have HBQ := Lib.hid ((HWQ.out.block B (blk_lt HBW.out)).trans HBW.out)
        have HCQ := Lib.hid (HCW.out.trans (Chg.of_below (S := fun k => k = q) HWQ.out))
        obtain ⟨z0, z1, z2, z3⟩ := bx4 HBQ.out
        by_cases hjn : j < nb
        · obtain ⟨_, _, r1, _, _⟩ := HRB.out j (by rw [HNB.out]; exact hjn)
          have r1' := (HWQ.out.cell (block_lt_of_cell r1)).trans r1
          obtain ⟨jx, hjx⟩ : ∃ jx, (m.parts.getD j zeroF).ix = jx := ⟨_, rfl⟩
          have hDj := HD.out j (by rw [HNB.out]; exact hjn)
          rw [hjx] at r1' hDj
          have j1 : (j : Int) < (nb : Int) := by omega
          have HJ := Lib.hid hjn
          have HJD := Lib.hid hjD
          clear r1 hjx hj hjn hjD
          by_cases hjx : j = D
          · have := HDN.out; have := HJ.out; omega
          · have hne : ¬ jx = ix := fun e => hjx (hDj.1 e)
            have HJX := Lib.hid hjx
            clear hjx hDj
            go_wp2_with fail
            go_quiet (fail)
            go_wp2_with fail
            go_roundw
            case rel => exact ⟨j + 1, HJ.out, by have := HJX.out; have := HJD.out; omega, by go_num, Lib.hid (below_drew HWQ.out _)⟩
            case measure => have := HJ.out; simp [intG]; omega
        · obtain rfl : j = nb := by omega
          have t1 : decide (j < j) = false := decide_eq_false (Nat.lt_irrefl _)
          obtain ⟨_, _, _, _, _, _, c2, _, _, _, _⟩ := HXQ.out.cells
          clear hj hjD hjn
          go_wp2_with fail
          go_quiet (fail)
          have HXZ := Lib.hid (HXQ.out.below (below_drew (Below.refl _ _) nq))
          have HCZ := Lib.hid (HCQ.out.trans (Chg.drew (S := fun k => k = q) wr nq))
          have HBZ := Lib.hid (show (wr.drewN nq).heap[B]? = _ from HBQ.out)
          have HWZ := Lib.hid (below_drew HWQ.out nq)
          clear c2 z0 z1 z2 z3
          generalize wr.drewN nq = wz at HXZ HCZ HBZ HWZ ⊢
          have HNB2 := Lib.hid HNB.out
          have HBA : Hid (Below wz.heap.size wz (wz.alloc (.cells #[] 40))) := Lib.hid (below_alloc wz _)
          have HO0 : Hid (OwnF 40 wz.heap.size (.slice (some ⟨wz.heap.size, 0, none⟩) 0 0) [] (wz.alloc (.cells #[] 40))) := Lib.hid (OwnF.new _ _ (Nat.le_refl _))
          have HPC : Hid (∀ k, k < m.parts.length → (wz.alloc (.cells #[] 40)).cell? ⟨gb, 0 + k * 4, none⟩ = some (.int .u64 (m.parts.getD k zeroF).id) ∧ (wz.alloc (.cells #[] 40)).cell? ⟨gb, 0 + k * 4 + 1, none⟩ = some (.int .i64 (m.parts.getD k zeroF).ix) ∧ (wz.alloc (.cells #[] 40)).cell? ⟨gb, 0 + k * 4 + 2, none⟩ = some (.int .i64 (m.parts.getD k zeroF).ct) ∧ (wz.alloc (.cells #[] 40)).cell? ⟨gb, 0 + k * 4 + 3, none⟩ = some (.string (m.parts.getD k zeroF).s)) := Lib.hid (fun k hk => by
            obtain ⟨_, r0, r1, r2, r3⟩ := HRB.out k hk
            have hbb : Below w9.heap.size w9 (wz.alloc (.cells #[] 40)) := HWZ.out.trans ((below_alloc wz _).mono HWZ.out.size)
            simp only [Nat.zero_add]
            exact ⟨(hbb.cell (block_lt_of_cell r0)).trans r0, (hbb.cell (block_lt_of_cell r1)).trans r1, (hbb.cell (block_lt_of_cell r2)).trans r2, (hbb.cell (block_lt_of_cell r3)).trans r3⟩)
          have HFL : Hid (([] ++ m.parts ++ [(⟨id, ix, ct, sz⟩ : Fr)]).length = j + 1) := Lib.hid (by rw [List.length_append, List.nil_append, HNB.out]; rfl)
          go_wp2_with (first
            | (at_builtin; refine wpList_appR rfl (.tmp 129) (.tmp 130) rfl wz.heap.size _ [] m.parts _ rfl HO0.out gb 0 j cb rfl HNB.out.symm HPC.out (by rw [HNB.out]; simp; omega) (by simp) ?_; intro v1 w3 hA hG; have HB3 : Hid (Below wz.heap.size wz w3) := Lib.hid (HBA.out.trans ((Chg.grown hG).below (fun k hk => (World.ownsRow.lt HO0.out k hk.symm).1) (by simp))); have HA1 := Lib.hid hA; have HBX3 := Lib.hid ((HB3.out.block B (blk_lt HBZ.out)).trans HBZ.out); obtain ⟨t0', t1', t2', t3'⟩ := bx4 HBX3.out; have HAL : Hid (OwnF 40 wz.heap.size v1 ([] ++ m.parts) (w3.alloc (.cells #[.int .u64 id, .int .i64 ix, .int .i64 ct, .string sz] 40))) := Lib.hid (hA.below (below_alloc w3 _)); have HSZ3 : Hid (wz.heap.size ≤ (w3.alloc (.cells #[.int .u64 id, .int .i64 ix, .int .i64 ct, .string sz] 40)).heap.size) := Lib.hid (by have := HB3.out.size; simp; omega); clear hA hG)
            | (at_builtin; refine wpList_appR rfl (.tmp 132) (.tmp 134) rfl wz.heap.size _ ([] ++ m.parts) [(⟨id, ix, ct, sz⟩ : Fr)] _ rfl HAL.out w3.heap.size 0 1 1 rfl rfl (box_of4 (f := (⟨id, ix, ct, sz⟩ : Fr)) (heap_alloc_new w3 _)) (by rw [List.nil_append, HNB.out]; simp; omega) HSZ3.out ?_; intro v4 w5 hA hG; have HB5 : Hid (Below wz.heap.size wz w5) := Lib.hid ((HB3.out.trans ((below_alloc w3 _).mono HB3.out.size)).trans ((Chg.grown hG).below (fun k hk => (World.ownsRow.lt HAL.out k hk.symm).1) HSZ3.out)); have HA2 := Lib.hid hA; have HX5 := Lib.hid (HXZ.out.below HB5.out); have HC5 := Lib.hid (HCZ.out.trans (Chg.of_below (S := fun k => k = q) HB5.out)); have HBX5 := Lib.hid ((HB5.out.block B (blk_lt HBZ.out)).trans HBZ.out); obtain ⟨y0, y1, y2, y3⟩ := bx4 HBX5.out; obtain ⟨av, cv, hv4⟩ := row_formF hA; rw [HFL.out] at hv4; subst hv4; obtain ⟨a5, cap5, g5, hv5, c0, _, _, fz, d1, _, hrw⟩ := HX5.out.cells; obtain ⟨ha5, _, _, fzg⟩ := hrw K (by rw [HXN.out]; exact HKN.out); subst ha5; rw [HXN.out] at c0 d1; obtain ⟨_, e0, _, _⟩ := hrw K (by rw [HXN.out]; exact HKN.out); have HV5 := Lib.hid hv5; clear hA hG hrw hv5)

            | go_in)
          have HV6 := HX5.out
          rw [HV5.out, HXN.out] at HV6
          obtain ⟨hset, hrk⟩ := HV6.setK (K := K) (m := m) (f := (⟨id, ix, ct, sz⟩ : Fr)) HXN.out.symm (by rw [HXN.out]; exact HKN.out) HME.out (by have := HA2.out; rw [List.nil_append] at this; exact this)
          rw [put_set HK.out (by rw [HN.out]; exact HKN.out) (⟨id, ix, ct, sz⟩ : Fr) HMM.out] at hset
          have hown := HOV2.out
          rw [HV5.out] at hown
          have hfin := chg_ro HC5.out (hown g5 rfl) (Chg.setCell _ g5 (K * 2) (.slice av (j + 1) cv))
          exact bodyPost_ret (v := .tuple #[.string ⟨#[]⟩, .bool false, .int .i64 0]) (by simp [results, Try.results15, go_sem]) rfl (by first | exact ⟨rfl, _, ⟨_, hset⟩, hfin, hown⟩ | exact ⟨rfl, _, _, hset, hfin, hown⟩)

set_option maxHeartbeats 4000000 in
theorem radd_end4 {w : World} {q : Nat} {P : Pl} {v : Value} {xs : List Mv} (h : RPl w q P v xs) (hok : Pok P) (hsin : ∀ m, m ∈ P.l → U64 m.since) (id ix ct now : Int) (sz : ByteArray) (hsz : sz.size ≤ 1000000) (hnow : U64 now)
    (hr : rightF ⟨id, ix, ct, sz⟩ = true) (hc : ¬ ct = 1) (K : Nat) (hK : ∀ j, j < (expM now P.l).length → ((headM ((expM now P.l).getD j ⟨[], 0⟩)).id = id ↔ j = K)) (hKN : K < (expM now P.l).length) (m : Ms) (hm : (expM now P.l).getD K ⟨[], 0⟩ = m) (h3 : (headM m).ct = ct) (D : Nat) (hD : ∀ j, j < m.parts.length → ((m.parts.getD j zeroF).ix = ix ↔ j = D)) (hDn : m.parts.length ≤ D) (hb : ¬ P.bytes < (heldM (expM now P.l) : Int) + (sz.size : Int)) (nb : Nat) (hnbm : m.parts.length = nb) (hlt : ¬ (nb : Int) + 1 < ct) (t : ByteArray) (ht : joinM (m.parts ++ [⟨id, ix, ct, sz⟩]) = t) (hbg : 4096 < t.size) :
    Calls Try.prog 15 #[.pointer (some ⟨q, 0, none⟩), .agg #[.int .u64 id, .int .i64 ix, .int .i64 ct, .string sz], .int .u64 now] w fun e w' => e = .returned (.tuple #[.string ⟨#[]⟩, .bool false, .int .i64 4]) ∧ ∃ v' xs', RPl w' q { P with l := wo id (expM now P.l) } v' xs' ∧ Chg (fun k => k = q ∨ some k = v.ownBlock) w w' ∧ ∀ k, v'.ownBlock = some k → some k = v.ownBlock ∨ w.heap.size ≤ k := by
  have HH := Lib.hid h
  have HOK := Lib.hid hok
  have HSI := Lib.hid hsin
  have HSZ := Lib.hid hsz
  have HNW := Lib.hid hnow
  have HR : Hid (rightF ⟨id, ix, ct, sz⟩ = true) := Lib.hid hr
  have HLE : Hid (P.l.length ≤ 1000) := Lib.hid (by have h1 := hok.many; have h2 := hok.s2; omega)
  have HO1 : Hid (Pok { P with l := expM now P.l }) := Lib.hid (hok.exp now)
  have hcb : (ct == 1) = false := by simpa using hc
  obtain ⟨L1, hL1⟩ : ∃ L1, expM now P.l = L1 := ⟨_, rfl⟩
  have HL1 := Lib.hid hL1
  rw [hL1] at HO1 hK hKN hm hb
  have HK := Lib.hid hK
  obtain ⟨n, hn⟩ : ∃ n, L1.length = n := ⟨_, rfl⟩
  have HN := Lib.hid hn
  have hn16 : (n : Int) ≤ 16 := by have h1 := HO1.out.many; have h2 := HO1.out.s2; simp only at h1 h2; omega
  rw [hL1]
  have HKN : Hid (K < n) := Lib.hid (by rw [← hn]; exact hKN)
  clear hKN
  have HMM := Lib.hid hm
  clear hm
  have HD := Lib.hid hD
  clear hD
  clear hK hL1 hn
  have HT := Lib.hid ht
  clear ht
  obtain ⟨u1, hu1⟩ : ∃ u1, u1 = w.alloc (.cells #[.int .u64 id, .int .i64 ix, .int .i64 ct, .string sz] 40) := ⟨_, rfl⟩
  obtain ⟨B, hB0⟩ : ∃ B, B = w.heap.size := ⟨_, rfl⟩
  have hb1 : Below w.heap.size w u1 := by rw [hu1]; exact below_alloc w _
  have hbx : u1.heap[B]? = some (.cells #[.int .u64 id, .int .i64 ix, .int .i64 ct, .string sz] 40 (0, 0)) := by rw [hu1, hB0]; exact heap_alloc_new w _
  have HBX := Lib.hid hbx
  have HU1 := Lib.hid hb1
  have HUE := Lib.hid hu1
  have HBE := Lib.hid hB0
  have HPL := Lib.hid (blk_lt h.blk)
  have HSM : Hid (sz.size ≤ maxLen) := Lib.hid (by unfold maxLen; omega)
  obtain ⟨a0, a1, a2, a3⟩ := bx4 hbx
  clear h hok hsin hsz hnow hr hb1 hbx
  go_enter Try.func15, Try.ntmps15
  go_upto_region 1 with fail
  rw [← hu1, ← hB0]
  clear hu1 hB0
  go_wp2_with (first
    | (go_at_call 30; refine (rright_f id ix ct sz _ HSM.out true HR).mono ?_; rintro e w1 ⟨rfl, hb1⟩; have HB1 : Hid (Below w.heap.size w w1) := Lib.hid (HU1.out.trans (hb1.mono HU1.out.size)); have HX1 := Lib.hid ((hb1.block B (blk_lt HBX.out)).trans HBX.out); clear hb1 a0 a1 a2 a3)
    | (go_at_call 12; refine (rexp_k (HH.out.below HB1.out) HLE.out HSI.out now HNW.out).mono ?_; rintro e w2 ⟨rfl, v2, xs2, hx2, hch, hov⟩; have HOV2 : Hid (∀ k, v2.ownBlock = some k → some k = v.ownBlock ∨ w.heap.size ≤ k) := Lib.hid (own_up hov HB1.out.size); have HX2 := Lib.hid hx2; have HC2 := Lib.hid ((Chg.of_below HB1.out).trans hch); have HBX2 := Lib.hid (hch.blk HX1.out (fun e => by have := HPL.out; have := HBE.out; omega)); obtain ⟨x0, x1, x2, x3⟩ := bx4 HBX2.out; clear hx2 hch hov)
    | go_in)
  have HX3 : Hid (RPl w2 q { P with l := L1 } v2 xs2) := Lib.hid (by have := HX2.out; rw [HL1.out] at this; exact this)
  have HXN : Hid (xs2.length = n) := Lib.hid (by rw [HX3.out.len]; exact HN.out)
  clear x0 x1 x2 x3 HX2
  go_loopw [9, 10] (fun x9 x10 wr => ∃ (i : Nat) (y : Int), i ≤ n ∧ x9 = .int .i64 y ∧ x10 = .int .i64 i ∧ Hid (y = if K < i then (K : Int) else -1) ∧ Hid (Below w2.heap.size w2 wr)) (fun _ x10 _ => n - (intG x10).toNat)
  case atStart => exact ⟨0, -1, Nat.zero_le _, rfl, rfl, Lib.hid (by rw [if_neg (by omega)]), Lib.hid (Below.refl _ _)⟩
  case round =>
    obtain ⟨i, y, hi, rfl, rfl, HY, HW⟩ := hrel
    have HXW := Lib.hid (HX3.out.below HW.out)
    have HBW := Lib.hid ((HW.out.block B (blk_lt HBX2.out)).trans HBX2.out)
    by_cases hin : i < n
    · obtain ⟨a, cap, g, hv, c0, _, _, _, d1, d2, hrw⟩ := HXW.out.cells
      obtain ⟨rfl, e0, _, _⟩ := hrw i (by rw [HXN.out]; exact hin)
      obtain ⟨b, cb, gb, hvb, f1, f2, hrb⟩ := HXW.out.parts (j := i) (by rw [HXN.out]; exact hin)
      have hm9 : (xs2.getD i zeroG).1 ∈ L1 := by have := HX3.out.fst; simp only at this; rw [← this]; exact List.mem_map.2 ⟨_, HX3.out.at (by rw [HXN.out]; exact hin), rfl⟩
      have hmok := HO1.out.each _ hm9
      have hpos : 0 < (xs2.getD i zeroG).1.parts.length := List.length_pos_iff.2 hmok.some_
      obtain ⟨rfl, k0, _, _, _⟩ := hrb 0 hpos
      have hhd : (headM (xs2.getD i zeroG).1).id = ((xs2.getD i zeroG).1.parts.getD 0 zeroF).id := rfl
      obtain ⟨bid, hbid⟩ : ∃ bid, ((xs2.getD i zeroG).1.parts.getD 0 zeroF).id = bid := ⟨_, rfl⟩
      have hKi := HK.out i (by rw [HN.out]; exact hin)
      rw [← fst_getD HX3.out.fst (by rw [HXN.out]; exact hin), hhd, hbid] at hKi
      rw [hvb] at e0
      rw [hbid] at k0
      obtain ⟨nb, hnb⟩ : ∃ nb, (xs2.getD i zeroG).1.parts.length = nb := ⟨_, rfl⟩
      rw [hnb] at e0 hpos f1
      rw [HXN.out] at c0 d1
      have i1 : (i : Int) < (n : Int) := by omega
      have p1 : (0 : Int) < (nb : Int) := by omega
      have HI := Lib.hid hin
      obtain ⟨z0, _, _, _⟩ := bx4 HBW.out
      simp only [Nat.zero_mul] at k0
      clear hv hrw hvb hrb hm9 hmok hhd hbid hnb hi hin d2 f2
      by_cases hiK : i = K
      · have hbe : bid = id := hKi.2 hiK
        rw [hbe] at k0
        clear hbe
        have HIK := Lib.hid hiK
        clear hiK hKi
        go_wp2_with fail
        go_quiet (fail)
        go_wp2_with fail
        go_roundw
        case rel => exact ⟨i + 1, (i : Int), HI.out, rfl, by go_num, Lib.hid (by rw [if_pos (by have := HIK.out; omega), HIK.out]), Lib.hid (below_drew HW.out _)⟩
        case measure => have := HI.out; simp [intG]; omega
      · have hbe : ¬ bid = id := fun e => hiK (hKi.1 e)
        have HIK := Lib.hid hiK
        clear hiK hKi
        go_wp2_with fail
        go_quiet (fail)
        go_wp2_with fail
        go_roundw
        case rel => exact ⟨i + 1, y, HI.out, rfl, by go_num, Lib.hid (by
          have h9 := HIK.out
          rw [HY.out]
          by_cases hq : K < i
          · rw [if_pos hq, if_pos (by omega)]
          · rw [if_neg hq, if_neg (by omega)]), Lib.hid (below_drew HW.out _)⟩
        case measure => have := HI.out; simp [intG]; omega
    · obtain rfl : i = n := by omega
      have t0 : decide (i < i) = false := decide_eq_false (Nat.lt_irrefl _)
      clear hi hin
      have HCW := Lib.hid (HC2.out.trans (Chg.of_below HW.out))
      obtain ⟨a, cap, g, hv, c0, c1, c2, fz, d1, d2, hrw⟩ := HXW.out.cells
      rw [HXN.out] at c0 d1
      have HRW := Lib.hid hrw
      have HV := Lib.hid hv
      obtain ⟨z0, z1, z2, z3⟩ := bx4 HBW.out
      clear hrw hv
      obtain ⟨hh, hhh⟩ : ∃ hh : Int, (heldM L1 : Int) = hh := ⟨_, rfl⟩
      have HHH := Lib.hid hhh
      have hhb : 0 ≤ hh ∧ hh ≤ 65536 := by have h1 := HO1.out.held; have h2 := HO1.out.b2; simp only at h1 h2; omega
      have HHB : Hid (heldM L1 ≤ 65536) := Lib.hid (by have h1 := HO1.out.held; have h2 := HO1.out.b2; simp only at h1 h2; omega)
      have HPS : Hid (∀ m, m ∈ L1 → m.parts.length ≤ 1000) := Lib.hid (fun m hm => parts_few (HO1.out.each m hm))
      have hwr : IntKind.i64.wrap (hh + (sz.size : Int)) = hh + (sz.size : Int) := i64_mill (by omega) (by have := HSZ.out; omega)
      obtain ⟨h0, h65⟩ := hhb
      clear hhh h65 h0
      rw [HHH.out] at hb
      have HYN : Hid (y = (K : Int)) := Lib.hid (by rw [HY.out, if_pos HKN.out])
      obtain rfl := HYN.out
      obtain ⟨rfl, e0, _, fzg⟩ := HRW.out K (by rw [HXN.out]; exact HKN.out)
      obtain ⟨b, cb, gb, hvb, f1, f2, hrb⟩ := HXW.out.parts (j := K) (by rw [HXN.out]; exact HKN.out)
      have hme : (xs2.getD K zeroG).1 = m := by rw [fst_getD HX3.out.fst (by rw [HXN.out]; exact HKN.out)]; exact HMM.out
      rw [hme] at hvb f1 hrb
      have hm9 : m ∈ L1 := by rw [← HMM.out, getD_some (by rw [HN.out]; exact HKN.out)]; exact List.getElem_mem _
      have hmok := HO1.out.each _ hm9
      have hpos : 0 < m.parts.length := List.length_pos_iff.2 hmok.some_
      obtain ⟨rfl, _, _, k2, _⟩ := hrb 0 hpos
      have hcte : (m.parts.getD 0 zeroF).ct = (headM m).ct := rfl
      rw [hcte] at k2
      simp only [Nat.zero_mul, Nat.zero_add] at k2
      have hnb := hnbm
      have hnbk : (nb : Int) ≤ 1000 := by have := parts_few hmok; omega
      rw [hvb] at e0
      rw [hnb] at e0 hpos f1
      have HNB := Lib.hid hnb
      have HRB := Lib.hid hrb
      have HM9 := Lib.hid hm9
      have HMO := Lib.hid hmok
      have HVB := Lib.hid hvb
      have HME := Lib.hid hme
      have hk1 : (K : Int) < (i : Int) := by have := HKN.out; omega
      have hp1 : (0 : Int) < (nb : Int) := by omega
      have hk0 : (0 : Int) ≤ (K : Int) := by omega
      clear hvb hrb hnb hme hm9 hmok hcte hpos f2 d2
      have HJL : Hid ((m.parts ++ [(⟨id, ix, ct, sz⟩ : Fr)]).length ≤ 100 ∧ sumS (m.parts ++ [(⟨id, ix, ct, sz⟩ : Fr)]) ≤ 1000000) := Lib.hid (by
        have h1 := rightF_iff.1 HR.out
        have h2 := HMO.out.less
        have h4 := sum_one_le HM9.out
        have h5 := HHB.out
        have h6 : (headM m).ct = ct := h3
        simp only at h1
        rw [sumS_app, List.length_append]
        simp only [sumS, List.foldr_cons, List.foldr_nil, List.length_cons, List.length_nil]
        simp only [sumS] at h4
        omega)
      rw [HNB.out] at hDn
      have HDN := Lib.hid hDn
      clear hDn hnbm
      rw [h3] at k2
      go_wp2_with (first | (go_at_call 18; refine (rheld_e HXW.out HHB.out (by have := HN.out; simp only; omega) HPS.out (i : Int) hh (by simp only; rw [HN.out]) HHH.out).mono ?_; rintro e w9 ⟨rfl, rfl⟩) | go_in)
      go_quiet (fail)
      have HX9 := Lib.hid (HXW.out.below (below_drew (Below.refl _ _) nq))
      have HC9 := Lib.hid (HCW.out.trans (Chg.drew (S := fun k => k = q) w9 nq))
      have HB9 := Lib.hid (show (w9.drewN nq).heap[B]? = _ from HBW.out)
      have HW9 := Lib.hid (below_drew (Below.refl w9.heap.size w9) nq)
      clear c0 c1 c2 fz fzg e0 k2 z0 z1 z2 z3
      go_wp2_with fail
      go_loopw [14] (fun x14 wq => ∃ j : Nat, j ≤ nb ∧ j ≤ D ∧ x14 = .int .i64 j ∧ Hid (Below w9.heap.size w9 wq)) (fun x14 _ => nb - (intG x14).toNat)
      case atStart => exact ⟨0, Nat.zero_le _, Nat.zero_le _, rfl, HW9⟩
      case round =>
        clear HX9 HC9 HB9 HW9
        obtain ⟨j, hj, hjD, rfl, HWQ⟩ := hrel
        have HXQ := Lib.hid (HXW.out.below HWQ.out)
        have HBQ := Lib.hid ((HWQ.out.block B (blk_lt HBW.out)).trans HBW.out)
        have HCQ := Lib.hid (HCW.out.trans (Chg.of_below (S := fun k => k = q) HWQ.out))
        obtain ⟨z0, z1, z2, z3⟩ := bx4 HBQ.out
        by_cases hjn : j < nb
        · obtain ⟨_, _, r1, _, _⟩ := HRB.out j (by rw [HNB.out]; exact hjn)
          have r1' := (HWQ.out.cell (block_lt_of_cell r1)).trans r1
          obtain ⟨jx, hjx⟩ : ∃ jx, (m.parts.getD j zeroF).ix = jx := ⟨_, rfl⟩
          have hDj := HD.out j (by rw [HNB.out]; exact hjn)
          rw [hjx] at r1' hDj
          have j1 : (j : Int) < (nb : Int) := by omega
          have HJ := Lib.hid hjn
          have HJD := Lib.hid hjD
          clear r1 hjx hj hjn hjD
          by_cases hjx : j = D
          · have := HDN.out; have := HJ.out; omega
          · have hne : ¬ jx = ix := fun e => hjx (hDj.1 e)
            have HJX := Lib.hid hjx
            clear hjx hDj
            go_wp2_with fail
            go_quiet (fail)
            go_wp2_with fail
            go_roundw
            case rel => exact ⟨j + 1, HJ.out, by have := HJX.out; have := HJD.out; omega, by go_num, Lib.hid (below_drew HWQ.out _)⟩
            case measure => have := HJ.out; simp [intG]; omega
        · obtain rfl : j = nb := by omega
          have t1 : decide (j < j) = false := decide_eq_false (Nat.lt_irrefl _)
          obtain ⟨_, _, _, _, _, _, c2, _, _, _, _⟩ := HXQ.out.cells
          clear hj hjD hjn
          go_wp2_with fail
          go_quiet (fail)
          have HXZ := Lib.hid (HXQ.out.below (below_drew (Below.refl _ _) nq))
          have HCZ := Lib.hid (HCQ.out.trans (Chg.drew (S := fun k => k = q) wr nq))
          have HBZ := Lib.hid (show (wr.drewN nq).heap[B]? = _ from HBQ.out)
          have HWZ := Lib.hid (below_drew HWQ.out nq)
          clear c2 z0 z1 z2 z3
          generalize wr.drewN nq = wz at HXZ HCZ HBZ HWZ ⊢
          have HNB2 := Lib.hid HNB.out
          have HBA : Hid (Below wz.heap.size wz (wz.alloc (.cells #[] 40))) := Lib.hid (below_alloc wz _)
          have HO0 : Hid (OwnF 40 wz.heap.size (.slice (some ⟨wz.heap.size, 0, none⟩) 0 0) [] (wz.alloc (.cells #[] 40))) := Lib.hid (OwnF.new _ _ (Nat.le_refl _))
          have HPC : Hid (∀ k, k < m.parts.length → (wz.alloc (.cells #[] 40)).cell? ⟨gb, 0 + k * 4, none⟩ = some (.int .u64 (m.parts.getD k zeroF).id) ∧ (wz.alloc (.cells #[] 40)).cell? ⟨gb, 0 + k * 4 + 1, none⟩ = some (.int .i64 (m.parts.getD k zeroF).ix) ∧ (wz.alloc (.cells #[] 40)).cell? ⟨gb, 0 + k * 4 + 2, none⟩ = some (.int .i64 (m.parts.getD k zeroF).ct) ∧ (wz.alloc (.cells #[] 40)).cell? ⟨gb, 0 + k * 4 + 3, none⟩ = some (.string (m.parts.getD k zeroF).s)) := Lib.hid (fun k hk => by
            obtain ⟨_, r0, r1, r2, r3⟩ := HRB.out k hk
            have hbb : Below w9.heap.size w9 (wz.alloc (.cells #[] 40)) := HWZ.out.trans ((below_alloc wz _).mono HWZ.out.size)
            simp only [Nat.zero_add]
            exact ⟨(hbb.cell (block_lt_of_cell r0)).trans r0, (hbb.cell (block_lt_of_cell r1)).trans r1, (hbb.cell (block_lt_of_cell r2)).trans r2, (hbb.cell (block_lt_of_cell r3)).trans r3⟩)
          have HFL : Hid (([] ++ m.parts ++ [(⟨id, ix, ct, sz⟩ : Fr)]).length = j + 1) := Lib.hid (by rw [List.length_append, List.nil_append, HNB.out]; rfl)
          go_wp2_with (first
            | (at_builtin; refine wpList_appR rfl (.tmp 129) (.tmp 130) rfl wz.heap.size _ [] m.parts _ rfl HO0.out gb 0 j cb rfl HNB.out.symm HPC.out (by rw [HNB.out]; simp; omega) (by simp) ?_; intro v1 w3 hA hG; have HB3 : Hid (Below wz.heap.size wz w3) := Lib.hid (HBA.out.trans ((Chg.grown hG).below (fun k hk => (World.ownsRow.lt HO0.out k hk.symm).1) (by simp))); have HA1 := Lib.hid hA; have HBX3 := Lib.hid ((HB3.out.block B (blk_lt HBZ.out)).trans HBZ.out); obtain ⟨t0', t1', t2', t3'⟩ := bx4 HBX3.out; have HAL : Hid (OwnF 40 wz.heap.size v1 ([] ++ m.parts) (w3.alloc (.cells #[.int .u64 id, .int .i64 ix, .int .i64 ct, .string sz] 40))) := Lib.hid (hA.below (below_alloc w3 _)); have HSZ3 : Hid (wz.heap.size ≤ (w3.alloc (.cells #[.int .u64 id, .int .i64 ix, .int .i64 ct, .string sz] 40)).heap.size) := Lib.hid (by have := HB3.out.size; simp; omega); clear hA hG)
            | (at_builtin; refine wpList_appR rfl (.tmp 132) (.tmp 134) rfl wz.heap.size _ ([] ++ m.parts) [(⟨id, ix, ct, sz⟩ : Fr)] _ rfl HAL.out w3.heap.size 0 1 1 rfl rfl (box_of4 (f := (⟨id, ix, ct, sz⟩ : Fr)) (heap_alloc_new w3 _)) (by rw [List.nil_append, HNB.out]; simp; omega) HSZ3.out ?_; intro v4 w5 hA hG; have HB5 : Hid (Below wz.heap.size wz w5) := Lib.hid ((HB3.out.trans ((below_alloc w3 _).mono HB3.out.size)).trans ((Chg.grown hG).below (fun k hk => (World.ownsRow.lt HAL.out k hk.symm).1) HSZ3.out)); have HA2 := Lib.hid hA; have HX5 := Lib.hid (HXZ.out.below HB5.out); have HC5 := Lib.hid (HCZ.out.trans (Chg.of_below (S := fun k => k = q) HB5.out)); have HBX5 := Lib.hid ((HB5.out.block B (blk_lt HBZ.out)).trans HBZ.out); obtain ⟨y0, y1, y2, y3⟩ := bx4 HBX5.out; obtain ⟨av, cv, hv4⟩ := row_formF hA; rw [HFL.out] at hv4; subst hv4; obtain ⟨a5, cap5, g5, hv5, c0, _, _, fz, d1, _, hrw⟩ := HX5.out.cells; obtain ⟨ha5, _, _, fzg⟩ := hrw K (by rw [HXN.out]; exact HKN.out); subst ha5; rw [HXN.out] at c0 d1; obtain ⟨_, e0, _, _⟩ := hrw K (by rw [HXN.out]; exact HKN.out); have HV5 := Lib.hid hv5; clear hA hG hrw hv5)
            | (go_at_call 24; refine (rwo_k HX5.out (by rw [HXN.out]; omega) (i := K) (by rw [HXN.out]; exact HKN.out)).mono ?_; rintro e w6 ⟨v6, rfl, hx6, hc6, hf6⟩; have HF6 : Hid (∀ k, v6.ownBlock = some k → some k = v.ownBlock ∨ w.heap.size ≤ k) := Lib.hid (fun k hk => .inr (Nat.le_trans HC5.out.size (hf6 k hk))); have HX6 := Lib.hid hx6; have HC6 := Lib.hid (HC5.out.trans hc6); have HA6 : Hid (OwnF 40 0 (.slice av (j + 1) cv) (m.parts ++ [(⟨id, ix, ct, sz⟩ : Fr)]) w6) := Lib.hid (by have h9 := HA2.out; rw [List.nil_append] at h9; exact World.ownsRow.mono (h9.chg hc6 (OwnF.off_pool HX5.out h9)) (Nat.zero_le _)); clear hx6 hc6 hf6)
            | (go_at_call 31; refine (rjoin_k (m.parts ++ [(⟨id, ix, ct, sz⟩ : Fr)]) _ _ HA6.out HJL.out.1 HJL.out.2).mono ?_; rintro e w7 ⟨rfl, rfl⟩; rw [HT.out])

            | go_in)
          have hx7 := HX6.out
          rw [wo_cut HK.out (by rw [HN.out]; exact HKN.out)] at hx7
          have hfin := HC6.out.mono (T := fun k => k = q ∨ some k = v.ownBlock) (fun k e => .inl e)
          have hown := HF6.out
          exact bodyPost_ret (v := .tuple #[.string ⟨#[]⟩, .bool false, .int .i64 4]) (by simp [results, Try.results15, go_sem]) rfl (by first | exact ⟨rfl, _, ⟨_, hx7⟩, hfin, hown⟩ | exact ⟨rfl, _, _, hx7, hfin, hown⟩)

set_option maxHeartbeats 4000000 in
theorem radd_end0 {w : World} {q : Nat} {P : Pl} {v : Value} {xs : List Mv} (h : RPl w q P v xs) (hok : Pok P) (hsin : ∀ m, m ∈ P.l → U64 m.since) (id ix ct now : Int) (sz : ByteArray) (hsz : sz.size ≤ 1000000) (hnow : U64 now)
    (hr : rightF ⟨id, ix, ct, sz⟩ = true) (hc : ¬ ct = 1) (K : Nat) (hK : ∀ j, j < (expM now P.l).length → ((headM ((expM now P.l).getD j ⟨[], 0⟩)).id = id ↔ j = K)) (hKN : K < (expM now P.l).length) (m : Ms) (hm : (expM now P.l).getD K ⟨[], 0⟩ = m) (h3 : (headM m).ct = ct) (D : Nat) (hD : ∀ j, j < m.parts.length → ((m.parts.getD j zeroF).ix = ix ↔ j = D)) (hDn : m.parts.length ≤ D) (hb : ¬ P.bytes < (heldM (expM now P.l) : Int) + (sz.size : Int)) (nb : Nat) (hnbm : m.parts.length = nb) (hlt : ¬ (nb : Int) + 1 < ct) (t : ByteArray) (ht : joinM (m.parts ++ [⟨id, ix, ct, sz⟩]) = t) (hbg : ¬ 4096 < t.size) :
    Calls Try.prog 15 #[.pointer (some ⟨q, 0, none⟩), .agg #[.int .u64 id, .int .i64 ix, .int .i64 ct, .string sz], .int .u64 now] w fun e w' => e = .returned (.tuple #[.string t, .bool true, .int .i64 0]) ∧ ∃ v' xs', RPl w' q { P with l := wo id (expM now P.l) } v' xs' ∧ Chg (fun k => k = q ∨ some k = v.ownBlock) w w' ∧ ∀ k, v'.ownBlock = some k → some k = v.ownBlock ∨ w.heap.size ≤ k := by
  have HH := Lib.hid h
  have HOK := Lib.hid hok
  have HSI := Lib.hid hsin
  have HSZ := Lib.hid hsz
  have HNW := Lib.hid hnow
  have HR : Hid (rightF ⟨id, ix, ct, sz⟩ = true) := Lib.hid hr
  have HLE : Hid (P.l.length ≤ 1000) := Lib.hid (by have h1 := hok.many; have h2 := hok.s2; omega)
  have HO1 : Hid (Pok { P with l := expM now P.l }) := Lib.hid (hok.exp now)
  have hcb : (ct == 1) = false := by simpa using hc
  obtain ⟨L1, hL1⟩ : ∃ L1, expM now P.l = L1 := ⟨_, rfl⟩
  have HL1 := Lib.hid hL1
  rw [hL1] at HO1 hK hKN hm hb
  have HK := Lib.hid hK
  obtain ⟨n, hn⟩ : ∃ n, L1.length = n := ⟨_, rfl⟩
  have HN := Lib.hid hn
  have hn16 : (n : Int) ≤ 16 := by have h1 := HO1.out.many; have h2 := HO1.out.s2; simp only at h1 h2; omega
  rw [hL1]
  have HKN : Hid (K < n) := Lib.hid (by rw [← hn]; exact hKN)
  clear hKN
  have HMM := Lib.hid hm
  clear hm
  have HD := Lib.hid hD
  clear hD
  clear hK hL1 hn
  have HT := Lib.hid ht
  clear ht
  obtain ⟨u1, hu1⟩ : ∃ u1, u1 = w.alloc (.cells #[.int .u64 id, .int .i64 ix, .int .i64 ct, .string sz] 40) := ⟨_, rfl⟩
  obtain ⟨B, hB0⟩ : ∃ B, B = w.heap.size := ⟨_, rfl⟩
  have hb1 : Below w.heap.size w u1 := by rw [hu1]; exact below_alloc w _
  have hbx : u1.heap[B]? = some (.cells #[.int .u64 id, .int .i64 ix, .int .i64 ct, .string sz] 40 (0, 0)) := by rw [hu1, hB0]; exact heap_alloc_new w _
  have HBX := Lib.hid hbx
  have HU1 := Lib.hid hb1
  have HUE := Lib.hid hu1
  have HBE := Lib.hid hB0
  have HPL := Lib.hid (blk_lt h.blk)
  have HSM : Hid (sz.size ≤ maxLen) := Lib.hid (by unfold maxLen; omega)
  obtain ⟨a0, a1, a2, a3⟩ := bx4 hbx
  clear h hok hsin hsz hnow hr hb1 hbx
  go_enter Try.func15, Try.ntmps15
  go_upto_region 1 with fail
  rw [← hu1, ← hB0]
  clear hu1 hB0
  go_wp2_with (first
    | (go_at_call 30; refine (rright_f id ix ct sz _ HSM.out true HR).mono ?_; rintro e w1 ⟨rfl, hb1⟩; have HB1 : Hid (Below w.heap.size w w1) := Lib.hid (HU1.out.trans (hb1.mono HU1.out.size)); have HX1 := Lib.hid ((hb1.block B (blk_lt HBX.out)).trans HBX.out); clear hb1 a0 a1 a2 a3)
    | (go_at_call 12; refine (rexp_k (HH.out.below HB1.out) HLE.out HSI.out now HNW.out).mono ?_; rintro e w2 ⟨rfl, v2, xs2, hx2, hch, hov⟩; have HOV2 : Hid (∀ k, v2.ownBlock = some k → some k = v.ownBlock ∨ w.heap.size ≤ k) := Lib.hid (own_up hov HB1.out.size); have HX2 := Lib.hid hx2; have HC2 := Lib.hid ((Chg.of_below HB1.out).trans hch); have HBX2 := Lib.hid (hch.blk HX1.out (fun e => by have := HPL.out; have := HBE.out; omega)); obtain ⟨x0, x1, x2, x3⟩ := bx4 HBX2.out; clear hx2 hch hov)
    | go_in)
  have HX3 : Hid (RPl w2 q { P with l := L1 } v2 xs2) := Lib.hid (by have := HX2.out; rw [HL1.out] at this; exact this)
  have HXN : Hid (xs2.length = n) := Lib.hid (by rw [HX3.out.len]; exact HN.out)
  clear x0 x1 x2 x3 HX2
  go_loopw [9, 10] (fun x9 x10 wr => ∃ (i : Nat) (y : Int), i ≤ n ∧ x9 = .int .i64 y ∧ x10 = .int .i64 i ∧ Hid (y = if K < i then (K : Int) else -1) ∧ Hid (Below w2.heap.size w2 wr)) (fun _ x10 _ => n - (intG x10).toNat)
  case atStart => exact ⟨0, -1, Nat.zero_le _, rfl, rfl, Lib.hid (by rw [if_neg (by omega)]), Lib.hid (Below.refl _ _)⟩
  case round =>
    obtain ⟨i, y, hi, rfl, rfl, HY, HW⟩ := hrel
    have HXW := Lib.hid (HX3.out.below HW.out)
    have HBW := Lib.hid ((HW.out.block B (blk_lt HBX2.out)).trans HBX2.out)
    by_cases hin : i < n
    · obtain ⟨a, cap, g, hv, c0, _, _, _, d1, d2, hrw⟩ := HXW.out.cells
      obtain ⟨rfl, e0, _, _⟩ := hrw i (by rw [HXN.out]; exact hin)
      obtain ⟨b, cb, gb, hvb, f1, f2, hrb⟩ := HXW.out.parts (j := i) (by rw [HXN.out]; exact hin)
      have hm9 : (xs2.getD i zeroG).1 ∈ L1 := by have := HX3.out.fst; simp only at this; rw [← this]; exact List.mem_map.2 ⟨_, HX3.out.at (by rw [HXN.out]; exact hin), rfl⟩
      have hmok := HO1.out.each _ hm9
      have hpos : 0 < (xs2.getD i zeroG).1.parts.length := List.length_pos_iff.2 hmok.some_
      obtain ⟨rfl, k0, _, _, _⟩ := hrb 0 hpos
      have hhd : (headM (xs2.getD i zeroG).1).id = ((xs2.getD i zeroG).1.parts.getD 0 zeroF).id := rfl
      obtain ⟨bid, hbid⟩ : ∃ bid, ((xs2.getD i zeroG).1.parts.getD 0 zeroF).id = bid := ⟨_, rfl⟩
      have hKi := HK.out i (by rw [HN.out]; exact hin)
      rw [← fst_getD HX3.out.fst (by rw [HXN.out]; exact hin), hhd, hbid] at hKi
      rw [hvb] at e0
      rw [hbid] at k0
      obtain ⟨nb, hnb⟩ : ∃ nb, (xs2.getD i zeroG).1.parts.length = nb := ⟨_, rfl⟩
      rw [hnb] at e0 hpos f1
      rw [HXN.out] at c0 d1
      have i1 : (i : Int) < (n : Int) := by omega
      have p1 : (0 : Int) < (nb : Int) := by omega
      have HI := Lib.hid hin
      obtain ⟨z0, _, _, _⟩ := bx4 HBW.out
      simp only [Nat.zero_mul] at k0
      clear hv hrw hvb hrb hm9 hmok hhd hbid hnb hi hin d2 f2
      by_cases hiK : i = K
      · have hbe : bid = id := hKi.2 hiK
        rw [hbe] at k0
        clear hbe
        have HIK := Lib.hid hiK
        clear hiK hKi
        go_wp2_with fail
        go_quiet (fail)
        go_wp2_with fail
        go_roundw
        case rel => exact ⟨i + 1, (i : Int), HI.out, rfl, by go_num, Lib.hid (by rw [if_pos (by have := HIK.out; omega), HIK.out]), Lib.hid (below_drew HW.out _)⟩
        case measure => have := HI.out; simp [intG]; omega
      · have hbe : ¬ bid = id := fun e => hiK (hKi.1 e)
        have HIK := Lib.hid hiK
        clear hiK hKi
        go_wp2_with fail
        go_quiet (fail)
        go_wp2_with fail
        go_roundw
        case rel => exact ⟨i + 1, y, HI.out, rfl, by go_num, Lib.hid (by
          have h9 := HIK.out
          rw [HY.out]
          by_cases hq : K < i
          · rw [if_pos hq, if_pos (by omega)]
          · rw [if_neg hq, if_neg (by omega)]), Lib.hid (below_drew HW.out _)⟩
        case measure => have := HI.out; simp [intG]; omega
    · obtain rfl : i = n := by omega
      have t0 : decide (i < i) = false := decide_eq_false (Nat.lt_irrefl _)
      clear hi hin
      have HCW := Lib.hid (HC2.out.trans (Chg.of_below HW.out))
      obtain ⟨a, cap, g, hv, c0, c1, c2, fz, d1, d2, hrw⟩ := HXW.out.cells
      rw [HXN.out] at c0 d1
      have HRW := Lib.hid hrw
      have HV := Lib.hid hv
      obtain ⟨z0, z1, z2, z3⟩ := bx4 HBW.out
      clear hrw hv
      obtain ⟨hh, hhh⟩ : ∃ hh : Int, (heldM L1 : Int) = hh := ⟨_, rfl⟩
      have HHH := Lib.hid hhh
      have hhb : 0 ≤ hh ∧ hh ≤ 65536 := by have h1 := HO1.out.held; have h2 := HO1.out.b2; simp only at h1 h2; omega
      have HHB : Hid (heldM L1 ≤ 65536) := Lib.hid (by have h1 := HO1.out.held; have h2 := HO1.out.b2; simp only at h1 h2; omega)
      have HPS : Hid (∀ m, m ∈ L1 → m.parts.length ≤ 1000) := Lib.hid (fun m hm => parts_few (HO1.out.each m hm))
      have hwr : IntKind.i64.wrap (hh + (sz.size : Int)) = hh + (sz.size : Int) := i64_mill (by omega) (by have := HSZ.out; omega)
      obtain ⟨h0, h65⟩ := hhb
      clear hhh h65 h0
      rw [HHH.out] at hb
      have HYN : Hid (y = (K : Int)) := Lib.hid (by rw [HY.out, if_pos HKN.out])
      obtain rfl := HYN.out
      obtain ⟨rfl, e0, _, fzg⟩ := HRW.out K (by rw [HXN.out]; exact HKN.out)
      obtain ⟨b, cb, gb, hvb, f1, f2, hrb⟩ := HXW.out.parts (j := K) (by rw [HXN.out]; exact HKN.out)
      have hme : (xs2.getD K zeroG).1 = m := by rw [fst_getD HX3.out.fst (by rw [HXN.out]; exact HKN.out)]; exact HMM.out
      rw [hme] at hvb f1 hrb
      have hm9 : m ∈ L1 := by rw [← HMM.out, getD_some (by rw [HN.out]; exact HKN.out)]; exact List.getElem_mem _
      have hmok := HO1.out.each _ hm9
      have hpos : 0 < m.parts.length := List.length_pos_iff.2 hmok.some_
      obtain ⟨rfl, _, _, k2, _⟩ := hrb 0 hpos
      have hcte : (m.parts.getD 0 zeroF).ct = (headM m).ct := rfl
      rw [hcte] at k2
      simp only [Nat.zero_mul, Nat.zero_add] at k2
      have hnb := hnbm
      have hnbk : (nb : Int) ≤ 1000 := by have := parts_few hmok; omega
      rw [hvb] at e0
      rw [hnb] at e0 hpos f1
      have HNB := Lib.hid hnb
      have HRB := Lib.hid hrb
      have HM9 := Lib.hid hm9
      have HMO := Lib.hid hmok
      have HVB := Lib.hid hvb
      have HME := Lib.hid hme
      have hk1 : (K : Int) < (i : Int) := by have := HKN.out; omega
      have hp1 : (0 : Int) < (nb : Int) := by omega
      have hk0 : (0 : Int) ≤ (K : Int) := by omega
      clear hvb hrb hnb hme hm9 hmok hcte hpos f2 d2
      have HJL : Hid ((m.parts ++ [(⟨id, ix, ct, sz⟩ : Fr)]).length ≤ 100 ∧ sumS (m.parts ++ [(⟨id, ix, ct, sz⟩ : Fr)]) ≤ 1000000) := Lib.hid (by
        have h1 := rightF_iff.1 HR.out
        have h2 := HMO.out.less
        have h4 := sum_one_le HM9.out
        have h5 := HHB.out
        have h6 : (headM m).ct = ct := h3
        simp only at h1
        rw [sumS_app, List.length_append]
        simp only [sumS, List.foldr_cons, List.foldr_nil, List.length_cons, List.length_nil]
        simp only [sumS] at h4
        omega)
      rw [HNB.out] at hDn
      have HDN := Lib.hid hDn
      clear hDn hnbm
      rw [h3] at k2
      go_wp2_with (first | (go_at_call 18; refine (rheld_e HXW.out HHB.out (by have := HN.out; simp only; omega) HPS.out (i : Int) hh (by simp only; rw [HN.out]) HHH.out).mono ?_; rintro e w9 ⟨rfl, rfl⟩) | go_in)
      go_quiet (fail)
      have HX9 := Lib.hid (HXW.out.below (below_drew (Below.refl _ _) nq))
      have HC9 := Lib.hid (HCW.out.trans (Chg.drew (S := fun k => k = q) w9 nq))
      have HB9 := Lib.hid (show (w9.drewN nq).heap[B]? = _ from HBW.out)
      have HW9 := Lib.hid (below_drew (Below.refl w9.heap.size w9) nq)
      clear c0 c1 c2 fz fzg e0 k2 z0 z1 z2 z3
      go_wp2_with fail
      go_loopw [14] (fun x14 wq => ∃ j : Nat, j ≤ nb ∧ j ≤ D ∧ x14 = .int .i64 j ∧ Hid (Below w9.heap.size w9 wq)) (fun x14 _ => nb - (intG x14).toNat)
      case atStart => exact ⟨0, Nat.zero_le _, Nat.zero_le _, rfl, HW9⟩
      case round =>
        clear HX9 HC9 HB9 HW9
        obtain ⟨j, hj, hjD, rfl, HWQ⟩ := hrel
        have HXQ := Lib.hid (HXW.out.below HWQ.out)
        have HBQ := Lib.hid ((HWQ.out.block B (blk_lt HBW.out)).trans HBW.out)
        have HCQ := Lib.hid (HCW.out.trans (Chg.of_below (S := fun k => k = q) HWQ.out))
        obtain ⟨z0, z1, z2, z3⟩ := bx4 HBQ.out
        by_cases hjn : j < nb
        · obtain ⟨_, _, r1, _, _⟩ := HRB.out j (by rw [HNB.out]; exact hjn)
          have r1' := (HWQ.out.cell (block_lt_of_cell r1)).trans r1
          obtain ⟨jx, hjx⟩ : ∃ jx, (m.parts.getD j zeroF).ix = jx := ⟨_, rfl⟩
          have hDj := HD.out j (by rw [HNB.out]; exact hjn)
          rw [hjx] at r1' hDj
          have j1 : (j : Int) < (nb : Int) := by omega
          have HJ := Lib.hid hjn
          have HJD := Lib.hid hjD
          clear r1 hjx hj hjn hjD
          by_cases hjx : j = D
          · have := HDN.out; have := HJ.out; omega
          · have hne : ¬ jx = ix := fun e => hjx (hDj.1 e)
            have HJX := Lib.hid hjx
            clear hjx hDj
            go_wp2_with fail
            go_quiet (fail)
            go_wp2_with fail
            go_roundw
            case rel => exact ⟨j + 1, HJ.out, by have := HJX.out; have := HJD.out; omega, by go_num, Lib.hid (below_drew HWQ.out _)⟩
            case measure => have := HJ.out; simp [intG]; omega
        · obtain rfl : j = nb := by omega
          have t1 : decide (j < j) = false := decide_eq_false (Nat.lt_irrefl _)
          obtain ⟨_, _, _, _, _, _, c2, _, _, _, _⟩ := HXQ.out.cells
          clear hj hjD hjn
          go_wp2_with fail
          go_quiet (fail)
          have HXZ := Lib.hid (HXQ.out.below (below_drew (Below.refl _ _) nq))
          have HCZ := Lib.hid (HCQ.out.trans (Chg.drew (S := fun k => k = q) wr nq))
          have HBZ := Lib.hid (show (wr.drewN nq).heap[B]? = _ from HBQ.out)
          have HWZ := Lib.hid (below_drew HWQ.out nq)
          clear c2 z0 z1 z2 z3
          generalize wr.drewN nq = wz at HXZ HCZ HBZ HWZ ⊢
          have HNB2 := Lib.hid HNB.out
          have HBA : Hid (Below wz.heap.size wz (wz.alloc (.cells #[] 40))) := Lib.hid (below_alloc wz _)
          have HO0 : Hid (OwnF 40 wz.heap.size (.slice (some ⟨wz.heap.size, 0, none⟩) 0 0) [] (wz.alloc (.cells #[] 40))) := Lib.hid (OwnF.new _ _ (Nat.le_refl _))
          have HPC : Hid (∀ k, k < m.parts.length → (wz.alloc (.cells #[] 40)).cell? ⟨gb, 0 + k * 4, none⟩ = some (.int .u64 (m.parts.getD k zeroF).id) ∧ (wz.alloc (.cells #[] 40)).cell? ⟨gb, 0 + k * 4 + 1, none⟩ = some (.int .i64 (m.parts.getD k zeroF).ix) ∧ (wz.alloc (.cells #[] 40)).cell? ⟨gb, 0 + k * 4 + 2, none⟩ = some (.int .i64 (m.parts.getD k zeroF).ct) ∧ (wz.alloc (.cells #[] 40)).cell? ⟨gb, 0 + k * 4 + 3, none⟩ = some (.string (m.parts.getD k zeroF).s)) := Lib.hid (fun k hk => by
            obtain ⟨_, r0, r1, r2, r3⟩ := HRB.out k hk
            have hbb : Below w9.heap.size w9 (wz.alloc (.cells #[] 40)) := HWZ.out.trans ((below_alloc wz _).mono HWZ.out.size)
            simp only [Nat.zero_add]
            exact ⟨(hbb.cell (block_lt_of_cell r0)).trans r0, (hbb.cell (block_lt_of_cell r1)).trans r1, (hbb.cell (block_lt_of_cell r2)).trans r2, (hbb.cell (block_lt_of_cell r3)).trans r3⟩)
          have HFL : Hid (([] ++ m.parts ++ [(⟨id, ix, ct, sz⟩ : Fr)]).length = j + 1) := Lib.hid (by rw [List.length_append, List.nil_append, HNB.out]; rfl)
          go_wp2_with (first
            | (at_builtin; refine wpList_appR rfl (.tmp 129) (.tmp 130) rfl wz.heap.size _ [] m.parts _ rfl HO0.out gb 0 j cb rfl HNB.out.symm HPC.out (by rw [HNB.out]; simp; omega) (by simp) ?_; intro v1 w3 hA hG; have HB3 : Hid (Below wz.heap.size wz w3) := Lib.hid (HBA.out.trans ((Chg.grown hG).below (fun k hk => (World.ownsRow.lt HO0.out k hk.symm).1) (by simp))); have HA1 := Lib.hid hA; have HBX3 := Lib.hid ((HB3.out.block B (blk_lt HBZ.out)).trans HBZ.out); obtain ⟨t0', t1', t2', t3'⟩ := bx4 HBX3.out; have HAL : Hid (OwnF 40 wz.heap.size v1 ([] ++ m.parts) (w3.alloc (.cells #[.int .u64 id, .int .i64 ix, .int .i64 ct, .string sz] 40))) := Lib.hid (hA.below (below_alloc w3 _)); have HSZ3 : Hid (wz.heap.size ≤ (w3.alloc (.cells #[.int .u64 id, .int .i64 ix, .int .i64 ct, .string sz] 40)).heap.size) := Lib.hid (by have := HB3.out.size; simp; omega); clear hA hG)
            | (at_builtin; refine wpList_appR rfl (.tmp 132) (.tmp 134) rfl wz.heap.size _ ([] ++ m.parts) [(⟨id, ix, ct, sz⟩ : Fr)] _ rfl HAL.out w3.heap.size 0 1 1 rfl rfl (box_of4 (f := (⟨id, ix, ct, sz⟩ : Fr)) (heap_alloc_new w3 _)) (by rw [List.nil_append, HNB.out]; simp; omega) HSZ3.out ?_; intro v4 w5 hA hG; have HB5 : Hid (Below wz.heap.size wz w5) := Lib.hid ((HB3.out.trans ((below_alloc w3 _).mono HB3.out.size)).trans ((Chg.grown hG).below (fun k hk => (World.ownsRow.lt HAL.out k hk.symm).1) HSZ3.out)); have HA2 := Lib.hid hA; have HX5 := Lib.hid (HXZ.out.below HB5.out); have HC5 := Lib.hid (HCZ.out.trans (Chg.of_below (S := fun k => k = q) HB5.out)); have HBX5 := Lib.hid ((HB5.out.block B (blk_lt HBZ.out)).trans HBZ.out); obtain ⟨y0, y1, y2, y3⟩ := bx4 HBX5.out; obtain ⟨av, cv, hv4⟩ := row_formF hA; rw [HFL.out] at hv4; subst hv4; obtain ⟨a5, cap5, g5, hv5, c0, _, _, fz, d1, _, hrw⟩ := HX5.out.cells; obtain ⟨ha5, _, _, fzg⟩ := hrw K (by rw [HXN.out]; exact HKN.out); subst ha5; rw [HXN.out] at c0 d1; obtain ⟨_, e0, _, _⟩ := hrw K (by rw [HXN.out]; exact HKN.out); have HV5 := Lib.hid hv5; clear hA hG hrw hv5)
            | (go_at_call 24; refine (rwo_k HX5.out (by rw [HXN.out]; omega) (i := K) (by rw [HXN.out]; exact HKN.out)).mono ?_; rintro e w6 ⟨v6, rfl, hx6, hc6, hf6⟩; have HF6 : Hid (∀ k, v6.ownBlock = some k → some k = v.ownBlock ∨ w.heap.size ≤ k) := Lib.hid (fun k hk => .inr (Nat.le_trans HC5.out.size (hf6 k hk))); have HX6 := Lib.hid hx6; have HC6 := Lib.hid (HC5.out.trans hc6); have HA6 : Hid (OwnF 40 0 (.slice av (j + 1) cv) (m.parts ++ [(⟨id, ix, ct, sz⟩ : Fr)]) w6) := Lib.hid (by have h9 := HA2.out; rw [List.nil_append] at h9; exact World.ownsRow.mono (h9.chg hc6 (OwnF.off_pool HX5.out h9)) (Nat.zero_le _)); clear hx6 hc6 hf6)
            | (go_at_call 31; refine (rjoin_k (m.parts ++ [(⟨id, ix, ct, sz⟩ : Fr)]) _ _ HA6.out HJL.out.1 HJL.out.2).mono ?_; rintro e w7 ⟨rfl, rfl⟩; rw [HT.out])

            | go_in)
          have hx7 := HX6.out
          rw [wo_cut HK.out (by rw [HN.out]; exact HKN.out)] at hx7
          have hfin := HC6.out.mono (T := fun k => k = q ∨ some k = v.ownBlock) (fun k e => .inl e)
          have hown := HF6.out
          exact bodyPost_ret (v := .tuple #[.string t, .bool true, .int .i64 0]) (by simp [results, Try.results15, go_sem]) rfl (by first | exact ⟨rfl, _, ⟨_, hx7⟩, hfin, hown⟩ | exact ⟨rfl, _, _, hx7, hfin, hown⟩)

set_option maxHeartbeats 4000000 in
theorem radd_new {w : World} {q : Nat} {P : Pl} {v : Value} {xs : List Mv} (h : RPl w q P v xs) (hok : Pok P) (hsin : ∀ m, m ∈ P.l → U64 m.since) (id ix ct now : Int) (sz : ByteArray) (hsz : sz.size ≤ 1000000) (hnow : U64 now)
    (hr : rightF ⟨id, ix, ct, sz⟩ = true) (hc : ¬ ct = 1) (K : Nat) (hK : ∀ j, j < (expM now P.l).length → ((headM ((expM now P.l).getD j ⟨[], 0⟩)).id = id ↔ j = K)) (hKN : (expM now P.l).length ≤ K) (hs : ¬ P.slots ≤ ((expM now P.l).length : Int)) (hb : ¬ P.bytes < (heldM (expM now P.l) : Int) + (sz.size : Int)) :
    Calls Try.prog 15 #[.pointer (some ⟨q, 0, none⟩), .agg #[.int .u64 id, .int .i64 ix, .int .i64 ct, .string sz], .int .u64 now] w fun e w' => e = .returned (.tuple #[.string ⟨#[]⟩, .bool false, .int .i64 0]) ∧ ∃ v' xs', RPl w' q { P with l := expM now P.l ++ [⟨[⟨id, ix, ct, sz⟩], now⟩] } v' xs' ∧ Chg (fun k => k = q ∨ some k = v.ownBlock) w w' ∧ ∀ k, v'.ownBlock = some k → some k = v.ownBlock ∨ w.heap.size ≤ k := by
  have HH := Lib.hid h
  have HOK := Lib.hid hok
  have HSI := Lib.hid hsin
  have HSZ := Lib.hid hsz
  have HNW := Lib.hid hnow
  have HR : Hid (rightF ⟨id, ix, ct, sz⟩ = true) := Lib.hid hr
  have HLE : Hid (P.l.length ≤ 1000) := Lib.hid (by have h1 := hok.many; have h2 := hok.s2; omega)
  have HO1 : Hid (Pok { P with l := expM now P.l }) := Lib.hid (hok.exp now)
  have hcb : (ct == 1) = false := by simpa using hc
  obtain ⟨L1, hL1⟩ : ∃ L1, expM now P.l = L1 := ⟨_, rfl⟩
  have HL1 := Lib.hid hL1
  rw [hL1] at HO1 hK hKN hs hb
  have HK := Lib.hid hK
  obtain ⟨n, hn⟩ : ∃ n, L1.length = n := ⟨_, rfl⟩
  have HN := Lib.hid hn
  have hn16 : (n : Int) ≤ 16 := by have h1 := HO1.out.many; have h2 := HO1.out.s2; simp only at h1 h2; omega
  rw [hL1]
  have HKN : Hid (n ≤ K) := Lib.hid (by rw [← hn]; exact hKN)
  clear hKN
  rw [hn] at hs
  clear hK hL1 hn
  obtain ⟨u1, hu1⟩ : ∃ u1, u1 = w.alloc (.cells #[.int .u64 id, .int .i64 ix, .int .i64 ct, .string sz] 40) := ⟨_, rfl⟩
  obtain ⟨B, hB0⟩ : ∃ B, B = w.heap.size := ⟨_, rfl⟩
  have hb1 : Below w.heap.size w u1 := by rw [hu1]; exact below_alloc w _
  have hbx : u1.heap[B]? = some (.cells #[.int .u64 id, .int .i64 ix, .int .i64 ct, .string sz] 40 (0, 0)) := by rw [hu1, hB0]; exact heap_alloc_new w _
  have HBX := Lib.hid hbx
  have HU1 := Lib.hid hb1
  have HUE := Lib.hid hu1
  have HBE := Lib.hid hB0
  have HPL := Lib.hid (blk_lt h.blk)
  have HSM : Hid (sz.size ≤ maxLen) := Lib.hid (by unfold maxLen; omega)
  obtain ⟨a0, a1, a2, a3⟩ := bx4 hbx
  clear h hok hsin hsz hnow hr hb1 hbx
  go_enter Try.func15, Try.ntmps15
  go_upto_region 1 with fail
  rw [← hu1, ← hB0]
  clear hu1 hB0
  go_wp2_with (first
    | (go_at_call 30; refine (rright_f id ix ct sz _ HSM.out true HR).mono ?_; rintro e w1 ⟨rfl, hb1⟩; have HB1 : Hid (Below w.heap.size w w1) := Lib.hid (HU1.out.trans (hb1.mono HU1.out.size)); have HX1 := Lib.hid ((hb1.block B (blk_lt HBX.out)).trans HBX.out); clear hb1 a0 a1 a2 a3)
    | (go_at_call 12; refine (rexp_k (HH.out.below HB1.out) HLE.out HSI.out now HNW.out).mono ?_; rintro e w2 ⟨rfl, v2, xs2, hx2, hch, hov⟩; have HOV2 : Hid (∀ k, v2.ownBlock = some k → some k = v.ownBlock ∨ w.heap.size ≤ k) := Lib.hid (own_up hov HB1.out.size); have HX2 := Lib.hid hx2; have HC2 := Lib.hid ((Chg.of_below HB1.out).trans hch); have HBX2 := Lib.hid (hch.blk HX1.out (fun e => by have := HPL.out; have := HBE.out; omega)); obtain ⟨x0, x1, x2, x3⟩ := bx4 HBX2.out; clear hx2 hch hov)
    | go_in)
  have HX3 : Hid (RPl w2 q { P with l := L1 } v2 xs2) := Lib.hid (by have := HX2.out; rw [HL1.out] at this; exact this)
  have HXN : Hid (xs2.length = n) := Lib.hid (by rw [HX3.out.len]; exact HN.out)
  clear x0 x1 x2 x3 HX2
  go_loopw [9, 10] (fun x9 x10 wr => ∃ (i : Nat) (y : Int), i ≤ n ∧ x9 = .int .i64 y ∧ x10 = .int .i64 i ∧ Hid (y = if K < i then (K : Int) else -1) ∧ Hid (Below w2.heap.size w2 wr)) (fun _ x10 _ => n - (intG x10).toNat)
  case atStart => exact ⟨0, -1, Nat.zero_le _, rfl, rfl, Lib.hid (by rw [if_neg (by omega)]), Lib.hid (Below.refl _ _)⟩
  case round =>
    obtain ⟨i, y, hi, rfl, rfl, HY, HW⟩ := hrel
    have HXW := Lib.hid (HX3.out.below HW.out)
    have HBW := Lib.hid ((HW.out.block B (blk_lt HBX2.out)).trans HBX2.out)
    by_cases hin : i < n
    · obtain ⟨a, cap, g, hv, c0, _, _, _, d1, d2, hrw⟩ := HXW.out.cells
      obtain ⟨rfl, e0, _, _⟩ := hrw i (by rw [HXN.out]; exact hin)
      obtain ⟨b, cb, gb, hvb, f1, f2, hrb⟩ := HXW.out.parts (j := i) (by rw [HXN.out]; exact hin)
      have hm9 : (xs2.getD i zeroG).1 ∈ L1 := by have := HX3.out.fst; simp only at this; rw [← this]; exact List.mem_map.2 ⟨_, HX3.out.at (by rw [HXN.out]; exact hin), rfl⟩
      have hmok := HO1.out.each _ hm9
      have hpos : 0 < (xs2.getD i zeroG).1.parts.length := List.length_pos_iff.2 hmok.some_
      obtain ⟨rfl, k0, _, _, _⟩ := hrb 0 hpos
      have hhd : (headM (xs2.getD i zeroG).1).id = ((xs2.getD i zeroG).1.parts.getD 0 zeroF).id := rfl
      obtain ⟨bid, hbid⟩ : ∃ bid, ((xs2.getD i zeroG).1.parts.getD 0 zeroF).id = bid := ⟨_, rfl⟩
      have hKi := HK.out i (by rw [HN.out]; exact hin)
      rw [← fst_getD HX3.out.fst (by rw [HXN.out]; exact hin), hhd, hbid] at hKi
      rw [hvb] at e0
      rw [hbid] at k0
      obtain ⟨nb, hnb⟩ : ∃ nb, (xs2.getD i zeroG).1.parts.length = nb := ⟨_, rfl⟩
      rw [hnb] at e0 hpos f1
      rw [HXN.out] at c0 d1
      have i1 : (i : Int) < (n : Int) := by omega
      have p1 : (0 : Int) < (nb : Int) := by omega
      have HI := Lib.hid hin
      obtain ⟨z0, _, _, _⟩ := bx4 HBW.out
      simp only [Nat.zero_mul] at k0
      clear hv hrw hvb hrb hm9 hmok hhd hbid hnb hi hin d2 f2
      by_cases hiK : i = K
      · have hbe : bid = id := hKi.2 hiK
        rw [hbe] at k0
        clear hbe
        have HIK := Lib.hid hiK
        clear hiK hKi
        go_wp2_with fail
        go_quiet (fail)
        go_wp2_with fail
        go_roundw
        case rel => exact ⟨i + 1, (i : Int), HI.out, rfl, by go_num, Lib.hid (by rw [if_pos (by have := HIK.out; omega), HIK.out]), Lib.hid (below_drew HW.out _)⟩
        case measure => have := HI.out; simp [intG]; omega
      · have hbe : ¬ bid = id := fun e => hiK (hKi.1 e)
        have HIK := Lib.hid hiK
        clear hiK hKi
        go_wp2_with fail
        go_quiet (fail)
        go_wp2_with fail
        go_roundw
        case rel => exact ⟨i + 1, y, HI.out, rfl, by go_num, Lib.hid (by
          have h9 := HIK.out
          rw [HY.out]
          by_cases hq : K < i
          · rw [if_pos hq, if_pos (by omega)]
          · rw [if_neg hq, if_neg (by omega)]), Lib.hid (below_drew HW.out _)⟩
        case measure => have := HI.out; simp [intG]; omega
    · obtain rfl : i = n := by omega
      have t0 : decide (i < i) = false := decide_eq_false (Nat.lt_irrefl _)
      clear hi hin
      have HCW := Lib.hid (HC2.out.trans (Chg.of_below HW.out))
      obtain ⟨a, cap, g, hv, c0, c1, c2, fz, d1, d2, hrw⟩ := HXW.out.cells
      rw [HXN.out] at c0 d1
      have HRW := Lib.hid hrw
      have HV := Lib.hid hv
      obtain ⟨z0, z1, z2, z3⟩ := bx4 HBW.out
      clear hrw hv
      obtain ⟨hh, hhh⟩ : ∃ hh : Int, (heldM L1 : Int) = hh := ⟨_, rfl⟩
      have HHH := Lib.hid hhh
      have hhb : 0 ≤ hh ∧ hh ≤ 65536 := by have h1 := HO1.out.held; have h2 := HO1.out.b2; simp only at h1 h2; omega
      have HHB : Hid (heldM L1 ≤ 65536) := Lib.hid (by have h1 := HO1.out.held; have h2 := HO1.out.b2; simp only at h1 h2; omega)
      have HPS : Hid (∀ m, m ∈ L1 → m.parts.length ≤ 1000) := Lib.hid (fun m hm => parts_few (HO1.out.each m hm))
      have hwr : IntKind.i64.wrap (hh + (sz.size : Int)) = hh + (sz.size : Int) := i64_mill (by omega) (by have := HSZ.out; omega)
      obtain ⟨h0, h65⟩ := hhb
      clear hhh h65 h0
      rw [HHH.out] at hb
      have HYN : Hid (y = -1) := Lib.hid (by rw [HY.out, if_neg (by have := HKN.out; omega)])
      obtain rfl := HYN.out
      go_wp2_with (first | (go_at_call 18; refine (rheld_e HXW.out HHB.out (by have := HN.out; simp only; omega) HPS.out (i : Int) hh (by simp only; rw [HN.out]) HHH.out).mono ?_; rintro e w9 ⟨rfl, rfl⟩) | go_in)
      go_quiet (fail)
      have HXZ := Lib.hid (HXW.out.below (below_drew (Below.refl _ _) nq))
      have HCZ := Lib.hid (HCW.out.trans (Chg.drew (S := fun k => k = q) w9 nq))
      have HBZ := Lib.hid (show (w9.drewN nq).heap[B]? = _ from HBW.out)
      clear c0 c1 c2 fz z0 z1 z2 z3
      generalize w9.drewN nq = wz at HXZ HCZ HBZ ⊢
      go_upto_region 16 with fail
      obtain ⟨a5, cap5, g5, hv5, c0, _, _, fz, d1', _, _⟩ := HXZ.out.cells
      rw [HXN.out] at c0
      have HV5 := Lib.hid hv5
      obtain ⟨z0, z1, z2, z3⟩ := bx4 HBZ.out
      have HZL := Lib.hid (blk_lt HBZ.out)
      have c0' : ∀ o, (wz.alloc o).cell? ⟨q, 0, none⟩ = some (.slice a5 i cap5) := fun o => ((below_alloc wz o).cell (block_lt_of_cell c0)).trans c0
      have c0'' : ∀ o o2, ((wz.alloc o).alloc o2).cell? ⟨q, 0, none⟩ = some (.slice a5 i cap5) := fun o o2 => ((below_alloc _ o2).cell (block_lt_of_cell (c0' o))).trans (c0' o)
      have z0' : ∀ o, (wz.alloc o).cell? ⟨B, 0, none⟩ = some (.int .u64 id) := fun o => ((below_alloc wz o).cell (block_lt_of_cell z0)).trans z0
      clear hv5 d1'
      have HOWN : Hid ((((wz.alloc (.cells #[.int .u64 id, .int .i64 ix, .int .i64 ct, .string sz] 40)).alloc (.cells #[.slice (some ⟨wz.heap.size, 0, none⟩) 1 1, .int .u64 now] 71)).drew).ownsRow 0 71 2 (.slice a5 i cap5) xs2.length (cellsG xs2)) := Lib.hid (by
        have h9 := HXZ.out.row
        rw [HV5.out, HXN.out] at h9
        rw [HXN.out]
        exact (h9.alloc _).alloc _)
      have HSB : Hid ((wz.alloc (.cells #[.int .u64 id, .int .i64 ix, .int .i64 ct, .string sz] 40)).heap.size = wz.heap.size + 1) := Lib.hid (by simp)
      have HBK : Hid ((((wz.alloc (.cells #[.int .u64 id, .int .i64 ix, .int .i64 ct, .string sz] 40)).alloc (.cells #[.slice (some ⟨wz.heap.size, 0, none⟩) 1 1, .int .u64 now] 71)).drew).heap[wz.heap.size + 1]? = some (.cells #[(((⟨[(⟨id, ix, ct, sz⟩ : Fr)], now⟩, .slice (some ⟨wz.heap.size, 0, none⟩) 1 1) : Mv)).2, .int .u64 (((⟨[(⟨id, ix, ct, sz⟩ : Fr)], now⟩, .slice (some ⟨wz.heap.size, 0, none⟩) 1 1) : Mv)).1.since] 71 (0, 0))) := Lib.hid (by
        have h9 := heap_alloc_new (wz.alloc (.cells #[.int .u64 id, .int .i64 ix, .int .i64 ct, .string sz] 40)) (.cells #[.slice (some ⟨wz.heap.size, 0, none⟩) 1 1, .int .u64 now] 71)
        rw [HSB.out] at h9
        exact h9)
      have HM9 : Hid (xs2.length < 90000) := Lib.hid (by rw [HXN.out]; omega)
      have HBW2 : Hid (Below wz.heap.size wz (((wz.alloc (.cells #[.int .u64 id, .int .i64 ix, .int .i64 ct, .string sz] 40)).alloc (.cells #[.slice (some ⟨wz.heap.size, 0, none⟩) 1 1, .int .u64 now] 71)).drew)) := Lib.hid (below_drew1 ((below_alloc wz _).trans ((below_alloc _ _).mono (below_alloc wz _).size)))
      have HFB : Hid ((((wz.alloc (.cells #[.int .u64 id, .int .i64 ix, .int .i64 ct, .string sz] 40)).alloc (.cells #[.slice (some ⟨wz.heap.size, 0, none⟩) 1 1, .int .u64 now] 71)).drew).heap[wz.heap.size]? = some (.cells #[.int .u64 id, .int .i64 ix, .int .i64 ct, .string sz] 40 (0, 0))) := Lib.hid (((below_alloc _ (.cells #[.slice (some ⟨wz.heap.size, 0, none⟩) 1 1, .int .u64 now] 71)).block _ (by rw [HSB.out]; omega)).trans (heap_alloc_new wz (.cells #[.int .u64 id, .int .i64 ix, .int .i64 ct, .string sz] 40)))
      have HXV : Hid (RPl wz q { P with l := L1 } (.slice a5 i cap5) xs2) := Lib.hid (by have h9 := HXZ.out; rw [HV5.out, HXN.out] at h9; exact h9)
      go_region_law (refine step_appG (((wz.alloc (.cells #[.int .u64 id, .int .i64 ix, .int .i64 ct, .string sz] 40)).alloc (.cells #[.slice (some ⟨wz.heap.size, 0, none⟩) 1 1, .int .u64 now] 71)).drew) rfl (.tmp 81) (.tmp 86) rfl (.slice a5 i cap5) xs2 (⟨[(⟨id, ix, ct, sz⟩ : Fr)], now⟩, .slice (some ⟨wz.heap.size, 0, none⟩) 1 1) (by first | rfl | simp [Act.eval, Act.put]) HOWN.out (wz.heap.size + 1) 1 (by first | rfl | simp [Act.eval, Act.put]) HBK.out rfl HM9.out ?_; intro g4 cap4 w4 hr4 hg4 hgg4; obtain ⟨hpc, hp0, hpf, hpk⟩ := push_facts HXV.out HBW2.out hg4; have HPC := Lib.hid hpc; have HPK := Lib.hid hpk; have HR4 := Lib.hid hr4; have HGG := Lib.hid hgg4; clear hpc hpk hr4 hg4 hgg4)
      all_goals
        go_wp2_with fail
        have hfw : w4.heap[wz.heap.size]? = some (.cells #[.int .u64 id, .int .i64 ix, .int .i64 ct, .string sz] 40 (0, 0)) := (HPK.out _ (by have := HBW2.out.size; have := HSB.out; simp; omega) (Nat.le_refl _)).trans HFB.out
        have key := RPl.push (P := { P with l := L1 }) HXV.out (OwnF.of_block (f := (⟨id, ix, ct, sz⟩ : Fr)) hfw) HR4.out HPC.out (by rcases HGG.out with r | r; exact .inl r; exact .inr (by rw [r]; exact HBW2.out.size))
        have hx7 := key.1
        have hov := HOV2.out
        rw [HV5.out, HXN.out] at hov
        have hfin : Chg (fun k => k = q ∨ some k = v.ownBlock) w _ := (HCZ.out.mono (T := fun k => k = q ∨ some k = v.ownBlock) (fun k e => .inl e)).wide key.2 (fun k e => by
          rcases e with e | e
          · exact .inl (.inl e)
          · rcases hov k e.symm with r | r
            · exact .inl (.inr r)
            · exact .inr r)
        have hown : ∀ k, (Value.slice (some ⟨g4, 0, none⟩) (xs2.length + 1) cap4).ownBlock = some k → some k = v.ownBlock ∨ w.heap.size ≤ k := fun k hk => by
          simp only [Value.ownBlock, Option.some.injEq] at hk
          subst hk
          rcases HGG.out with r | r
          · exact hov _ r
          · exact .inr (by rw [r]; exact Nat.le_trans HCZ.out.size HBW2.out.size)
        exact bodyPost_ret (v := .tuple #[.string ⟨#[]⟩, .bool false, .int .i64 0]) (by simp [results, Try.results15, go_sem]) rfl (by first | exact ⟨rfl, _, ⟨_, hx7⟩, hfin, hown⟩ | exact ⟨rfl, _, _, hx7, hfin, hown⟩)

end Go.Proofs.Ytjcgckhheegonaa
