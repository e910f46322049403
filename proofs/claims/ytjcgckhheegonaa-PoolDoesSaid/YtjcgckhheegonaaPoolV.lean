/- The program's pool: what its functions do, over one word, Pls; behind it what the laws carry. -/
import Derived.Test.YtjcgckhheegonaaPoolA
namespace Go.Proofs.Ytjcgckhheegonaa
open Go.RowKit
set_option linter.unusedVariables false
set_option linter.unusedSimpArgs false
set_option maxRecDepth 20000
/-- The program's pool behind the pointer to block p: F, the blocks that are its own; what it holds. -/
def Pls (F : Nat → Prop) (w : World) (p : Nat) (P : Pl) : Prop := Pok P ∧ (∀ m, m ∈ P.l → U64 m.since) ∧ ∃ bh bp ps, PAt w p bh bp P.slots P.bytes P.l ps ∧ ∀ k, F k ↔ Its p bh bp ps k
section
variable {F S : Nat → Prop} {w w' : World} {p : Nat} {P : Pl}
theorem Pls.lt (h : Pls F w p P) (k : Nat) (hk : F k) : k < w.heap.size := by
  obtain ⟨_, _, bh, bp, ps, h1, h2⟩ := h
  exact h1.lt k ((h2 k).1 hk)
theorem Pls.ok (h : Pls F w p P) : Pok P := h.1
theorem Pls.keep (h : Pls F w p P) (hc : Chg S w w') (hn : ∀ k, F k → ¬ S k) : Pls F w' p P := by
  obtain ⟨h0, h3, bh, bp, ps, h1, h2⟩ := h
  exact ⟨h0, h3, bh, bp, ps, h1.chg hc (fun k hk => hn k ((h2 k).2 hk)), h2⟩
/-- A block of cells of another type than the pool's is none of its blocks. -/
theorem Pls.alien (h : Pls F w p P) {g : Nat} {cs : Array Value} {T : TypeId} {fr : Nat × Nat} (hg : w.heap[g]? = some (.cells cs T fr)) (hT : T ≠ 61) : ¬ F g := by
  obtain ⟨_, _, bh, bp, ps, h1, h2⟩ := h
  intro hF
  rcases (h2 g).1 hF with e | e | e | ⟨x, hx, e⟩
  · rw [e, h1.blk] at hg
    injection hg with hg
    injection hg with _ hg
    exact hT hg.symm
  · exact h1.heads.kind (e ▸ hg)
  · exact h1.parts.kind (e ▸ hg)
  · exact (h1.each x hx).kind (e ▸ hg)
end
def FSub (F F' : Nat → Prop) (w : World) : Prop := ∀ k, F' k → F k ∨ w.heap.size ≤ k
theorem new_k (slots bytes : Int) (w : World) (h : 1 ≤ slots ∧ slots ≤ 16 ∧ 1 ≤ bytes ∧ bytes ≤ 65536) : Calls Try.prog 9 #[.int .i64 slots, .int .i64 bytes] w fun e w' => ∃ p F, e = .returned (.tuple #[.pointer (some ⟨p, 0, none⟩), .int .i64 0]) ∧ Pls F w' p ⟨[], slots, bytes⟩ ∧ (∀ k, F k → w.heap.size ≤ k) ∧ Below w.heap.size w w' := by
  refine (new_at slots bytes w h).mono ?_
  rintro e w' ⟨p, bh, bp, he, h1, h2, h3, h4, h5⟩
  refine ⟨p, Its p bh bp [], he, ⟨⟨h.1, h.2.1, h.2.2.1, h.2.2.2, by simp only [List.length_nil]; omega, by simp only [heldM, List.foldr_nil]; omega, List.nodup_nil, fun m hm => by simp at hm⟩, fun m hm => by simp at hm, bh, bp, [], h1, fun k => Iff.rfl⟩, fun k hk => ?_, h5⟩
  rcases hk with e | e | e | ⟨x, hx, _⟩
  · rw [e]; exact h2
  · rw [e]; exact h3
  · rw [e]; exact h4
  · simp at hx
theorem exp_k (F : Nat → Prop) (p : Nat) (now : Int) (P : Pl) (w : World) (h : Pls F w p P) (hnow : U64 now) :
    Calls Try.prog 11 #[.pointer (some ⟨p, 0, none⟩), .int .u64 now] w fun e w' => ∃ F', e = .returned (.int .i64 (expP now P).2) ∧ Pls F' w' p (expP now P).1 ∧ FSub F F' w ∧ Chg F w w' := by
  obtain ⟨h0, h3, bh, bp, ps, h1, h2⟩ := h
  refine (exp_at h1 (by have := h0.many; have := h0.s2; omega) h3 now hnow).mono ?_
  rintro e w' ⟨he, bh', bp', ps', g1, g2, g3, g4, g5⟩
  refine ⟨Its p bh' bp' ps', he, ⟨h0.exp now, fun m hm => h3 m (List.mem_filter.1 hm).1, bh', bp', ps', g3, fun k => Iff.rfl⟩, fun k hk => ?_, g5.mono (fun k e => (h2 k).2 (.inl e))⟩
  rcases hk with e | e | e | ⟨x, hx, e⟩
  · exact .inl ((h2 k).2 (.inl e))
  · exact .inr (by rw [e]; exact g1)
  · exact .inr (by rw [e]; exact g2)
  · exact .inl ((h2 k).2 (.inr (.inr (.inr ⟨x, g4 x hx, e⟩))))
theorem held_k (F : Nat → Prop) (p : Nat) (P : Pl) (w : World) (h : Pls F w p P) :
    Calls Try.prog 17 #[.pointer (some ⟨p, 0, none⟩)] w fun e w' => e = .returned (.tuple #[.int .i64 P.l.length, .int .i64 (heldM P.l)]) ∧ Below w.heap.size w w' := by
  obtain ⟨h0, h3, bh, bp, ps, h1, h2⟩ := h
  exact held_at h1 (by have := h0.held; have := h0.b2; omega)
/-- What a part's times are. -/
theorem addL_since {f : Fr} {now s b : Int} {l : List Ms} (h : ∀ m, m ∈ l → U64 m.since) (hn : U64 now) : ∀ m, m ∈ (addL f now s b l).1 → U64 m.since := by
  have hwo : ∀ m, m ∈ wo f.id l → U64 m.since := fun m hm => h m (List.mem_filter.1 hm).1
  have hput : ∀ m, m ∈ putM f.id f l → U64 m.since := fun m hm => by
    obtain ⟨y, hy, rfl⟩ := List.mem_map.1 hm
    split
    · exact h y hy
    · exact h y hy
  unfold addL
  split
  · split
    · exact h
    · intro m hm
      rcases List.mem_append.1 hm with q | q
      · exact h m q
      · simp only [List.mem_singleton] at q
        subst q; exact hn
  · split
    · exact h
    · split
      · exact h
      · split
        · exact h
        · split
          · exact hput
          · split
            · exact hwo
            · exact hwo
theorem addL_ref {f : Fr} {now s b : Int} {l : List Ms} (h : refE f s b l ≠ 0) : addL f now s b l = (l, (⟨#[]⟩, false, refE f s b l)) := by
  unfold addL refE at *
  cases hf : findM f.id l with
  | none =>
    simp only [hf] at h ⊢
    split
    · rfl
    · rename_i e; rw [if_neg e] at h; exact absurd rfl h
  | some m =>
    simp only [hf] at h ⊢
    split
    · rfl
    · rename_i e1
      rw [if_neg e1] at h
      split
      · rfl
      · rename_i e2
        rw [if_neg e2] at h
        split
        · rfl
        · rename_i e3
          rw [if_neg e3] at h
          exact absurd rfl h
theorem addL_new {f : Fr} {now s b : Int} {l : List Ms} (h : refE f s b l = 0) (hf : findM f.id l = none) : addL f now s b l = (l ++ [⟨[f], now⟩], (⟨#[]⟩, false, 0)) := by
  unfold addL
  unfold refE at h
  simp only [hf] at h ⊢
  split
  · rename_i e; rw [if_pos e] at h; cases h
  · rfl
theorem addL_old {f : Fr} {now s b : Int} {l : List Ms} {m : Ms} (h : refE f s b l = 0) (hf : findM f.id l = some m) : addL f now s b l = if ((m.parts.length + 1 : Nat) : Int) < f.ct then (putM f.id f l, (⟨#[]⟩, false, 0)) else (wo f.id l, endF (m.parts ++ [f])) := by
  unfold addL
  unfold refE at h
  simp only [hf] at h ⊢
  split
  · rename_i e; rw [if_pos e] at h; cases h
  · rename_i e1
    rw [if_neg e1] at h
    split
    · rename_i e; rw [if_pos e] at h; cases h
    · rename_i e2
      rw [if_neg e2] at h
      split
      · rename_i e; rw [if_pos e] at h; cases h
      · split
        · rfl
        · unfold endF
          split <;> rfl
theorem add_k (F : Nat → Prop) (p : Nat) (f : Fr) (now : Int) (P : Pl) (w : World) (h : Pls F w p P) (hf : f.s.size ≤ 1000000) (hw : f.Wf) (hnow : U64 now) :
    Calls Try.prog 14 #[.pointer (some ⟨p, 0, none⟩), .agg f.cl, .int .u64 now] w fun e w' => ∃ F', e = .returned (.tuple #[.string (addP f now P).2.1, .bool (addP f now P).2.2.1, .int .i64 (addP f now P).2.2.2]) ∧ Pls F' w' p (addP f now P).1 ∧ FSub F F' w ∧ Chg F w w' := by
  obtain ⟨h0, h3, bh, bp, ps, h1, h2⟩ := h
  obtain ⟨id, ix, ct, sz⟩ := f
  have hok2 := Pok.addP h0 ⟨id, ix, ct, sz⟩ now
  have hs1 : ∀ m, m ∈ expM now P.l → U64 m.since := fun m hm => h3 m (List.mem_filter.1 hm).1
  -- the end of every way
  have fin : ∀ (t : ByteArray) (ok : Bool) (E : Nat) (L : List Ms) (e : Ending) (w' : World), (addP ⟨id, ix, ct, sz⟩ now P) = ({ P with l := L }, (t, ok, E)) → (∀ m, m ∈ L → U64 m.since) →
      (e = .returned (.tuple #[.string t, .bool ok, .int .i64 E]) ∧ ∃ bh' bp' ps', PAt w' p bh' bp' P.slots P.bytes L ps' ∧ (∀ k, Its p bh' bp' ps' k → Its p bh bp ps k ∨ w.heap.size ≤ k) ∧ Chg (fun k => k = p) w w') →
      ∃ F', e = .returned (.tuple #[.string (addP ⟨id, ix, ct, sz⟩ now P).2.1, .bool (addP ⟨id, ix, ct, sz⟩ now P).2.2.1, .int .i64 (addP ⟨id, ix, ct, sz⟩ now P).2.2.2]) ∧ Pls F' w' p (addP ⟨id, ix, ct, sz⟩ now P).1 ∧ FSub F F' w ∧ Chg F w w' := by
    intro t ok E L e w' hd hsn ⟨he, bh', bp', ps', g1, g2, g3⟩
    rw [hd] at hok2 ⊢
    refine ⟨Its p bh' bp' ps', he, ⟨hok2, hsn, bh', bp', ps', g1, fun k => Iff.rfl⟩, fun k hk => ?_, g3.mono (fun k e => (h2 k).2 (.inl e))⟩
    rcases g2 k hk with q | q
    · exact .inl ((h2 k).2 q)
    · exact .inr q
  cases hr : rightF ⟨id, ix, ct, sz⟩ with
  | false =>
    refine (addw_bad h1 h0 h3 id ix ct now sz hf hnow hr).mono fun e w' q => fin _ _ _ P.l e w' ?_ h3 q
    unfold addP
    rw [if_pos hr]
  | true =>
    have hnr : ¬ rightF ⟨id, ix, ct, sz⟩ = false := by rw [hr]; decide
    by_cases hc : ct = 1
    · subst hc
      refine (addw_one h1 h0 h3 id ix now sz hf hnow hr).mono fun e w' q => fin _ _ _ (expM now P.l) e w' ?_ hs1 q
      unfold addP
      rw [if_neg hnr]
      exact if_pos rfl
    · have hcc : ¬ (ct == 1) = true := by simpa using hc
      have ha : addP ⟨id, ix, ct, sz⟩ now P = ({ P with l := (addL ⟨id, ix, ct, sz⟩ now P.slots P.bytes (expM now P.l)).1 }, (addL ⟨id, ix, ct, sz⟩ now P.slots P.bytes (expM now P.l)).2) := by
        unfold addP
        rw [if_neg hnr, if_neg hcc]
      by_cases hE : refE ⟨id, ix, ct, sz⟩ P.slots P.bytes (expM now P.l) = 0
      · cases hfi : findM id (expM now P.l) with
        | none =>
          have hx := addL_new (now := now) hE hfi
          refine (addw_new h1 h0 h3 id ix ct now sz hf hnow hr hc hE hfi).mono fun e w' q => fin _ _ _ _ e w' (by rw [ha, hx]) ?_ q
          have := addL_since (f := ⟨id, ix, ct, sz⟩) (s := P.slots) (b := P.bytes) hs1 hnow
          rw [hx] at this
          exact this
        | some m =>
          have hx := addL_old (now := now) hE hfi
          have hsn := addL_since (f := ⟨id, ix, ct, sz⟩) (s := P.slots) (b := P.bytes) hs1 hnow
          by_cases hlt : ((m.parts.length + 1 : Nat) : Int) < ct
          · rw [if_pos hlt] at hx
            rw [hx] at hsn
            exact (addw_more h1 h0 h3 id ix ct now sz hf hnow hr hc hE m hfi _ rfl hlt).mono fun e w' q => fin _ _ _ _ e w' (by rw [ha, hx]) hsn q
          · rw [if_neg hlt] at hx
            rw [hx] at hsn
            obtain ⟨t, ok, E, hend⟩ : ∃ t ok E, endF (m.parts ++ [⟨id, ix, ct, sz⟩]) = (t, ok, E) := ⟨_, _, _, rfl⟩
            rw [hend] at hx
            exact (addw_last h1 h0 h3 id ix ct now sz hf hnow hr hc hE m hfi _ rfl hlt t ok E hend).mono fun e w' q => fin _ _ _ _ e w' (by rw [ha, hx]) hsn q
      · have hx := addL_ref (now := now) hE
        exact (addw_err h1 h0 h3 id ix ct now sz hf hnow hr hc _ (by omega) rfl).mono fun e w' q => fin _ _ _ _ e w' (by rw [ha, hx]) hs1 q
/-! ### What the laws carry: the pool, made in the call -/
structure PlS (w0 : World) (F : Nat → Prop) (w : World) (p : Nat) (P : Pl) : Prop where
  al : Pls F w p P
  own : ∀ k, F k → w0.heap.size ≤ k
  low : Below w0.heap.size w0 w
/-- A row of parts that another call made, beside the pool. -/
structure Fro (F : Nat → Prop) (w : World) (v : Value) (fs : List Fr) : Prop where
  row : ∃ base, OwnF 35 base v fs w
  off : ∀ k, v.ownBlock = some k → ¬ F k
section
variable {w0 w w' : World} {F F' : Nat → Prop} {p : Nat} {P P' : Pl} {v : Value} {fs : List Fr}
theorem Fro.keep (h : Fro F w v fs) (hc : Chg F w w') (hf : FSub F F' w) : Fro F' w' v fs := by
  obtain ⟨base, hr⟩ := h.row
  exact ⟨⟨base, hr.chg hc h.off⟩, fun k hk q => by
    rcases hf k q with a | a
    · exact h.off k hk a
    · have := (World.ownsRow.lt hr k hk).2; omega⟩
theorem Fro.below (h : Fro F w v fs) (hb : Below w.heap.size w w') : Fro F w' v fs := by
  obtain ⟨base, hr⟩ := h.row
  exact ⟨⟨base, hr.below hb⟩, h.off⟩
theorem Fro.at (h : Fro F w v fs) : ∃ a c, v = .slice a fs.length c ∧ RowF w a c fs := by
  obtain ⟨base, hr⟩ := h.row
  exact hr.at
/-- A row that was made behind the pool. -/
theorem Fro.new (h : Pls F w p P) (hr : OwnF 35 w.heap.size v fs w') : Fro F w' v fs := ⟨⟨_, hr⟩, fun k hk q => by
  have := (World.ownsRow.lt hr k hk).1
  have := h.lt k q
  omega⟩
theorem PlS.below (h : PlS w0 F w p P) (hb : Below w.heap.size w w') : PlS w0 F w' p P :=
  ⟨h.al.keep (Chg.of_below (S := fun _ => False) hb) (fun _ _ q => q), h.own, h.low.trans (hb.mono h.low.size)⟩
theorem PlS.next (h : PlS w0 F w p P) (ha : Pls F' w' p P') (hf : FSub F F' w) (hc : Chg F w w') : PlS w0 F' w' p P' :=
  ⟨ha, fun k hk => by rcases hf k hk with a | a; exact h.own k a; exact Nat.le_trans h.low.size a, h.low.trans (hc.below h.own h.low.size)⟩
theorem new_s (slots bytes : Int) (w0 w : World) (hl : Below w0.heap.size w0 w) (h : 1 ≤ slots ∧ slots ≤ 16 ∧ 1 ≤ bytes ∧ bytes ≤ 65536) : Calls Try.prog 9 #[.int .i64 slots, .int .i64 bytes] w fun e w' => ∃ p F, e = .returned (.tuple #[.pointer (some ⟨p, 0, none⟩), .int .i64 0]) ∧ PlS w0 F w' p ⟨[], slots, bytes⟩ ∧ (∀ k, F k → w.heap.size ≤ k) ∧ Below w.heap.size w w' := by
  refine (new_k slots bytes w h).mono ?_
  rintro e w' ⟨p, F, he, ha, hf, hb⟩
  exact ⟨p, F, he, ⟨ha, fun k hk => Nat.le_trans hl.size (hf k hk), hl.trans (hb.mono hl.size)⟩, hf, hb⟩
theorem add_s (h : PlS w0 F w p P) (f : Fr) (now : Int) (cs : Array Value) (P' : Pl) (t : ByteArray) (b : Bool) (E : Nat) (er : Int) (hf : f.s.size ≤ 1000000) (hw : f.Wf) (hnow : U64 now) (hcs : f.cl = cs) (hd : addP f now P = (P', t, b, E)) (he : (E : Int) = er) :
    Calls Try.prog 14 #[.pointer (some ⟨p, 0, none⟩), .agg cs, .int .u64 now] w fun e w' => ∃ F', e = .returned (.tuple #[.string t, .bool b, .int .i64 er]) ∧ PlS w0 F' w' p P' ∧ FSub F F' w ∧ Chg F w w' := by
  subst he hcs
  refine (add_k F p f now P w h.al hf hw hnow).mono ?_
  rintro e w' ⟨F', h1, h2, h3, h4⟩
  rw [hd] at h1 h2
  exact ⟨F', h1, h.next h2 h3 h4, h3, h4⟩
theorem exp_s (h : PlS w0 F w p P) (now : Int) (P' : Pl) (n : Int) (N : Nat) (hnow : U64 now) (hd : expP now P = (P', N)) (hn : (N : Int) = n) :
    Calls Try.prog 11 #[.pointer (some ⟨p, 0, none⟩), .int .u64 now] w fun e w' => ∃ F', e = .returned (.int .i64 n) ∧ PlS w0 F' w' p P' ∧ FSub F F' w ∧ Chg F w w' := by
  subst hn
  refine (exp_k F p now P w h.al hnow).mono ?_
  rintro e w' ⟨F', h1, h2, h3, h4⟩
  rw [hd] at h1 h2
  exact ⟨F', h1, h.next h2 h3 h4, h3, h4⟩
theorem held_s (h : PlS w0 F w p P) (a b : Int) (ha : (P.l.length : Int) = a) (hb : (heldM P.l : Int) = b) :
    Calls Try.prog 17 #[.pointer (some ⟨p, 0, none⟩)] w fun e w' => e = .returned (.tuple #[.int .i64 a, .int .i64 b]) ∧ Below w.heap.size w w' := by
  subst ha hb
  exact held_k F p P w h.al
end
end Go.Proofs.Ytjcgckhheegonaa
