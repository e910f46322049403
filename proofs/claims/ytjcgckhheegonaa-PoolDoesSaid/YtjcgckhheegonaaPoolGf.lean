/- The program's pool beside the document's: what the law carries. -/
import Derived.Test.YtjcgckhheegonaaPoolX
import Derived.Test.YtjcgckhheegonaaPoolGe
namespace Go.Proofs.Ytjcgckhheegonaa
open Go.RowKit
set_option linter.unusedVariables false
set_option linter.unusedSimpArgs false
set_option maxRecDepth 20000
theorem addP_since {f : Fr} {now : Int} {P : Pl} (h : ∀ m, m ∈ P.l → U64 m.since) (hn : U64 now) : ∀ m, m ∈ (addP f now P).1.l → U64 m.since := by
  have h1 : ∀ m, m ∈ expM now P.l → U64 m.since := fun m hm => h m (List.mem_filter.1 hm).1
  unfold addP
  split
  · exact h
  · split
    · exact h1
    · exact addL_since h1 hn
/-- The program's pool at p holds P, the document's at q holds R; both were made in the call. -/
structure Two (w0 : World) (F : Nat → Prop) (w : World) (p q : Nat) (P R : Pl) (v : Value) (xs : List Mv) : Prop where
  al : PlS w0 F w p P
  re : RPl w q R v xs
  ok : Pok R
  sin : ∀ m, m ∈ R.l → U64 m.since
  hq : w0.heap.size ≤ q
  hv : ∀ k, v.ownBlock = some k → w0.heap.size ≤ k
section
variable {w0 w w' : World} {F F' : Nat → Prop} {p q : Nat} {P P' R : Pl} {v : Value} {xs : List Mv}
theorem Two.below (h : Two w0 F w p q P R v xs) (hb : Below w.heap.size w w') : Two w0 F w' p q P R v xs := ⟨h.al.below hb, h.re.below hb, h.ok, h.sin, h.hq, h.hv⟩
/-- The document's blocks are none of the program's. -/
theorem Two.offq (h : Two w0 F w p q P R v xs) : ¬ F q := h.al.al.alien h.re.blk (by decide)
theorem Two.offv (h : Two w0 F w p q P R v xs) : ∀ k, v.ownBlock = some k → ¬ F k := fun k hk => by
  obtain ⟨cs, hcs⟩ := h.re.rowK k hk
  exact h.al.al.alien hcs (by decide)
theorem Two.offx (h : Two w0 F w p q P R v xs) : ∀ x, x ∈ xs → ∀ k, x.2.ownBlock = some k → ¬ F k := fun x hx k hk => by
  obtain ⟨cs, hcs⟩ := h.re.partK hx k hk
  exact h.al.al.alien hcs (by decide)
theorem Two.own (h : Two w0 F w p q P R v xs) (ha : PlS w0 F' w' p P') (hc : Chg F w w') : Two w0 F' w' p q P' R v xs := ⟨ha, h.re.chg hc h.offq h.offv h.offx, h.ok, h.sin, h.hq, h.hv⟩
theorem Two.ref {R' : Pl} {v' : Value} {xs' : List Mv} (h : Two w0 F w p q P R v xs) (hr : RPl w' q R' v' xs') (hok : Pok R') (hsin : ∀ m, m ∈ R'.l → U64 m.since) (hc : Chg (fun k => k = q ∨ some k = v.ownBlock) w w') (ho : ∀ k, v'.ownBlock = some k → some k = v.ownBlock ∨ w.heap.size ≤ k) : Two w0 F w' p q P R' v' xs' := by
  refine ⟨⟨h.al.al.keep hc (fun k hF hk => ?_), h.al.own, h.al.low.trans (hc.below (fun k hk => ?_) h.al.low.size)⟩, hr, hok, hsin, h.hq, fun k hk => ?_⟩
  · rcases hk with e | e
    · exact h.offq (e ▸ hF)
    · exact h.offv k e.symm hF
  · rcases hk with e | e
    · rw [e]; exact h.hq
    · exact h.hv k e.symm
  · rcases ho k hk with e | e
    · exact h.hv k e.symm
    · exact Nat.le_trans h.al.low.size e
theorem expA (h : Two w0 F w p q P R v xs) (now : Int) (P' : Pl) (n : Int) (N : Nat) (hnow : U64 now) (hd : expP now P = (P', N)) (hn : (N : Int) = n) :
    Calls Try.prog 11 #[.pointer (some ⟨p, 0, none⟩), .int .u64 now] w fun e w' => ∃ F', e = .returned (.int .i64 n) ∧ Two w0 F' w' p q P' R v xs :=
  (exp_s h.al now P' n N hnow hd hn).mono fun e w' ⟨F', h1, h2, h3, h4⟩ => ⟨F', h1, h.own h2 h4⟩
theorem expB (h : Two w0 F w p q P R v xs) (now : Int) (R' : Pl) (n : Int) (N : Nat) (hnow : U64 now) (hd : expP now R = (R', N)) (hn : (N : Int) = n) :
    Calls Try.prog 12 #[.pointer (some ⟨q, 0, none⟩), .int .u64 now] w fun e w' => ∃ v' xs', e = .returned (.int .i64 n) ∧ Two w0 F w' p q P R' v' xs' := by
  subst hn
  unfold expP at hd
  injection hd with hd1 hd2
  subst hd1 hd2
  refine (rexp_k h.re (by have h1 := h.ok.many; have h2 := h.ok.s2; omega) h.sin now hnow).mono ?_
  rintro e w' ⟨he, v', xs', h1, h2, h3⟩
  exact ⟨v', xs', he, h.ref h1 (h.ok.exp now) (fun m hm => h.sin m (List.mem_filter.1 hm).1) (h2.mono (fun k e => .inl e)) h3⟩
theorem addA (h : Two w0 F w p q P R v xs) (f : Fr) (now : Int) (cs : Array Value) (P' : Pl) (t : ByteArray) (b : Bool) (E : Nat) (er : Int) (hf : f.s.size ≤ 1000000) (hw : f.Wf) (hnow : U64 now) (hcs : f.cl = cs) (hd : addP f now P = (P', t, b, E)) (he : (E : Int) = er) :
    Calls Try.prog 14 #[.pointer (some ⟨p, 0, none⟩), .agg cs, .int .u64 now] w fun e w' => ∃ F', e = .returned (.tuple #[.string t, .bool b, .int .i64 er]) ∧ Two w0 F' w' p q P' R v xs ∧ ∀ (g : Nat) (zs : Array Value) (fr : Nat × Nat), w.heap[g]? = some (Obj.cells zs 35 fr) → w'.heap[g]? = some (Obj.cells zs 35 fr) :=
  (add_s h.al f now cs P' t b E er hf hw hnow hcs hd he).mono fun e w' ⟨F', h1, h2, h3, h4⟩ => ⟨F', h1, h.own h2 h4, fun g zs fr hg => h4.blk hg (h.al.al.alien hg (by decide))⟩
theorem addB (h : Two w0 F w p q P R v xs) (f : Fr) (now : Int) (cs : Array Value) (R' : Pl) (t : ByteArray) (b : Bool) (E : Nat) (er : Int) (hf : f.s.size ≤ 1000000) (hnow : U64 now) (hcs : f.cl = cs) (hd : addP f now R = (R', t, b, E)) (he : (E : Int) = er) :
    Calls Try.prog 15 #[.pointer (some ⟨q, 0, none⟩), .agg cs, .int .u64 now] w fun e w' => ∃ v' xs', e = .returned (.tuple #[.string t, .bool b, .int .i64 er]) ∧ Two w0 F w' p q P R' v' xs' := by
  subst he hcs
  refine (radd_k h.re h.ok h.sin f now hf hnow).mono ?_
  rintro e w' ⟨v', xs', he, h1, h2, h3⟩
  have hok := h.ok.addP f now
  have hsin := addP_since (f := f) h.sin hnow
  rw [hd] at he h1 hok hsin
  exact ⟨v', xs', he, h.ref h1 hok hsin h2 h3⟩
theorem heldA (h : Two w0 F w p q P R v xs) (a b : Int) (ha : (P.l.length : Int) = a) (hb : (heldM P.l : Int) = b) :
    Calls Try.prog 17 #[.pointer (some ⟨p, 0, none⟩)] w fun e w' => e = .returned (.tuple #[.int .i64 a, .int .i64 b]) ∧ Two w0 F w' p q P R v xs :=
  (held_s h.al a b ha hb).mono fun e w' ⟨h1, h2⟩ => ⟨h1, h.below h2⟩
theorem heldB (h : Two w0 F w p q P R v xs) (a b : Int) (ha : (R.l.length : Int) = a) (hb : (heldM R.l : Int) = b) :
    Calls Try.prog 18 #[.pointer (some ⟨q, 0, none⟩)] w fun e w' => e = .returned (.tuple #[.int .i64 a, .int .i64 b]) ∧ Two w0 F w' p q P R v xs := by
  refine (rheld_e h.re (by have h1 := h.ok.held; have h2 := h.ok.b2; omega) (by have h1 := h.ok.many; have h2 := h.ok.s2; omega) (fun m hm => parts_few (h.ok.each m hm)) a b ha hb).mono ?_
  rintro e w' ⟨he, rfl⟩
  exact ⟨he, h⟩
end
/-- Both made. -/
theorem newB {w0 F w p} {slots bytes : Int} (h : PlS w0 F w p ⟨[], slots, bytes⟩) (hs : 1 ≤ slots ∧ slots ≤ 16 ∧ 1 ≤ bytes ∧ bytes ≤ 65536) :
    Calls Try.prog 10 #[.int .i64 slots, .int .i64 bytes] w fun e w' => ∃ q, e = .returned (.tuple #[.pointer (some ⟨q, 0, none⟩), .int .i64 0]) ∧ Two w0 F w' p q ⟨[], slots, bytes⟩ ⟨[], slots, bytes⟩ (.slice none 0 0) [] := by
  refine (rnew_k slots bytes w hs).mono ?_
  rintro e w' ⟨q, he, h1, h2, h3⟩
  exact ⟨q, he, h.below h3, h1, h.al.1, fun m hm => by simp at hm, Nat.le_trans h.low.size h2, fun k hk => by cases hk⟩
end Go.Proofs.Ytjcgckhheegonaa
