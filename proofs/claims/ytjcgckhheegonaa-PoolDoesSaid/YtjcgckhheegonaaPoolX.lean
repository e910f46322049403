/- The pool beside two rows of parts; calls whose answers the document fixes. -/
import Derived.Test.YtjcgckhheegonaaPoolV
namespace Go.Proofs.Ytjcgckhheegonaa
open Go.RowKit
set_option linter.unusedVariables false
set_option linter.unusedSimpArgs false
set_option maxRecDepth 20000
structure Px (w0 : World) (F : Nat → Prop) (w : World) (p : Nat) (P : Pl) (v u : Value) (fs gs : List Fr) : Prop where
  al : PlS w0 F w p P
  one : Fro F w v fs
  two : Fro F w u gs
section
variable {w0 w w' : World} {F F' : Nat → Prop} {p : Nat} {P P' : Pl} {v u : Value} {fs gs : List Fr}
theorem Px.below (h : Px w0 F w p P v u fs gs) (hb : Below w.heap.size w w') : Px w0 F w' p P v u fs gs := ⟨h.al.below hb, h.one.below hb, h.two.below hb⟩
theorem add_x (h : Px w0 F w p P v u fs gs) (f : Fr) (now : Int) (cs : Array Value) (P' : Pl) (t : ByteArray) (b : Bool) (E : Nat) (er : Int) (hf : f.s.size ≤ 1000000) (hw : f.Wf) (hnow : U64 now) (hcs : f.cl = cs) (hd : addP f now P = (P', t, b, E)) (he : (E : Int) = er) :
    Calls Try.prog 14 #[.pointer (some ⟨p, 0, none⟩), .agg cs, .int .u64 now] w fun e w' => ∃ F', e = .returned (.tuple #[.string t, .bool b, .int .i64 er]) ∧ Px w0 F' w' p P' v u fs gs :=
  (add_s h.al f now cs P' t b E er hf hw hnow hcs hd he).mono fun e w' ⟨F', h1, h2, h3, h4⟩ => ⟨F', h1, h2, h.one.keep h4 h3, h.two.keep h4 h3⟩
theorem exp_x (h : Px w0 F w p P v u fs gs) (now : Int) (P' : Pl) (n : Int) (N : Nat) (hnow : U64 now) (hd : expP now P = (P', N)) (hn : (N : Int) = n) :
    Calls Try.prog 11 #[.pointer (some ⟨p, 0, none⟩), .int .u64 now] w fun e w' => ∃ F', e = .returned (.int .i64 n) ∧ Px w0 F' w' p P' v u fs gs :=
  (exp_s h.al now P' n N hnow hd hn).mono fun e w' ⟨F', h1, h2, h3, h4⟩ => ⟨F', h1, h2, h.one.keep h4 h3, h.two.keep h4 h3⟩
theorem held_x (h : Px w0 F w p P v u fs gs) (a b : Int) (ha : (P.l.length : Int) = a) (hb : (heldM P.l : Int) = b) :
    Calls Try.prog 17 #[.pointer (some ⟨p, 0, none⟩)] w fun e w' => e = .returned (.tuple #[.int .i64 a, .int .i64 b]) ∧ Px w0 F w' p P v u fs gs :=
  (held_s h.al a b ha hb).mono fun e w' ⟨h1, h2⟩ => ⟨h1, h.below h2⟩
theorem two_at {g c : Nat} {x y : Fr} (h : Fro F w (.slice (some ⟨g, 0, none⟩) 2 c) [x, y]) : w.cell? ⟨g, 0, none⟩ = some (.int .u64 x.id) ∧ w.cell? ⟨g, 1, none⟩ = some (.int .i64 x.ix) ∧ w.cell? ⟨g, 2, none⟩ = some (.int .i64 x.ct) ∧ w.cell? ⟨g, 3, none⟩ = some (.string x.s) ∧
    w.cell? ⟨g, 4, none⟩ = some (.int .u64 y.id) ∧ w.cell? ⟨g, 5, none⟩ = some (.int .i64 y.ix) ∧ w.cell? ⟨g, 6, none⟩ = some (.int .i64 y.ct) ∧ w.cell? ⟨g, 7, none⟩ = some (.string y.s) := by
  obtain ⟨base, hr⟩ := h.row
  have h' : w.ownsRow base 35 4 (.slice (some ⟨g, 0, none⟩) 2 c) 2 (cellsF [x, y]) := hr
  have e : ∀ j, j < 8 → w.cell? ⟨g, j, none⟩ = (cellsF [x, y])[j]? := fun j hj => World.ownsRow.cellAt h' j (by omega)
  exact ⟨by rw [e 0 (by omega)]; rfl, by rw [e 1 (by omega)]; rfl, by rw [e 2 (by omega)]; rfl, by rw [e 3 (by omega)]; rfl, by rw [e 4 (by omega)]; rfl, by rw [e 5 (by omega)]; rfl, by rw [e 6 (by omega)]; rfl, by rw [e 7 (by omega)]; rfl⟩
theorem Fro.cap {g n c : Nat} (h : Fro F w (.slice (some ⟨g, 0, none⟩) n c) fs) (hn : n = fs.length) : n ≤ c ∧ c ≤ 9223372036854775807 := by
  obtain ⟨a, c', hv, hr⟩ := h.at
  injection hv with _ _ e3
  subst e3
  have := hr.1
  have := hr.2.1
  unfold maxLen at this
  omega
end
theorem cut_x (s : ByteArray) (id sz : Int) (w : World) (hs : s.size ≤ 1000000) (fs : List Fr) (E : Nat) (er : Int) (h : cutF s id sz = (fs, E)) (he : (E : Int) = er) :
    Calls Try.prog 20 #[.string s, .int .u64 id, .int .i64 sz] w fun e w' => ∃ v, e = .returned (.tuple #[v, .int .i64 er]) ∧ OwnF 35 w.heap.size v fs w' ∧ Below w.heap.size w w' := by
  subst he
  have := cut_f s id sz w hs
  rw [h] at this
  exact this
def fL0 : Fr := ⟨7, 0, 2, ⟨#[97, 98]⟩⟩
def fL1 : Fr := ⟨7, 1, 2, ⟨#[99, 100]⟩⟩
def fK0 : Fr := ⟨8, 0, 2, ⟨#[119, 120]⟩⟩
def fK1 : Fr := ⟨8, 1, 2, ⟨#[121, 122]⟩⟩
def fQ : Fr := ⟨1, 0, 1, ⟨#[113]⟩⟩
def pP0 : Pl := ⟨[], 1, 10⟩
def pP1 : Pl := ⟨[⟨[fL1], 5⟩], 1, 10⟩
def pP2 : Pl := ⟨[⟨[fK0], 100⟩], 1, 10⟩
def pP3 : Pl := ⟨[⟨[fK1], 151⟩], 1, 10⟩
theorem cut_7 : cutF ⟨#[97, 98, 99, 100]⟩ 7 2 = ([fL0, fL1], 0) := by kernel_rfl
theorem cut_8 : cutF ⟨#[119, 120, 121, 122]⟩ 8 2 = ([fK0, fK1], 0) := by kernel_rfl
theorem ad_1 : addP fL1 5 pP0 = (pP1, ⟨#[]⟩, false, 0) := by kernel_rfl
theorem ad_2 : addP fL1 5 pP1 = (pP1, ⟨#[]⟩, false, 6) := by kernel_rfl
theorem ad_3 : addP fK0 55 pP1 = (pP1, ⟨#[]⟩, false, 8) := by kernel_rfl
theorem ad_4 : addP fL0 55 pP1 = (pP0, ⟨#[97, 98, 99, 100]⟩, true, 0) := by kernel_rfl
theorem ad_5 : addP fQ 0 pP0 = (pP0, ⟨#[113]⟩, true, 0) := by kernel_rfl
theorem ad_6 : addP fK0 100 pP0 = (pP2, ⟨#[]⟩, false, 0) := by kernel_rfl
theorem ad_7 : addP fK1 151 pP2 = (pP3, ⟨#[]⟩, false, 0) := by kernel_rfl
theorem ad_8 : addP zeroF 0 pP3 = (pP3, ⟨#[]⟩, false, 1) := by kernel_rfl
theorem wf_of {f : Fr} (h : rightF f = true) : f.Wf := right_wf h
theorem zero_wf : zeroF.Wf := by refine ⟨?_, ?_, ?_, ?_⟩ <;> decide
set_option maxHeartbeats 4000000 in
set_option maxRecDepth 100000 in
theorem fixed_any (w : World) : Calls Try.prog 19 #[] w fun e w' => e = .returned (.bool true) ∧ Below w.heap.size w w' := by
  go_enter Try.func19, Try.ntmps19
  go_wp2_with fail
  refine (new_s 1 10 w w (Below.refl _ _) ⟨by decide, by decide, by decide, by decide⟩).mono ?_
  rintro e w1 ⟨p, F, rfl, ha, hn, hb⟩
  have HA := Lib.hid ha
  clear ha hn hb
  go_wp2_with fail
  refine (new_no 0 10 w1 (by decide)).mono ?_
  rintro e w2 ⟨rfl, hb⟩
  replace HA := Lib.hid (HA.out.below hb)
  clear hb
  go_wp2_with fail
  refine (cut_x _ 7 2 _ (by decide) [fL0, fL1] 0 0 cut_7 rfl).mono ?_
  rintro e w3 ⟨v, rfl, ho, hb⟩
  obtain ⟨g1, c1, hv⟩ := ho.form (by simp)
  have hv' : v = .slice (some ⟨g1, 0, none⟩) 2 c1 := hv
  subst hv'
  have HL := Lib.hid (Fro.new HA.out.al ho)
  replace HA := Lib.hid (HA.out.below hb)
  clear hb ho hv
  go_wp2_with fail
  refine (cut_x _ 8 2 _ (by decide) [fK0, fK1] 0 0 cut_8 rfl).mono ?_
  rintro e w4 ⟨v, rfl, ho, hb⟩
  obtain ⟨g2, c2, hv⟩ := ho.form (by simp)
  have hv' : v = .slice (some ⟨g2, 0, none⟩) 2 c2 := hv
  subst hv'
  have HX : Hid (Px w F w4 p pP0 (.slice (some ⟨g1, 0, none⟩) 2 c1) (.slice (some ⟨g2, 0, none⟩) 2 c2) [fL0, fL1] [fK0, fK1]) := Lib.hid ⟨HA.out.below hb, HL.out.below hb, Fro.new HA.out.al ho⟩
  have hc1 := HL.out.cap rfl
  have hc2 := (Fro.new HA.out.al ho).cap rfl
  obtain ⟨m1, m2⟩ := hc1
  obtain ⟨m3, m4⟩ := hc2
  have n1 : (2 : Int) ≤ c1 := by omega
  have n2 : (2 : Int) ≤ c2 := by omega
  clear hb ho hv HL HA m1 m2 m3 m4
  obtain ⟨r0, r1, r2, r3, r4, r5, r6, r7⟩ := two_at HX.out.one
  simp only [fL0, fL1, fK0, fK1] at r0 r1 r2 r3 r4 r5 r6 r7
  go_wp2_with fail
  clear r0 r1 r2 r3 r4 r5 r6 r7
  refine (add_x HX.out fL1 5 #[.int .u64 7, .int .i64 1, .int .i64 2, .string ⟨#[99, 100]⟩] pP1 ⟨#[]⟩ false 0 0 (by decide) (wf_of (by decide)) ⟨by decide, by decide⟩ rfl ad_1 rfl).mono ?_
  rintro e w6 ⟨F6, rfl, hx⟩
  replace HX := Lib.hid hx
  clear hx
  obtain ⟨r0, r1, r2, r3, r4, r5, r6, r7⟩ := two_at HX.out.one
  simp only [fL0, fL1, fK0, fK1] at r0 r1 r2 r3 r4 r5 r6 r7
  go_wp2_with fail
  clear r0 r1 r2 r3 r4 r5 r6 r7
  refine (add_x HX.out fL1 5 #[.int .u64 7, .int .i64 1, .int .i64 2, .string ⟨#[99, 100]⟩] pP1 ⟨#[]⟩ false 6 6 (by decide) (wf_of (by decide)) ⟨by decide, by decide⟩ rfl ad_2 rfl).mono ?_
  rintro e w7 ⟨F7, rfl, hx⟩
  replace HX := Lib.hid hx
  clear hx
  obtain ⟨r0, r1, r2, r3, r4, r5, r6, r7⟩ := two_at HX.out.two
  simp only [fL0, fL1, fK0, fK1] at r0 r1 r2 r3 r4 r5 r6 r7
  go_wp2_with fail
  clear r0 r1 r2 r3 r4 r5 r6 r7
  refine (add_x HX.out fK0 55 #[.int .u64 8, .int .i64 0, .int .i64 2, .string ⟨#[119, 120]⟩] pP1 ⟨#[]⟩ false 8 8 (by decide) (wf_of (by decide)) ⟨by decide, by decide⟩ rfl ad_3 rfl).mono ?_
  rintro e w8 ⟨F8, rfl, hx⟩
  replace HX := Lib.hid hx
  clear hx
  go_wp2_with fail
  refine (held_x HX.out 1 2 rfl rfl).mono ?_
  rintro e w9 ⟨rfl, hx⟩
  replace HX := Lib.hid hx
  clear hx
  obtain ⟨r0, r1, r2, r3, r4, r5, r6, r7⟩ := two_at HX.out.one
  simp only [fL0, fL1, fK0, fK1] at r0 r1 r2 r3 r4 r5 r6 r7
  go_wp2_with fail
  clear r0 r1 r2 r3 r4 r5 r6 r7
  refine (add_x HX.out fL0 55 #[.int .u64 7, .int .i64 0, .int .i64 2, .string ⟨#[97, 98]⟩] pP0 ⟨#[97, 98, 99, 100]⟩ true 0 0 (by decide) (wf_of (by decide)) ⟨by decide, by decide⟩ rfl ad_4 rfl).mono ?_
  rintro e w10 ⟨F10, rfl, hx⟩
  replace HX := Lib.hid hx
  clear hx
  go_wp2_with fail
  refine (held_x HX.out 0 0 rfl rfl).mono ?_
  rintro e w11 ⟨rfl, hx⟩
  replace HX := Lib.hid hx
  clear hx
  go_wp2_with fail
  refine (add_x HX.out fQ 0 #[.int .u64 1, .int .i64 0, .int .i64 1, .string ⟨#[113]⟩] pP0 ⟨#[113]⟩ true 0 0 (by decide) (wf_of (by decide)) ⟨by decide, by decide⟩ rfl ad_5 rfl).mono ?_
  rintro e w12 ⟨F12, rfl, hx⟩
  replace HX := Lib.hid hx
  clear hx
  obtain ⟨r0, r1, r2, r3, r4, r5, r6, r7⟩ := two_at HX.out.two
  simp only [fL0, fL1, fK0, fK1] at r0 r1 r2 r3 r4 r5 r6 r7
  go_wp2_with fail
  clear r0 r1 r2 r3 r4 r5 r6 r7
  refine (add_x HX.out fK0 100 #[.int .u64 8, .int .i64 0, .int .i64 2, .string ⟨#[119, 120]⟩] pP2 ⟨#[]⟩ false 0 0 (by decide) (wf_of (by decide)) ⟨by decide, by decide⟩ rfl ad_6 rfl).mono ?_
  rintro e w13 ⟨F13, rfl, hx⟩
  replace HX := Lib.hid hx
  clear hx
  obtain ⟨r0, r1, r2, r3, r4, r5, r6, r7⟩ := two_at HX.out.two
  simp only [fL0, fL1, fK0, fK1] at r0 r1 r2 r3 r4 r5 r6 r7
  go_wp2_with fail
  clear r0 r1 r2 r3 r4 r5 r6 r7
  refine (add_x HX.out fK1 151 #[.int .u64 8, .int .i64 1, .int .i64 2, .string ⟨#[121, 122]⟩] pP3 ⟨#[]⟩ false 0 0 (by decide) (wf_of (by decide)) ⟨by decide, by decide⟩ rfl ad_7 rfl).mono ?_
  rintro e w14 ⟨F14, rfl, hx⟩
  replace HX := Lib.hid hx
  clear hx
  go_wp2_with fail
  refine (add_x HX.out zeroF 0 #[.int .u64 0, .int .i64 0, .int .i64 0, .string ⟨#[]⟩] pP3 ⟨#[]⟩ false 1 1 (by decide) zero_wf ⟨by decide, by decide⟩ rfl ad_8 rfl).mono ?_
  rintro e w15 ⟨F15, rfl, hx⟩
  replace HX := Lib.hid hx
  clear hx
  go_wp2_with fail
  go_ret
  exact ⟨rfl, HX.out.al.low⟩
end Go.Proofs.Ytjcgckhheegonaa
