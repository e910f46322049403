/- The program's pool: a message whose parts all came. -/
import Derived.Test.YtjcgckhheegonaaPoolE
import Derived.Test.YtjcgckhheegonaaFragO
import Derived.Test.YtjcgckhheegonaaPoolJ
namespace Go.Proofs.Ytjcgckhheegonaa
open Go.RowKit
set_option linter.unusedVariables false
set_option linter.unusedSimpArgs false
set_option maxRecDepth 20000
/-- All parts of a message. -/
structure Full (id : Int) (n : Nat) (fs : List Fr) : Prop where
  one : 1 ≤ n
  most : n ≤ 16
  len : fs.length = n
  apart : (fs.map Fr.ix).Nodup
  each : ∀ g, g ∈ fs → rightF g = true ∧ g.id = id ∧ g.ct = (n : Int)
/-- What is made of them. -/
def endF (fs : List Fr) : ByteArray × Bool × Nat := if 4096 < (joinM fs).size then (⟨#[]⟩, false, 4) else (joinM fs, true, 0)
theorem same_one {a : Nat} : ∀ {L : List Nat}, (∀ x, x ∈ L → x = a) → L.Nodup → L.length ≤ 1
  | [], _, _ => Nat.zero_le _
  | [x], _, _ => Nat.le_refl _
  | x :: y :: r, h, hn => by
    rw [List.nodup_cons] at hn
    exact absurd (List.mem_cons.2 (.inl ((h x (by simp)).trans (h y (by simp)).symm))) hn.1
theorem pigeon : ∀ (n : Nat) (L : List Nat), L.Nodup → (∀ x, x ∈ L → x < n) → L.length ≤ n
  | 0, L, _, h => by
    cases L with
    | nil => exact Nat.le_refl _
    | cons x r => exact absurd (h x (by simp)) (Nat.not_lt_zero _)
  | n + 1, L, hn, h => by
    have h1 := pigeon n (L.filter (fun x => !(x == n))) (hn.sublist List.filter_sublist) (fun x hx => by
      obtain ⟨q1, q2⟩ := List.mem_filter.1 hx
      have := h x q1
      have : x ≠ n := by simpa using q2
      omega)
    have h2 := same_one (a := n) (L := L.filter (fun x => x == n)) (fun x hx => by simpa using (List.mem_filter.1 hx).2) (hn.sublist List.filter_sublist)
    have h3 := List.length_eq_countP_add_countP (p := fun x => x == n) (l := L)
    rw [List.countP_eq_length_filter, List.countP_eq_length_filter] at h3
    have h4 : L.filter (fun a => decide ¬(a == n) = true) = L.filter (fun x => !(x == n)) := List.filter_congr (fun x _ => by cases (x == n) <;> rfl)
    rw [h4] at h3
    omega
theorem Full.all {id : Int} {n : Nat} {fs : List Fr} (h : Full id n fs) {j : Nat} (hj : j < n) : ∃ g, g ∈ fs ∧ g.ix = (j : Int) := by
  refine Classical.byContradiction fun hno => ?_
  have hix : ∀ g, g ∈ fs → 0 ≤ g.ix ∧ g.ix < (n : Int) := fun g hg => by
    obtain ⟨h1, _, h3⟩ := h.each g hg
    have := rightF_iff.1 h1
    omega
  have hnd : (j :: fs.map (fun g => g.ix.toNat)).Nodup := by
    rw [List.nodup_cons]
    constructor
    · intro q
      obtain ⟨g, hg, e⟩ := List.mem_map.1 q
      exact hno ⟨g, hg, by have := (hix g hg).1; omega⟩
    · have h1 : List.Pairwise (fun a b => a ≠ b) (fs.map Fr.ix) := h.apart
      have h2 : List.Pairwise (fun a b : Fr => a.ix ≠ b.ix) fs := List.pairwise_map.1 h1
      refine List.pairwise_map.2 ?_
      refine List.Pairwise.imp_of_mem (fun {a b} ha hb hne => ?_) h2
      have := (hix a ha).1
      have := (hix b hb).1
      omega
  have := pigeon n _ hnd (fun x hx => by
    rcases List.mem_cons.1 hx with q | q
    · omega
    · obtain ⟨g, hg, e⟩ := List.mem_map.1 q
      have := hix g hg
      omega)
  rw [List.length_cons, List.length_map, h.len] at this
  omega
theorem fold_eq {F G : Nat → ByteArray} : ∀ (L : List Nat) (s : ByteArray), (∀ i, i ∈ L → F i = G i) → L.foldl (fun s i => s ++ F i) s = L.foldl (fun s i => s ++ G i) s
  | [], _, _ => rfl
  | a :: r, s, h => by
    rw [List.foldl_cons, List.foldl_cons, h a (by simp)]
    exact fold_eq r _ (fun i hi => h i (by simp [hi]))
theorem Full.join {id : Int} {n : Nat} {fs R : List Fr} (h : Full id n fs) (hR : R.length = n) (hd : ∀ g, g ∈ fs → R.getD g.ix.toNat zeroF = g) : joinF R = ((endF fs).1, (endF fs).2.2) ∧ ∀ j, j < R.length → (R.getD j zeroF).s.size ≤ 1000000 := by
  have hat : ∀ j, j < n → ∃ g, g ∈ fs ∧ g.ix = (j : Int) ∧ R.getD j zeroF = g := fun j hj => by
    obtain ⟨g, hg, e⟩ := h.all hj
    refine ⟨g, hg, e, ?_⟩
    have := hd g hg
    rw [e] at this
    simpa using this
  have h1 := h.one
  have h2 := h.most
  have hok : ∀ j, j < R.length → okAt id R.length j (R.getD j zeroF) = true := fun j hj => by
    obtain ⟨g, hg, e, er⟩ := hat j (by omega)
    obtain ⟨q1, q2, q3⟩ := h.each g hg
    rw [er, okAt_iff, hR]
    exact ⟨q1, q2, q3, e⟩
  have hid : (R.getD 0 zeroF).id = id := (okAt_iff.1 (hok 0 (by omega))).2.1
  have hcat : catF R ⟨#[]⟩ = joinM fs := by
    have e1 : R = (List.range n).map (fun i => R.getD i zeroF) := by
      apply List.ext_getElem
      · simp [hR]
      · intro i a b
        simp [List.getD, a]
    rw [cat_fold]
    unfold joinM
    rw [h.len]
    conv => lhs; rw [e1, List.foldl_map]
    refine fold_eq (F := fun i => (R.getD i zeroF).s) (G := pick fs) _ _ (fun i hi => ?_)
    obtain ⟨g, hg, e, er⟩ := hat i (List.mem_range.1 hi)
    rw [er]
    unfold pick
    rw [pick_one (i : Int) fs ⟨#[]⟩ g h.apart hg e, empty_app]
  refine ⟨?_, fun j hj => ?_⟩
  · rw [join_all (by omega) (by omega) (by rw [hid]; exact hok), hcat]
    unfold endF
    split <;> rfl
  · have := rightF_iff.1 (okAt_iff.1 (hok j hj)).1
    omega
theorem end_cases {fs : List Fr} {t : ByteArray} {ok : Bool} {E : Nat} (h : endF fs = (t, ok, E)) : (ok = true ∧ E = 0) ∨ (ok = false ∧ E = 4) := by
  unfold endF at h
  split at h
  · simp only [Prod.mk.injEq] at h; exact .inr ⟨h.2.1.symm, h.2.2.symm⟩
  · simp only [Prod.mk.injEq] at h; exact .inl ⟨h.2.1.symm, h.2.2.symm⟩
theorem made_cells : ∀ n : Nat, (madeCells zeroF.v.cells (n * 4)).toList = cellsF (List.replicate n zeroF) := by
  intro n
  apply List.ext_getElem?
  intro j
  by_cases hj : j < n * 4
  · have e1 : (cellsF (List.replicate n zeroF))[j]? = zeroF.cl[j % 4]? := by
      have := cellsF_at (List.replicate n zeroF) (j / 4) (j % 4) (Nat.mod_lt _ (by omega)) (by rw [List.length_replicate]; omega)
      rw [show j / 4 * 4 + j % 4 = j by omega] at this
      rw [this]
      simp only [List.getD_eq_getElem?_getD]
      rw [List.getElem?_replicate]
      split <;> rfl
    rw [e1]
    have h4 : j % 4 = 0 ∨ j % 4 = 1 ∨ j % 4 = 2 ∨ j % 4 = 3 := by omega
    have hsz : zeroF.v.cells.size = 4 := rfl
    rcases h4 with q | q | q | q <;> simp [madeCells, hj, hsz, q] <;> rfl
  · rw [List.getElem?_eq_none (by simp [madeCells]; omega), List.getElem?_eq_none (by rw [cellsF_len, List.length_replicate]; omega)]
theorem row_chg {w wr w5 : World} {p bh bp g0 n cap : Nat} {s b : Int} {l : List Ms} {ps : List (Ms × Nat)} {R : List Fr} (h : OwnF 35 g0 (.slice (some ⟨g0, 0, none⟩) n cap) R wr) (hc : Chg (fun k => k = bh ∨ k = bp) wr w5) (hw : PAt wr p bh bp s b l ps) (hg : w.heap.size = g0) (h0 : PAt w p bh bp s b l ps) : RowF w5 (some ⟨g0, 0, none⟩) cap R :=
  (OwnF.rowOf (h.chg hc (fun k hk e => by
    have := h0.heads.lt; have := h0.parts.lt
    simp only [Value.ownBlock, Option.some.injEq] at hk
    rcases e with e | e <;> omega))).2
theorem end_fin {wr w5 w6 : World} {p bh bp : Nat} {s b id : Int} {l : List Ms} {ps : List (Ms × Nat)} (h : PAt wr p bh bp s b l ps) (hh : MapL .u64 keyH encH w5 bh (l.filter (fun y => !(keyH y == id)))) (hp : MapL .u64 keyP encP w5 bp (ps.filter (fun y => !(keyP y == id)))) (hc : Chg (fun k => k = bh ∨ k = bp) wr w5) (hb : Below w5.heap.size w5 w6) : PAt w6 p bh bp s b (wo id l) (ps.filter (fun x => !(keyP x == id))) := by
  have hn : ∀ k, k = bh ∨ k = bp → k ≠ p := fun k e => by rcases e with e | e; rw [e]; exact h.apart.1.symm; rw [e]; exact h.apart.2.1.symm
  refine PAt.below (w := w5) ⟨hc.blk h.blk (fun e => hn _ e rfl), hh, hp, ?_, fun x hx => (h.each x (List.mem_filter.1 hx).1).chg hc (fun e => by rcases e with e | e; exact (h.off x (List.mem_filter.1 hx).1).1 e; exact (h.off x (List.mem_filter.1 hx).1).2 e), h.ne, fun x hx => h.off x (List.mem_filter.1 hx).1⟩ hb
  unfold wo
  rw [← h.fst, List.filter_map]
  rfl
theorem field_h (a b : Int) (W : World) : (Instr.field 66 (.agg #[.int .i64 a, .int .u64 b]) 0).run Try.prog W = .ok (.int .i64 a) W := by kernel_rfl
set_option maxHeartbeats 4000000 in
theorem end_at {w : World} {p bh bp : Nat} {s b : Int} {l : List Ms} {ps : List (Ms × Nat)} (h : PAt w p bh bp s b l ps) (m : Ms) (yb : Nat) (hx : (m, yb) ∈ ps) (id : Int) (hid : (headM m).id = id) (n : Nat) (hct : (headM m).ct = (n : Int)) (hf : Full id n m.parts) (t : ByteArray) (ok : Bool) (E : Nat) (he : endF m.parts = (t, ok, E)) :
    Calls Try.prog 29 #[.pointer (some ⟨p, 0, none⟩), .int .u64 id] w fun e w' => e = .returned (.tuple #[.string t, .bool ok, .int .i64 E]) ∧ PAt w' p bh bp s b (wo id l) (ps.filter (fun x => !(keyP x == id))) ∧ Chg (fun k => k = bh ∨ k = bp) w w' := by
  obtain ⟨_, _, c2, c3, _, _⟩ := h.cells
  have HH := Lib.hid h
  have HX := Lib.hid hx
  have HID := Lib.hid hid
  have HF := Lib.hid hf
  have HE := Lib.hid he
  have q1 : (Instr.lookup 58 (.map (some bh)) (.int .u64 id) false).run Try.prog w = .ok (.agg #[.int .i64 n, .int .u64 m.since]) w := by
    have := look_h1 h (h.mem' hx) hid w (Below.refl _ _)
    rw [hct] at this
    exact this
  obtain ⟨i0, hi0, hz0, hz1, hz2⟩ : ∃ i0, Try.prog.info? 35 = some i0 ∧ i0.zero = some zeroF.v ∧ i0.size = 4 ∧ i0.bytes = 40 := by
    have hinf := infoP
    cases hi : Try.prog.info? 35 with
    | none => rw [hi] at hinf; cases hinf
    | some i0 =>
      rw [hi] at hinf
      simp only [Option.map_some, Option.some.injEq, Prod.mk.injEq] at hinf
      exact ⟨i0, rfl, hinf.1, hinf.2.1, hinf.2.2⟩
  have hn16 := hf.most
  have hfield := field_h (n : Int) m.since w
  clear h hx hid hct hf he
  go_enter Try.func29, Try.ntmps29
  go_wp2_with (first
    | (at_make; refine wpList_make_full _ rfl _ _ _ rfl w.heap.size 35 i0 zeroF.v 4 Try.underlying23 hi0 hz0 hz1 _ _ _ _ n rfl rfl rfl rfl (by rw [hz2]; omega) (by unfold maxLen; omega) (Nat.le_refl _) ?_; intro w1 hr1 hg1; have HB1 : Hid (Below w.heap.size w w1) := Lib.hid ⟨hg1.os, hg1.tape, hg1.output, hg1.size, fun k hk => hg1.block k hk (by simp)⟩; have HR1 : Hid (OwnF 35 w.heap.size (.slice (some ⟨w.heap.size, 0, none⟩) n n) (List.replicate n zeroF) w1) := Lib.hid (by unfold OwnF; rw [List.length_replicate, ← made_cells]; exact hr1); have c31 := (HB1.out.cell (block_lt_of_cell c3)).trans c3; have q2 := look_p1 HH.out HX.out HID.out w1 HB1.out; dsimp only at q2; clear hr1 hg1)
    | (at_range; refine wpList_rangeL rfl _ _ _ _ rfl Try.underlying77 rfl ((HH.out.each _ HX.out).below HB1.out) ?_; intro w2 hr2 hb2 hs2)
    | go_in)
  have HR2 := Lib.hid hr2
  have HB2 := Lib.hid hb2
  have HG0 : Hid (w.heap.size < w1.heap.size) := Lib.hid (by obtain ⟨cur, hh⟩ := OwnF.block HR1.out; exact blk_lt hh)
  obtain ⟨g0, hg0⟩ : ∃ g0, w.heap.size = g0 := ⟨_, rfl⟩
  have HG1 := Lib.hid hg0
  rw [hg0] at HR1 ⊢
  clear hr2 hb2 hs2 q1 q2 c31 hg0
  go_loopw [8, 9] (fun x8 x9 wr => ∃ left done R : List Fr, m.parts.Perm (left ++ done) ∧ Rng .i64 Fr.ix encS wr yb w1.heap.size m.parts left ∧ OwnF 35 g0 (.slice (some ⟨g0, 0, none⟩) n n) R wr ∧ R.length = n ∧ (∀ g, g ∈ done → R.getD g.ix.toNat zeroF = g) ∧ Below g0 w wr) (fun x8 x9 wr => wr.rangeLeft yb w1.heap.size)
  case atStart =>
    exact ⟨m.parts, [], List.replicate n zeroF, by rw [List.append_nil], HR2.out, HR1.out.below HB2.out, List.length_replicate, fun g hg => by simp at hg, by rw [← HG1.out]; exact HB1.out.trans (HB2.out.mono HB1.out.size)⟩
  case round =>
    clear HR1 HR2
    obtain ⟨left, done, R, hp, hrg, hrow, hlen, hdone, hlow⟩ := hrel
    have HP := Lib.hid hp
    have HRG := Lib.hid hrg
    have HRO := Lib.hid hrow
    have HLN := Lib.hid hlen
    have HDN := Lib.hid hdone
    have HLW := Lib.hid hlow
    clear hp hrg hrow hlen hdone hlow
    go_wp2_with (first | (at_next; refine wpList_nextL rfl _ rfl rfl HRG.out ?_ ?_) | go_in)
    · intro h0
      subst h0
      have HC := Lib.hid (show Chg (fun k => k = bh ∨ k = bp) w wr from Chg.of_below (by rw [HG1.out]; exact HLW.out))
      have HJ := Lib.hid (HF.out.join HLN.out (fun g hg => HDN.out g (by have := HP.out.mem_iff.1 hg; simpa using this)))
      have HW : Hid (Below w.heap.size w wr) := Lib.hid (by rw [HG1.out]; exact HLW.out)
      have HHW := Lib.hid (HH.out.below HW.out)
      obtain ⟨_, _, c2r, c3r, _, _⟩ := HHW.out.cells
      have HCC := Lib.hid (And.intro c2r c3r)
      have HJE : Hid (joinF R = (t, E)) := Lib.hid (by have := HJ.out.1; rw [HE.out] at this; exact this)
      clear c2r c3r c2 c3
      rcases end_cases HE.out with ⟨e1, e2⟩ | ⟨e1, e2⟩
      · subst e1 e2
        go_wp2_with (first
          | (go_at_call 23; refine (forget_k p bh bp id l ps wr HCC.out.1 HCC.out.2 HHW.out.heads HHW.out.parts HHW.out.ne HHW.out.apart.1).mono ?_; rintro e w5 ⟨rfl, hh5, hp5, hc5⟩; have HH5 := Lib.hid hh5; have HP5 := Lib.hid hp5; have HC5 := Lib.hid hc5; have HR5 := Lib.hid (row_chg HRO.out hc5 HHW.out HG1.out HH.out); clear hh5 hp5 hc5)
          | (go_at_call 39; refine (join_f (some ⟨g0, 0, none⟩) n n R _ HLN.out.symm HR5.out HJ.out.2 t 0 HJE).mono ?_; rintro e w6 ⟨rfl, hb6⟩; have HB6 := Lib.hid hb6; clear hb6)
          | go_in)
        exact bodyPost_ret (v := .tuple #[.string t, .bool true, .int .i64 0]) (by simp [results, Try.results29, go_sem]) rfl ⟨rfl, end_fin HHW.out HH5.out HP5.out HC5.out HB6.out, (Chg.of_below HW.out).trans (HC5.out.trans (Chg.of_below HB6.out))⟩
      · subst e1 e2
        go_wp2_with (first
          | (go_at_call 23; refine (forget_k p bh bp id l ps wr HCC.out.1 HCC.out.2 HHW.out.heads HHW.out.parts HHW.out.ne HHW.out.apart.1).mono ?_; rintro e w5 ⟨rfl, hh5, hp5, hc5⟩; have HH5 := Lib.hid hh5; have HP5 := Lib.hid hp5; have HC5 := Lib.hid hc5; have HR5 := Lib.hid (row_chg HRO.out hc5 HHW.out HG1.out HH.out); clear hh5 hp5 hc5)
          | (go_at_call 39; refine (join_f (some ⟨g0, 0, none⟩) n n R _ HLN.out.symm HR5.out HJ.out.2 t 4 HJE).mono ?_; rintro e w6 ⟨rfl, hb6⟩; have HB6 := Lib.hid hb6; clear hb6)
          | go_in)
        exact bodyPost_ret (v := .tuple #[.string t, .bool false, .int .i64 4]) (by simp [results, Try.results29, go_sem]) rfl ⟨rfl, end_fin HHW.out HH5.out HP5.out HC5.out HB6.out, (Chg.of_below HW.out).trans (HC5.out.trans (Chg.of_below HB6.out))⟩
    · intro y left' w3 hperm hr3 hc3 hs3 hen
      have HP3 := Lib.hid hperm
      have HR3 := Lib.hid hr3
      have HPP : Hid (m.parts.Perm (left' ++ (done ++ [y]))) := Lib.hid (HP.out.trans ((hperm.append_right _).trans (by rw [← List.append_assoc]; exact (List.perm_append_singleton y (left' ++ done)).symm)))
      have HY : Hid (rightF y = true ∧ y.id = id ∧ y.ct = (n : Int)) := Lib.hid (HF.out.each y (HPP.out.mem_iff.2 (by simp)))
      have HRO3 : Hid (OwnF 35 g0 (.slice (some ⟨g0, 0, none⟩) n n) R w3) := Lib.hid (HRO.out.chg hc3 (fun k hk => by have := HG0.out; have := HG1.out; simp only [Value.ownBlock, Option.some.injEq] at hk; omega))
      have HLW3 : Hid (Below g0 w w3) := Lib.hid (HLW.out.trans (hc3.below (fun k e => by have := HG0.out; have := HG1.out; omega) (Nat.le_trans (Nat.le_of_eq HG1.out.symm) HLW.out.size)))
      obtain ⟨k, hk⟩ : ∃ k : Nat, y.ix = (k : Int) := ⟨y.ix.toNat, by have := (rightF_iff.1 HY.out.1).2.2.2.2.1; omega⟩
      have hkn : k < n := by have := (rightF_iff.1 HY.out.1).2.2.2.2.2.1; have := HY.out.2.2; omega
      obtain ⟨⟨z0, z1, z2, z3⟩, f0, f1, f2, f3⟩ := HRO3.out.four (i := k) (by rw [HLN.out]; exact hkn)
      have hk2 : (k : Int) < (n : Int) := by omega
      have hk3 : (0 : Int) ≤ (k : Int) := by omega
      have HK := Lib.hid hk
      obtain ⟨ys, hys⟩ : ∃ ys, y.s = ys := ⟨_, rfl⟩
      have HYS := Lib.hid hys
      unfold encS at hen ⊢
      rw [hk, hys] at hen ⊢
      clear hperm hr3 hc3 hs3 hk hys
      go_wp2
      have hye : (⟨id, (k : Int), (n : Int), ys⟩ : Fr) = y := by
        have h1 := HY.out.2.1; have h2 := HY.out.2.2; have h3 := HK.out; have h4 := HYS.out
        cases y
        simp only at h1 h2 h3 h4
        rw [h1, h2, h3, h4]
      have hset := HRO3.out.setF (i := k) (by rw [HLN.out]; exact hkn) ⟨id, (k : Int), (n : Int), ys⟩
      have hchg : Chg (fun j => j = g0) w3 ((((w3.setCell ⟨g0, k * 4, none⟩ (.int .u64 id)).setCell ⟨g0, k * 4 + 1, none⟩ (.int .i64 k)).setCell ⟨g0, k * 4 + 2, none⟩ (.int .i64 n)).setCell ⟨g0, k * 4 + 3, none⟩ (.string ys)) :=
        (((Chg.setCell _ _ _ _).trans (Chg.setCell _ _ _ _)).trans (Chg.setCell _ _ _ _)).trans (Chg.setCell _ _ _ _)
      have hyb : yb < g0 := by rw [← HG1.out]; exact (HH.out.each _ HX.out).lt
      have hrg4 := HR3.out.chg hchg (fun e => by omega) (fun e => by have := HG0.out; have := HG1.out; omega)
      refine ⟨⟨left', done ++ [y], R.set k ⟨id, (k : Int), (n : Int), ys⟩, HPP.out, hrg4, hset, by rw [List.length_set]; exact HLN.out, fun g hg => ?_, HLW3.out.trans (hchg.below (fun j e => Nat.le_of_eq e.symm) (by have := HLW3.out.size; have := HG1.out; omega))⟩, ?_⟩
      · have hky : y.ix.toNat = k := by rw [HK.out]; simp
        have hyp : y ∈ m.parts := HPP.out.mem_iff.2 (by simp)
        rw [getD_set _ _ _ _ (by rw [HLN.out]; exact hkn)]
        rcases List.mem_append.1 hg with q | q
        · by_cases e : k = g.ix.toNat
          · rw [if_pos e, hye]
            have hgp : g ∈ m.parts := HPP.out.mem_iff.2 (by simp [q])
            have hge := (rightF_iff.1 (HF.out.each g hgp).1).2.2.2.2.1
            exact uniq HF.out.apart hyp hgp (by rw [HK.out]; omega)
          · rw [if_neg e]; exact HDN.out g q
        · simp only [List.mem_singleton] at q
          subst q
          rw [if_pos hky.symm, hye]
      · rw [hrg4.left_eq, HRG.out.left_eq, HP3.out.length_eq]; exact Nat.lt_succ_self _
end Go.Proofs.Ytjcgckhheegonaa
