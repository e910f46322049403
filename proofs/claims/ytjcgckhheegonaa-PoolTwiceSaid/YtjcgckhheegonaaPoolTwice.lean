/- PoolTwice: a part that came is told so, one with another count is none, and neither changes what is held; the message is put together all the same. No condition. -/
import Derived.Test.YtjcgckhheegonaaRows
import Derived.Test.YtjcgckhheegonaaPoolX
import Derived.WalkKit
import Derived.ProofKit
import Derived.OpenShut
import Derived.ShutString
import Derived.ChangeOld
import Derived.Below
import Derived.Test.YtjcgckhheegonaaPoolJ
namespace Go.Proofs.Ytjcgckhheegonaa.poolTwice
open Go.ChangeShapes Go.WideShapes Go.ChangeAt Go.RowKit
open Go.ChangeMaps (open_string shut_string)
open Go.Proofs.Ytjcgckhheegonaa
set_option linter.unusedVariables false
set_option linter.unusedSimpArgs false
set_option maxRecDepth 20000

theorem own : ownKnob Try.prog.godebug = none := by kernel_rfl
theorem laidOut : laidOutB Try.prog = true := by kernel_rfl
theorem slice_facts (A : ByteArray) (k : Nat) : ∃ p : ByteArray, min (A.size : Int) k = p.size ∧ p.size ≤ A.size ∧ p.size ≤ k ∧ A.extract 0 p.size = p := by
  rcases Nat.le_total A.size k with h | h
  · exact ⟨A, by omega, Nat.le_refl _, h, by simp⟩
  · have e : (A.extract 0 k).size = k := by simp only [ByteArray.size_extract]; omega
    exact ⟨A.extract 0 k, by omega, by omega, by omega, by rw [e]⟩
theorem fro_cell {F : Nat → Prop} {w : World} {g n c : Nat} {fs : List Fr} (h : Fro F w (.slice (some ⟨g, 0, none⟩) n c) fs) {j : Nat} (hj : j < fs.length) :
    w.cell? ⟨g, j * 4, none⟩ = some (.int .u64 (fs.getD j zeroF).id) ∧ w.cell? ⟨g, j * 4 + 1, none⟩ = some (.int .i64 (fs.getD j zeroF).ix) ∧ w.cell? ⟨g, j * 4 + 2, none⟩ = some (.int .i64 (fs.getD j zeroF).ct) ∧ w.cell? ⟨g, j * 4 + 3, none⟩ = some (.string (fs.getD j zeroF).s) := by
  obtain ⟨a, c', hv, hr⟩ := h.at
  injection hv with e1 _ _
  subst e1
  obtain ⟨_, _, b, off, hr⟩ := hr
  obtain ⟨e2, x0, x1, x2, x3⟩ := hr j hj
  injection e2 with e2
  injection e2 with e3 e4
  subst e3 e4
  simp only [Nat.zero_add] at x0 x1 x2 x3
  exact ⟨x0, x1, x2, x3⟩
theorem fro_new {F : Nat → Prop} {w1 w2 : World} {base : Nat} {v : Value} {fs : List Fr} (hr : OwnF 35 base v fs w1) (hn : ∀ k, F k → w1.heap.size ≤ k) (hb : Below w1.heap.size w1 w2) : Fro F w2 v fs := ⟨⟨base, hr.below hb⟩, fun k hk q => by
  have := (World.ownsRow.lt hr k hk).2
  have := hn k q
  omega⟩
/-- The pool beside a row of parts, and a part in a box. -/
structure Pb (w0 : World) (F : Nat → Prop) (w : World) (p : Nat) (P : Pl) (v : Value) (fs : List Fr) (B : Nat) (cs : Array Value) : Prop where
  al : PlS w0 F w p P
  one : Fro F w v fs
  box : w.heap[B]? = some (.cells cs 35 (0, 0))
  off : ¬ F B
  high : w0.heap.size ≤ B
  apart : ∀ k, v.ownBlock = some k → k ≠ B
section
variable {w0 w w' : World} {F F' : Nat → Prop} {p B : Nat} {P P' : Pl} {v : Value} {fs : List Fr} {cs : Array Value}
theorem boxed (h : Px w0 F w p P v v fs fs) (cs : Array Value) : Pb w0 F (w.alloc (.cells cs 35)) p P v fs w.heap.size cs :=
  ⟨h.al.below (below_alloc _ _), h.one.below (below_alloc _ _), heap_alloc_new w _, fun k => by have := h.al.al.lt _ k; omega, h.al.low.size, fun k hk e => by
    obtain ⟨base, hr⟩ := h.one.row
    have := (World.ownsRow.lt hr k hk).2
    omega⟩
theorem pb_below (h : Pb w0 F w p P v fs B cs) (hb : Below w.heap.size w w') : Pb w0 F w' p P v fs B cs := ⟨h.al.below hb, h.one.below hb, (hb.block B (blk_lt h.box)).trans h.box, h.off, h.high, h.apart⟩
theorem add_b (h : Pb w0 F w p P v fs B cs) (f : Fr) (now : Int) (ds : Array Value) (P' : Pl) (t : ByteArray) (b : Bool) (E : Nat) (er : Int) (hf : f.s.size ≤ 1000000) (hw : f.Wf) (hnow : U64 now) (hcs : f.cl = ds) (hd : addP f now P = (P', t, b, E)) (he : (E : Int) = er) :
    Calls Try.prog 14 #[.pointer (some ⟨p, 0, none⟩), .agg ds, .int .u64 now] w fun e w' => ∃ F', e = .returned (.tuple #[.string t, .bool b, .int .i64 er]) ∧ Pb w0 F' w' p P' v fs B cs :=
  (add_s h.al f now ds P' t b E er hf hw hnow hcs hd he).mono fun e w' ⟨F', h1, h2, h3, h4⟩ => ⟨F', h1, h2, h.one.keep h4 h3, h4.blk h.box h.off, fun k => by
    rcases h3 B k with r | r
    · exact h.off r
    · have := blk_lt h.box; omega, h.high, h.apart⟩
theorem held_b (h : Pb w0 F w p P v fs B cs) (a b : Int) (ha : (P.l.length : Int) = a) (hb : (heldM P.l : Int) = b) :
    Calls Try.prog 17 #[.pointer (some ⟨p, 0, none⟩)] w fun e w' => e = .returned (.tuple #[.int .i64 a, .int .i64 b]) ∧ Pb w0 F w' p P v fs B cs :=
  (held_s h.al a b ha hb).mono fun e w' ⟨h1, h2⟩ => ⟨h1, pb_below h h2⟩
theorem set_chg (w : World) (b i : Nat) (v : Value) : Chg (fun k => k = b) w (w.setCell ⟨b, i, none⟩ v) := ⟨rfl, rfl, rfl, by simp, fun k _ hs => Below.heap_setCell _ _ _ k hs⟩
theorem pb_count {a b c d : Value} (h : Pb w0 F w p P v fs B #[a, b, c, d]) (x : Value) : Pb w0 F (w.setCell ⟨B, 2, none⟩ x) p P v fs B #[a, b, x, d] := by
  have hc := set_chg w B 2 x
  obtain ⟨base, hr⟩ := h.one.row
  refine ⟨⟨h.al.al.keep hc (fun k hk e => h.off (e ▸ hk)), h.al.own, h.al.low.trans (hc.below (fun k e => by rw [e]; exact h.high) h.al.low.size)⟩, ⟨⟨base, hr.chg hc h.apart⟩, h.one.off⟩, ?_, h.off, h.high, h.apart⟩
  have := heap_setCell_same w B 2 _ _ x h.box
  simpa using this
theorem pb_px (h : Pb w0 F w p P v fs B cs) : Px w0 F w p P v v fs fs := ⟨h.al, h.one, h.one⟩
theorem pb_cells {a b c d : Value} (h : Pb w0 F w p P v fs B #[a, b, c, d]) : w.cell? ⟨B, 0, none⟩ = some a ∧ w.cell? ⟨B, 1, none⟩ = some b ∧ w.cell? ⟨B, 2, none⟩ = some c ∧ w.cell? ⟨B, 3, none⟩ = some d ∧ w.frozen? ⟨B, 2, none⟩ = false := by
  refine ⟨?_, ?_, ?_, ?_, ?_⟩ <;> simp [World.cell?, World.frozen?, h.box]
end
theorem oneL_len {s : ByteArray} {id : Int} {k m j : Nat} {since : Int} : (oneL s id k m (j + 1) since).length = 1 := by unfold oneL; rw [if_neg (by omega)]; rfl
theorem part_is (s : ByteArray) (id : Int) (k m j : Nat) {t : ByteArray} (h : (partAt s id k m j).s = t) : partAt s id k m j = ⟨id, (j : Int), (m : Int), t⟩ := by rw [← h]; rfl
set_option maxHeartbeats 1000000 in
set_option maxRecDepth 100000 in
theorem walk0 (a0 A : ByteArray) (a1 a2 : Int) (k : Nat) (w : World) (y10 : 0 ≤ a1) (y11 : a1 ≤ 255) (y20 : 0 ≤ a2) (y21 : a2 ≤ 255) (m2 : min (a0.size : Int) 200 = A.size) (u1 : A.size ≤ a0.size) (v1 : A.size ≤ 200) (y1 : a0.extract 0 A.size = A) (w0 : a0.size ≤ maxLen) (hk : 1 + a1 = (k : Int)) (e0 : Hid (A.size = 0)) :
    Calls Try.prog 7 #[.string a0, .int .u8 a1, .int .u8 a2] w fun e w' => e = .returned (.bool true) ∧ Below w.heap.size w w' := by
  unfold maxLen at w0
  have hs8 : A.size ≤ 1000000 := by omega
  have n0 : (if (200 : Int) < (a0.size : Int) then (200 : Int) else (a0.size : Int)) = (A.size : Int) := by split <;> omega
  have n3 : (if (a0.size : Int) < (200 : Int) then (a0.size : Int) else (200 : Int)) = (A.size : Int) := by split <;> omega
  have HCF : Hid (cutF A 3 (k : Int) = (([] : List Fr), 1)) := Lib.hid (cut_none e0.out)
  go_enter Try.func7, Try.ntmps7
  go_wp2_with fail
  refine (cut_x A 3 (k : Int) _ hs8 ([] : List Fr) 1 1 HCF.out rfl).mono ?_
  rintro e wa ⟨v, rfl, ho, hb⟩
  have HBA := Lib.hid hb
  clear hb
  obtain ⟨av, cv, hv, hrv⟩ := ho.at
  have hvl := hrv.len
  have hl : ([] : List Fr).length = 0 := rfl
  rw [hl] at hv hvl
  subst hv
  clear ho hrv hl
  go_wp2_with fail
  refine (new_s 1 1000 w wa HBA.out ⟨by decide, by decide, by decide, by decide⟩).mono ?_
  rintro e wb ⟨p, F, rfl, ha, hn, hb⟩
  have HA := Lib.hid ha
  clear ha hn hb
  go_wp2_with fail
  refine (fixed_any _).mono ?_
  rintro e wz ⟨rfl, hb⟩
  have HZ := Lib.hid (HA.out.below hb)
  clear hb
  go_wp2_with fail
  go_ret
  exact ⟨rfl, HZ.out.low⟩
set_option maxHeartbeats 1000000 in
set_option maxRecDepth 100000 in
theorem walk4 (a0 A : ByteArray) (a1 a2 : Int) (k : Nat) (w : World) (y10 : 0 ≤ a1) (y11 : a1 ≤ 255) (y20 : 0 ≤ a2) (y21 : a2 ≤ 255) (m2 : min (a0.size : Int) 200 = A.size) (u1 : A.size ≤ a0.size) (v1 : A.size ≤ 200) (y1 : a0.extract 0 A.size = A) (w0 : a0.size ≤ maxLen) (hk : 1 + a1 = (k : Int)) (hg : Good A 3 k) (e0 : A.size ≠ 0) (e1 : 16 < many A.size k) :
    Calls Try.prog 7 #[.string a0, .int .u8 a1, .int .u8 a2] w fun e w' => e = .returned (.bool true) ∧ Below w.heap.size w w' := by
  unfold maxLen at w0
  have hs8 : A.size ≤ 1000000 := by omega
  have n0 : (if (200 : Int) < (a0.size : Int) then (200 : Int) else (a0.size : Int)) = (A.size : Int) := by split <;> omega
  have n3 : (if (a0.size : Int) < (200 : Int) then (a0.size : Int) else (200 : Int)) = (A.size : Int) := by split <;> omega
  have HCF : Hid (cutF A 3 (k : Int) = (([] : List Fr), 4)) := Lib.hid (cut_many hg e0 e1)
  go_enter Try.func7, Try.ntmps7
  go_wp2_with fail
  refine (cut_x A 3 (k : Int) _ hs8 ([] : List Fr) 4 4 HCF.out rfl).mono ?_
  rintro e wa ⟨v, rfl, ho, hb⟩
  have HBA := Lib.hid hb
  clear hb
  obtain ⟨av, cv, hv, hrv⟩ := ho.at
  have hvl := hrv.len
  have hl : ([] : List Fr).length = 0 := rfl
  rw [hl] at hv hvl
  subst hv
  clear ho hrv hl
  go_wp2_with fail
  refine (new_s 1 1000 w wa HBA.out ⟨by decide, by decide, by decide, by decide⟩).mono ?_
  rintro e wb ⟨p, F, rfl, ha, hn, hb⟩
  have HA := Lib.hid ha
  clear ha hn hb
  go_wp2_with fail
  refine (fixed_any _).mono ?_
  rintro e wz ⟨rfl, hb⟩
  have HZ := Lib.hid (HA.out.below hb)
  clear hb
  go_wp2_with fail
  go_ret
  exact ⟨rfl, HZ.out.low⟩
set_option maxHeartbeats 1000000 in
set_option maxRecDepth 100000 in
theorem walk1 (a0 A : ByteArray) (a1 a2 : Int) (k : Nat) (w : World) (y10 : 0 ≤ a1) (y11 : a1 ≤ 255) (y20 : 0 ≤ a2) (y21 : a2 ≤ 255) (m2 : min (a0.size : Int) 200 = A.size) (u1 : A.size ≤ a0.size) (v1 : A.size ≤ 200) (y1 : a0.extract 0 A.size = A) (w0 : a0.size ≤ maxLen) (hk : 1 + a1 = (k : Int)) (hc : Cutd A 3 k 1) :
    Calls Try.prog 7 #[.string a0, .int .u8 a1, .int .u8 a2] w fun e w' => e = .returned (.bool true) ∧ Below w.heap.size w w' := by
  unfold maxLen at w0
  have hs8 : A.size ≤ 1000000 := by omega
  have n0 : (if (200 : Int) < (a0.size : Int) then (200 : Int) else (a0.size : Int)) = (A.size : Int) := by split <;> omega
  have n3 : (if (a0.size : Int) < (200 : Int) then (a0.size : Int) else (200 : Int)) = (A.size : Int) := by split <;> omega
  have HCF : Hid (cutF A 3 (k : Int) = ((parts A 3 k 1), 0)) := Lib.hid (by rw [← hc.hm]; exact cut_parts hc.toGood hc.s1 (by rw [hc.hm]; omega))
  go_enter Try.func7, Try.ntmps7
  go_wp2_with fail
  refine (cut_x A 3 (k : Int) _ hs8 (parts A 3 k 1) 0 0 HCF.out rfl).mono ?_
  rintro e wa ⟨v, rfl, ho, hb⟩
  have HBA := Lib.hid hb
  clear hb
  obtain ⟨av, cv, hv, hrv⟩ := ho.at
  have hvl := hrv.len
  have hl : (parts A 3 k 1).length = 1 := parts_len _ _ _ _
  rw [hl] at hv hvl
  subst hv
  clear ho hrv hl
  go_wp2_with fail
  refine (new_s 1 1000 w wa HBA.out ⟨by decide, by decide, by decide, by decide⟩).mono ?_
  rintro e wb ⟨p, F, rfl, ha, hn, hb⟩
  have HA := Lib.hid ha
  clear ha hn hb
  go_wp2_with fail
  refine (fixed_any _).mono ?_
  rintro e wz ⟨rfl, hb⟩
  have HZ := Lib.hid (HA.out.below hb)
  clear hb
  go_wp2_with fail
  go_ret
  exact ⟨rfl, HZ.out.low⟩
set_option maxHeartbeats 1000000 in
set_option maxRecDepth 100000 in
theorem walkP (a0 A : ByteArray) (a1 a2 : Int) (k : Nat) (w : World) (y10 : 0 ≤ a1) (y11 : a1 ≤ 255) (y20 : 0 ≤ a2) (y21 : a2 ≤ 255) (m2 : min (a0.size : Int) 200 = A.size) (u1 : A.size ≤ a0.size) (v1 : A.size ≤ 200) (y1 : a0.extract 0 A.size = A) (w0 : a0.size ≤ maxLen) (hk : 1 + a1 = (k : Int)) (m : Nat) (HC : Hid (Cutd A 3 k m)) (h2m : 2 ≤ m) :
    Calls Try.prog 7 #[.string a0, .int .u8 a1, .int .u8 a2] w fun e w' => e = .returned (.bool true) ∧ Below w.heap.size w w' := by
  unfold maxLen at w0
  have hs8 : A.size ≤ 1000000 := by omega
  have n0 : (if (200 : Int) < (a0.size : Int) then (200 : Int) else (a0.size : Int)) = (A.size : Int) := by split <;> omega
  have n3 : (if (a0.size : Int) < (200 : Int) then (a0.size : Int) else (200 : Int)) = (A.size : Int) := by split <;> omega
  have HCF : Hid (cutF A 3 (k : Int) = ((parts A 3 k m), 0)) := Lib.hid (by rw [← HC.out.hm]; exact cut_parts HC.out.toGood HC.out.s1 (by have := HC.out.m2; have := HC.out.hm; omega))
  go_enter Try.func7, Try.ntmps7
  go_wp2_with fail
  refine (cut_x A 3 (k : Int) _ hs8 (parts A 3 k m) 0 0 HCF.out rfl).mono ?_
  rintro e wa ⟨v, rfl, ho, hb⟩
  have HBA := Lib.hid hb
  clear hb
  obtain ⟨g, c, hv⟩ := ho.form (by intro q; have h9 := parts_len A 3 k m; rw [q] at h9; simp at h9; omega)
  rw [parts_len] at hv
  subst hv
  go_wp2_with fail
  refine (new_s 1 1000 w wa HBA.out ⟨by decide, by decide, by decide, by decide⟩).mono ?_
  rintro e wb ⟨p, F, rfl, ha, hn, hb⟩
  have hfr := fro_new ho hn hb
  have HX : Hid (Px w F wb p ⟨oneL A 3 k m 0 0, 1, 1000⟩ (.slice (some ⟨g, 0, none⟩) m c) (.slice (some ⟨g, 0, none⟩) m c) (parts A 3 k m) (parts A 3 k m)) := Lib.hid ⟨ha, hfr, hfr⟩
  have hcap := hfr.cap (by rw [parts_len])
  obtain ⟨hc1, hc2⟩ := hcap
  have hm16 := HC.out.m2
  clear ha hn hb hfr ho HBA HCF n0 n3 hk m2 u1 y1 w0 hs8
  obtain ⟨m1, hm1⟩ : ∃ m1, m = m1 + 1 := ⟨m - 1, by omega⟩
  have e1 : (m : Int) - 1 = (m1 : Int) := by omega
  have e2 : decide ((m : Int) < 2) = false := decide_eq_false (by omega)
  have e3 : decide (m < 2) = false := decide_eq_false (by omega)
  have HM := Lib.hid (And.intro hm1 (And.intro hm16 h2m))
  clear hm1
  go_wp2_with fail
  go_loopw [11] (fun i wr => ∃ (j : Nat) (F : Nat → Prop), j ≤ m1 ∧ i = .int .i64 (j : Nat) ∧ Hid (Px w F wr p ⟨oneL A 3 k m j 0, 1, 1000⟩ (.slice (some ⟨g, 0, none⟩) m c) (.slice (some ⟨g, 0, none⟩) m c) (parts A 3 k m) (parts A 3 k m))) (fun i _ => m1 - (intOf i).toNat)
  case atStart => exact ⟨0, F, Nat.zero_le _, rfl, HX⟩
  case round =>
    clear HX F
    obtain ⟨j, F, hj, rfl, HX⟩ := hrel
    by_cases hjm : j < m1
    · have j1 : (j : Int) < (m1 : Int) := by omega
      have hm := HM.out.1
      have j2 : (j : Int) < (m : Int) := by omega
      have iwj : IntKind.u64.wrap (j : Int) = (j : Int) := wrap_u64 (by omega) (by omega)
      obtain ⟨sj, hsj⟩ : ∃ t, (partAt A 3 k m j).s = t := ⟨_, rfl⟩
      have hpj := part_is A 3 k m j hsj
      have hcj := fro_cell HX.out.one (j := j) (by rw [parts_len]; omega)
      rw [parts_getD _ _ _ _ _ (by omega), hpj] at hcj
      obtain ⟨r0, r1, r2, r3⟩ := hcj
      have had := add_next (h := HC.out) (j := j) (slots := 1) (bytes := 1000) (now := (j : Int)) (since := 0) (by omega) (by decide) (by omega) (by omega) (by intro q; rw [q]; rfl)
      rw [hpj] at had
      have HAD := Lib.hid had
      have hwj := right_wf (HC.out.right (i := j) (by omega))
      have hzj := (HC.out.le (i := j) (by omega)).1
      rw [hpj] at hwj hzj
      have HWJ : Hid (sj.size ≤ 1000000 ∧ (⟨3, (j : Int), (m : Int), sj⟩ : Fr).Wf ∧ U64 (j : Int)) := Lib.hid ⟨by have := HC.out.k2; simp only at hzj; omega, hwj, ⟨by omega, by omega⟩⟩
      -- the part that came
      obtain ⟨i, hi⟩ : ∃ i : Nat, a2.tmod ((j : Int) + 1) = (i : Int) := ⟨(a2.tmod ((j : Int) + 1)).toNat, by have := Int.tmod_nonneg ((j : Int) + 1) y20; omega⟩
      have hij : i < j + 1 := by have := Int.tmod_lt_of_pos a2 (b := (j : Int) + 1) (by omega); omega
      have i1 : (i : Int) < (m : Int) := by omega
      have i0 : (0 : Int) ≤ (i : Int) := by omega
      have i2 : ((j : Int) + 1 == 0) = false := by simp; omega
      have i3 : (j : Int) + 1 ≠ 0 := by omega
      obtain ⟨si, hsi⟩ : ∃ t, (partAt A 3 k m i).s = t := ⟨_, rfl⟩
      have hpi := part_is A 3 k m i hsi
      have hca := add_came (h := HC.out) (i := i) (j := j + 1) (slots := 1) (bytes := 1000) (now := (j : Int)) (since := 0) hij (by omega) (by omega)
      have hot := add_other (h := HC.out) (i := i) (j := j + 1) (slots := 1) (bytes := 1000) (now := (j : Int)) (since := 0) hij (by omega) (by omega)
      have hwi := right_wf (HC.out.right (i := i) (by omega))
      have hzi := (HC.out.le (i := i) (by omega)).1
      rw [hpi] at hca hot hwi hzi
      simp only at hot
      have HPI := Lib.hid hpi
      have HCA := Lib.hid hca
      have HOT := Lib.hid hot
      have HWI : Hid (si.size ≤ 1000000 ∧ (⟨3, (i : Int), (m : Int), si⟩ : Fr).Wf ∧ (⟨3, (i : Int), (m : Int) + 1, si⟩ : Fr).Wf) := Lib.hid ⟨by have := HC.out.k2; simp only at hzi; omega, hwi, ⟨hwi.1, hwi.2, wf_i64.2 (by simp only; omega), hwi.4⟩⟩
      obtain ⟨H, hH⟩ : ∃ H : Int, (heldM (oneL A 3 k m (j + 1) 0) : Int) = H := ⟨_, rfl⟩
      have HH := Lib.hid hH
      have HIJ : Hid (i < m ∧ j < m1) := Lib.hid (by omega)
      have tH : (H != H) = false := by simp
      have hm3 : (m : Int) ≤ 16 := by omega
      clear hsj hpj had hwj hzj hsi hpi hca hot hwi hzi hH hj hjm hm hij
      go_wp2_with fail
      clear r0 r1 r2 r3
      refine (add_x HX.out ⟨3, (j : Int), (m : Int), sj⟩ (j : Int) _ _ _ _ _ 0 HWJ.out.1 HWJ.out.2.1 HWJ.out.2.2 rfl HAD.out rfl).mono ?_
      rintro e wc ⟨F2, rfl, hx⟩
      have HX2 := Lib.hid hx
      clear hx
      go_wp2_with fail
      refine (held_x HX2.out 1 H (by rw [oneL_len]; rfl) HH.out).mono ?_
      rintro e wd ⟨rfl, hx⟩
      have HX3 := Lib.hid hx
      have hci := fro_cell hx.one (j := i) (by rw [parts_len]; exact HIJ.out.1)
      clear hx
      have hpi2 : (parts A 3 k m).getD i zeroF = ⟨3, (i : Int), (m : Int), si⟩ := by rw [parts_getD _ _ _ _ _ HIJ.out.1, HPI.out]
      rw [hpi2] at hci
      obtain ⟨r0, r1, r2, r3⟩ := hci
      clear hpi2
      go_wp2_with fail
      have HB := Lib.hid (boxed HX3.out #[.int .u64 3, .int .i64 (i : Int), .int .i64 (m : Int), .string si])
      generalize wd.alloc (.cells #[.int .u64 3, .int .i64 (i : Int), .int .i64 (m : Int), .string si] 35) = we at HB ⊢
      generalize wd.heap.size = B at HB ⊢
      clear r0 r1 r2 r3
      refine (add_b HB.out ⟨3, (i : Int), (m : Int), si⟩ (j : Int) _ _ _ _ _ 6 HWI.out.1 HWI.out.2.1 HWJ.out.2.2 rfl HCA.out rfl).mono ?_
      rintro e wf ⟨F3, rfl, hx⟩
      obtain ⟨b0, b1, b2, b3, b4⟩ := pb_cells hx
      have HB3 := Lib.hid (pb_count hx (.int .i64 ((m : Int) + 1)))
      clear hx HB
      have hm4 : (0 : Int) ≤ (m : Int) := by omega
      go_wp2_with fail
      generalize wf.setCell ⟨B, 2, none⟩ (.int .i64 ((m : Int) + 1)) = wx at HB3 ⊢
      clear b0 b1 b2 b3 b4
      by_cases h16 : m + 1 ≤ 16
      · have HOT2 : Hid (addP ⟨3, (i : Int), (m : Int) + 1, si⟩ (j : Int) ⟨oneL A 3 k m (j + 1) 0, 1, 1000⟩ = (⟨oneL A 3 k m (j + 1) 0, 1, 1000⟩, ⟨#[]⟩, false, 3)) := Lib.hid (by have h9 := HOT.out; rw [if_pos h16] at h9; exact h9)
        have s1 : decide ((m : Int) + 1 ≤ 16) = true := decide_eq_true (by omega)
        have s2 : decide ((16 : Int) < (m : Int) + 1) = false := decide_eq_false (by omega)
        clear h16
        refine (add_b HB3.out ⟨3, (i : Int), (m : Int) + 1, si⟩ (j : Int) _ _ _ _ _ 3 HWI.out.1 HWI.out.2.2 HWJ.out.2.2 rfl HOT2.out rfl).mono ?_
        rintro e wg ⟨F4, rfl, hx⟩
        have HB4 := Lib.hid hx
        clear hx
        go_wp2_with fail
        refine (held_b HB4.out 1 H (by rw [oneL_len]; rfl) HH.out).mono ?_
        rintro e wh ⟨rfl, hx⟩
        have HB5 := Lib.hid hx
        obtain ⟨b0, b1, b2, b3, b4⟩ := pb_cells hx
        clear hx
        go_wp2_with fail
        go_roundw
        case rel => exact ⟨j + 1, F4, HIJ.out.2, by go_num, Lib.hid (pb_px HB5.out)⟩
        case measure => have := HIJ.out.2; simp [intOf]; omega
      · have HOT2 : Hid (addP ⟨3, (i : Int), (m : Int) + 1, si⟩ (j : Int) ⟨oneL A 3 k m (j + 1) 0, 1, 1000⟩ = (⟨oneL A 3 k m (j + 1) 0, 1, 1000⟩, ⟨#[]⟩, false, 1)) := Lib.hid (by have h9 := HOT.out; rw [if_neg h16] at h9; exact h9)
        have s1 : decide ((m : Int) + 1 ≤ 16) = false := decide_eq_false (by omega)
        have s2 : decide ((16 : Int) < (m : Int) + 1) = true := decide_eq_true (by omega)
        clear h16
        refine (add_b HB3.out ⟨3, (i : Int), (m : Int) + 1, si⟩ (j : Int) _ _ _ _ _ 1 HWI.out.1 HWI.out.2.2 HWJ.out.2.2 rfl HOT2.out rfl).mono ?_
        rintro e wg ⟨F4, rfl, hx⟩
        have HB4 := Lib.hid hx
        clear hx
        go_wp2_with fail
        refine (held_b HB4.out 1 H (by rw [oneL_len]; rfl) HH.out).mono ?_
        rintro e wh ⟨rfl, hx⟩
        have HB5 := Lib.hid hx
        obtain ⟨b0, b1, b2, b3, b4⟩ := pb_cells hx
        clear hx
        go_wp2_with fail
        go_roundw
        case rel => exact ⟨j + 1, F4, HIJ.out.2, by go_num, Lib.hid (pb_px HB5.out)⟩
        case measure => have := HIJ.out.2; simp [intOf]; omega
    · obtain rfl : j = m1 := by omega
      have t0 : decide (j < j) = false := decide_eq_false (Nat.lt_irrefl _)
      have hm := HM.out.1
      have hmj : m - 1 = j := by omega
      have j2 : (j : Int) < (m : Int) := by omega
      have j0 : (0 : Int) ≤ (j : Int) := by omega
      obtain ⟨sj, hsj⟩ : ∃ t, (partAt A 3 k m j).s = t := ⟨_, rfl⟩
      have hpj := part_is A 3 k m j hsj
      have hcj := fro_cell HX.out.one (j := j) (by rw [parts_len]; omega)
      rw [parts_getD _ _ _ _ _ (by omega), hpj] at hcj
      obtain ⟨r0, r1, r2, r3⟩ := hcj
      have had := add_last (h := HC.out) HM.out.2.2 (slots := 1) (bytes := 1000) (now := 20) (since := 0) (by omega) (by decide)
      rw [hmj, hpj] at had
      have HAD := Lib.hid had
      have hwj := right_wf (HC.out.right (i := j) (by omega))
      have hzj := (HC.out.le (i := j) (by omega)).1
      rw [hpj] at hwj hzj
      have HWJ : Hid (sj.size ≤ 1000000 ∧ (⟨3, (j : Int), (m : Int), sj⟩ : Fr).Wf) := Lib.hid ⟨by have := HC.out.k2; simp only at hzj; omega, hwj⟩
      have tt : (A.toList == A.toList) = true := by simp
      clear hsj hpj had hwj hzj hj hjm hm hmj
      go_wp2_with fail
      clear r0 r1 r2 r3
      refine (add_x HX.out ⟨3, (j : Int), (m : Int), sj⟩ 20 _ _ _ _ _ 0 HWJ.out.1 HWJ.out.2 ⟨by decide, by decide⟩ rfl HAD.out rfl).mono ?_
      rintro e wc ⟨F2, rfl, hx⟩
      have HX2 := Lib.hid hx
      clear hx
      go_wp2_with fail
      refine (fixed_any _).mono ?_
      rintro e wz ⟨rfl, hb⟩
      have HZ := Lib.hid (HX2.out.below hb)
      clear hb
      go_wp2_with fail
      go_ret
      exact ⟨rfl, HZ.out.al.low⟩
theorem walk (a0 : ByteArray) (a1 a2 : Int) (w : World) (w0 : a0.size ≤ maxLen) (h1 : (Lit.int .u8 a1).wf = true) (h2 : (Lit.int .u8 a2).wf = true) :
    Calls Try.prog 7 #[.string a0, .int .u8 a1, .int .u8 a2] w fun e w' => e = .returned (.bool true) ∧ Below w.heap.size w w' := by
  obtain ⟨A, m0, u1, v1, y1⟩ := slice_facts a0 200
  have m2 : min (a0.size : Int) 200 = A.size := m0
  obtain ⟨y10, y11⟩ := Go.bounds_u8 h1
  obtain ⟨y20, y21⟩ := Go.bounds_u8 h2
  obtain ⟨k, hk⟩ : ∃ k : Nat, 1 + a1 = (k : Int) := ⟨(1 + a1).toNat, by omega⟩
  have hg : Good A 3 k := ⟨by omega, by omega, by omega, by omega, by omega⟩
  by_cases e0 : A.size = 0
  · exact walk0 a0 A a1 a2 k w y10 y11 y20 y21 m2 u1 v1 y1 w0 hk (Lib.hid e0)
  · by_cases e1 : 16 < many A.size k
    · exact walk4 a0 A a1 a2 k w y10 y11 y20 y21 m2 u1 v1 y1 w0 hk hg e0 e1
    · by_cases e2 : many A.size k = 1
      · exact walk1 a0 A a1 a2 k w y10 y11 y20 y21 m2 u1 v1 y1 w0 hk ⟨hg, e0, e2, by omega⟩
      · exact walkP a0 A a1 a2 k w y10 y11 y20 y21 m2 u1 v1 y1 w0 hk _ (Lib.hid ⟨hg, e0, rfl, by omega⟩) (by have := many_pos (n := A.size) (k := k) hg.k1 e0; omega)

set_option maxRecDepth 100000 in
theorem lifted (os : Os) (started : os.Started) (H : Type) (enc : TypeId × Value → H) :
    ReturnsInHanded {} Try.checked os 7 .any (Rows.poolTwiceSpec.pre6 enc Try.prog Try.f7 Rows.poolTwiceRow.domain false) (Rows.poolTwiceSpec.post enc Try.prog Try.f7 false true false false) := by
  refine returnsInHanded_of_change (C := Try.checked) own started (by kernel_rfl) Try.func7
    (ChangeSpec.witness6 (enc := enc) (C := Try.checked) false ⟨#[], #[.string ByteArray.empty, .int .u8 0, .int .u8 0], []⟩ 8 (by kernel_rfl) (by kernel_rfl) (by kernel_rfl) (by kernel_rfl)) ?_
  intro W base args ds gs before hval0 hW hcnd _
  have hval : ∀ (j : Nat) t v, Try.f7.params[j]? = some t → args[j]? = some v → Value.okWide Try.prog W .any base t v := hval0
  have hW' := hW
  obtain ⟨p, q, hA0, hV, rfl, hfz, hnd⟩ := hW
  have hA : DataW.TrodAll enc Try.prog W 0 (fun _ => true) true Try.f7.params.toList args.toList ds p := hA0
  rw [Try.params7] at hA hval
  obtain ⟨v0, vs0, d0, ds0, p0, q0, hargs, rfl, rfl, h0, r0⟩ := trodAll_cons hA
  obtain ⟨v1, vs1, d1, ds1, p1, q1, rfl, rfl, rfl, h1, r1⟩ := trodAll_cons r0
  obtain ⟨v2, vs2, d2, ds2, p2, q2, rfl, rfl, rfl, h2, r2⟩ := trodAll_cons r1
  obtain ⟨rfl, rfl, rfl⟩ := trodAll_nil r2
  obtain rfl : args = #[v0, v1, v2] := by cases args; simp_all
  obtain ⟨rfl, rfl⟩ := trodVars_none hV
  obtain ⟨a0, rfl, rfl, rfl, w0⟩ := open_string Try.underlying9 (hval 0 9 v0 rfl rfl) h0
  obtain ⟨a1, rfl, rfl, rfl, w1⟩ := open_int Try.underlying5 (hval 1 5 v1 rfl rfl) h1
  obtain ⟨a2, rfl, rfl, rfl, w2⟩ := open_int Try.underlying5 (hval 2 5 v2 rfl rfl) h2
  clear hA0 hval0
  refine (walk a0 a1 a2 W w0 w1 w2).mono fun e W' ⟨he, bel⟩ => ?_
  subst he
  exact ⟨_, rfl, _, _, _, [], _, [], hW', trodAll_mk1 (shut_bool Try.underlying4 _), (trodAll_cons_mk (shut_string Try.underlying9 w0) (trodAll_cons_mk (shut_int Try.underlying5 w1) (trodAll_cons_mk (shut_int Try.underlying5 w2) trodAll_mk0))), rfl, bel.frame _, fun h => by cases h⟩

theorem over : Rows.poolTwiceRow.holds Try.pinned (OpenSpec.ofChange Rows.poolTwiceSpec) :=
  OpenClaim.holds_of_wide 7 Try.f7 rfl rfl rfl rfl rfl rfl rfl ⟨rfl, rfl, rfl, rfl, rfl⟩ rfl rfl rfl rfl rfl (by kernel_rfl) Try.func7 (by kernel_rfl)
    (of_decide_eq_true (by kernel_rfl)) (by unfold Func.isWrapper; first | (rw [if_pos (by decide +kernel)]; kernel_rfl) | (rw [if_neg (by decide +kernel)]; exact ⟨rfl, rfl⟩))
    (fun os started H enc _ => lifted os started H enc)

theorem proved : Rows.PoolTwiceSaid := over
#print axioms proved
end Go.Proofs.Ytjcgckhheegonaa.poolTwice
