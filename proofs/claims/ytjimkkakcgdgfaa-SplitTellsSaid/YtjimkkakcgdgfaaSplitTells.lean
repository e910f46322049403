/- SplitTells: the parts of any message, and the message of any parts, are as the document says. No condition. -/
import Derived.Test.YtjimkkakcgdgfaaRows
import Derived.Test.YtjimkkakcgdgfaaFragU
import Derived.WalkKit
import Derived.ProofKit
import Derived.OpenShut
import Derived.ShutString
import Derived.ChangeOld
import Derived.Below
namespace Go.Proofs.Ytjimkkakcgdgfaa.splitTells
open Go.ChangeShapes Go.WideShapes Go.ChangeAt Go.RowKit
open Go.ChangeMaps (open_string shut_string)
open Go.Proofs.Ytjimkkakcgdgfaa
set_option linter.unusedVariables false
set_option linter.unusedSimpArgs false
set_option maxRecDepth 20000

theorem own : ownKnob Try.prog.godebug = none := by kernel_rfl
theorem laidOut : laidOutB Try.prog = true := by kernel_rfl
set_option maxHeartbeats 16000000 in
set_option maxRecDepth 100000 in
theorem walkN (a1 A : ByteArray) (x0 x1 id : Int) (a : Option Addr) (n cap : Nat) (fs : List Fr) (w : World) (hn : n = fs.length) (hrow : RowF w a cap fs) (hwf : ∀ f, f ∈ fs → f.Wf)
    (m1 : min (a1.size : Int) 5000 = A.size) (u1 : A.size ≤ a1.size) (v1 : A.size ≤ 5000) (y1 : a1.extract 0 A.size = A) (w1 : a1.size ≤ maxLen) (hid : IntKind.u64.wrap x0 = id) :
    Calls Try.prog 3 #[.string a1, .agg #[.int .i64 x0, .int .i64 x1], .slice a n cap] w fun e w' => e = .returned (.bool true) ∧ Below w.heap.size w w' := by
  have hlen := hrow.len
  rw [← hn] at hlen
  have HN := Lib.hid hn
  have HROW := Lib.hid hrow
  have HWF := Lib.hid hwf
  have HA : Hid (A.size ≤ 1000000) := Lib.hid (by omega)
  have HA2 : Hid (A.size ≤ maxLen) := Lib.hid (by unfold maxLen; omega)
  have HX1 : Hid (a1.extract 0 (min (a1.size : Int) 5000).toNat = A) := Lib.hid (by rw [m1]; simpa using y1)
  have n1 : (if (5000 : Int) < (a1.size : Int) then (5000 : Int) else (a1.size : Int)) = (A.size : Int) := by rw [← m1]; omega
  unfold maxLen at w1
  clear hn hrow hwf m1 y1
  go_enter Try.func3, Try.ntmps3
  go_wp2_with fail
  rw [HX1.out]
  clear HX1 n1 w1 u1 v1
  obtain ⟨qa, hqa⟩ : ∃ q, q = w.heap.size := ⟨_, rfl⟩
  obtain ⟨qp, hqp⟩ : ∃ q, q = w.heap.size + 1 := ⟨_, rfl⟩
  obtain ⟨W0, hW0⟩ : ∃ wx, wx = (w.alloc (.cells #[.int .i64 x0, .int .i64 x1] 22)).alloc (.cells #[] 26) := ⟨_, rfl⟩
  have HARR : Hid (W0.heap[qa]? = some (.cells #[.int .i64 x0, .int .i64 x1] 22 (0, 0))) := Lib.hid (by
    rw [hW0, hqa]
    exact ((below_alloc (w.alloc (.cells #[.int .i64 x0, .int .i64 x1] 22)) (.cells #[] 26)).block _ (by simp)).trans (heap_alloc_new w _))
  have HBB : Hid (Below w.heap.size w W0) := Lib.hid (by rw [hW0]; exact ((Below.refl _ _).alloc (Nat.le_refl _) _).alloc (by simp) _)
  have HO : Hid (OwnF 26 qp (.slice (some ⟨qp, 0, none⟩) 0 0) ((fs.take 0).map capF) W0) := Lib.hid (by
    have h1 := OwnF.new (base := qp) 26 (w.alloc (.cells #[.int .i64 x0, .int .i64 x1] 22)) (by rw [hqp, size_alloc]; exact Nat.le_refl _)
    rw [size_alloc, ← hqp, ← hW0] at h1
    exact h1)
  have HQ : Hid (qa < qp ∧ w.heap.size ≤ qp) := Lib.hid (by omega)
  have HQS : Hid (qp ≤ W0.heap.size) := Lib.hid (by rw [hW0, hqp]; simp)
  rw [← hW0, ← hqp, ← hqa]
  clear hW0 hqp hqa
  go_loopw [7, 8] (fun v i wr => ∃ (k : Nat), k ≤ n ∧ k ≤ 20 ∧ i = .int .i64 k ∧ Hid (OwnF 26 qp v ((fs.take k).map capF) wr) ∧ Hid (wr.heap[qa]? = some (.cells #[.int .i64 x0, .int .i64 x1] 22 (0, 0))) ∧ Hid (Below w.heap.size w wr) ∧ Hid (qp ≤ wr.heap.size)) (fun _ i _ => n - (intOf i).toNat)
  case atStart => exact ⟨0, Nat.zero_le _, Nat.zero_le _, rfl, HO, HARR, HBB, HQS⟩
  case round =>
    clear HO HARR HBB HQS
    obtain ⟨k, hk, hk20, rfl, HO, HARR, HBB, HQS⟩ := hrel
    by_cases hlt : k < n ∧ k < 20
    · obtain ⟨h1, h2⟩ := hlt
      have hlt' : (k : Int) < (n : Int) := by omega
      have e1 : decide (k < n) = true := by simpa using h1
      have e2 : decide (k < 20) = true := by simpa using h2
      have e3 : decide ((k : Int) < 20) = true := decide_eq_true (by omega)
      have HKN : Hid (k < fs.length) := Lib.hid (by rw [← HN.out]; exact h1)
      have HK := Lib.hid (And.intro h1 h2)
      obtain ⟨bk, off, rfl, c0, c1, c2, c3⟩ := frow_cell HROW.out (j := k) HKN.out
      replace c0 := (HBB.out.cell (block_lt_of_cell c0)).trans c0
      replace c1 := (HBB.out.cell (block_lt_of_cell c1)).trans c1
      replace c2 := (HBB.out.cell (block_lt_of_cell c2)).trans c2
      replace c3 := (HBB.out.cell (block_lt_of_cell c3)).trans c3
      have HT : Hid ((fs.take (k + 1)).map capF = (fs.take k).map capF ++ [capF (fs.getD k zeroF)]) := Lib.hid (by rw [take_getF HKN.out, List.map_append]; rfl)
      have HZW := Lib.hid (HWF.out (fs.getD k zeroF) (by simp [List.getD, HKN.out])).s
      have HL : Hid (((fs.take k).map capF).length < 100000) := Lib.hid (by rw [List.length_map, List.length_take]; omega)
      generalize fs.getD k zeroF = z at c0 c1 c2 c3 HT HZW
      obtain ⟨id', ix, ct, s⟩ := z
      dsimp only at c0 c1 c2 c3 HZW
      obtain ⟨p, hp⟩ : ∃ p, p = s.extract 0 (min s.size 1100) := ⟨_, rfl⟩
      have HCF : Hid (min (s.size : Int) 1100 = p.size ∧ p.size ≤ s.size ∧ s.extract 0 p.size = p) := Lib.hid (by rw [hp]; exact cap_facts s)
      have HCP : Hid (capF ⟨id', ix, ct, s⟩ = ⟨id', ix, ct, p⟩) := Lib.hid (by rw [hp]; rfl)
      clear h1 h2 hk hk20 hp
      go_wp2_with fail
      refine (lcut_f id' ix ct s p _ HZW.out HCF.out.1 HCF.out.2.1 HCF.out.2.2).mono ?_
      rintro e w1 ⟨rfl, hb⟩
      have HO1 := Lib.hid (HO.out.below hb)
      have HB1 := Lib.hid (HBB.out.trans (hb.mono HBB.out.size))
      have HAR1 := Lib.hid ((hb.block _ (blk_lt HARR.out)).trans HARR.out)
      have HQP1 : Hid (qp ≤ w1.heap.size) := Lib.hid (Nat.le_trans HQS.out hb.size)
      clear hb c0 c1 c2 c3 HO HBB HARR
      go_wp2_with (at_builtin; refine wpList_appF rfl (.tmp 33) (.tmp 39) 23 26 Try.underlying23 infoP rfl qp _ ((fs.take k).map capF) ⟨id', ix, ct, p⟩ _ rfl (HO1.out.below (below_alloc _ _)) w1.heap.size 1 rfl (heap_alloc_new w1 _) HL.out (by have := HQP1.out; simp; omega) ?_; intro v' w2 hA; have HA7 := Lib.hid hA; clear hA)
      go_roundw
      case rel => exact ⟨k + 1, by have := HK.out; omega, by have := HK.out; omega, by go_num, Lib.hid (by rw [HT.out, HCP.out]; exact HA7.out.own), Lib.hid ((HA7.out.low.block qa HQ.out.1).trans (((below_alloc w1 _).block qa (blk_lt HAR1.out)).trans HAR1.out)), Lib.hid (HB1.out.trans ((below_alloc w1 (.cells #[.int .u64 id', .int .i64 ix, .int .i64 ct, .string p] 26)).mono HB1.out.size |>.trans (HA7.out.low.mono HQ.out.2))), Lib.hid (Nat.le_trans HQP1.out (Nat.le_trans (by simp) HA7.out.size))⟩
      case measure => have := HK.out; simp [intOf]; omega
    · have e12 : decide (k < n) = false ∨ (decide (k < n) = true ∧ decide ((k : Int) < 20) = false) := by
        simp only [decide_eq_false_iff_not, decide_eq_true_eq]
        omega
      have HK2 := Lib.hid hk20
      clear hlt hk hk20
      rcases e12 with e1 | ⟨e1, e2⟩
      all_goals
        skip
        obtain ⟨L, hL⟩ : ∃ L, (fs.take k).map capF = L := ⟨_, rfl⟩
        rw [hL] at HO
        have HLL : Hid (L.length ≤ 20) := Lib.hid (by rw [← hL, List.length_map, List.length_take]; have := HK2.out; omega)
        have HLS : Hid (∀ f, f ∈ L → f.s.size ≤ 1000000) := Lib.hid (fun f hf => by
          rw [← hL, List.mem_map] at hf
          obtain ⟨g, _, rfl⟩ := hf
          have := cap_size g; omega)
        clear hL
        obtain ⟨cl, ce, hcut⟩ : ∃ cl ce, cutF A id x1 = (cl, ce) := ⟨_, _, rfl⟩
        have HCUT := Lib.hid hcut
        have HCL : Hid (cl.length ≤ 1000) := Lib.hid (by have := cut_len A id x1; rw [hcut] at this; exact Nat.le_trans this (by decide))
        obtain ⟨t, E, hj⟩ : ∃ t E, joinF L = (t, E) := ⟨_, _, rfl⟩
        have HJ := Lib.hid hj
        clear hcut hj
        obtain ⟨pa, pc, rfl, _⟩ := HO.out.at
        have z0 := cell_at 0 HARR.out
        have z1 := cell_at 1 HARR.out
        simp at z0 z1
        go_wp2_with fail
        clear z0 z1 e1
        try clear e2
        refine (cut_l A id x1 _ HA.out cl ce ce HCUT.out rfl).mono ?_
        rintro e w11 ⟨va, rfl, ho, hb⟩
        have HA3 := Lib.hid ho
        clear ho
        replace HBB := Lib.hid (HBB.out.trans (hb.mono HBB.out.size))
        replace HARR := Lib.hid ((hb.block _ (blk_lt HARR.out)).trans HARR.out)
        try replace HO := Lib.hid (HO.out.below hb)
        try replace HA3 := Lib.hid (HA3.out.below hb)
        try replace HB3 := Lib.hid (HB3.out.below hb)
        clear hb
        have z0 := cell_at 0 HARR.out
        have z1 := cell_at 1 HARR.out
        simp at z0 z1
        go_wp2_with fail
        clear z0 z1
        refine (rcut_l A id x1 _ HA2.out cl ce HCUT.out).mono ?_
        rintro e w12 ⟨vb, rfl, ho, hb⟩
        have HB3 := Lib.hid ho
        clear ho
        replace HBB := Lib.hid (HBB.out.trans (hb.mono HBB.out.size))
        replace HARR := Lib.hid ((hb.block _ (blk_lt HARR.out)).trans HARR.out)
        try replace HO := Lib.hid (HO.out.below hb)
        try replace HA3 := Lib.hid (HA3.out.below hb)
        try replace HB3 := Lib.hid (HB3.out.below hb)
        clear hb
        obtain ⟨aa, ac, rfl, _⟩ := HA3.out.at
        obtain ⟨ba, bc, rfl, _⟩ := HB3.out.at
        go_wp2_with fail
        obtain ⟨pa', pc', hv, hrp⟩ := HO.out.at
        injection hv with v1 _ v3
        subst v1; subst v3
        refine (join_l _ _ _ L _ rfl hrp HLS.out t E E HJ.out rfl).mono ?_
        rintro e w13 ⟨rfl, hb⟩
        replace HBB := Lib.hid (HBB.out.trans (hb.mono HBB.out.size))
        replace HARR := Lib.hid ((hb.block _ (blk_lt HARR.out)).trans HARR.out)
        try replace HO := Lib.hid (HO.out.below hb)
        try replace HA3 := Lib.hid (HA3.out.below hb)
        try replace HB3 := Lib.hid (HB3.out.below hb)
        clear hb
        clear hrp
        go_wp2_with fail
        obtain ⟨pa2, pc2, hv, hrp⟩ := HO.out.at
        injection hv with v1 _ v3
        subst v1; subst v3
        refine (refs_f _ _ _ L _ rfl hrp (by have := HLL.out; omega)).mono ?_
        rintro e w14 ⟨vr, rfl, hor, hb⟩
        obtain ⟨ra, rc, rfl, hrr⟩ := hor.at
        have HRR := Lib.hid hrr
        clear hor hrr
        replace HBB := Lib.hid (HBB.out.trans (hb.mono HBB.out.size))
        replace HARR := Lib.hid ((hb.block _ (blk_lt HARR.out)).trans HARR.out)
        try replace HO := Lib.hid (HO.out.below hb)
        try replace HA3 := Lib.hid (HA3.out.below hb)
        try replace HB3 := Lib.hid (HB3.out.below hb)
        clear hb
        clear hrp
        go_wp2_with fail
        refine (rjoin_f _ _ _ L _ rfl HRR.out (fun j hj => by have h5 : L.getD j zeroF ∈ L := (by simp [List.getD, hj]); have h6 := HLS.out _ h5; unfold maxLen; omega) t E HJ).mono ?_
        rintro e w15 ⟨rfl, hb⟩
        replace HBB := Lib.hid (HBB.out.trans (hb.mono HBB.out.size))
        replace HARR := Lib.hid ((hb.block _ (blk_lt HARR.out)).trans HARR.out)
        try replace HO := Lib.hid (HO.out.below hb)
        try replace HA3 := Lib.hid (HA3.out.below hb)
        try replace HB3 := Lib.hid (HB3.out.below hb)
        clear hb
        clear HRR
        go_wp2_with fail
        obtain ⟨pa3, pc3, hv, hrp⟩ := HA3.out.at
        injection hv with v1 _ v3
        subst v1; subst v3
        refine (refs_f _ _ _ cl _ rfl hrp HCL.out).mono ?_
        rintro e w16 ⟨vr, rfl, hor, hb⟩
        obtain ⟨ra, rc, rfl, hrr⟩ := hor.at
        have HRR := Lib.hid hrr
        clear hor hrr
        replace HBB := Lib.hid (HBB.out.trans (hb.mono HBB.out.size))
        replace HARR := Lib.hid ((hb.block _ (blk_lt HARR.out)).trans HARR.out)
        try replace HO := Lib.hid (HO.out.below hb)
        try replace HA3 := Lib.hid (HA3.out.below hb)
        try replace HB3 := Lib.hid (HB3.out.below hb)
        clear hb
        clear hrp
        go_wp2_with fail
        obtain ⟨pa4, pc4, hv, hrp⟩ := HB3.out.at
        injection hv with v1 _ v3
        subst v1; subst v3
        have t1 := eqS t
        have t3 : ((E : Int) == (E : Int)) = true := by simp
        have t4 : ((ce : Int) == (ce : Int)) = true := by simp
        refine (rsame_true _ _ _ _ _ cl _ rfl HRR.out hrp).mono ?_
        rintro e w17 ⟨rfl, hb⟩
        replace HBB := Lib.hid (HBB.out.trans (hb.mono HBB.out.size))
        replace HARR := Lib.hid ((hb.block _ (blk_lt HARR.out)).trans HARR.out)
        try replace HO := Lib.hid (HO.out.below hb)
        try replace HA3 := Lib.hid (HA3.out.below hb)
        try replace HB3 := Lib.hid (HB3.out.below hb)
        clear hb
        clear hrp HRR
        go_wp2_with fail
        refine (fixed_any _).mono ?_
        rintro e w18 ⟨rfl, hb⟩
        replace HBB := Lib.hid (HBB.out.trans (hb.mono HBB.out.size))
        replace HARR := Lib.hid ((hb.block _ (blk_lt HARR.out)).trans HARR.out)
        try replace HO := Lib.hid (HO.out.below hb)
        try replace HA3 := Lib.hid (HA3.out.below hb)
        try replace HB3 := Lib.hid (HB3.out.below hb)
        clear hb
        go_wp2_with fail
        go_ret
        exact ⟨rfl, HBB.out⟩

theorem walk (a1 : ByteArray) (x0 x1 : Int) (a : Option Addr) (n cap : Nat) (fs : List Fr) (w : World) (w1 : a1.size ≤ maxLen) (h0 : (Lit.int .i64 x0).wf = true) (h1 : (Lit.int .i64 x1).wf = true) (hn : n = fs.length) (hrow : RowF w a cap fs) (hwf : ∀ f, f ∈ fs → f.Wf) :
    Calls Try.prog 3 #[.string a1, .agg #[.int .i64 x0, .int .i64 x1], .slice a n cap] w fun e w' => e = .returned (.bool true) ∧ Below w.heap.size w w' := by
  obtain ⟨A, m1, u1, v1, y1⟩ := slice_facts a1 5000
  exact walkN a1 A x0 x1 _ a n cap fs w hn hrow hwf m1 u1 v1 y1 w1 rfl

set_option maxRecDepth 100000 in
theorem lifted (os : Os) (started : os.Started) (H : Type) (enc : TypeId × Value → H) :
    ReturnsInHanded {} Try.checked os 3 .any (Rows.splitTellsSpec.pre6 enc Try.prog Try.f3 Rows.splitTellsRow.domain false) (Rows.splitTellsSpec.post enc Try.prog Try.f3 false true false false) := by
  refine returnsInHanded_of_change (C := Try.checked) own started (by kernel_rfl) Try.func3
    (ChangeSpec.witness6 (enc := enc) (C := Try.checked) false ⟨#[], #[.string ByteArray.empty, .agg #[.int .i64 0, .int .i64 0], .slice none 0 0], []⟩ 8 (by kernel_rfl) (by kernel_rfl) (by kernel_rfl) (by kernel_rfl)) ?_
  intro W base args ds gs before hval0 hW hcnd _
  have hval : ∀ (j : Nat) t v, Try.f3.params[j]? = some t → args[j]? = some v → Value.okWide Try.prog W .any base t v := hval0
  have hW' := hW
  obtain ⟨p, q, hA0, hV, rfl, hfz, hnd⟩ := hW
  have hA : DataW.TrodAll enc Try.prog W 0 (fun _ => true) true Try.f3.params.toList args.toList ds p := hA0
  rw [Try.params3] at hA hval
  obtain ⟨v0, vs0, d0, ds0, p0, q0, hargs, rfl, rfl, h0, r0⟩ := trodAll_cons hA
  obtain ⟨v1, vs1, d1, ds1, p1, q1, rfl, rfl, rfl, h1, r1⟩ := trodAll_cons r0
  obtain ⟨v2, vs2, d2, ds2, p2, q2, rfl, rfl, rfl, h2, r2⟩ := trodAll_cons r1
  obtain ⟨rfl, rfl, rfl⟩ := trodAll_nil r2
  obtain rfl : args = #[v0, v1, v2] := by cases args; simp_all
  obtain ⟨rfl, rfl⟩ := trodVars_none hV
  obtain ⟨a0, rfl, rfl, rfl, w0⟩ := open_string Try.underlying9 (hval 0 9 v0 rfl rfl) h0
  obtain ⟨cs1, rfl, hsz1⟩ : ∃ cs, v1 = .agg cs ∧ cs.size = Try.prog.cellsOf 22 := by
    have h := hval 1 22 v1 rfl rfl
    simp only [Value.okWide, Try.underlying22] at h
    obtain ⟨cs, e1, e2, _⟩ := h
    exact ⟨cs, e1, e2⟩
  have k1 := h1
  have lt1 : ∀ x ∈ p1, x.block < W.heap.size := by obtain ⟨m, hm⟩ := k1; exact DataW.trod_lt m _ _ _ hm
  obtain ⟨Z1, rfl, w1⟩ : ∃ Z : Nat → Int, cs1 = ((List.range 2).map fun j => Value.int .i64 (Z j)).toArray ∧ ∀ j, j < 2 → (Lit.int .i64 (Z j)).wf = true := by
    obtain ⟨fuel, hf⟩ := h1
    exact open_arrV Try.underlying22 Try.underlying3 (by kernel_rfl) (by kernel_rfl) hf
  obtain ⟨a2, len2, cap2, rfl⟩ := okWide_slice Try.underlying23 (hval 2 23 v2 rfl rfl)
  have k2 := h2
  have lt2 : ∀ x ∈ p2, x.block < W.heap.size := by obtain ⟨m, hm⟩ := k2; exact DataW.trod_lt m _ _ _ hm
  obtain ⟨T2, l2, r2f, w2⟩ : ∃ fs : List Fr, len2 = fs.length ∧ RowF W a2 cap2 fs ∧ ∀ f, f ∈ fs → f.Wf := by
    obtain ⟨fuel, hf⟩ := h2
    exact open_frags (by simpa [Value.cells] using hf)
  clear hA0 hval0
  refine (walk a0 (Z1 0) (Z1 1) a2 len2 cap2 T2 W w0 (w1 0 (by omega)) (w1 1 (by omega)) l2 r2f w2).mono fun e W' ⟨he, bel⟩ => ?_
  subst he
  exact ⟨_, rfl, _, _, _, [], _, [], hW', trodAll_mk1 (shut_bool Try.underlying4 _), (trodAll_cons_mk (shut_string Try.underlying9 w0) (trodAll_cons_mk (Below.trod laidOut (by kernel_rfl) (of_decide_eq_true (by kernel_rfl)) k1 bel lt1) (trodAll_cons_mk (Below.trod laidOut (by kernel_rfl) (of_decide_eq_true (by kernel_rfl)) k2 bel lt2) trodAll_mk0))), rfl, bel.frame _, fun h => by cases h⟩

theorem over : Rows.splitTellsRow.holds Try.pinned (OpenSpec.ofChange Rows.splitTellsSpec) :=
  OpenClaim.holds_of_wide 3 Try.f3 rfl rfl rfl rfl rfl rfl rfl ⟨rfl, rfl, rfl, rfl, rfl⟩ rfl rfl rfl rfl rfl (by kernel_rfl) Try.func3 (by kernel_rfl)
    (of_decide_eq_true (by kernel_rfl)) (by unfold Func.isWrapper; first | (rw [if_pos (by decide +kernel)]; kernel_rfl) | (rw [if_neg (by decide +kernel)]; exact ⟨rfl, rfl⟩))
    (fun os started H enc _ => lifted os started H enc)

theorem proved : Rows.SplitTellsSaid := over
#print axioms proved
end Go.Proofs.Ytjimkkakcgdgfaa.splitTells
