/- SkipCopies: what is put or dropped leaves the cache that was as it was. No condition. -/
import Derived.Test.YtpbcndbmmphngaaRows
import Derived.Test.YtpbcndbmmphngaaEnC
import Derived.WalkKit
import Derived.ProofKit
import Derived.OpenShut
import Derived.ShutString
import Derived.ChangeOld
import Derived.Below
namespace Go.Proofs.Ytpbcndbmmphngaa.skipCopies
open Go.ChangeShapes Go.WideShapes Go.ChangeAt Go.RowKit
open Go.ChangeMaps (open_string shut_string)
open Go.Proofs.Ytpbcndbmmphngaa
set_option linter.unusedVariables false
set_option linter.unusedSimpArgs false
set_option maxRecDepth 20000

theorem own : ownKnob Try.prog.godebug = none := by kernel_rfl
theorem laidOut : laidOutB Try.prog = true := by kernel_rfl
set_option maxHeartbeats 4000000 in
set_option maxRecDepth 100000 in
theorem walk (a0 : Option Addr) (len0 cap0 : Nat) (Z0 : Nat → Nat → Int) (x1 : Int) (w : World) (w0 : Arrs .u8 2 w a0 len0 cap0 Z0) (w1 : (Lit.int .u8 x1).wf = true) :
    Calls Try.prog 5 #[.slice a0 len0 cap0, .int .u8 x1] w fun e w' => e = .returned (.bool true) ∧ Below w.heap.size w w' := by
  have hm0 : len0 ≤ 9223372036854775807 := by have h1 := w0.1; have h2 := w0.2.1; unfold maxLen at h1; omega
  have HA := Lib.hid w0
  obtain ⟨y0, y1⟩ := Go.bounds_u8 w1
  obtain ⟨N, rfl⟩ := Int.eq_ofNat_of_zero_le y0
  obtain ⟨D, hD⟩ : ∃ D, N % 12 = D := ⟨_, rfl⟩
  have d1 : (N : Int) % 12 = (D : Int) := by rw [← hD]; simp
  have d2 : (N : Int).tmod 12 = (D : Int) := by rw [Int.tmod_eq_emod_of_nonneg (by omega)]; exact d1
  have db : (D : Int) ≤ 11 := by omega
  have d3 : IntKind.u8.wrap (D : Int) = (D : Int) := by simp [IntKind.wrap, IntKind.signed, IntKind.bits]; omega
  have d4 : IntKind.i64.wrap (D : Int) = (D : Int) := by simp [IntKind.wrap, IntKind.signed, IntKind.bits]; omega
  have bN : (N : Int) ≤ 255 := by omega
  have HC := Lib.hid ((Bx.start w).box #[.slice none 0 0] 26)
  have HB : Hid (w.heap.size ≤ w.heap.size) := Lib.hid (Nat.le_refl _)
  clear w0 w1 y0 y1 hD
  go_enter Try.func5, Try.ntmps5
  go_upto_region 2 with fail
  generalize hwd : (w.alloc (.cells #[.slice none 0 0] 26 : Obj)) = wa at HC ⊢
  obtain ⟨B, hB1⟩ : ∃ B, w.heap.size = B := ⟨_, rfl⟩
  have HC : Hid (Bx w ([] ++ [(B, (.cells #[.slice none 0 0] 26 (0, 0) : Obj))]) wa) := Lib.hid (by have := HC.out; rw [hB1] at this; exact this)
  replace HB : Hid (w.heap.size ≤ B) := Lib.hid (by omega)
  rw [show w.heap.size = B from hB1]
  clear hwd
  go_wp2_with fail
  go_loopg [6] 20 (fun gk s6 wr => ∃ (i : Nat) (a : Option Addr) (n cap : Nat) (es : List En) (rs : List (Nat × Obj)), i + gk = 20 ∧ i ≤ len0 ∧ s6 = .int .i64 (i : Nat) ∧ Hid (OkE es) ∧ Hid (n = es.length) ∧ Hid (Bx w (rs ++ [(B, (.cells #[.slice a n cap] 26 (0, 0) : Obj))]) wr) ∧ Hid (∀ k o, (k, o) ∈ rs → k ≠ B) ∧ Hid (∀ u : World, (∀ k o, (k, o) ∈ rs → u.heap[k]? = some o) → RowE u a cap es))
  case atStart => exact ⟨0, none, 0, 0, [], [], rfl, Nat.zero_le _, rfl, Lib.hid OkE.nil, Lib.hid rfl, HC, Lib.hid (fun k o q => by simp at q), Lib.hid (fun u _ => RowE.none u)⟩
  case round =>
    clear HC
    obtain ⟨i, a, n, cap, es, rs0, hi, hil, rfl, HOK, HN, HC, HDX, HR0⟩ := hrel
    by_cases h4 : i < len0 ∧ i < 20
    · obtain ⟨h1, h2⟩ := h4
      obtain ⟨_, _, b0, o0, hz⟩ := HA.out
      obtain ⟨ha0, hz2⟩ := hz i h1
      clear hz
      obtain ⟨hc0, hv0⟩ := hz2 0 (by decide)
      obtain ⟨hc1, hv1⟩ := hz2 1 (by decide)
      clear hz2
      subst ha0
      obtain ⟨p0, p1⟩ := Go.bounds_u8 hv0
      obtain ⟨p2, p3⟩ := Go.bounds_u8 hv1
      obtain ⟨X, hX⟩ := Int.eq_ofNat_of_zero_le p0
      obtain ⟨Y, hY⟩ := Int.eq_ofNat_of_zero_le p2
      rw [hX] at hc0 p1
      rw [hY] at hc1 p3
      rw [Nat.add_zero] at hc0
      have HCELL : Hid (∀ W, Below w.heap.size w W → W.cell? ⟨b0, o0 + i * 2, none⟩ = some (.int .u8 (X : Int)) ∧ W.cell? ⟨b0, o0 + i * 2 + 1, none⟩ = some (.int .u8 (Y : Int))) := Lib.hid (fun W hb => ⟨(hb.cell (block_lt_of_cell hc0)).trans hc0, (hb.cell (block_lt_of_cell hc1)).trans hc1⟩)
      clear hc0 hc1
      obtain ⟨R, hR⟩ : ∃ R, X % 12 = R := ⟨_, rfl⟩
      have x1 : (X : Int) % 12 = (R : Int) := by rw [← hR]; simp
      have x2 : (X : Int).tmod 12 = (R : Int) := by rw [Int.tmod_eq_emod_of_nonneg (by omega)]; exact x1
      have xb : (R : Int) ≤ 11 := by omega
      have x3 : IntKind.u8.wrap (R : Int) = (R : Int) := by simp [IntKind.wrap, IntKind.signed, IntKind.bits]; omega
      have x4 : IntKind.i64.wrap (R : Int) = (R : Int) := by simp [IntKind.wrap, IntKind.signed, IntKind.bits]; omega
      have bX : (X : Int) ≤ 255 := p1
      have bY : (Y : Int) ≤ 255 := p3
      have yw : IntKind.i64.wrap (Y : Int) = (Y : Int) := by simp [IntKind.wrap, IntKind.signed, IntKind.bits]; omega
      have i1 : (i : Int) < (len0 : Int) := by omega
      have i2 : (i : Int) < 20 := by omega
      have i0 : (0 : Int) ≤ (i : Int) := by omega
      obtain ⟨gs, g, is, hpe⟩ : ∃ gs g is, putE es ⟨(R : Int), (Y : Int), 0, 0⟩ = (gs, g, is) := ⟨_, _, _, rfl⟩
      obtain ⟨g1, g2, g3, g4⟩ := g
      have HPE := Lib.hid hpe
      have HOK2 : Hid (OkE gs) := Lib.hid (by have := HOK.out.put ⟨(R : Int), (Y : Int), 0, 0⟩; rw [hpe] at this; exact this)
      obtain ⟨m2, hm2⟩ : ∃ m2, gs.length = m2 := ⟨_, rfl⟩
      have HM2 := Lib.hid hm2
      have HI9 : Hid (i < len0 ∧ i < 20 ∧ i + gk = 20) := Lib.hid ⟨h1, h2, hi⟩
      clear hX hY hv0 hv1 p0 p1 p2 p3 hR hpe hm2 hi hil
      go_upto_region 5 with fail
      have HBW : Hid (B < wr.heap.size) := Lib.hid (HC.out.klt (k := B) (o := (.cells #[.slice a n cap] 26 (0, 0) : Obj)) (by simp))
      obtain ⟨BS, hM, hB⟩ : ∃ BS, (((B, (.cells #[.slice a n cap] 26 (0, 0) : Obj)) : Nat × Obj) ∈ BS ∧ (∀ k o, (k, o) ∈ rs0 → (k, o) ∈ BS)) ∧ Bx w BS wr := ⟨_, ⟨by simp, fun k o q => by simp [q]⟩, HC.out⟩
      have HM := Lib.hid hM
      have HCK := Lib.hid hB
      clear hM hB HC
      go_cut [7, 8, 9] from 18 to 48 (fun s7 s8 s9 wx => ∃ (p : Nat) (rs1 : List (Nat × Obj)) (a1 : Option Addr) (c1 : Nat), s7 = .pointer (some ⟨p, 0, none⟩) ∧ s9 = .bool is ∧ Hid (Bx w (((p, (.cells #[.slice a1 m2 c1] 26 (0, 0) : Obj)) : Nat × Obj) :: (rs1 ++ BS)) wx) ∧ Hid (∀ k o, (k, o) ∈ rs1 → wr.heap.size ≤ k) ∧ Hid (wr.heap.size ≤ p) ∧ Hid (∀ u : World, (∀ k o, (k, o) ∈ rs1 → u.heap[k]? = some o) → RowE u a1 c1 gs))
      case first =>
        refine wp_region_held_drew (S := Bx w BS) (by kernel_rfl) (HCK.out.below (drew_b wr)) (fun hHeld => ?_)
        have HC := Lib.hid hHeld
        have HW : Hid (wr.heap.size ≤ wr.drew.heap.size) := Lib.hid (by simp)
        refine wpAnyH_take (i := 0) (oi := ?o101) (v := ?v101) ?i101 (by kernel_rfl) (by kernel_rfl) (by kernel_rfl) ?q101 (Or.inl ⟨?w101, ?y101⟩) (by assumption) ?r101
        case' i101 => simp only [List.getElem?_toArray, List.getElem?_cons_succ, List.getElem?_cons_zero]
        case i101 => rfl
        case q101 => exact fun _ _ _ h => h
        case w101 => kernel_rfl
        case y101 => (intro W hSw; obtain ⟨z0, z1⟩ := cell1 (hSw.kept _ _ HM.out.1); go_simp) <;> with_reducible rfl
        try simp only [Act.put, List.setIfInBounds_toArray, List.set_cons_zero, List.set_cons_succ]
        refine wpAnyH_take (i := 1) (oi := ?o102) (v := ?v102) ?i102 (by kernel_rfl) (by kernel_rfl) (by kernel_rfl) ?q102 (Or.inl ⟨?w102, ?y102⟩) (by assumption) ?r102
        case' i102 => simp only [List.getElem?_toArray, List.getElem?_cons_succ, List.getElem?_cons_zero]
        case i102 => rfl
        case q102 => exact fun _ _ _ h => h
        case w102 => kernel_rfl
        case y102 => (intro W hSw; go_simp) <;> with_reducible rfl
        try simp only [Act.put, List.setIfInBounds_toArray, List.set_cons_zero, List.set_cons_succ]
        refine wpAnyH_take (i := 2) (oi := ?o103) (v := ?v103) ?i103 (by kernel_rfl) (by kernel_rfl) (by kernel_rfl) ?q103 (Or.inl ⟨?w103, ?y103⟩) (by assumption) ?r103
        case' i103 => simp only [List.getElem?_toArray, List.getElem?_cons_succ, List.getElem?_cons_zero]
        case i103 => rfl
        case q103 => exact fun _ _ _ h => h
        case w103 => kernel_rfl
        case y103 => (intro W hSw; go_simp) <;> with_reducible rfl
        try simp only [Act.put, List.setIfInBounds_toArray, List.set_cons_zero, List.set_cons_succ]
        refine wpAnyH_take (i := 3) (oi := ?o104) (v := ?v104) ?i104 (by kernel_rfl) (by kernel_rfl) (by kernel_rfl) ?q104 (Or.inl ⟨?w104, ?y104⟩) (by assumption) ?r104
        case' i104 => simp only [List.getElem?_toArray, List.getElem?_cons_succ, List.getElem?_cons_zero]
        case i104 => rfl
        case q104 => exact fun _ _ _ h => h
        case w104 => kernel_rfl
        case y104 => (intro W hSw; go_simp) <;> with_reducible rfl
        try simp only [Act.put, List.setIfInBounds_toArray, List.set_cons_zero, List.set_cons_succ]
        refine wpAnyH_take (i := 4) (oi := ?o105) (v := ?v105) ?i105 (by kernel_rfl) (by kernel_rfl) (by kernel_rfl) ?q105 (Or.inl ⟨?w105, ?y105⟩) (by assumption) ?r105
        case' i105 => simp only [List.getElem?_toArray, List.getElem?_cons_succ, List.getElem?_cons_zero]
        case i105 => rfl
        case q105 => exact fun _ _ _ h => h
        case w105 => kernel_rfl
        case y105 => (intro W hSw; go_simp) <;> with_reducible rfl
        try simp only [Act.put, List.setIfInBounds_toArray, List.set_cons_zero, List.set_cons_succ]
        refine wpAnyH_take (i := 5) (oi := ?o106) (v := ?v106) ?i106 (by kernel_rfl) (by kernel_rfl) (by kernel_rfl) ?q106 (Or.inl ⟨?w106, ?y106⟩) (by assumption) ?r106
        case' i106 => simp only [List.getElem?_toArray, List.getElem?_cons_succ, List.getElem?_cons_zero]
        case i106 => rfl
        case q106 => exact fun _ _ _ h => h
        case w106 => kernel_rfl
        case y106 => (intro W hSw; obtain ⟨k0, k1⟩ := HCELL.out _ hSw.low; go_simp) <;> with_reducible rfl
        try simp only [Act.put, List.setIfInBounds_toArray, List.set_cons_zero, List.set_cons_succ]
        refine wpAnyH_take (i := 6) (oi := ?o107) (v := ?v107) ?i107 (by kernel_rfl) (by kernel_rfl) (by kernel_rfl) ?q107 (Or.inl ⟨?w107, ?y107⟩) (by assumption) ?r107
        case' i107 => simp only [List.getElem?_toArray, List.getElem?_cons_succ, List.getElem?_cons_zero]
        case i107 => rfl
        case q107 => exact fun _ _ _ h => h
        case w107 => kernel_rfl
        case y107 => (intro W hSw; go_simp) <;> with_reducible rfl
        try simp only [Act.put, List.setIfInBounds_toArray, List.set_cons_zero, List.set_cons_succ]
        refine wpAnyH_take (i := 7) (oi := ?o108) (v := ?v108) ?i108 (by kernel_rfl) (by kernel_rfl) (by kernel_rfl) ?q108 (Or.inl ⟨?w108, ?y108⟩) (by assumption) ?r108
        case' i108 => simp only [List.getElem?_toArray, List.getElem?_cons_succ, List.getElem?_cons_zero]
        case i108 => rfl
        case q108 => exact fun _ _ _ h => h
        case w108 => kernel_rfl
        case y108 => (intro W hSw; go_simp) <;> with_reducible rfl
        try simp only [Act.put, List.setIfInBounds_toArray, List.set_cons_zero, List.set_cons_succ]
        refine wpAnyH_take (i := 8) (oi := ?o109) (v := ?v109) ?i109 (by kernel_rfl) (by kernel_rfl) (by kernel_rfl) ?q109 (Or.inl ⟨?w109, ?y109⟩) (by assumption) ?r109
        case' i109 => simp only [List.getElem?_toArray, List.getElem?_cons_succ, List.getElem?_cons_zero]
        case i109 => rfl
        case q109 => exact fun _ _ _ h => h
        case w109 => kernel_rfl
        case y109 => (intro W hSw; go_simp) <;> with_reducible rfl
        try simp only [Act.put, List.setIfInBounds_toArray, List.set_cons_zero, List.set_cons_succ]
        refine wpAnyH_take (i := 9) (oi := ?o110) (v := ?v110) ?i110 (by kernel_rfl) (by kernel_rfl) (by kernel_rfl) ?q110 (Or.inl ⟨?w110, ?y110⟩) (by assumption) ?r110
        case' i110 => simp only [List.getElem?_toArray, List.getElem?_cons_succ, List.getElem?_cons_zero]
        case i110 => rfl
        case q110 => exact fun _ _ _ h => h
        case w110 => kernel_rfl
        case y110 => (intro W hSw; go_simp) <;> with_reducible rfl
        try simp only [Act.put, List.setIfInBounds_toArray, List.set_cons_zero, List.set_cons_succ]
        refine wpAnyH_take (i := 10) (oi := ?o111) (v := ?v111) ?i111 (by kernel_rfl) (by kernel_rfl) (by kernel_rfl) ?q111 (Or.inl ⟨?w111, ?y111⟩) (by assumption) ?r111
        case' i111 => simp only [List.getElem?_toArray, List.getElem?_cons_succ, List.getElem?_cons_zero]
        case i111 => rfl
        case q111 => exact fun _ _ _ h => h
        case w111 => kernel_rfl
        case y111 => (intro W hSw; go_simp) <;> with_reducible rfl
        try simp only [Act.put, List.setIfInBounds_toArray, List.set_cons_zero, List.set_cons_succ]
        refine wpAnyH_take (i := 11) (oi := ?o112) (v := ?v112) ?i112 (by kernel_rfl) (by kernel_rfl) (by kernel_rfl) ?q112 (Or.inl ⟨?w112, ?y112⟩) (by assumption) ?r112
        case' i112 => simp only [List.getElem?_toArray, List.getElem?_cons_succ, List.getElem?_cons_zero]
        case i112 => rfl
        case q112 => exact fun _ _ _ h => h
        case w112 => kernel_rfl
        case y112 => (intro W hSw; go_simp) <;> with_reducible rfl
        try simp only [Act.put, List.setIfInBounds_toArray, List.set_cons_zero, List.set_cons_succ]
        refine wpAnyH_take (i := 12) (oi := ?o113) (v := ?v113) ?i113 (by kernel_rfl) (by kernel_rfl) (by kernel_rfl) ?q113 (Or.inl ⟨?w113, ?y113⟩) (by assumption) ?r113
        case' i113 => simp only [List.getElem?_toArray, List.getElem?_cons_succ, List.getElem?_cons_zero]
        case i113 => rfl
        case q113 => exact fun _ _ _ h => h
        case w113 => kernel_rfl
        case y113 => (intro W hSw; obtain ⟨k0, k1⟩ := HCELL.out _ hSw.low; go_simp) <;> with_reducible rfl
        try simp only [Act.put, List.setIfInBounds_toArray, List.set_cons_zero, List.set_cons_succ]
        refine wpAnyH_take (i := 13) (oi := ?o114) (v := ?v114) ?i114 (by kernel_rfl) (by kernel_rfl) (by kernel_rfl) ?q114 (Or.inl ⟨?w114, ?y114⟩) (by assumption) ?r114
        case' i114 => simp only [List.getElem?_toArray, List.getElem?_cons_succ, List.getElem?_cons_zero]
        case i114 => rfl
        case q114 => exact fun _ _ _ h => h
        case w114 => kernel_rfl
        case y114 => (intro W hSw; go_simp) <;> with_reducible rfl
        try simp only [Act.put, List.setIfInBounds_toArray, List.set_cons_zero, List.set_cons_succ]
        refine wpAnyH_take (i := 14) (oi := ?o115) (v := ?v115) ?i115 (by kernel_rfl) (by kernel_rfl) (by kernel_rfl) ?q115 (Or.inl ⟨?w115, ?y115⟩) (by assumption) ?r115
        case' i115 => simp only [List.getElem?_toArray, List.getElem?_cons_succ, List.getElem?_cons_zero]
        case i115 => rfl
        case q115 => exact fun _ _ _ h => h
        case w115 => kernel_rfl
        case y115 => (intro W hSw; go_simp) <;> with_reducible rfl
        try simp only [Act.put, List.setIfInBounds_toArray, List.set_cons_zero, List.set_cons_succ]
        generalize hwS : wr.drew = wS at hHeld HC HW ⊢
        clear hwS
        refine wpAnyH_ready (rs := [15, 20, 21]) (by kernel_rfl) (by simp) ?_
        refine AllReadyH.cons (o := ?t1o0) ?t1i0 (fun K' hK => ?_) (AllReadyH.cons (o := ?t1o1) ?t1i1 (fun K' hK => ?_) (AllReadyH.cons (o := ?t1o2) ?t1i2 (fun K' hK => ?_) AllReadyH.nil))
        case' t1i0 => simp only [List.getElem?_toArray, List.getElem?_cons_succ, List.getElem?_cons_zero]
        case t1i0 => rfl
        case' t1i1 => simp only [List.getElem?_toArray, List.getElem?_cons_succ, List.getElem?_cons_zero]
        case t1i1 => rfl
        case' t1i2 => simp only [List.getElem?_toArray, List.getElem?_cons_succ, List.getElem?_cons_zero]
        case t1i2 => rfl
        · go_simp
          go_at_call 10
          refine (HC.out.pput (fs := es) HN.out (HR0.out _ (fun k o q => hHeld.kept k o (HM.out.2 k o q))) HOK.out (gs := gs) (ep := (R : Int)) (key := (Y : Int)) (nx := 0) (bt := 0) (gp := g1) (gk := g2) (gn := g3) (gb := g4) (is := is) HPE.out (m := m2) HM2.out).mono ?_
          rintro e w501 ⟨rs1, a1, c1, rfl, hc, hr, hd, hz⟩
          have HDn : Hid (∀ k o, (k, o) ∈ rs1 → wS.heap.size ≤ k) := Lib.hid hd
          have HR1 := Lib.hid hr
          have HD1 : Hid (∀ k o, (k, o) ∈ rs1 → wr.heap.size ≤ k) := Lib.hid (fun k o q => by have h1 := HDn.out k o q; have h2 := HW.out; omega)
          replace HW : Hid (wr.heap.size ≤ w501.heap.size) := Lib.hid (by have := HW.out; omega)
          replace HC := Lib.hid hc
          clear hc hr hd hz HDn
          go_wp2_with fail
          refine hK.out _ _ (HC.out.less (fun x hx => by simp [hx])) (fun hHeld => ?_)
          clear hK K'
          try simp only [Act.put, List.setIfInBounds_toArray, List.set_cons_zero, List.set_cons_succ]
          have HK1 : Hid (∀ k o, (k, o) ∈ rs1 → w501.heap[k]? = some o) := Lib.hid (fun k o q => HC.out.kept k o (by simp [q]))
          refine wpAnyH_take (i := 16) (oi := ?o2051) (v := ?v2051) ?i2051 (by kernel_rfl) (by kernel_rfl) (by kernel_rfl) ?q2051 (Or.inl ⟨?w2051, ?y2051⟩) (by assumption) ?r2051
          case' i2051 => simp only [List.getElem?_toArray, List.getElem?_cons_succ, List.getElem?_cons_zero]
          case i2051 => rfl
          case q2051 => exact fun _ _ _ h => h
          case w2051 => kernel_rfl
          case y2051 => (intro W hSw; go_simp) <;> with_reducible rfl
          try simp only [Act.put, List.setIfInBounds_toArray, List.set_cons_zero, List.set_cons_succ]
          refine wpAnyH_take (i := 17) (oi := ?o2052) (v := ?v2052) ?i2052 (by kernel_rfl) (by kernel_rfl) (by kernel_rfl) ?q2052 (Or.inl ⟨?w2052, ?y2052⟩) (by assumption) ?r2052
          case' i2052 => simp only [List.getElem?_toArray, List.getElem?_cons_succ, List.getElem?_cons_zero]
          case i2052 => rfl
          case q2052 => exact fun _ _ _ h => h
          case w2052 => kernel_rfl
          case y2052 => (intro W hSw; go_simp) <;> with_reducible rfl
          try simp only [Act.put, List.setIfInBounds_toArray, List.set_cons_zero, List.set_cons_succ]
          refine wpAnyH_take (i := 18) (oi := ?o2053) (v := ?v2053) ?i2053 (by kernel_rfl) (by kernel_rfl) (by kernel_rfl) ?q2053 (Or.inl ⟨?w2053, ?y2053⟩) (by assumption) ?r2053
          case' i2053 => simp only [List.getElem?_toArray, List.getElem?_cons_succ, List.getElem?_cons_zero]
          case i2053 => rfl
          case q2053 => exact fun _ _ _ h => h
          case w2053 => kernel_rfl
          case y2053 => (intro W hSw; go_simp) <;> with_reducible rfl
          try simp only [Act.put, List.setIfInBounds_toArray, List.set_cons_zero, List.set_cons_succ]
          refine wpAnyH_take (i := 19) (oi := ?o2054) (v := ?v2054) ?i2054 (by kernel_rfl) (by kernel_rfl) (by kernel_rfl) ?q2054 (Or.inl ⟨?w2054, ?y2054⟩) (by assumption) ?r2054
          case' i2054 => simp only [List.getElem?_toArray, List.getElem?_cons_succ, List.getElem?_cons_zero]
          case i2054 => rfl
          case q2054 => exact fun _ _ _ h => h
          case w2054 => kernel_rfl
          case y2054 => (intro W hSw; go_simp) <;> with_reducible rfl
          try simp only [Act.put, List.setIfInBounds_toArray, List.set_cons_zero, List.set_cons_succ]
          refine wpAnyH_ready (rs := [20, 21]) (by kernel_rfl) (by simp) ?_
          refine AllReadyH.cons (o := ?t2o0) ?t2i0 (fun K' hK => ?_) (AllReadyH.cons (o := ?t2o1) ?t2i1 (fun K' hK => ?_) AllReadyH.nil)
          case' t2i0 => simp only [List.getElem?_toArray, List.getElem?_cons_succ, List.getElem?_cons_zero]
          case t2i0 => rfl
          case' t2i1 => simp only [List.getElem?_toArray, List.getElem?_cons_succ, List.getElem?_cons_zero]
          case t2i1 => rfl
          · go_simp
            replace HC := Lib.hid (HC.out.box #[.slice none 0 0] 26)
            have HS : Hid (wr.heap.size ≤ w501.heap.size ∧ w501.heap.size < (w501.alloc (.cells #[.slice none 0 0] 26 : Obj)).heap.size) := Lib.hid ⟨HW.out, by simp⟩
            have HNp : Hid (∀ k o, (k, o) ∈ rs1 → k ≠ w501.heap.size) := Lib.hid (fun k o q => by have h1 := blk_lt (HK1.out k o q); omega)
            refine hK.out _ _ (HC.out.less (fun x hx => by simp [hx])) (fun hHeld => ?_)
            clear hK K'
            try simp only [Act.put, List.setIfInBounds_toArray, List.set_cons_zero, List.set_cons_succ]
            generalize hwd : (w501.alloc (.cells #[.slice none 0 0] 26 : Obj)) = w502 at hHeld HC HS  HNp⊢
            generalize hwe : w501.heap.size = p at HC HS  HNp⊢
            have HBp : Hid (wr.heap.size ≤ p) := Lib.hid HS.out.1
            have HLp : Hid (p < w502.heap.size) := Lib.hid HS.out.2
            replace HW : Hid (wr.heap.size ≤ w502.heap.size) := Lib.hid (by have h1 := HS.out.1; have h2 := HS.out.2; omega)
            clear hwd hwe HS
            replace HK1 : Hid (∀ k o, (k, o) ∈ rs1 → w502.heap[k]? = some o) := Lib.hid (fun k o q => HC.out.kept k o (by simp [q]))
            refine wpAnyH_ready (rs := [21]) (by kernel_rfl) (by simp) ?_
            refine AllReadyH.cons (o := ?t3o0) ?t3i0 (fun K' hK => ?_) AllReadyH.nil
            case' t3i0 => simp only [List.getElem?_toArray, List.getElem?_cons_succ, List.getElem?_cons_zero]
            case t3i0 => rfl
            go_simp
            replace HC := Lib.hid (HC.out.box #[.int .i64 0, .int .i64 0, .int .u64 0, .int .u64 0] 33)
            have HS : Hid (wr.heap.size ≤ w502.heap.size ∧ w502.heap.size < (w502.alloc (.cells #[.int .i64 0, .int .i64 0, .int .u64 0, .int .u64 0] 33 : Obj)).heap.size) := Lib.hid ⟨HW.out, by simp⟩
            have HNq : Hid (∀ k o, (k, o) ∈ rs1 → k ≠ w502.heap.size) := Lib.hid (fun k o q => by have h1 := blk_lt (HK1.out k o q); omega)
            have HEqp : Hid (p ≠ w502.heap.size) := Lib.hid (by have := HLp.out; omega)
            replace HLp : Hid (p < (w502.alloc (.cells #[.int .i64 0, .int .i64 0, .int .u64 0, .int .u64 0] 33 : Obj)).heap.size) := Lib.hid (by have := HLp.out; have := HS.out; omega)
            refine hK.out _ _ (HC.out.less (fun x hx => by simp [hx])) (fun hHeld => ?_)
            clear hK K'
            try simp only [Act.put, List.setIfInBounds_toArray, List.set_cons_zero, List.set_cons_succ]
            generalize hwd : (w502.alloc (.cells #[.int .i64 0, .int .i64 0, .int .u64 0, .int .u64 0] 33 : Obj)) = w503 at hHeld HC HS  HNq HEqp HLp⊢
            generalize hwe : w502.heap.size = q at HC HS  HNq HEqp HLp⊢
            have HBq : Hid (wr.heap.size ≤ q) := Lib.hid HS.out.1
            have HLq : Hid (q < w503.heap.size) := Lib.hid HS.out.2
            replace HW : Hid (wr.heap.size ≤ w503.heap.size) := Lib.hid (by have h1 := HS.out.1; have h2 := HS.out.2; omega)
            clear hwd hwe HS
            replace HK1 : Hid (∀ k o, (k, o) ∈ rs1 → w503.heap[k]? = some o) := Lib.hid (fun k o q => HC.out.kept k o (by simp [q]))
            have HNE : Hid (p ≠ q) := Lib.hid (by first | exact HEqp.out.symm | exact Ne.symm HEqp.out.symm)
            have HQM : ∀ z : Nat × Obj, z ∈ ((p, (.cells #[.slice a1 m2 c1] 26 (0, 0) : Obj)) : Nat × Obj) :: ((q, (.cells #[.int .i64 0, .int .i64 0, .int .u64 0, .int .u64 0] 33 (0, 0) : Obj)) : Nat × Obj) :: (rs1 ++ BS) → z = (p, (.cells #[.slice a1 m2 c1] 26 (0, 0) : Obj)) ∨ (z ∈ ((q, (.cells #[.int .i64 0, .int .i64 0, .int .u64 0, .int .u64 0] 33 (0, 0) : Obj)) : Nat × Obj) :: (((p, (.cells #[.slice none 0 0] 26 (0, 0) : Obj)) : Nat × Obj) :: (rs1 ++ (BS))) ∧ z.1 ≠ p) := fun z hz => by
              rcases List.mem_cons.1 hz with e | e
              · exact .inl e
              · rcases List.mem_cons.1 e with e | e
                · exact .inr ⟨by simp [e], by rw [e]; exact HNE.out.symm⟩
                · rcases List.mem_append.1 e with e | e
                  · exact .inr ⟨by simp [e], HNp.out z.1 z.2 e⟩
                  · exact .inr ⟨by simp [e], fun e2 => by have h1 := HCK.out.klt (k := z.1) (o := z.2) e; have h2 := HBp.out; omega⟩
            refine wpAnyH_ready (rs := [22]) (by kernel_rfl) (by simp) ?_
            refine AllReadyH.cons (o := ?t4o0) ?t4i0 (fun K' hK => ?_) AllReadyH.nil
            case' t4i0 => simp only [List.getElem?_toArray, List.getElem?_cons_succ, List.getElem?_cons_zero]
            case t4i0 => rfl
            obtain ⟨z0, z1⟩ := cell1 (HC.out.kept p (.cells #[.slice none 0 0] 26 (0, 0) : Obj) (by simp))
            go_simp
            clear z0 z1
            replace HC : Hid (Bx w (((p, (.cells #[.slice a1 m2 c1] 26 (0, 0) : Obj)) : Nat × Obj) :: ((q, (.cells #[.int .i64 0, .int .i64 0, .int .u64 0, .int .u64 0] 33 (0, 0) : Obj)) : Nat × Obj) :: (rs1 ++ BS)) (w503.setCell ⟨p, 0, none⟩ (.slice a1 m2 c1))) := Lib.hid (HC.out.set1 (B := p) (x := .slice none 0 0) (T := 26) (by simp) (Nat.le_trans HCK.out.low.size HBp.out) (.slice a1 m2 c1) HQM)
            clear HQM
            refine hK.out _ _ (HC.out.less (fun x hx => by simp [hx])) (fun hHeld => ?_)
            clear hK K'
            try simp only [Act.put, List.setIfInBounds_toArray, List.set_cons_zero, List.set_cons_succ]
            refine wpAnyH_ready (rs := [23]) (by kernel_rfl) (by simp) ?_
            refine AllReadyH.cons (o := ?t5o0) ?t5i0 (fun K' hK => ?_) AllReadyH.nil
            case' t5i0 => simp only [List.getElem?_toArray, List.getElem?_cons_succ, List.getElem?_cons_zero]
            case t5i0 => rfl
            obtain ⟨z0, z1, z2, z3, z4, z5, z6, z7⟩ := cells4 (HC.out.kept q (.cells #[.int .i64 0, .int .i64 0, .int .u64 0, .int .u64 0] 33 (0, 0) : Obj) (by simp))
            go_simp
            clear z0 z1 z2 z3 z4 z5 z6 z7
            have HC2 := Lib.hid (HC.out.set4 (B := q) (x := .int .i64 0) (y := .int .i64 0) (z := .int .u64 0) (q := .int .u64 0) (T := 33) (by simp) (Nat.le_trans HCK.out.low.size HBq.out) (.int .i64 g1) (.int .i64 g2) (.int .u64 g3) (.int .u64 g4) (bs' := ((p, (.cells #[.slice a1 m2 c1] 26 (0, 0) : Obj)) : Nat × Obj) :: (rs1 ++ BS)) (fun z hz => by
              rcases List.mem_cons.1 hz with e | e
              · exact .inr ⟨by simp [e], by rw [e]; exact HNE.out⟩
              · rcases List.mem_append.1 e with e | e
                · exact .inr ⟨by simp [e], HNq.out z.1 z.2 e⟩
                · exact .inr ⟨by simp [e], fun e2 => by have h1 := HCK.out.klt (k := z.1) (o := z.2) e; have h2 := HBq.out; omega⟩))
            refine hK.out _ _ (HC2.out.less (fun x hx => by simp [hx])) (fun hHeld => ?_)
            clear hK K'
            try simp only [Act.put, List.setIfInBounds_toArray, List.set_cons_zero, List.set_cons_succ]
            refine wpAnyH_take (i := 24) (oi := ?o5251) (v := ?v5251) ?i5251 (by kernel_rfl) (by kernel_rfl) (by kernel_rfl) ?q5251 (Or.inl ⟨?w5251, ?y5251⟩) (by assumption) ?r5251
            case' i5251 => simp only [List.getElem?_toArray, List.getElem?_cons_succ, List.getElem?_cons_zero]
            case i5251 => rfl
            case q5251 => exact fun _ _ _ h => h
            case w5251 => kernel_rfl
            case y5251 => (intro W hSw; go_simp) <;> with_reducible rfl
            try simp only [Act.put, List.setIfInBounds_toArray, List.set_cons_zero, List.set_cons_succ]
            refine wpAnyH_done (by kernel_rfl) ?_ _
            clear hHeld
            go_wp2_with fail
            go_meet
            exact ⟨p, rs1, a1, c1, rfl, rfl, HC2, HD1, HBp, HR1⟩
          · go_simp
            replace HC := Lib.hid (HC.out.box #[.int .i64 0, .int .i64 0, .int .u64 0, .int .u64 0] 33)
            have HS : Hid (wr.heap.size ≤ w501.heap.size ∧ w501.heap.size < (w501.alloc (.cells #[.int .i64 0, .int .i64 0, .int .u64 0, .int .u64 0] 33 : Obj)).heap.size) := Lib.hid ⟨HW.out, by simp⟩
            have HNq : Hid (∀ k o, (k, o) ∈ rs1 → k ≠ w501.heap.size) := Lib.hid (fun k o q => by have h1 := blk_lt (HK1.out k o q); omega)
            refine hK.out _ _ (HC.out.less (fun x hx => by simp [hx])) (fun hHeld => ?_)
            clear hK K'
            try simp only [Act.put, List.setIfInBounds_toArray, List.set_cons_zero, List.set_cons_succ]
            generalize hwd : (w501.alloc (.cells #[.int .i64 0, .int .i64 0, .int .u64 0, .int .u64 0] 33 : Obj)) = w504 at hHeld HC HS  HNq⊢
            generalize hwe : w501.heap.size = q at HC HS  HNq⊢
            have HBq : Hid (wr.heap.size ≤ q) := Lib.hid HS.out.1
            have HLq : Hid (q < w504.heap.size) := Lib.hid HS.out.2
            replace HW : Hid (wr.heap.size ≤ w504.heap.size) := Lib.hid (by have h1 := HS.out.1; have h2 := HS.out.2; omega)
            clear hwd hwe HS
            replace HK1 : Hid (∀ k o, (k, o) ∈ rs1 → w504.heap[k]? = some o) := Lib.hid (fun k o q => HC.out.kept k o (by simp [q]))
            refine wpAnyH_ready (rs := [20]) (by kernel_rfl) (by simp) ?_
            refine AllReadyH.cons (o := ?t6o0) ?t6i0 (fun K' hK => ?_) AllReadyH.nil
            case' t6i0 => simp only [List.getElem?_toArray, List.getElem?_cons_succ, List.getElem?_cons_zero]
            case t6i0 => rfl
            go_simp
            replace HC := Lib.hid (HC.out.box #[.slice none 0 0] 26)
            have HS : Hid (wr.heap.size ≤ w504.heap.size ∧ w504.heap.size < (w504.alloc (.cells #[.slice none 0 0] 26 : Obj)).heap.size) := Lib.hid ⟨HW.out, by simp⟩
            have HNp : Hid (∀ k o, (k, o) ∈ rs1 → k ≠ w504.heap.size) := Lib.hid (fun k o q => by have h1 := blk_lt (HK1.out k o q); omega)
            have HEpq : Hid (q ≠ w504.heap.size) := Lib.hid (by have := HLq.out; omega)
            replace HLq : Hid (q < (w504.alloc (.cells #[.slice none 0 0] 26 : Obj)).heap.size) := Lib.hid (by have := HLq.out; have := HS.out; omega)
            refine hK.out _ _ (HC.out.less (fun x hx => by simp [hx])) (fun hHeld => ?_)
            clear hK K'
            try simp only [Act.put, List.setIfInBounds_toArray, List.set_cons_zero, List.set_cons_succ]
            generalize hwd : (w504.alloc (.cells #[.slice none 0 0] 26 : Obj)) = w505 at hHeld HC HS  HNp HEpq HLq⊢
            generalize hwe : w504.heap.size = p at HC HS  HNp HEpq HLq⊢
            have HBp : Hid (wr.heap.size ≤ p) := Lib.hid HS.out.1
            have HLp : Hid (p < w505.heap.size) := Lib.hid HS.out.2
            replace HW : Hid (wr.heap.size ≤ w505.heap.size) := Lib.hid (by have h1 := HS.out.1; have h2 := HS.out.2; omega)
            clear hwd hwe HS
            replace HK1 : Hid (∀ k o, (k, o) ∈ rs1 → w505.heap[k]? = some o) := Lib.hid (fun k o q => HC.out.kept k o (by simp [q]))
            have HNE : Hid (p ≠ q) := Lib.hid (by first | exact HEpq.out | exact Ne.symm HEpq.out)
            have HQM : ∀ z : Nat × Obj, z ∈ ((p, (.cells #[.slice a1 m2 c1] 26 (0, 0) : Obj)) : Nat × Obj) :: ((q, (.cells #[.int .i64 0, .int .i64 0, .int .u64 0, .int .u64 0] 33 (0, 0) : Obj)) : Nat × Obj) :: (rs1 ++ BS) → z = (p, (.cells #[.slice a1 m2 c1] 26 (0, 0) : Obj)) ∨ (z ∈ ((p, (.cells #[.slice none 0 0] 26 (0, 0) : Obj)) : Nat × Obj) :: (((q, (.cells #[.int .i64 0, .int .i64 0, .int .u64 0, .int .u64 0] 33 (0, 0) : Obj)) : Nat × Obj) :: (rs1 ++ (BS))) ∧ z.1 ≠ p) := fun z hz => by
              rcases List.mem_cons.1 hz with e | e
              · exact .inl e
              · rcases List.mem_cons.1 e with e | e
                · exact .inr ⟨by simp [e], by rw [e]; exact HNE.out.symm⟩
                · rcases List.mem_append.1 e with e | e
                  · exact .inr ⟨by simp [e], HNp.out z.1 z.2 e⟩
                  · exact .inr ⟨by simp [e], fun e2 => by have h1 := HCK.out.klt (k := z.1) (o := z.2) e; have h2 := HBp.out; omega⟩
            refine wpAnyH_ready (rs := [22]) (by kernel_rfl) (by simp) ?_
            refine AllReadyH.cons (o := ?t7o0) ?t7i0 (fun K' hK => ?_) AllReadyH.nil
            case' t7i0 => simp only [List.getElem?_toArray, List.getElem?_cons_succ, List.getElem?_cons_zero]
            case t7i0 => rfl
            obtain ⟨z0, z1⟩ := cell1 (HC.out.kept p (.cells #[.slice none 0 0] 26 (0, 0) : Obj) (by simp))
            go_simp
            clear z0 z1
            replace HC : Hid (Bx w (((p, (.cells #[.slice a1 m2 c1] 26 (0, 0) : Obj)) : Nat × Obj) :: ((q, (.cells #[.int .i64 0, .int .i64 0, .int .u64 0, .int .u64 0] 33 (0, 0) : Obj)) : Nat × Obj) :: (rs1 ++ BS)) (w505.setCell ⟨p, 0, none⟩ (.slice a1 m2 c1))) := Lib.hid (HC.out.set1 (B := p) (x := .slice none 0 0) (T := 26) (by simp) (Nat.le_trans HCK.out.low.size HBp.out) (.slice a1 m2 c1) HQM)
            clear HQM
            refine hK.out _ _ (HC.out.less (fun x hx => by simp [hx])) (fun hHeld => ?_)
            clear hK K'
            try simp only [Act.put, List.setIfInBounds_toArray, List.set_cons_zero, List.set_cons_succ]
            refine wpAnyH_ready (rs := [23]) (by kernel_rfl) (by simp) ?_
            refine AllReadyH.cons (o := ?t8o0) ?t8i0 (fun K' hK => ?_) AllReadyH.nil
            case' t8i0 => simp only [List.getElem?_toArray, List.getElem?_cons_succ, List.getElem?_cons_zero]
            case t8i0 => rfl
            obtain ⟨z0, z1, z2, z3, z4, z5, z6, z7⟩ := cells4 (HC.out.kept q (.cells #[.int .i64 0, .int .i64 0, .int .u64 0, .int .u64 0] 33 (0, 0) : Obj) (by simp))
            go_simp
            clear z0 z1 z2 z3 z4 z5 z6 z7
            have HC2 := Lib.hid (HC.out.set4 (B := q) (x := .int .i64 0) (y := .int .i64 0) (z := .int .u64 0) (q := .int .u64 0) (T := 33) (by simp) (Nat.le_trans HCK.out.low.size HBq.out) (.int .i64 g1) (.int .i64 g2) (.int .u64 g3) (.int .u64 g4) (bs' := ((p, (.cells #[.slice a1 m2 c1] 26 (0, 0) : Obj)) : Nat × Obj) :: (rs1 ++ BS)) (fun z hz => by
              rcases List.mem_cons.1 hz with e | e
              · exact .inr ⟨by simp [e], by rw [e]; exact HNE.out⟩
              · rcases List.mem_append.1 e with e | e
                · exact .inr ⟨by simp [e], HNq.out z.1 z.2 e⟩
                · exact .inr ⟨by simp [e], fun e2 => by have h1 := HCK.out.klt (k := z.1) (o := z.2) e; have h2 := HBq.out; omega⟩))
            refine hK.out _ _ (HC2.out.less (fun x hx => by simp [hx])) (fun hHeld => ?_)
            clear hK K'
            try simp only [Act.put, List.setIfInBounds_toArray, List.set_cons_zero, List.set_cons_succ]
            refine wpAnyH_take (i := 24) (oi := ?o5401) (v := ?v5401) ?i5401 (by kernel_rfl) (by kernel_rfl) (by kernel_rfl) ?q5401 (Or.inl ⟨?w5401, ?y5401⟩) (by assumption) ?r5401
            case' i5401 => simp only [List.getElem?_toArray, List.getElem?_cons_succ, List.getElem?_cons_zero]
            case i5401 => rfl
            case q5401 => exact fun _ _ _ h => h
            case w5401 => kernel_rfl
            case y5401 => (intro W hSw; go_simp) <;> with_reducible rfl
            try simp only [Act.put, List.setIfInBounds_toArray, List.set_cons_zero, List.set_cons_succ]
            refine wpAnyH_done (by kernel_rfl) ?_ _
            clear hHeld
            go_wp2_with fail
            go_meet
            exact ⟨p, rs1, a1, c1, rfl, rfl, HC2, HD1, HBp, HR1⟩
        · go_simp
          replace HC := Lib.hid (HC.out.box #[.slice none 0 0] 26)
          have HS : Hid (wr.heap.size ≤ wS.heap.size ∧ wS.heap.size < (wS.alloc (.cells #[.slice none 0 0] 26 : Obj)).heap.size) := Lib.hid ⟨HW.out, by simp⟩
          refine hK.out _ _ (HC.out.less (fun x hx => by simp [hx])) (fun hHeld => ?_)
          clear hK K'
          try simp only [Act.put, List.setIfInBounds_toArray, List.set_cons_zero, List.set_cons_succ]
          generalize hwd : (wS.alloc (.cells #[.slice none 0 0] 26 : Obj)) = w506 at hHeld HC HS ⊢
          generalize hwe : wS.heap.size = p at HC HS ⊢
          have HBp : Hid (wr.heap.size ≤ p) := Lib.hid HS.out.1
          have HLp : Hid (p < w506.heap.size) := Lib.hid HS.out.2
          replace HW : Hid (wr.heap.size ≤ w506.heap.size) := Lib.hid (by have h1 := HS.out.1; have h2 := HS.out.2; omega)
          clear hwd hwe HS
          refine wpAnyH_ready (rs := [15, 21]) (by kernel_rfl) (by simp) ?_
          refine AllReadyH.cons (o := ?t9o0) ?t9i0 (fun K' hK => ?_) (AllReadyH.cons (o := ?t9o1) ?t9i1 (fun K' hK => ?_) AllReadyH.nil)
          case' t9i0 => simp only [List.getElem?_toArray, List.getElem?_cons_succ, List.getElem?_cons_zero]
          case t9i0 => rfl
          case' t9i1 => simp only [List.getElem?_toArray, List.getElem?_cons_succ, List.getElem?_cons_zero]
          case t9i1 => rfl
          · go_simp
            go_at_call 10
            refine (HC.out.pput (fs := es) HN.out (HR0.out _ (fun k o q => hHeld.kept k o (HM.out.2 k o q))) HOK.out (gs := gs) (ep := (R : Int)) (key := (Y : Int)) (nx := 0) (bt := 0) (gp := g1) (gk := g2) (gn := g3) (gb := g4) (is := is) HPE.out (m := m2) HM2.out).mono ?_
            rintro e w507 ⟨rs1, a1, c1, rfl, hc, hr, hd, hz⟩
            have HDn : Hid (∀ k o, (k, o) ∈ rs1 → w506.heap.size ≤ k) := Lib.hid hd
            have HR1 := Lib.hid hr
            have HNp : Hid (∀ k o, (k, o) ∈ rs1 → k ≠ p) := Lib.hid (fun k o q => by have h1 := HDn.out k o q; have h2 := HLp.out; omega)
            replace HLp : Hid (p < w507.heap.size) := Lib.hid (by have := HLp.out; omega)
            have HD1 : Hid (∀ k o, (k, o) ∈ rs1 → wr.heap.size ≤ k) := Lib.hid (fun k o q => by have h1 := HDn.out k o q; have h2 := HW.out; omega)
            replace HW : Hid (wr.heap.size ≤ w507.heap.size) := Lib.hid (by have := HW.out; omega)
            replace HC := Lib.hid hc
            clear hc hr hd hz HDn
            go_wp2_with fail
            refine hK.out _ _ (HC.out.less (fun x hx => by simp [hx])) (fun hHeld => ?_)
            clear hK K'
            try simp only [Act.put, List.setIfInBounds_toArray, List.set_cons_zero, List.set_cons_succ]
            have HK1 : Hid (∀ k o, (k, o) ∈ rs1 → w507.heap[k]? = some o) := Lib.hid (fun k o q => HC.out.kept k o (by simp [q]))
            refine wpAnyH_take (i := 16) (oi := ?o2451) (v := ?v2451) ?i2451 (by kernel_rfl) (by kernel_rfl) (by kernel_rfl) ?q2451 (Or.inl ⟨?w2451, ?y2451⟩) (by assumption) ?r2451
            case' i2451 => simp only [List.getElem?_toArray, List.getElem?_cons_succ, List.getElem?_cons_zero]
            case i2451 => rfl
            case q2451 => exact fun _ _ _ h => h
            case w2451 => kernel_rfl
            case y2451 => (intro W hSw; go_simp) <;> with_reducible rfl
            try simp only [Act.put, List.setIfInBounds_toArray, List.set_cons_zero, List.set_cons_succ]
            refine wpAnyH_take (i := 17) (oi := ?o2452) (v := ?v2452) ?i2452 (by kernel_rfl) (by kernel_rfl) (by kernel_rfl) ?q2452 (Or.inl ⟨?w2452, ?y2452⟩) (by assumption) ?r2452
            case' i2452 => simp only [List.getElem?_toArray, List.getElem?_cons_succ, List.getElem?_cons_zero]
            case i2452 => rfl
            case q2452 => exact fun _ _ _ h => h
            case w2452 => kernel_rfl
            case y2452 => (intro W hSw; go_simp) <;> with_reducible rfl
            try simp only [Act.put, List.setIfInBounds_toArray, List.set_cons_zero, List.set_cons_succ]
            refine wpAnyH_take (i := 18) (oi := ?o2453) (v := ?v2453) ?i2453 (by kernel_rfl) (by kernel_rfl) (by kernel_rfl) ?q2453 (Or.inl ⟨?w2453, ?y2453⟩) (by assumption) ?r2453
            case' i2453 => simp only [List.getElem?_toArray, List.getElem?_cons_succ, List.getElem?_cons_zero]
            case i2453 => rfl
            case q2453 => exact fun _ _ _ h => h
            case w2453 => kernel_rfl
            case y2453 => (intro W hSw; go_simp) <;> with_reducible rfl
            try simp only [Act.put, List.setIfInBounds_toArray, List.set_cons_zero, List.set_cons_succ]
            refine wpAnyH_take (i := 19) (oi := ?o2454) (v := ?v2454) ?i2454 (by kernel_rfl) (by kernel_rfl) (by kernel_rfl) ?q2454 (Or.inl ⟨?w2454, ?y2454⟩) (by assumption) ?r2454
            case' i2454 => simp only [List.getElem?_toArray, List.getElem?_cons_succ, List.getElem?_cons_zero]
            case i2454 => rfl
            case q2454 => exact fun _ _ _ h => h
            case w2454 => kernel_rfl
            case y2454 => (intro W hSw; go_simp) <;> with_reducible rfl
            try simp only [Act.put, List.setIfInBounds_toArray, List.set_cons_zero, List.set_cons_succ]
            refine wpAnyH_ready (rs := [21]) (by kernel_rfl) (by simp) ?_
            refine AllReadyH.cons (o := ?t10o0) ?t10i0 (fun K' hK => ?_) AllReadyH.nil
            case' t10i0 => simp only [List.getElem?_toArray, List.getElem?_cons_succ, List.getElem?_cons_zero]
            case t10i0 => rfl
            go_simp
            replace HC := Lib.hid (HC.out.box #[.int .i64 0, .int .i64 0, .int .u64 0, .int .u64 0] 33)
            have HS : Hid (wr.heap.size ≤ w507.heap.size ∧ w507.heap.size < (w507.alloc (.cells #[.int .i64 0, .int .i64 0, .int .u64 0, .int .u64 0] 33 : Obj)).heap.size) := Lib.hid ⟨HW.out, by simp⟩
            have HNq : Hid (∀ k o, (k, o) ∈ rs1 → k ≠ w507.heap.size) := Lib.hid (fun k o q => by have h1 := blk_lt (HK1.out k o q); omega)
            have HEqp : Hid (p ≠ w507.heap.size) := Lib.hid (by have := HLp.out; omega)
            replace HLp : Hid (p < (w507.alloc (.cells #[.int .i64 0, .int .i64 0, .int .u64 0, .int .u64 0] 33 : Obj)).heap.size) := Lib.hid (by have := HLp.out; have := HS.out; omega)
            refine hK.out _ _ (HC.out.less (fun x hx => by simp [hx])) (fun hHeld => ?_)
            clear hK K'
            try simp only [Act.put, List.setIfInBounds_toArray, List.set_cons_zero, List.set_cons_succ]
            generalize hwd : (w507.alloc (.cells #[.int .i64 0, .int .i64 0, .int .u64 0, .int .u64 0] 33 : Obj)) = w508 at hHeld HC HS  HNq HEqp HLp⊢
            generalize hwe : w507.heap.size = q at HC HS  HNq HEqp HLp⊢
            have HBq : Hid (wr.heap.size ≤ q) := Lib.hid HS.out.1
            have HLq : Hid (q < w508.heap.size) := Lib.hid HS.out.2
            replace HW : Hid (wr.heap.size ≤ w508.heap.size) := Lib.hid (by have h1 := HS.out.1; have h2 := HS.out.2; omega)
            clear hwd hwe HS
            replace HK1 : Hid (∀ k o, (k, o) ∈ rs1 → w508.heap[k]? = some o) := Lib.hid (fun k o q => HC.out.kept k o (by simp [q]))
            have HNE : Hid (p ≠ q) := Lib.hid (by first | exact HEqp.out.symm | exact Ne.symm HEqp.out.symm)
            have HQM : ∀ z : Nat × Obj, z ∈ ((p, (.cells #[.slice a1 m2 c1] 26 (0, 0) : Obj)) : Nat × Obj) :: ((q, (.cells #[.int .i64 0, .int .i64 0, .int .u64 0, .int .u64 0] 33 (0, 0) : Obj)) : Nat × Obj) :: (rs1 ++ BS) → z = (p, (.cells #[.slice a1 m2 c1] 26 (0, 0) : Obj)) ∨ (z ∈ ((q, (.cells #[.int .i64 0, .int .i64 0, .int .u64 0, .int .u64 0] 33 (0, 0) : Obj)) : Nat × Obj) :: (rs1 ++ (((p, (.cells #[.slice none 0 0] 26 (0, 0) : Obj)) : Nat × Obj) :: (BS))) ∧ z.1 ≠ p) := fun z hz => by
              rcases List.mem_cons.1 hz with e | e
              · exact .inl e
              · rcases List.mem_cons.1 e with e | e
                · exact .inr ⟨by simp [e], by rw [e]; exact HNE.out.symm⟩
                · rcases List.mem_append.1 e with e | e
                  · exact .inr ⟨by simp [e], HNp.out z.1 z.2 e⟩
                  · exact .inr ⟨by simp [e], fun e2 => by have h1 := HCK.out.klt (k := z.1) (o := z.2) e; have h2 := HBp.out; omega⟩
            refine wpAnyH_ready (rs := [22]) (by kernel_rfl) (by simp) ?_
            refine AllReadyH.cons (o := ?t11o0) ?t11i0 (fun K' hK => ?_) AllReadyH.nil
            case' t11i0 => simp only [List.getElem?_toArray, List.getElem?_cons_succ, List.getElem?_cons_zero]
            case t11i0 => rfl
            obtain ⟨z0, z1⟩ := cell1 (HC.out.kept p (.cells #[.slice none 0 0] 26 (0, 0) : Obj) (by simp))
            go_simp
            clear z0 z1
            replace HC : Hid (Bx w (((p, (.cells #[.slice a1 m2 c1] 26 (0, 0) : Obj)) : Nat × Obj) :: ((q, (.cells #[.int .i64 0, .int .i64 0, .int .u64 0, .int .u64 0] 33 (0, 0) : Obj)) : Nat × Obj) :: (rs1 ++ BS)) (w508.setCell ⟨p, 0, none⟩ (.slice a1 m2 c1))) := Lib.hid (HC.out.set1 (B := p) (x := .slice none 0 0) (T := 26) (by simp) (Nat.le_trans HCK.out.low.size HBp.out) (.slice a1 m2 c1) HQM)
            clear HQM
            refine hK.out _ _ (HC.out.less (fun x hx => by simp [hx])) (fun hHeld => ?_)
            clear hK K'
            try simp only [Act.put, List.setIfInBounds_toArray, List.set_cons_zero, List.set_cons_succ]
            refine wpAnyH_ready (rs := [23]) (by kernel_rfl) (by simp) ?_
            refine AllReadyH.cons (o := ?t12o0) ?t12i0 (fun K' hK => ?_) AllReadyH.nil
            case' t12i0 => simp only [List.getElem?_toArray, List.getElem?_cons_succ, List.getElem?_cons_zero]
            case t12i0 => rfl
            obtain ⟨z0, z1, z2, z3, z4, z5, z6, z7⟩ := cells4 (HC.out.kept q (.cells #[.int .i64 0, .int .i64 0, .int .u64 0, .int .u64 0] 33 (0, 0) : Obj) (by simp))
            go_simp
            clear z0 z1 z2 z3 z4 z5 z6 z7
            have HC2 := Lib.hid (HC.out.set4 (B := q) (x := .int .i64 0) (y := .int .i64 0) (z := .int .u64 0) (q := .int .u64 0) (T := 33) (by simp) (Nat.le_trans HCK.out.low.size HBq.out) (.int .i64 g1) (.int .i64 g2) (.int .u64 g3) (.int .u64 g4) (bs' := ((p, (.cells #[.slice a1 m2 c1] 26 (0, 0) : Obj)) : Nat × Obj) :: (rs1 ++ BS)) (fun z hz => by
              rcases List.mem_cons.1 hz with e | e
              · exact .inr ⟨by simp [e], by rw [e]; exact HNE.out⟩
              · rcases List.mem_append.1 e with e | e
                · exact .inr ⟨by simp [e], HNq.out z.1 z.2 e⟩
                · exact .inr ⟨by simp [e], fun e2 => by have h1 := HCK.out.klt (k := z.1) (o := z.2) e; have h2 := HBq.out; omega⟩))
            refine hK.out _ _ (HC2.out.less (fun x hx => by simp [hx])) (fun hHeld => ?_)
            clear hK K'
            try simp only [Act.put, List.setIfInBounds_toArray, List.set_cons_zero, List.set_cons_succ]
            refine wpAnyH_take (i := 24) (oi := ?o5601) (v := ?v5601) ?i5601 (by kernel_rfl) (by kernel_rfl) (by kernel_rfl) ?q5601 (Or.inl ⟨?w5601, ?y5601⟩) (by assumption) ?r5601
            case' i5601 => simp only [List.getElem?_toArray, List.getElem?_cons_succ, List.getElem?_cons_zero]
            case i5601 => rfl
            case q5601 => exact fun _ _ _ h => h
            case w5601 => kernel_rfl
            case y5601 => (intro W hSw; go_simp) <;> with_reducible rfl
            try simp only [Act.put, List.setIfInBounds_toArray, List.set_cons_zero, List.set_cons_succ]
            refine wpAnyH_done (by kernel_rfl) ?_ _
            clear hHeld
            go_wp2_with fail
            go_meet
            exact ⟨p, rs1, a1, c1, rfl, rfl, HC2, HD1, HBp, HR1⟩
          · go_simp
            replace HC := Lib.hid (HC.out.box #[.int .i64 0, .int .i64 0, .int .u64 0, .int .u64 0] 33)
            have HS : Hid (wr.heap.size ≤ w506.heap.size ∧ w506.heap.size < (w506.alloc (.cells #[.int .i64 0, .int .i64 0, .int .u64 0, .int .u64 0] 33 : Obj)).heap.size) := Lib.hid ⟨HW.out, by simp⟩
            have HEqp : Hid (p ≠ w506.heap.size) := Lib.hid (by have := HLp.out; omega)
            replace HLp : Hid (p < (w506.alloc (.cells #[.int .i64 0, .int .i64 0, .int .u64 0, .int .u64 0] 33 : Obj)).heap.size) := Lib.hid (by have := HLp.out; have := HS.out; omega)
            refine hK.out _ _ (HC.out.less (fun x hx => by simp [hx])) (fun hHeld => ?_)
            clear hK K'
            try simp only [Act.put, List.setIfInBounds_toArray, List.set_cons_zero, List.set_cons_succ]
            generalize hwd : (w506.alloc (.cells #[.int .i64 0, .int .i64 0, .int .u64 0, .int .u64 0] 33 : Obj)) = w509 at hHeld HC HS  HEqp HLp⊢
            generalize hwe : w506.heap.size = q at HC HS  HEqp HLp⊢
            have HBq : Hid (wr.heap.size ≤ q) := Lib.hid HS.out.1
            have HLq : Hid (q < w509.heap.size) := Lib.hid HS.out.2
            replace HW : Hid (wr.heap.size ≤ w509.heap.size) := Lib.hid (by have h1 := HS.out.1; have h2 := HS.out.2; omega)
            clear hwd hwe HS
            refine wpAnyH_ready (rs := [15]) (by kernel_rfl) (by simp) ?_
            refine AllReadyH.cons (o := ?t13o0) ?t13i0 (fun K' hK => ?_) AllReadyH.nil
            case' t13i0 => simp only [List.getElem?_toArray, List.getElem?_cons_succ, List.getElem?_cons_zero]
            case t13i0 => rfl
            go_simp
            go_at_call 10
            refine (HC.out.pput (fs := es) HN.out (HR0.out _ (fun k o q => hHeld.kept k o (HM.out.2 k o q))) HOK.out (gs := gs) (ep := (R : Int)) (key := (Y : Int)) (nx := 0) (bt := 0) (gp := g1) (gk := g2) (gn := g3) (gb := g4) (is := is) HPE.out (m := m2) HM2.out).mono ?_
            rintro e w510 ⟨rs1, a1, c1, rfl, hc, hr, hd, hz⟩
            have HDn : Hid (∀ k o, (k, o) ∈ rs1 → w509.heap.size ≤ k) := Lib.hid hd
            have HR1 := Lib.hid hr
            have HNp : Hid (∀ k o, (k, o) ∈ rs1 → k ≠ p) := Lib.hid (fun k o q => by have h1 := HDn.out k o q; have h2 := HLp.out; omega)
            have HNq : Hid (∀ k o, (k, o) ∈ rs1 → k ≠ q) := Lib.hid (fun k o q => by have h1 := HDn.out k o q; have h2 := HLq.out; omega)
            replace HLp : Hid (p < w510.heap.size) := Lib.hid (by have := HLp.out; omega)
            replace HLq : Hid (q < w510.heap.size) := Lib.hid (by have := HLq.out; omega)
            have HD1 : Hid (∀ k o, (k, o) ∈ rs1 → wr.heap.size ≤ k) := Lib.hid (fun k o q => by have h1 := HDn.out k o q; have h2 := HW.out; omega)
            replace HW : Hid (wr.heap.size ≤ w510.heap.size) := Lib.hid (by have := HW.out; omega)
            replace HC := Lib.hid hc
            clear hc hr hd hz HDn
            go_wp2_with fail
            refine hK.out _ _ (HC.out.less (fun x hx => by simp [hx])) (fun hHeld => ?_)
            clear hK K'
            try simp only [Act.put, List.setIfInBounds_toArray, List.set_cons_zero, List.set_cons_succ]
            have HK1 : Hid (∀ k o, (k, o) ∈ rs1 → w510.heap[k]? = some o) := Lib.hid (fun k o q => HC.out.kept k o (by simp [q]))
            refine wpAnyH_take (i := 16) (oi := ?o2651) (v := ?v2651) ?i2651 (by kernel_rfl) (by kernel_rfl) (by kernel_rfl) ?q2651 (Or.inl ⟨?w2651, ?y2651⟩) (by assumption) ?r2651
            case' i2651 => simp only [List.getElem?_toArray, List.getElem?_cons_succ, List.getElem?_cons_zero]
            case i2651 => rfl
            case q2651 => exact fun _ _ _ h => h
            case w2651 => kernel_rfl
            case y2651 => (intro W hSw; go_simp) <;> with_reducible rfl
            try simp only [Act.put, List.setIfInBounds_toArray, List.set_cons_zero, List.set_cons_succ]
            refine wpAnyH_take (i := 17) (oi := ?o2652) (v := ?v2652) ?i2652 (by kernel_rfl) (by kernel_rfl) (by kernel_rfl) ?q2652 (Or.inl ⟨?w2652, ?y2652⟩) (by assumption) ?r2652
            case' i2652 => simp only [List.getElem?_toArray, List.getElem?_cons_succ, List.getElem?_cons_zero]
            case i2652 => rfl
            case q2652 => exact fun _ _ _ h => h
            case w2652 => kernel_rfl
            case y2652 => (intro W hSw; go_simp) <;> with_reducible rfl
            try simp only [Act.put, List.setIfInBounds_toArray, List.set_cons_zero, List.set_cons_succ]
            refine wpAnyH_take (i := 18) (oi := ?o2653) (v := ?v2653) ?i2653 (by kernel_rfl) (by kernel_rfl) (by kernel_rfl) ?q2653 (Or.inl ⟨?w2653, ?y2653⟩) (by assumption) ?r2653
            case' i2653 => simp only [List.getElem?_toArray, List.getElem?_cons_succ, List.getElem?_cons_zero]
            case i2653 => rfl
            case q2653 => exact fun _ _ _ h => h
            case w2653 => kernel_rfl
            case y2653 => (intro W hSw; go_simp) <;> with_reducible rfl
            try simp only [Act.put, List.setIfInBounds_toArray, List.set_cons_zero, List.set_cons_succ]
            refine wpAnyH_take (i := 19) (oi := ?o2654) (v := ?v2654) ?i2654 (by kernel_rfl) (by kernel_rfl) (by kernel_rfl) ?q2654 (Or.inl ⟨?w2654, ?y2654⟩) (by assumption) ?r2654
            case' i2654 => simp only [List.getElem?_toArray, List.getElem?_cons_succ, List.getElem?_cons_zero]
            case i2654 => rfl
            case q2654 => exact fun _ _ _ h => h
            case w2654 => kernel_rfl
            case y2654 => (intro W hSw; go_simp) <;> with_reducible rfl
            try simp only [Act.put, List.setIfInBounds_toArray, List.set_cons_zero, List.set_cons_succ]
            have HNE : Hid (p ≠ q) := Lib.hid (by first | exact HEqp.out.symm | exact Ne.symm HEqp.out.symm)
            have HQM : ∀ z : Nat × Obj, z ∈ ((p, (.cells #[.slice a1 m2 c1] 26 (0, 0) : Obj)) : Nat × Obj) :: ((q, (.cells #[.int .i64 0, .int .i64 0, .int .u64 0, .int .u64 0] 33 (0, 0) : Obj)) : Nat × Obj) :: (rs1 ++ BS) → z = (p, (.cells #[.slice a1 m2 c1] 26 (0, 0) : Obj)) ∨ (z ∈ rs1 ++ (((q, (.cells #[.int .i64 0, .int .i64 0, .int .u64 0, .int .u64 0] 33 (0, 0) : Obj)) : Nat × Obj) :: (((p, (.cells #[.slice none 0 0] 26 (0, 0) : Obj)) : Nat × Obj) :: (BS))) ∧ z.1 ≠ p) := fun z hz => by
              rcases List.mem_cons.1 hz with e | e
              · exact .inl e
              · rcases List.mem_cons.1 e with e | e
                · exact .inr ⟨by simp [e], by rw [e]; exact HNE.out.symm⟩
                · rcases List.mem_append.1 e with e | e
                  · exact .inr ⟨by simp [e], HNp.out z.1 z.2 e⟩
                  · exact .inr ⟨by simp [e], fun e2 => by have h1 := HCK.out.klt (k := z.1) (o := z.2) e; have h2 := HBp.out; omega⟩
            refine wpAnyH_ready (rs := [22]) (by kernel_rfl) (by simp) ?_
            refine AllReadyH.cons (o := ?t14o0) ?t14i0 (fun K' hK => ?_) AllReadyH.nil
            case' t14i0 => simp only [List.getElem?_toArray, List.getElem?_cons_succ, List.getElem?_cons_zero]
            case t14i0 => rfl
            obtain ⟨z0, z1⟩ := cell1 (HC.out.kept p (.cells #[.slice none 0 0] 26 (0, 0) : Obj) (by simp))
            go_simp
            clear z0 z1
            replace HC : Hid (Bx w (((p, (.cells #[.slice a1 m2 c1] 26 (0, 0) : Obj)) : Nat × Obj) :: ((q, (.cells #[.int .i64 0, .int .i64 0, .int .u64 0, .int .u64 0] 33 (0, 0) : Obj)) : Nat × Obj) :: (rs1 ++ BS)) (w510.setCell ⟨p, 0, none⟩ (.slice a1 m2 c1))) := Lib.hid (HC.out.set1 (B := p) (x := .slice none 0 0) (T := 26) (by simp) (Nat.le_trans HCK.out.low.size HBp.out) (.slice a1 m2 c1) HQM)
            clear HQM
            refine hK.out _ _ (HC.out.less (fun x hx => by simp [hx])) (fun hHeld => ?_)
            clear hK K'
            try simp only [Act.put, List.setIfInBounds_toArray, List.set_cons_zero, List.set_cons_succ]
            refine wpAnyH_ready (rs := [23]) (by kernel_rfl) (by simp) ?_
            refine AllReadyH.cons (o := ?t15o0) ?t15i0 (fun K' hK => ?_) AllReadyH.nil
            case' t15i0 => simp only [List.getElem?_toArray, List.getElem?_cons_succ, List.getElem?_cons_zero]
            case t15i0 => rfl
            obtain ⟨z0, z1, z2, z3, z4, z5, z6, z7⟩ := cells4 (HC.out.kept q (.cells #[.int .i64 0, .int .i64 0, .int .u64 0, .int .u64 0] 33 (0, 0) : Obj) (by simp))
            go_simp
            clear z0 z1 z2 z3 z4 z5 z6 z7
            have HC2 := Lib.hid (HC.out.set4 (B := q) (x := .int .i64 0) (y := .int .i64 0) (z := .int .u64 0) (q := .int .u64 0) (T := 33) (by simp) (Nat.le_trans HCK.out.low.size HBq.out) (.int .i64 g1) (.int .i64 g2) (.int .u64 g3) (.int .u64 g4) (bs' := ((p, (.cells #[.slice a1 m2 c1] 26 (0, 0) : Obj)) : Nat × Obj) :: (rs1 ++ BS)) (fun z hz => by
              rcases List.mem_cons.1 hz with e | e
              · exact .inr ⟨by simp [e], by rw [e]; exact HNE.out⟩
              · rcases List.mem_append.1 e with e | e
                · exact .inr ⟨by simp [e], HNq.out z.1 z.2 e⟩
                · exact .inr ⟨by simp [e], fun e2 => by have h1 := HCK.out.klt (k := z.1) (o := z.2) e; have h2 := HBq.out; omega⟩))
            refine hK.out _ _ (HC2.out.less (fun x hx => by simp [hx])) (fun hHeld => ?_)
            clear hK K'
            try simp only [Act.put, List.setIfInBounds_toArray, List.set_cons_zero, List.set_cons_succ]
            refine wpAnyH_take (i := 24) (oi := ?o5751) (v := ?v5751) ?i5751 (by kernel_rfl) (by kernel_rfl) (by kernel_rfl) ?q5751 (Or.inl ⟨?w5751, ?y5751⟩) (by assumption) ?r5751
            case' i5751 => simp only [List.getElem?_toArray, List.getElem?_cons_succ, List.getElem?_cons_zero]
            case i5751 => rfl
            case q5751 => exact fun _ _ _ h => h
            case w5751 => kernel_rfl
            case y5751 => (intro W hSw; go_simp) <;> with_reducible rfl
            try simp only [Act.put, List.setIfInBounds_toArray, List.set_cons_zero, List.set_cons_succ]
            refine wpAnyH_done (by kernel_rfl) ?_ _
            clear hHeld
            go_wp2_with fail
            go_meet
            exact ⟨p, rs1, a1, c1, rfl, rfl, HC2, HD1, HBp, HR1⟩
        · go_simp
          replace HC := Lib.hid (HC.out.box #[.int .i64 0, .int .i64 0, .int .u64 0, .int .u64 0] 33)
          have HS : Hid (wr.heap.size ≤ wS.heap.size ∧ wS.heap.size < (wS.alloc (.cells #[.int .i64 0, .int .i64 0, .int .u64 0, .int .u64 0] 33 : Obj)).heap.size) := Lib.hid ⟨HW.out, by simp⟩
          refine hK.out _ _ (HC.out.less (fun x hx => by simp [hx])) (fun hHeld => ?_)
          clear hK K'
          try simp only [Act.put, List.setIfInBounds_toArray, List.set_cons_zero, List.set_cons_succ]
          generalize hwd : (wS.alloc (.cells #[.int .i64 0, .int .i64 0, .int .u64 0, .int .u64 0] 33 : Obj)) = w511 at hHeld HC HS ⊢
          generalize hwe : wS.heap.size = q at HC HS ⊢
          have HBq : Hid (wr.heap.size ≤ q) := Lib.hid HS.out.1
          have HLq : Hid (q < w511.heap.size) := Lib.hid HS.out.2
          replace HW : Hid (wr.heap.size ≤ w511.heap.size) := Lib.hid (by have h1 := HS.out.1; have h2 := HS.out.2; omega)
          clear hwd hwe HS
          refine wpAnyH_ready (rs := [15, 20]) (by kernel_rfl) (by simp) ?_
          refine AllReadyH.cons (o := ?t16o0) ?t16i0 (fun K' hK => ?_) (AllReadyH.cons (o := ?t16o1) ?t16i1 (fun K' hK => ?_) AllReadyH.nil)
          case' t16i0 => simp only [List.getElem?_toArray, List.getElem?_cons_succ, List.getElem?_cons_zero]
          case t16i0 => rfl
          case' t16i1 => simp only [List.getElem?_toArray, List.getElem?_cons_succ, List.getElem?_cons_zero]
          case t16i1 => rfl
          · go_simp
            go_at_call 10
            refine (HC.out.pput (fs := es) HN.out (HR0.out _ (fun k o q => hHeld.kept k o (HM.out.2 k o q))) HOK.out (gs := gs) (ep := (R : Int)) (key := (Y : Int)) (nx := 0) (bt := 0) (gp := g1) (gk := g2) (gn := g3) (gb := g4) (is := is) HPE.out (m := m2) HM2.out).mono ?_
            rintro e w512 ⟨rs1, a1, c1, rfl, hc, hr, hd, hz⟩
            have HDn : Hid (∀ k o, (k, o) ∈ rs1 → w511.heap.size ≤ k) := Lib.hid hd
            have HR1 := Lib.hid hr
            have HNq : Hid (∀ k o, (k, o) ∈ rs1 → k ≠ q) := Lib.hid (fun k o q => by have h1 := HDn.out k o q; have h2 := HLq.out; omega)
            replace HLq : Hid (q < w512.heap.size) := Lib.hid (by have := HLq.out; omega)
            have HD1 : Hid (∀ k o, (k, o) ∈ rs1 → wr.heap.size ≤ k) := Lib.hid (fun k o q => by have h1 := HDn.out k o q; have h2 := HW.out; omega)
            replace HW : Hid (wr.heap.size ≤ w512.heap.size) := Lib.hid (by have := HW.out; omega)
            replace HC := Lib.hid hc
            clear hc hr hd hz HDn
            go_wp2_with fail
            refine hK.out _ _ (HC.out.less (fun x hx => by simp [hx])) (fun hHeld => ?_)
            clear hK K'
            try simp only [Act.put, List.setIfInBounds_toArray, List.set_cons_zero, List.set_cons_succ]
            have HK1 : Hid (∀ k o, (k, o) ∈ rs1 → w512.heap[k]? = some o) := Lib.hid (fun k o q => HC.out.kept k o (by simp [q]))
            refine wpAnyH_take (i := 16) (oi := ?o2801) (v := ?v2801) ?i2801 (by kernel_rfl) (by kernel_rfl) (by kernel_rfl) ?q2801 (Or.inl ⟨?w2801, ?y2801⟩) (by assumption) ?r2801
            case' i2801 => simp only [List.getElem?_toArray, List.getElem?_cons_succ, List.getElem?_cons_zero]
            case i2801 => rfl
            case q2801 => exact fun _ _ _ h => h
            case w2801 => kernel_rfl
            case y2801 => (intro W hSw; go_simp) <;> with_reducible rfl
            try simp only [Act.put, List.setIfInBounds_toArray, List.set_cons_zero, List.set_cons_succ]
            refine wpAnyH_take (i := 17) (oi := ?o2802) (v := ?v2802) ?i2802 (by kernel_rfl) (by kernel_rfl) (by kernel_rfl) ?q2802 (Or.inl ⟨?w2802, ?y2802⟩) (by assumption) ?r2802
            case' i2802 => simp only [List.getElem?_toArray, List.getElem?_cons_succ, List.getElem?_cons_zero]
            case i2802 => rfl
            case q2802 => exact fun _ _ _ h => h
            case w2802 => kernel_rfl
            case y2802 => (intro W hSw; go_simp) <;> with_reducible rfl
            try simp only [Act.put, List.setIfInBounds_toArray, List.set_cons_zero, List.set_cons_succ]
            refine wpAnyH_take (i := 18) (oi := ?o2803) (v := ?v2803) ?i2803 (by kernel_rfl) (by kernel_rfl) (by kernel_rfl) ?q2803 (Or.inl ⟨?w2803, ?y2803⟩) (by assumption) ?r2803
            case' i2803 => simp only [List.getElem?_toArray, List.getElem?_cons_succ, List.getElem?_cons_zero]
            case i2803 => rfl
            case q2803 => exact fun _ _ _ h => h
            case w2803 => kernel_rfl
            case y2803 => (intro W hSw; go_simp) <;> with_reducible rfl
            try simp only [Act.put, List.setIfInBounds_toArray, List.set_cons_zero, List.set_cons_succ]
            refine wpAnyH_take (i := 19) (oi := ?o2804) (v := ?v2804) ?i2804 (by kernel_rfl) (by kernel_rfl) (by kernel_rfl) ?q2804 (Or.inl ⟨?w2804, ?y2804⟩) (by assumption) ?r2804
            case' i2804 => simp only [List.getElem?_toArray, List.getElem?_cons_succ, List.getElem?_cons_zero]
            case i2804 => rfl
            case q2804 => exact fun _ _ _ h => h
            case w2804 => kernel_rfl
            case y2804 => (intro W hSw; go_simp) <;> with_reducible rfl
            try simp only [Act.put, List.setIfInBounds_toArray, List.set_cons_zero, List.set_cons_succ]
            refine wpAnyH_ready (rs := [20]) (by kernel_rfl) (by simp) ?_
            refine AllReadyH.cons (o := ?t17o0) ?t17i0 (fun K' hK => ?_) AllReadyH.nil
            case' t17i0 => simp only [List.getElem?_toArray, List.getElem?_cons_succ, List.getElem?_cons_zero]
            case t17i0 => rfl
            go_simp
            replace HC := Lib.hid (HC.out.box #[.slice none 0 0] 26)
            have HS : Hid (wr.heap.size ≤ w512.heap.size ∧ w512.heap.size < (w512.alloc (.cells #[.slice none 0 0] 26 : Obj)).heap.size) := Lib.hid ⟨HW.out, by simp⟩
            have HNp : Hid (∀ k o, (k, o) ∈ rs1 → k ≠ w512.heap.size) := Lib.hid (fun k o q => by have h1 := blk_lt (HK1.out k o q); omega)
            have HEpq : Hid (q ≠ w512.heap.size) := Lib.hid (by have := HLq.out; omega)
            replace HLq : Hid (q < (w512.alloc (.cells #[.slice none 0 0] 26 : Obj)).heap.size) := Lib.hid (by have := HLq.out; have := HS.out; omega)
            refine hK.out _ _ (HC.out.less (fun x hx => by simp [hx])) (fun hHeld => ?_)
            clear hK K'
            try simp only [Act.put, List.setIfInBounds_toArray, List.set_cons_zero, List.set_cons_succ]
            generalize hwd : (w512.alloc (.cells #[.slice none 0 0] 26 : Obj)) = w513 at hHeld HC HS  HNp HEpq HLq⊢
            generalize hwe : w512.heap.size = p at HC HS  HNp HEpq HLq⊢
            have HBp : Hid (wr.heap.size ≤ p) := Lib.hid HS.out.1
            have HLp : Hid (p < w513.heap.size) := Lib.hid HS.out.2
            replace HW : Hid (wr.heap.size ≤ w513.heap.size) := Lib.hid (by have h1 := HS.out.1; have h2 := HS.out.2; omega)
            clear hwd hwe HS
            replace HK1 : Hid (∀ k o, (k, o) ∈ rs1 → w513.heap[k]? = some o) := Lib.hid (fun k o q => HC.out.kept k o (by simp [q]))
            have HNE : Hid (p ≠ q) := Lib.hid (by first | exact HEpq.out | exact Ne.symm HEpq.out)
            have HQM : ∀ z : Nat × Obj, z ∈ ((p, (.cells #[.slice a1 m2 c1] 26 (0, 0) : Obj)) : Nat × Obj) :: ((q, (.cells #[.int .i64 0, .int .i64 0, .int .u64 0, .int .u64 0] 33 (0, 0) : Obj)) : Nat × Obj) :: (rs1 ++ BS) → z = (p, (.cells #[.slice a1 m2 c1] 26 (0, 0) : Obj)) ∨ (z ∈ ((p, (.cells #[.slice none 0 0] 26 (0, 0) : Obj)) : Nat × Obj) :: (rs1 ++ (((q, (.cells #[.int .i64 0, .int .i64 0, .int .u64 0, .int .u64 0] 33 (0, 0) : Obj)) : Nat × Obj) :: (BS))) ∧ z.1 ≠ p) := fun z hz => by
              rcases List.mem_cons.1 hz with e | e
              · exact .inl e
              · rcases List.mem_cons.1 e with e | e
                · exact .inr ⟨by simp [e], by rw [e]; exact HNE.out.symm⟩
                · rcases List.mem_append.1 e with e | e
                  · exact .inr ⟨by simp [e], HNp.out z.1 z.2 e⟩
                  · exact .inr ⟨by simp [e], fun e2 => by have h1 := HCK.out.klt (k := z.1) (o := z.2) e; have h2 := HBp.out; omega⟩
            refine wpAnyH_ready (rs := [22]) (by kernel_rfl) (by simp) ?_
            refine AllReadyH.cons (o := ?t18o0) ?t18i0 (fun K' hK => ?_) AllReadyH.nil
            case' t18i0 => simp only [List.getElem?_toArray, List.getElem?_cons_succ, List.getElem?_cons_zero]
            case t18i0 => rfl
            obtain ⟨z0, z1⟩ := cell1 (HC.out.kept p (.cells #[.slice none 0 0] 26 (0, 0) : Obj) (by simp))
            go_simp
            clear z0 z1
            replace HC : Hid (Bx w (((p, (.cells #[.slice a1 m2 c1] 26 (0, 0) : Obj)) : Nat × Obj) :: ((q, (.cells #[.int .i64 0, .int .i64 0, .int .u64 0, .int .u64 0] 33 (0, 0) : Obj)) : Nat × Obj) :: (rs1 ++ BS)) (w513.setCell ⟨p, 0, none⟩ (.slice a1 m2 c1))) := Lib.hid (HC.out.set1 (B := p) (x := .slice none 0 0) (T := 26) (by simp) (Nat.le_trans HCK.out.low.size HBp.out) (.slice a1 m2 c1) HQM)
            clear HQM
            refine hK.out _ _ (HC.out.less (fun x hx => by simp [hx])) (fun hHeld => ?_)
            clear hK K'
            try simp only [Act.put, List.setIfInBounds_toArray, List.set_cons_zero, List.set_cons_succ]
            refine wpAnyH_ready (rs := [23]) (by kernel_rfl) (by simp) ?_
            refine AllReadyH.cons (o := ?t19o0) ?t19i0 (fun K' hK => ?_) AllReadyH.nil
            case' t19i0 => simp only [List.getElem?_toArray, List.getElem?_cons_succ, List.getElem?_cons_zero]
            case t19i0 => rfl
            obtain ⟨z0, z1, z2, z3, z4, z5, z6, z7⟩ := cells4 (HC.out.kept q (.cells #[.int .i64 0, .int .i64 0, .int .u64 0, .int .u64 0] 33 (0, 0) : Obj) (by simp))
            go_simp
            clear z0 z1 z2 z3 z4 z5 z6 z7
            have HC2 := Lib.hid (HC.out.set4 (B := q) (x := .int .i64 0) (y := .int .i64 0) (z := .int .u64 0) (q := .int .u64 0) (T := 33) (by simp) (Nat.le_trans HCK.out.low.size HBq.out) (.int .i64 g1) (.int .i64 g2) (.int .u64 g3) (.int .u64 g4) (bs' := ((p, (.cells #[.slice a1 m2 c1] 26 (0, 0) : Obj)) : Nat × Obj) :: (rs1 ++ BS)) (fun z hz => by
              rcases List.mem_cons.1 hz with e | e
              · exact .inr ⟨by simp [e], by rw [e]; exact HNE.out⟩
              · rcases List.mem_append.1 e with e | e
                · exact .inr ⟨by simp [e], HNq.out z.1 z.2 e⟩
                · exact .inr ⟨by simp [e], fun e2 => by have h1 := HCK.out.klt (k := z.1) (o := z.2) e; have h2 := HBq.out; omega⟩))
            refine hK.out _ _ (HC2.out.less (fun x hx => by simp [hx])) (fun hHeld => ?_)
            clear hK K'
            try simp only [Act.put, List.setIfInBounds_toArray, List.set_cons_zero, List.set_cons_succ]
            refine wpAnyH_take (i := 24) (oi := ?o5951) (v := ?v5951) ?i5951 (by kernel_rfl) (by kernel_rfl) (by kernel_rfl) ?q5951 (Or.inl ⟨?w5951, ?y5951⟩) (by assumption) ?r5951
            case' i5951 => simp only [List.getElem?_toArray, List.getElem?_cons_succ, List.getElem?_cons_zero]
            case i5951 => rfl
            case q5951 => exact fun _ _ _ h => h
            case w5951 => kernel_rfl
            case y5951 => (intro W hSw; go_simp) <;> with_reducible rfl
            try simp only [Act.put, List.setIfInBounds_toArray, List.set_cons_zero, List.set_cons_succ]
            refine wpAnyH_done (by kernel_rfl) ?_ _
            clear hHeld
            go_wp2_with fail
            go_meet
            exact ⟨p, rs1, a1, c1, rfl, rfl, HC2, HD1, HBp, HR1⟩
          · go_simp
            replace HC := Lib.hid (HC.out.box #[.slice none 0 0] 26)
            have HS : Hid (wr.heap.size ≤ w511.heap.size ∧ w511.heap.size < (w511.alloc (.cells #[.slice none 0 0] 26 : Obj)).heap.size) := Lib.hid ⟨HW.out, by simp⟩
            have HEpq : Hid (q ≠ w511.heap.size) := Lib.hid (by have := HLq.out; omega)
            replace HLq : Hid (q < (w511.alloc (.cells #[.slice none 0 0] 26 : Obj)).heap.size) := Lib.hid (by have := HLq.out; have := HS.out; omega)
            refine hK.out _ _ (HC.out.less (fun x hx => by simp [hx])) (fun hHeld => ?_)
            clear hK K'
            try simp only [Act.put, List.setIfInBounds_toArray, List.set_cons_zero, List.set_cons_succ]
            generalize hwd : (w511.alloc (.cells #[.slice none 0 0] 26 : Obj)) = w514 at hHeld HC HS  HEpq HLq⊢
            generalize hwe : w511.heap.size = p at HC HS  HEpq HLq⊢
            have HBp : Hid (wr.heap.size ≤ p) := Lib.hid HS.out.1
            have HLp : Hid (p < w514.heap.size) := Lib.hid HS.out.2
            replace HW : Hid (wr.heap.size ≤ w514.heap.size) := Lib.hid (by have h1 := HS.out.1; have h2 := HS.out.2; omega)
            clear hwd hwe HS
            refine wpAnyH_ready (rs := [15]) (by kernel_rfl) (by simp) ?_
            refine AllReadyH.cons (o := ?t20o0) ?t20i0 (fun K' hK => ?_) AllReadyH.nil
            case' t20i0 => simp only [List.getElem?_toArray, List.getElem?_cons_succ, List.getElem?_cons_zero]
            case t20i0 => rfl
            go_simp
            go_at_call 10
            refine (HC.out.pput (fs := es) HN.out (HR0.out _ (fun k o q => hHeld.kept k o (HM.out.2 k o q))) HOK.out (gs := gs) (ep := (R : Int)) (key := (Y : Int)) (nx := 0) (bt := 0) (gp := g1) (gk := g2) (gn := g3) (gb := g4) (is := is) HPE.out (m := m2) HM2.out).mono ?_
            rintro e w515 ⟨rs1, a1, c1, rfl, hc, hr, hd, hz⟩
            have HDn : Hid (∀ k o, (k, o) ∈ rs1 → w514.heap.size ≤ k) := Lib.hid hd
            have HR1 := Lib.hid hr
            have HNq : Hid (∀ k o, (k, o) ∈ rs1 → k ≠ q) := Lib.hid (fun k o q => by have h1 := HDn.out k o q; have h2 := HLq.out; omega)
            have HNp : Hid (∀ k o, (k, o) ∈ rs1 → k ≠ p) := Lib.hid (fun k o q => by have h1 := HDn.out k o q; have h2 := HLp.out; omega)
            replace HLq : Hid (q < w515.heap.size) := Lib.hid (by have := HLq.out; omega)
            replace HLp : Hid (p < w515.heap.size) := Lib.hid (by have := HLp.out; omega)
            have HD1 : Hid (∀ k o, (k, o) ∈ rs1 → wr.heap.size ≤ k) := Lib.hid (fun k o q => by have h1 := HDn.out k o q; have h2 := HW.out; omega)
            replace HW : Hid (wr.heap.size ≤ w515.heap.size) := Lib.hid (by have := HW.out; omega)
            replace HC := Lib.hid hc
            clear hc hr hd hz HDn
            go_wp2_with fail
            refine hK.out _ _ (HC.out.less (fun x hx => by simp [hx])) (fun hHeld => ?_)
            clear hK K'
            try simp only [Act.put, List.setIfInBounds_toArray, List.set_cons_zero, List.set_cons_succ]
            have HK1 : Hid (∀ k o, (k, o) ∈ rs1 → w515.heap[k]? = some o) := Lib.hid (fun k o q => HC.out.kept k o (by simp [q]))
            refine wpAnyH_take (i := 16) (oi := ?o3001) (v := ?v3001) ?i3001 (by kernel_rfl) (by kernel_rfl) (by kernel_rfl) ?q3001 (Or.inl ⟨?w3001, ?y3001⟩) (by assumption) ?r3001
            case' i3001 => simp only [List.getElem?_toArray, List.getElem?_cons_succ, List.getElem?_cons_zero]
            case i3001 => rfl
            case q3001 => exact fun _ _ _ h => h
            case w3001 => kernel_rfl
            case y3001 => (intro W hSw; go_simp) <;> with_reducible rfl
            try simp only [Act.put, List.setIfInBounds_toArray, List.set_cons_zero, List.set_cons_succ]
            refine wpAnyH_take (i := 17) (oi := ?o3002) (v := ?v3002) ?i3002 (by kernel_rfl) (by kernel_rfl) (by kernel_rfl) ?q3002 (Or.inl ⟨?w3002, ?y3002⟩) (by assumption) ?r3002
            case' i3002 => simp only [List.getElem?_toArray, List.getElem?_cons_succ, List.getElem?_cons_zero]
            case i3002 => rfl
            case q3002 => exact fun _ _ _ h => h
            case w3002 => kernel_rfl
            case y3002 => (intro W hSw; go_simp) <;> with_reducible rfl
            try simp only [Act.put, List.setIfInBounds_toArray, List.set_cons_zero, List.set_cons_succ]
            refine wpAnyH_take (i := 18) (oi := ?o3003) (v := ?v3003) ?i3003 (by kernel_rfl) (by kernel_rfl) (by kernel_rfl) ?q3003 (Or.inl ⟨?w3003, ?y3003⟩) (by assumption) ?r3003
            case' i3003 => simp only [List.getElem?_toArray, List.getElem?_cons_succ, List.getElem?_cons_zero]
            case i3003 => rfl
            case q3003 => exact fun _ _ _ h => h
            case w3003 => kernel_rfl
            case y3003 => (intro W hSw; go_simp) <;> with_reducible rfl
            try simp only [Act.put, List.setIfInBounds_toArray, List.set_cons_zero, List.set_cons_succ]
            refine wpAnyH_take (i := 19) (oi := ?o3004) (v := ?v3004) ?i3004 (by kernel_rfl) (by kernel_rfl) (by kernel_rfl) ?q3004 (Or.inl ⟨?w3004, ?y3004⟩) (by assumption) ?r3004
            case' i3004 => simp only [List.getElem?_toArray, List.getElem?_cons_succ, List.getElem?_cons_zero]
            case i3004 => rfl
            case q3004 => exact fun _ _ _ h => h
            case w3004 => kernel_rfl
            case y3004 => (intro W hSw; go_simp) <;> with_reducible rfl
            try simp only [Act.put, List.setIfInBounds_toArray, List.set_cons_zero, List.set_cons_succ]
            have HNE : Hid (p ≠ q) := Lib.hid (by first | exact HEpq.out | exact Ne.symm HEpq.out)
            have HQM : ∀ z : Nat × Obj, z ∈ ((p, (.cells #[.slice a1 m2 c1] 26 (0, 0) : Obj)) : Nat × Obj) :: ((q, (.cells #[.int .i64 0, .int .i64 0, .int .u64 0, .int .u64 0] 33 (0, 0) : Obj)) : Nat × Obj) :: (rs1 ++ BS) → z = (p, (.cells #[.slice a1 m2 c1] 26 (0, 0) : Obj)) ∨ (z ∈ rs1 ++ (((p, (.cells #[.slice none 0 0] 26 (0, 0) : Obj)) : Nat × Obj) :: (((q, (.cells #[.int .i64 0, .int .i64 0, .int .u64 0, .int .u64 0] 33 (0, 0) : Obj)) : Nat × Obj) :: (BS))) ∧ z.1 ≠ p) := fun z hz => by
              rcases List.mem_cons.1 hz with e | e
              · exact .inl e
              · rcases List.mem_cons.1 e with e | e
                · exact .inr ⟨by simp [e], by rw [e]; exact HNE.out.symm⟩
                · rcases List.mem_append.1 e with e | e
                  · exact .inr ⟨by simp [e], HNp.out z.1 z.2 e⟩
                  · exact .inr ⟨by simp [e], fun e2 => by have h1 := HCK.out.klt (k := z.1) (o := z.2) e; have h2 := HBp.out; omega⟩
            refine wpAnyH_ready (rs := [22]) (by kernel_rfl) (by simp) ?_
            refine AllReadyH.cons (o := ?t21o0) ?t21i0 (fun K' hK => ?_) AllReadyH.nil
            case' t21i0 => simp only [List.getElem?_toArray, List.getElem?_cons_succ, List.getElem?_cons_zero]
            case t21i0 => rfl
            obtain ⟨z0, z1⟩ := cell1 (HC.out.kept p (.cells #[.slice none 0 0] 26 (0, 0) : Obj) (by simp))
            go_simp
            clear z0 z1
            replace HC : Hid (Bx w (((p, (.cells #[.slice a1 m2 c1] 26 (0, 0) : Obj)) : Nat × Obj) :: ((q, (.cells #[.int .i64 0, .int .i64 0, .int .u64 0, .int .u64 0] 33 (0, 0) : Obj)) : Nat × Obj) :: (rs1 ++ BS)) (w515.setCell ⟨p, 0, none⟩ (.slice a1 m2 c1))) := Lib.hid (HC.out.set1 (B := p) (x := .slice none 0 0) (T := 26) (by simp) (Nat.le_trans HCK.out.low.size HBp.out) (.slice a1 m2 c1) HQM)
            clear HQM
            refine hK.out _ _ (HC.out.less (fun x hx => by simp [hx])) (fun hHeld => ?_)
            clear hK K'
            try simp only [Act.put, List.setIfInBounds_toArray, List.set_cons_zero, List.set_cons_succ]
            refine wpAnyH_ready (rs := [23]) (by kernel_rfl) (by simp) ?_
            refine AllReadyH.cons (o := ?t22o0) ?t22i0 (fun K' hK => ?_) AllReadyH.nil
            case' t22i0 => simp only [List.getElem?_toArray, List.getElem?_cons_succ, List.getElem?_cons_zero]
            case t22i0 => rfl
            obtain ⟨z0, z1, z2, z3, z4, z5, z6, z7⟩ := cells4 (HC.out.kept q (.cells #[.int .i64 0, .int .i64 0, .int .u64 0, .int .u64 0] 33 (0, 0) : Obj) (by simp))
            go_simp
            clear z0 z1 z2 z3 z4 z5 z6 z7
            have HC2 := Lib.hid (HC.out.set4 (B := q) (x := .int .i64 0) (y := .int .i64 0) (z := .int .u64 0) (q := .int .u64 0) (T := 33) (by simp) (Nat.le_trans HCK.out.low.size HBq.out) (.int .i64 g1) (.int .i64 g2) (.int .u64 g3) (.int .u64 g4) (bs' := ((p, (.cells #[.slice a1 m2 c1] 26 (0, 0) : Obj)) : Nat × Obj) :: (rs1 ++ BS)) (fun z hz => by
              rcases List.mem_cons.1 hz with e | e
              · exact .inr ⟨by simp [e], by rw [e]; exact HNE.out⟩
              · rcases List.mem_append.1 e with e | e
                · exact .inr ⟨by simp [e], HNq.out z.1 z.2 e⟩
                · exact .inr ⟨by simp [e], fun e2 => by have h1 := HCK.out.klt (k := z.1) (o := z.2) e; have h2 := HBq.out; omega⟩))
            refine hK.out _ _ (HC2.out.less (fun x hx => by simp [hx])) (fun hHeld => ?_)
            clear hK K'
            try simp only [Act.put, List.setIfInBounds_toArray, List.set_cons_zero, List.set_cons_succ]
            refine wpAnyH_take (i := 24) (oi := ?o6101) (v := ?v6101) ?i6101 (by kernel_rfl) (by kernel_rfl) (by kernel_rfl) ?q6101 (Or.inl ⟨?w6101, ?y6101⟩) (by assumption) ?r6101
            case' i6101 => simp only [List.getElem?_toArray, List.getElem?_cons_succ, List.getElem?_cons_zero]
            case i6101 => rfl
            case q6101 => exact fun _ _ _ h => h
            case w6101 => kernel_rfl
            case y6101 => (intro W hSw; go_simp) <;> with_reducible rfl
            try simp only [Act.put, List.setIfInBounds_toArray, List.set_cons_zero, List.set_cons_succ]
            refine wpAnyH_done (by kernel_rfl) ?_ _
            clear hHeld
            go_wp2_with fail
            go_meet
            exact ⟨p, rs1, a1, c1, rfl, rfl, HC2, HD1, HBp, HR1⟩
      case rest =>
        obtain ⟨p, rs1, a1, c1, rfl, rfl, HC, HD1, HPB, HR1⟩ := hcut
        obtain ⟨z0, z1⟩ := cell1 (HC.out.kept p (.cells #[.slice a1 m2 c1] 26 (0, 0) : Obj) (by simp))
        obtain ⟨z2, z3⟩ := cell1 (HC.out.kept B (.cells #[.slice a n cap] 26 (0, 0) : Obj) (by simp [HM.out.1]))
        go_wp2_with fail
        clear z0 z1 z2 z3
        have HC9 := Lib.hid (HC.out.set1 (B := B) (x := .slice a n cap) (T := 26) (by simp [HM.out.1]) HB.out (.slice a1 m2 c1) (bs' := rs1 ++ [(B, (.cells #[.slice a1 m2 c1] 26 (0, 0) : Obj))]) (fun z hz => by
          rcases List.mem_append.1 hz with e | e
          · exact .inr ⟨by simp [e], fun e2 => by have := HD1.out z.1 z.2 e; have := HBW.out; omega⟩
          · exact .inl (List.mem_singleton.1 e)))
        go_roundg (gk - 1)
        case rel => exact ⟨i + 1, a1, m2, c1, gs, rs1, by have := HI9.out; omega, by have := HI9.out; omega, by have := HI9.out; go_num, HOK2, Lib.hid HM2.out.symm, HC9, Lib.hid (fun k oo q => by have := HD1.out k oo q; have := HBW.out; omega), HR1⟩
        case measure => have := HI9.out; omega
    · have i1 : decide (i < len0 ∧ i < 20) = false := decide_eq_false h4
      have HN9 : Hid (n ≤ 1000) := Lib.hid (by have := HOK.out.2; have := HN.out; omega)
      obtain ⟨gs, g, is, hpe⟩ : ∃ gs g is, putE es ⟨(D : Int), 999, 0, 0⟩ = (gs, g, is) := ⟨_, _, _, rfl⟩
      obtain ⟨g1, g2, g3, g4⟩ := g
      have HPE := Lib.hid hpe
      obtain ⟨m2, hm2⟩ : ∃ m2, gs.length = m2 := ⟨_, rfl⟩
      have HM2 := Lib.hid hm2
      obtain ⟨m3, hm3⟩ : ∃ m3, (dropE es (D : Int)).length = m3 := ⟨_, rfl⟩
      have HM3 := Lib.hid hm3
      have bm2 : (m2 : Int) ≤ 4 := by have := (HOK.out.put ⟨(D : Int), 999, 0, 0⟩).2; rw [hpe] at this; dsimp only at this; omega
      have bm3 : (m3 : Int) ≤ 4 := by have := HOK.out.2; have := drop_len (l := es) (D : Int); omega
      clear hpe hm2 hm3
      by_cases h5 : i < len0
      · have h6 : ¬ i < 20 := fun q => h4 ⟨h5, q⟩
        have i2 : (i : Int) < (len0 : Int) := by omega
        have i3 : decide ((i : Int) < 20) = false := decide_eq_false (by omega)
        have i4 : decide (i < 20) = false := decide_eq_false h6
        clear i1 h4
        obtain ⟨cf0, cf1⟩ := cell1 (HC.out.kept (B) (.cells #[.slice a n cap] 26 (0, 0) : Obj) (by simp))
        go_wp2_with fail
        clear cf0 cf1
        refine (HC.out.refs (fs := es) HN.out (HR0.out _ (fun k o q => HC.out.kept k o (by simp [q]))) HN9.out).mono ?_
        rintro e w11 ⟨rsu, au, cu, rfl, hc, hr, hd, hz⟩
        have HZu : Hid (wr.heap.size ≤ w11.heap.size) := Lib.hid hz
        have HRu := Lib.hid hr
        have HDu := Lib.hid hd
        replace HC := Lib.hid hc
        clear hc hr hd hz
        obtain ⟨cf0, cf1⟩ := cell1 (HC.out.kept (B) (.cells #[.slice a n cap] 26 (0, 0) : Obj) (by simp))
        go_wp2_with fail
        clear cf0 cf1
        refine (HC.out.pputC (fs := es) HN.out (HR0.out _ (fun k o q => HC.out.kept k o (by simp [q]))) HOK.out (gs := gs) (ep := (D : Int)) (key := 999) (nx := 0) (bt := 0) (gp := g1) (gk := g2) (gn := g3) (gb := g4) (is := is) HPE.out (m := m2) HM2.out).mono ?_
        rintro e w12 ⟨a2, c2, rfl, hc, hcan, hb⟩
        replace HC := Lib.hid hc
        have HCD := Lib.hid hcan
        clear hc hcan hb
        have HCD' := Lib.hid ((HCD.out.more (bs' := (w12.heap.size, (.cells #[.slice a2 m2 c2] 26 (0, 0) : Obj)) :: _) (fun k o q => by rcases List.mem_cons.1 q with e | e; exact .inr (by injection e with e1 _; omega); exact .inl e)).below (below_alloc _ (.cells #[.slice a2 m2 c2] 26)))
        clear HCD
        have HCD := HCD'
        clear HCD'
        replace HC := Lib.hid (HC.out.box #[.slice a2 m2 c2] 26)
        have HCD' := Lib.hid ((HCD.out.more (bs' := ((w12.alloc (.cells #[.slice a2 m2 c2] 26 : Obj)).heap.size, (.cells #[.int .i64 g1, .int .i64 g2, .int .u64 g3, .int .u64 g4] 33 (0, 0) : Obj)) :: _) (fun k o q => by rcases List.mem_cons.1 q with e | e; exact .inr (by injection e with e1 _; omega); exact .inl e)).below (below_alloc _ (.cells #[.int .i64 g1, .int .i64 g2, .int .u64 g3, .int .u64 g4] 33)))
        clear HCD
        have HCD := HCD'
        clear HCD'
        replace HC := Lib.hid (HC.out.box #[.int .i64 g1, .int .i64 g2, .int .u64 g3, .int .u64 g4] 33)
        obtain ⟨cf0, cf1⟩ := cell1 (HC.out.kept (B) (.cells #[.slice a n cap] 26 (0, 0) : Obj) (by simp))
        go_wp2_with fail
        clear cf0 cf1
        refine (HC.out.pdropC (fs := es) HN.out (HR0.out _ (fun k o q => HC.out.kept k o (by simp [q]))) HOK.out (gs := dropE es (D : Int)) (K := (D : Int)) rfl (m := m3) HM3.out).mono ?_
        rintro e w13 ⟨a3, c3, rfl, hc, hcan, hb⟩
        replace HC := Lib.hid hc
        replace HCD := Lib.hid (HCD.out.below hb)
        have HCF := Lib.hid hcan
        clear hc hcan hb
        have HCD' := Lib.hid ((HCD.out.more (bs' := (w13.heap.size, (.cells #[.slice a3 m3 c3] 26 (0, 0) : Obj)) :: _) (fun k o q => by rcases List.mem_cons.1 q with e | e; exact .inr (by injection e with e1 _; omega); exact .inl e)).below (below_alloc _ (.cells #[.slice a3 m3 c3] 26)))
        clear HCD
        have HCD := HCD'
        clear HCD'
        have HCF' := Lib.hid ((HCF.out.more (bs' := (w13.heap.size, (.cells #[.slice a3 m3 c3] 26 (0, 0) : Obj)) :: _) (fun k o q => by rcases List.mem_cons.1 q with e | e; exact .inr (by injection e with e1 _; omega); exact .inl e)).below (below_alloc _ (.cells #[.slice a3 m3 c3] 26)))
        clear HCF
        have HCF := HCF'
        clear HCF'
        replace HC := Lib.hid (HC.out.box #[.slice a3 m3 c3] 26)
        go_upto_region 10 with fail
        generalize hwd : (w13.alloc (.cells #[.slice a3 m3 c3] 26 : Obj)) = wk at HC HCD HCF ⊢
        generalize hx1 : w13.heap.size = Xf at HC HCD HCF ⊢
        generalize hx2 : w12.heap.size = Xd at HC HCD HCF ⊢
        clear hwd hx1 hx2
        obtain ⟨BS, hM, hB, hC1, hC2⟩ : ∃ BS, (((B, (.cells #[.slice a n cap] 26 (0, 0) : Obj)) : Nat × Obj) ∈ BS ∧ ((Xd, (.cells #[.slice a2 m2 c2] 26 (0, 0) : Obj)) : Nat × Obj) ∈ BS ∧ ((Xf, (.cells #[.slice a3 m3 c3] 26 (0, 0) : Obj)) : Nat × Obj) ∈ BS ∧ (∀ k o, (k, o) ∈ rs0 → (k, o) ∈ BS) ∧ (∀ k o, (k, o) ∈ rsu → (k, o) ∈ BS)) ∧ Bx w BS wk ∧ Can w BS a2 m2 wk ∧ Can w BS a3 m3 wk := ⟨_, ⟨by simp, by simp, by simp, fun k o q => by simp [q], fun k o q => by simp [q]⟩, HC.out, HCD.out, HCF.out⟩
        have HM := Lib.hid hM
        replace HC := Lib.hid hB
        replace HCD := Lib.hid hC1
        replace HCF := Lib.hid hC2
        clear hM hB hC1 hC2
        go_wp2_with fail
        go_loopg [15] m2 (fun gk sj wr => ∃ (j : Nat), j + gk = m2 ∧ sj = .int .i64 (j : Nat) ∧ Hid (Bx w BS wr) ∧ Hid (Can w BS a2 m2 wr) ∧ Hid (Can w BS a3 m3 wr))
        case atStart => exact ⟨0, by omega, rfl, HC, HCD, HCF⟩
        case round =>
          clear HC HCD HCF
          obtain ⟨j, hj, rfl, HC, HCD, HCF⟩ := hrel
          obtain ⟨z0, z1⟩ := cell1 (HC.out.kept Xd (.cells #[.slice a2 m2 c2] 26 (0, 0) : Obj) HM.out.2.1)
          by_cases hjm : j < m2
          · obtain ⟨g, off, u, ha, hg, hcell, hfr, hne⟩ := HCD.out.cell hjm
            subst ha
            have HGN := Lib.hid (And.intro hg hne)
            have HJ := Lib.hid (And.intro hjm hj)
            have j1 : (j : Int) < (m2 : Int) := by omega
            have j0 : (0 : Int) ≤ (j : Int) := by omega
            clear hg hne hj
            go_wp2_with fail
            go_roundg (gk - 1)
            case rel => exact ⟨j + 1, by have := HJ.out; omega, by have := HJ.out; go_num, Lib.hid (HC.out.put1 HGN.out.1 HGN.out.2), Lib.hid (HCD.out.set _ _ _), Lib.hid (HCF.out.set _ _ _)⟩
            case measure => have := HJ.out; omega
          · have hje : m2 = j := by omega
            subst hje
            have j1 : decide (m2 < m2) = false := decide_eq_false (Nat.lt_irrefl _)
            have j2 : decide ((m2 : Int) < (m2 : Int)) = false := decide_eq_false (by omega)
            clear hjm hj
            go_wp2_with fail
            clear z0 z1
            go_loopg [16] m3 (fun gk sj wr => ∃ (j : Nat), j + gk = m3 ∧ sj = .int .i64 (j : Nat) ∧ Hid (Bx w BS wr) ∧ Hid (Can w BS a2 m2 wr) ∧ Hid (Can w BS a3 m3 wr))
            case atStart => exact ⟨0, by omega, rfl, HC, HCD, HCF⟩
            case round =>
              clear HC HCD HCF
              obtain ⟨j, hj, rfl, HC, HCD, HCF⟩ := hrel
              obtain ⟨z0, z1⟩ := cell1 (HC.out.kept Xf (.cells #[.slice a3 m3 c3] 26 (0, 0) : Obj) HM.out.2.2.1)
              by_cases hjm : j < m3
              · obtain ⟨g, off, u, ha, hg, hcell, hfr, hne⟩ := HCF.out.cell hjm
                subst ha
                have HGN := Lib.hid (And.intro hg hne)
                have HJ := Lib.hid (And.intro hjm hj)
                have j1 : (j : Int) < (m3 : Int) := by omega
                have j0 : (0 : Int) ≤ (j : Int) := by omega
                clear hg hne hj
                go_wp2_with fail
                go_roundg (gk - 1)
                case rel => exact ⟨j + 1, by have := HJ.out; omega, by have := HJ.out; go_num, Lib.hid (HC.out.put1 HGN.out.1 HGN.out.2), Lib.hid (HCD.out.set _ _ _), Lib.hid (HCF.out.set _ _ _)⟩
                case measure => have := HJ.out; omega
              · have hje : m3 = j := by omega
                subst hje
                have j1 : decide (m3 < m3) = false := decide_eq_false (Nat.lt_irrefl _)
                have j2 : decide ((m3 : Int) < (m3 : Int)) = false := decide_eq_false (by omega)
                clear hjm hj
                obtain ⟨y0, y1⟩ := cell1 (HC.out.kept B (.cells #[.slice a n cap] 26 (0, 0) : Obj) HM.out.1)
                go_wp2_with fail
                clear z0 z1 y0 y1
                refine (HC.out.refs (fs := es) HN.out (HR0.out _ (fun k o q => HC.out.kept k o (HM.out.2.2.2.1 k o q))) HN9.out).mono ?_
                rintro e w21 ⟨rsv, av, cv, rfl, hc, hr, hd, hz⟩
                replace HC := Lib.hid hc
                have HRv := Lib.hid hr
                clear hc hr hd hz
                go_wp2_with fail
                refine (rsame_e _ _ _ _ _ es _ HN.out (HRv.out _ (fun k o q => HC.out.kept k o (by simp [q]))) (HRu.out _ (fun k o q => HC.out.kept k o (by simp [HM.out.2.2.2.2 k o q])))).mono ?_
                rintro e w22 ⟨rfl, hb⟩
                replace HC := Lib.hid (HC.out.below hb)
                clear hb
                go_wp2_with fail
                refine (fixed_any _).mono ?_
                rintro e w23 ⟨rfl, hb⟩
                replace HC := Lib.hid (HC.out.below hb)
                clear hb
                go_wp2_with fail
                go_ret
                exact ⟨rfl, HC.out.low⟩
      · have i3 : decide ((i : Int) < (len0 : Int)) = false := decide_eq_false (by omega)
        have i4 : decide (i < len0) = false := decide_eq_false h5
        clear i1 h4
        obtain ⟨cf0, cf1⟩ := cell1 (HC.out.kept (B) (.cells #[.slice a n cap] 26 (0, 0) : Obj) (by simp))
        go_wp2_with fail
        clear cf0 cf1
        refine (HC.out.refs (fs := es) HN.out (HR0.out _ (fun k o q => HC.out.kept k o (by simp [q]))) HN9.out).mono ?_
        rintro e w11 ⟨rsu, au, cu, rfl, hc, hr, hd, hz⟩
        have HZu : Hid (wr.heap.size ≤ w11.heap.size) := Lib.hid hz
        have HRu := Lib.hid hr
        have HDu := Lib.hid hd
        replace HC := Lib.hid hc
        clear hc hr hd hz
        obtain ⟨cf0, cf1⟩ := cell1 (HC.out.kept (B) (.cells #[.slice a n cap] 26 (0, 0) : Obj) (by simp))
        go_wp2_with fail
        clear cf0 cf1
        refine (HC.out.pputC (fs := es) HN.out (HR0.out _ (fun k o q => HC.out.kept k o (by simp [q]))) HOK.out (gs := gs) (ep := (D : Int)) (key := 999) (nx := 0) (bt := 0) (gp := g1) (gk := g2) (gn := g3) (gb := g4) (is := is) HPE.out (m := m2) HM2.out).mono ?_
        rintro e w12 ⟨a2, c2, rfl, hc, hcan, hb⟩
        replace HC := Lib.hid hc
        have HCD := Lib.hid hcan
        clear hc hcan hb
        have HCD' := Lib.hid ((HCD.out.more (bs' := (w12.heap.size, (.cells #[.slice a2 m2 c2] 26 (0, 0) : Obj)) :: _) (fun k o q => by rcases List.mem_cons.1 q with e | e; exact .inr (by injection e with e1 _; omega); exact .inl e)).below (below_alloc _ (.cells #[.slice a2 m2 c2] 26)))
        clear HCD
        have HCD := HCD'
        clear HCD'
        replace HC := Lib.hid (HC.out.box #[.slice a2 m2 c2] 26)
        have HCD' := Lib.hid ((HCD.out.more (bs' := ((w12.alloc (.cells #[.slice a2 m2 c2] 26 : Obj)).heap.size, (.cells #[.int .i64 g1, .int .i64 g2, .int .u64 g3, .int .u64 g4] 33 (0, 0) : Obj)) :: _) (fun k o q => by rcases List.mem_cons.1 q with e | e; exact .inr (by injection e with e1 _; omega); exact .inl e)).below (below_alloc _ (.cells #[.int .i64 g1, .int .i64 g2, .int .u64 g3, .int .u64 g4] 33)))
        clear HCD
        have HCD := HCD'
        clear HCD'
        replace HC := Lib.hid (HC.out.box #[.int .i64 g1, .int .i64 g2, .int .u64 g3, .int .u64 g4] 33)
        obtain ⟨cf0, cf1⟩ := cell1 (HC.out.kept (B) (.cells #[.slice a n cap] 26 (0, 0) : Obj) (by simp))
        go_wp2_with fail
        clear cf0 cf1
        refine (HC.out.pdropC (fs := es) HN.out (HR0.out _ (fun k o q => HC.out.kept k o (by simp [q]))) HOK.out (gs := dropE es (D : Int)) (K := (D : Int)) rfl (m := m3) HM3.out).mono ?_
        rintro e w13 ⟨a3, c3, rfl, hc, hcan, hb⟩
        replace HC := Lib.hid hc
        replace HCD := Lib.hid (HCD.out.below hb)
        have HCF := Lib.hid hcan
        clear hc hcan hb
        have HCD' := Lib.hid ((HCD.out.more (bs' := (w13.heap.size, (.cells #[.slice a3 m3 c3] 26 (0, 0) : Obj)) :: _) (fun k o q => by rcases List.mem_cons.1 q with e | e; exact .inr (by injection e with e1 _; omega); exact .inl e)).below (below_alloc _ (.cells #[.slice a3 m3 c3] 26)))
        clear HCD
        have HCD := HCD'
        clear HCD'
        have HCF' := Lib.hid ((HCF.out.more (bs' := (w13.heap.size, (.cells #[.slice a3 m3 c3] 26 (0, 0) : Obj)) :: _) (fun k o q => by rcases List.mem_cons.1 q with e | e; exact .inr (by injection e with e1 _; omega); exact .inl e)).below (below_alloc _ (.cells #[.slice a3 m3 c3] 26)))
        clear HCF
        have HCF := HCF'
        clear HCF'
        replace HC := Lib.hid (HC.out.box #[.slice a3 m3 c3] 26)
        go_upto_region 10 with fail
        generalize hwd : (w13.alloc (.cells #[.slice a3 m3 c3] 26 : Obj)) = wk at HC HCD HCF ⊢
        generalize hx1 : w13.heap.size = Xf at HC HCD HCF ⊢
        generalize hx2 : w12.heap.size = Xd at HC HCD HCF ⊢
        clear hwd hx1 hx2
        obtain ⟨BS, hM, hB, hC1, hC2⟩ : ∃ BS, (((B, (.cells #[.slice a n cap] 26 (0, 0) : Obj)) : Nat × Obj) ∈ BS ∧ ((Xd, (.cells #[.slice a2 m2 c2] 26 (0, 0) : Obj)) : Nat × Obj) ∈ BS ∧ ((Xf, (.cells #[.slice a3 m3 c3] 26 (0, 0) : Obj)) : Nat × Obj) ∈ BS ∧ (∀ k o, (k, o) ∈ rs0 → (k, o) ∈ BS) ∧ (∀ k o, (k, o) ∈ rsu → (k, o) ∈ BS)) ∧ Bx w BS wk ∧ Can w BS a2 m2 wk ∧ Can w BS a3 m3 wk := ⟨_, ⟨by simp, by simp, by simp, fun k o q => by simp [q], fun k o q => by simp [q]⟩, HC.out, HCD.out, HCF.out⟩
        have HM := Lib.hid hM
        replace HC := Lib.hid hB
        replace HCD := Lib.hid hC1
        replace HCF := Lib.hid hC2
        clear hM hB hC1 hC2
        go_wp2_with fail
        go_loopg [15] m2 (fun gk sj wr => ∃ (j : Nat), j + gk = m2 ∧ sj = .int .i64 (j : Nat) ∧ Hid (Bx w BS wr) ∧ Hid (Can w BS a2 m2 wr) ∧ Hid (Can w BS a3 m3 wr))
        case atStart => exact ⟨0, by omega, rfl, HC, HCD, HCF⟩
        case round =>
          clear HC HCD HCF
          obtain ⟨j, hj, rfl, HC, HCD, HCF⟩ := hrel
          obtain ⟨z0, z1⟩ := cell1 (HC.out.kept Xd (.cells #[.slice a2 m2 c2] 26 (0, 0) : Obj) HM.out.2.1)
          by_cases hjm : j < m2
          · obtain ⟨g, off, u, ha, hg, hcell, hfr, hne⟩ := HCD.out.cell hjm
            subst ha
            have HGN := Lib.hid (And.intro hg hne)
            have HJ := Lib.hid (And.intro hjm hj)
            have j1 : (j : Int) < (m2 : Int) := by omega
            have j0 : (0 : Int) ≤ (j : Int) := by omega
            clear hg hne hj
            go_wp2_with fail
            go_roundg (gk - 1)
            case rel => exact ⟨j + 1, by have := HJ.out; omega, by have := HJ.out; go_num, Lib.hid (HC.out.put1 HGN.out.1 HGN.out.2), Lib.hid (HCD.out.set _ _ _), Lib.hid (HCF.out.set _ _ _)⟩
            case measure => have := HJ.out; omega
          · have hje : m2 = j := by omega
            subst hje
            have j1 : decide (m2 < m2) = false := decide_eq_false (Nat.lt_irrefl _)
            have j2 : decide ((m2 : Int) < (m2 : Int)) = false := decide_eq_false (by omega)
            clear hjm hj
            go_wp2_with fail
            clear z0 z1
            go_loopg [16] m3 (fun gk sj wr => ∃ (j : Nat), j + gk = m3 ∧ sj = .int .i64 (j : Nat) ∧ Hid (Bx w BS wr) ∧ Hid (Can w BS a2 m2 wr) ∧ Hid (Can w BS a3 m3 wr))
            case atStart => exact ⟨0, by omega, rfl, HC, HCD, HCF⟩
            case round =>
              clear HC HCD HCF
              obtain ⟨j, hj, rfl, HC, HCD, HCF⟩ := hrel
              obtain ⟨z0, z1⟩ := cell1 (HC.out.kept Xf (.cells #[.slice a3 m3 c3] 26 (0, 0) : Obj) HM.out.2.2.1)
              by_cases hjm : j < m3
              · obtain ⟨g, off, u, ha, hg, hcell, hfr, hne⟩ := HCF.out.cell hjm
                subst ha
                have HGN := Lib.hid (And.intro hg hne)
                have HJ := Lib.hid (And.intro hjm hj)
                have j1 : (j : Int) < (m3 : Int) := by omega
                have j0 : (0 : Int) ≤ (j : Int) := by omega
                clear hg hne hj
                go_wp2_with fail
                go_roundg (gk - 1)
                case rel => exact ⟨j + 1, by have := HJ.out; omega, by have := HJ.out; go_num, Lib.hid (HC.out.put1 HGN.out.1 HGN.out.2), Lib.hid (HCD.out.set _ _ _), Lib.hid (HCF.out.set _ _ _)⟩
                case measure => have := HJ.out; omega
              · have hje : m3 = j := by omega
                subst hje
                have j1 : decide (m3 < m3) = false := decide_eq_false (Nat.lt_irrefl _)
                have j2 : decide ((m3 : Int) < (m3 : Int)) = false := decide_eq_false (by omega)
                clear hjm hj
                obtain ⟨y0, y1⟩ := cell1 (HC.out.kept B (.cells #[.slice a n cap] 26 (0, 0) : Obj) HM.out.1)
                go_wp2_with fail
                clear z0 z1 y0 y1
                refine (HC.out.refs (fs := es) HN.out (HR0.out _ (fun k o q => HC.out.kept k o (HM.out.2.2.2.1 k o q))) HN9.out).mono ?_
                rintro e w21 ⟨rsv, av, cv, rfl, hc, hr, hd, hz⟩
                replace HC := Lib.hid hc
                have HRv := Lib.hid hr
                clear hc hr hd hz
                go_wp2_with fail
                refine (rsame_e _ _ _ _ _ es _ HN.out (HRv.out _ (fun k o q => HC.out.kept k o (by simp [q]))) (HRu.out _ (fun k o q => HC.out.kept k o (by simp [HM.out.2.2.2.2 k o q])))).mono ?_
                rintro e w22 ⟨rfl, hb⟩
                replace HC := Lib.hid (HC.out.below hb)
                clear hb
                go_wp2_with fail
                refine (fixed_any _).mono ?_
                rintro e w23 ⟨rfl, hb⟩
                replace HC := Lib.hid (HC.out.below hb)
                clear hb
                go_wp2_with fail
                go_ret
                exact ⟨rfl, HC.out.low⟩
set_option maxRecDepth 100000 in
theorem lifted (os : Os) (started : os.Started) (H : Type) (enc : TypeId × Value → H) :
    ReturnsInHanded {} Try.checked os 5 .any (Rows.skipCopiesSpec.pre6 enc Try.prog Try.f5 Rows.skipCopiesRow.domain false) (Rows.skipCopiesSpec.post enc Try.prog Try.f5 false true false false) := by
  refine returnsInHanded_of_change (C := Try.checked) own started (by kernel_rfl) Try.func5
    (ChangeSpec.witness6 (enc := enc) (C := Try.checked) false ⟨#[], #[.slice none 0 0, .int .u8 0], []⟩ 8 (by kernel_rfl) (by kernel_rfl) (by kernel_rfl) (by kernel_rfl)) ?_
  intro W base args ds gs before hval0 hW hcnd _
  have hval : ∀ (j : Nat) t v, Try.f5.params[j]? = some t → args[j]? = some v → Value.okWide Try.prog W .any base t v := hval0
  have hW' := hW
  obtain ⟨p, q, hA0, hV, rfl, hfz, hnd⟩ := hW
  have hA : DataW.TrodAll enc Try.prog W 0 (fun _ => true) true Try.f5.params.toList args.toList ds p := hA0
  rw [Try.params5] at hA hval
  obtain ⟨v0, vs0, d0, ds0, p0, q0, hargs, rfl, rfl, h0, r0⟩ := trodAll_cons hA
  obtain ⟨v1, vs1, d1, ds1, p1, q1, rfl, rfl, rfl, h1, r1⟩ := trodAll_cons r0
  obtain ⟨rfl, rfl, rfl⟩ := trodAll_nil r1
  obtain rfl : args = #[v0, v1] := by cases args; simp_all
  obtain ⟨rfl, rfl⟩ := trodVars_none hV
  obtain ⟨a0, len0, cap0, rfl⟩ := okWide_slice Try.underlying56 (hval 0 56 v0 rfl rfl)
  have k0 := h0
  have lt0 : ∀ x ∈ p0, x.block < W.heap.size := by obtain ⟨m, hm⟩ := k0; exact DataW.trod_lt m _ _ _ hm
  obtain ⟨Z0, w0⟩ : ∃ Z, Arrs .u8 2 W a0 len0 cap0 Z := by
    obtain ⟨fuel, hf⟩ := h0
    exact open_arrs Try.underlying56 Try.underlying57 Try.underlying5 (by kernel_rfl) (by kernel_rfl) (by omega) (by simpa [Value.cells] using hf)
  obtain ⟨a1, rfl, rfl, rfl, w1⟩ := open_int Try.underlying5 (hval 1 5 v1 rfl rfl) h1
  clear hA0 hval0
  refine (walk a0 len0 cap0 Z0 a1 W w0 w1).mono fun e W' ⟨he, bel⟩ => ?_
  subst he
  exact ⟨_, rfl, _, _, _, [], _, [], hW', trodAll_mk1 (shut_bool Try.underlying4 _), (trodAll_cons_mk (Below.trod laidOut (by kernel_rfl) (of_decide_eq_true (by kernel_rfl)) k0 bel lt0) (trodAll_cons_mk (shut_int Try.underlying5 w1) trodAll_mk0)), rfl, bel.frame _, fun h => by cases h⟩

theorem over : Rows.skipCopiesRow.holds Try.pinned (OpenSpec.ofChange Rows.skipCopiesSpec) :=
  OpenClaim.holds_of_wide 5 Try.f5 rfl rfl rfl rfl rfl rfl rfl ⟨rfl, rfl, rfl, rfl, rfl⟩ rfl rfl rfl rfl rfl (by kernel_rfl) Try.func5 (by kernel_rfl)
    (of_decide_eq_true (by kernel_rfl)) (by unfold Func.isWrapper; first | (rw [if_pos (by decide +kernel)]; kernel_rfl) | (rw [if_neg (by decide +kernel)]; exact ⟨rfl, rfl⟩))
    (fun os started H enc _ => lifted os started H enc)

theorem proved : Rows.SkipCopiesSaid := over
#print axioms proved
end Go.Proofs.Ytpbcndbmmphngaa.skipCopies
