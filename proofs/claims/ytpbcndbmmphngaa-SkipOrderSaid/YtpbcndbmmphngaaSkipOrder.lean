/- SkipOrder: at most four epochs are kept alike in whatever order they were put; dropped again, nothing is. No condition. -/
import Derived.Test.YtpbcndbmmphngaaRows
import Derived.Test.YtpbcndbmmphngaaEnI
import Derived.WalkKit
import Derived.ProofKit
import Derived.OpenShut
import Derived.ShutString
import Derived.ChangeOld
import Derived.Below
namespace Go.Proofs.Ytpbcndbmmphngaa.skipOrder
open Go.ChangeShapes Go.WideShapes Go.ChangeAt Go.RowKit
open Go.ChangeMaps (open_string shut_string)
open Go.Proofs.Ytpbcndbmmphngaa
set_option linter.unusedVariables false
set_option linter.unusedSimpArgs false
set_option maxRecDepth 20000

theorem own : ownKnob Try.prog.godebug = none := by kernel_rfl
theorem laidOut : laidOutB Try.prog = true := by kernel_rfl

set_option maxHeartbeats 4000000 in
set_option maxRecDepth 100000 in
theorem walk (a0 : Option Addr) (len0 cap0 : Nat) (zs0 : List Int) (w : World) (w0 : IsRow .i64 w a0 len0 cap0 zs0) :
    Calls Try.prog 6 #[.slice a0 len0 cap0] w fun e w' => e = .returned (.bool true) ∧ Below w.heap.size w w' := by
  obtain ⟨ks, hln, hr, hw, _⟩ := w0.row
  have hm0 : len0 ≤ 9223372036854775807 := by have := hr.len; omega
  obtain ⟨n, hn⟩ : ∃ n, min len0 4 = n := ⟨_, rfl⟩
  obtain ⟨L, hL⟩ : ∃ L, ks.take n = L := ⟨_, rfl⟩
  have hLn : L.length = n := by rw [← hL]; simp; omega
  have HLN := Lib.hid hLn
  have HCELL : Hid (∀ j, j < n → ∃ b f, a0 = some ⟨b, f, none⟩ ∧ ∀ W, Below w.heap.size w W → W.cell? ⟨b, f + j, none⟩ = some (.int .i64 (L.getD j 0))) := Lib.hid (fun j hj => by
    obtain ⟨q1, q2, bk, off, q3⟩ := hr
    obtain ⟨hqa, hc⟩ := q3 j (by omega)
    refine ⟨bk, off, hqa, fun W hb => ?_⟩
    rw [(hb.cell (block_lt_of_cell hc)).trans hc, ← hL]
    simp [List.getD_eq_getElem?_getD, List.getElem?_take, hj])
  have HN4 : Hid (n ≤ 4 ∧ n ≤ len0) := Lib.hid (by omega)
  have bn : (n : Int) ≤ 4 := by omega
  have bn2 : (n : Int) ≤ (len0 : Int) := by omega
  have m0 : min (len0 : Int) 4 = (n : Int) := by omega
  have m1 : (if (4 : Int) < (len0 : Int) then (4 : Int) else (len0 : Int)) = (n : Int) := by split <;> omega
  have m2 : (if (len0 : Int) < (4 : Int) then (len0 : Int) else (4 : Int)) = (n : Int) := by split <;> omega
  have HC := Lib.hid (((Bx.start w).box #[.slice none 0 0] 26).box #[.slice none 0 0] 26)
  clear w0 hr hw hL hLn hn hln
  go_enter Try.func6, Try.ntmps6
  go_upto_region 2 with fail
  rw [World.size_alloc] at HC
  generalize hwd : ((w.alloc (.cells #[.slice none 0 0] 26 : Obj)).alloc (.cells #[.slice none 0 0] 26 : Obj)) = wa at HC ⊢
  obtain ⟨BB, hB2⟩ : ∃ B, w.heap.size + 1 = B := ⟨_, rfl⟩
  obtain ⟨BA, hB1⟩ : ∃ B, w.heap.size = B := ⟨_, rfl⟩
  rw [hB2] at HC ⊢
  have HC : Hid (Bx w ([] ++ ([] ++ [((BB, (.cells #[.slice none 0 0] 26 (0, 0) : Obj)) : Nat × Obj), ((BA, (.cells #[.slice none 0 0] 26 (0, 0) : Obj)) : Nat × Obj)])) wa) := Lib.hid (by have := HC.out; rw [hB1] at this; exact this)
  have HB : Hid (w.heap.size ≤ BA ∧ BA < BB) := Lib.hid (by omega)
  rw [show w.heap.size = BA from hB1]
  clear hwd hB2
  go_wp2_with fail
  clear m0 m1 m2
  go_loopg [6] n (fun gk s6 wr => ∃ (i : Nat) (fa fb : List En) (aa : Option Addr) (na ca : Nat) (ab : Option Addr) (nb cb : Nat) (rsa rsb : List (Nat × Obj)), i + gk = n ∧ s6 = .int .i64 (i : Nat) ∧ Hid (Of7 fa (L.take i)) ∧ Hid (Of7 fb (L.reverse.take i)) ∧ Hid (OkE fa ∧ OkE fb) ∧ Hid (na = fa.length ∧ nb = fb.length) ∧ Hid (Bx w (rsa ++ (rsb ++ [((BB, (.cells #[.slice ab nb cb] 26 (0, 0) : Obj)) : Nat × Obj), ((BA, (.cells #[.slice aa na ca] 26 (0, 0) : Obj)) : Nat × Obj)])) wr) ∧ Hid (∀ k o, (k, o) ∈ rsa → k ≠ BA ∧ k ≠ BB) ∧ Hid (∀ k o, (k, o) ∈ rsb → k ≠ BA ∧ k ≠ BB) ∧ Hid (∀ u : World, (∀ k o, (k, o) ∈ rsa → u.heap[k]? = some o) → RowE u aa ca fa) ∧ Hid (∀ u : World, (∀ k o, (k, o) ∈ rsb → u.heap[k]? = some o) → RowE u ab cb fb))
  case atStart => exact ⟨0, [], [], none, 0, 0, none, 0, 0, [], [], by omega, rfl, Lib.hid (by simpa using Of7.nil), Lib.hid (by simpa using Of7.nil), Lib.hid ⟨OkE.nil, OkE.nil⟩, Lib.hid ⟨rfl, rfl⟩, HC, Lib.hid (fun k o q => by simp at q), Lib.hid (fun k o q => by simp at q), Lib.hid (fun u _ => RowE.none u), Lib.hid (fun u _ => RowE.none u)⟩
  case round =>
    clear HC
    obtain ⟨i, fa, fb, aa, na, ca, ab, nb, cb, rsa, rsb, hi, rfl, HFa, HFb, HOK, HN, HC, HDa, HDb, HRa, HRb⟩ := hrel
    by_cases h4 : i < n
    · have i1 : (i : Int) < (n : Int) := by omega
      have i2 : (i : Int) < (len0 : Int) := by omega
      have i0 : (0 : Int) ≤ (i : Int) := by omega
      obtain ⟨jb, hjb⟩ : ∃ j, n - 1 - i = j := ⟨_, rfl⟩
      have j1 : (jb : Int) < (len0 : Int) := by omega
      have j0 : (0 : Int) ≤ (jb : Int) := by omega
      have j2 : (n : Int) - 1 - (i : Int) = (jb : Int) := by omega
      obtain ⟨nn, hnn⟩ : ∃ nn, (n : Int) - 1 = nn := ⟨_, rfl⟩
      have j3 : IntKind.i64.wrap nn = nn := by simp [IntKind.wrap, IntKind.signed, IntKind.bits]; omega
      have j4 : nn - (i : Int) = (jb : Int) := by omega
      have j5 : IntKind.i64.wrap (jb : Int) = (jb : Int) := by simp [IntKind.wrap, IntKind.signed, IntKind.bits]; omega
      obtain ⟨b0, f0, ha0, hc0⟩ := HCELL.out i h4
      obtain ⟨b1, f1, ha1, hc1⟩ := HCELL.out jb (by omega)
      rw [ha0] at ha1
      injection ha1 with ha1
      injection ha1 with ha1 ha2 ha3
      subst ha1 ha2
      have hFb := HFb.out.put (L.getD jb 0) (by have := HLN.out; have := HN4.out; simp; omega)
      have hFa := HFa.out.put (L.getD i 0) (by have := HN4.out; simp; omega)
      have hLj : L.length = n := HLN.out
      rw [← take_snoc (by omega)] at hFa
      rw [show jb = L.length - 1 - i by omega, ← rev_snoc (by omega), show L.length - 1 - i = jb by omega] at hFb
      generalize L.getD i 0 = Ka at hc0 hFa
      generalize L.getD jb 0 = Kb at hc1 hFb
      obtain ⟨hpa, hfa⟩ := hFa
      obtain ⟨hpb, hfb⟩ := hFb
      have HOK2 : Hid (OkE (withE fa (mk7 Ka)) ∧ OkE (withE fb (mk7 Kb))) := Lib.hid ⟨by have := HOK.out.1.put (mk7 Ka); rw [hpa] at this; exact this, by have := HOK.out.2.put (mk7 Kb); rw [hpb] at this; exact this⟩
      generalize withE fa (mk7 Ka) = ga at hpa hfa HOK2
      generalize withE fb (mk7 Kb) = gb at hpb hfb HOK2
      have HPEa : Hid (putE fa ⟨Ka, 7, 0, 0⟩ = (ga, ⟨0, 0, 0, 0⟩, false)) := Lib.hid hpa
      have HPEb : Hid (putE fb ⟨Kb, 7, 0, 0⟩ = (gb, ⟨0, 0, 0, 0⟩, false)) := Lib.hid hpb
      have HFa2 := Lib.hid hfa
      have HFb2 := Lib.hid hfb
      have HKA := Lib.hid hc0
      have HKB := Lib.hid hc1
      obtain ⟨ma, hma⟩ : ∃ m, ga.length = m := ⟨_, rfl⟩
      obtain ⟨mb, hmb⟩ : ∃ m, gb.length = m := ⟨_, rfl⟩
      have HMa := Lib.hid hma
      have HMb := Lib.hid hmb
      have HI9 : Hid (i < n ∧ i + gk = n) := Lib.hid ⟨h4, hi⟩
      have HBW : Hid (BA < wr.heap.size ∧ BB < wr.heap.size) := Lib.hid ⟨HC.out.klt (o := (.cells #[.slice aa na ca] 26 (0, 0) : Obj)) (by simp), HC.out.klt (o := (.cells #[.slice ab nb cb] 26 (0, 0) : Obj)) (by simp)⟩
      subst ha0
      clear hpa hpb hfa hfb hc0 hc1 hma hmb hi h4 hLj ha3 hjb
      obtain ⟨BS, hM, hB⟩ : ∃ BS, (((BA, (.cells #[.slice aa na ca] 26 (0, 0) : Obj)) : Nat × Obj) ∈ BS ∧ ((BB, (.cells #[.slice ab nb cb] 26 (0, 0) : Obj)) : Nat × Obj) ∈ BS ∧ (∀ k o, (k, o) ∈ rsa → (k, o) ∈ BS) ∧ (∀ k o, (k, o) ∈ rsb → (k, o) ∈ BS)) ∧ Bx w BS wr := ⟨_, ⟨by simp, by simp, fun k o q => by simp [q], fun k o q => by simp [q]⟩, HC.out⟩
      have HM := Lib.hid hM
      have HCK := Lib.hid hB
      clear hM hB HC
      go_upto_region 6 with fail
      go_cut [7, 8, 9] from 27 to 62 (fun s7 s8 s9 wx => ∃ (p : Nat) (rs1 : List (Nat × Obj)) (a1 : Option Addr) (c1 : Nat), s7 = .pointer (some ⟨p, 0, none⟩) ∧ s9 = .bool false ∧ Hid (Bx w (((p, (.cells #[.slice a1 ma c1] 26 (0, 0) : Obj)) : Nat × Obj) :: (rs1 ++ BS)) wx) ∧ Hid (∀ k o, (k, o) ∈ rs1 → wr.heap.size ≤ k) ∧ Hid (wr.heap.size ≤ p) ∧ Hid (∀ u : World, (∀ k o, (k, o) ∈ rs1 → u.heap[k]? = some o) → RowE u a1 c1 ga))
      case first =>
        refine wp_region_held_drew (S := Bx w BS) (by kernel_rfl) (HCK.out.below (drew_b wr)) (fun hHeld => ?_)
        have HC := Lib.hid hHeld
        have HW : Hid (wr.heap.size ≤ wr.drew.heap.size) := Lib.hid (by simp)
        refine wpAnyH_take (i := 0) (oi := ?o10101) (v := ?v10101) ?i10101 (by kernel_rfl) (by kernel_rfl) (by kernel_rfl) ?q10101 (Or.inl ⟨?w10101, ?y10101⟩) (by assumption) ?r10101
        case' i10101 => simp only [List.getElem?_toArray, List.getElem?_cons_succ, List.getElem?_cons_zero]
        case i10101 => rfl
        case q10101 => exact fun _ _ _ h => h
        case w10101 => kernel_rfl
        case y10101 => (intro W hSw; obtain ⟨z0, z1⟩ := cell1 (hSw.kept _ _ HM.out.1); go_simp) <;> with_reducible rfl
        try simp only [Act.put, List.setIfInBounds_toArray, List.set_cons_zero, List.set_cons_succ]
        refine wpAnyH_take (i := 1) (oi := ?o10102) (v := ?v10102) ?i10102 (by kernel_rfl) (by kernel_rfl) (by kernel_rfl) ?q10102 (Or.inl ⟨?w10102, ?y10102⟩) (by assumption) ?r10102
        case' i10102 => simp only [List.getElem?_toArray, List.getElem?_cons_succ, List.getElem?_cons_zero]
        case i10102 => rfl
        case q10102 => exact fun _ _ _ h => h
        case w10102 => kernel_rfl
        case y10102 => (intro W hSw; go_simp) <;> with_reducible rfl
        try simp only [Act.put, List.setIfInBounds_toArray, List.set_cons_zero, List.set_cons_succ]
        refine wpAnyH_take (i := 2) (oi := ?o10103) (v := ?v10103) ?i10103 (by kernel_rfl) (by kernel_rfl) (by kernel_rfl) ?q10103 (Or.inl ⟨?w10103, ?y10103⟩) (by assumption) ?r10103
        case' i10103 => simp only [List.getElem?_toArray, List.getElem?_cons_succ, List.getElem?_cons_zero]
        case i10103 => rfl
        case q10103 => exact fun _ _ _ h => h
        case w10103 => kernel_rfl
        case y10103 => (intro W hSw; go_simp) <;> with_reducible rfl
        try simp only [Act.put, List.setIfInBounds_toArray, List.set_cons_zero, List.set_cons_succ]
        refine wpAnyH_take (i := 3) (oi := ?o10104) (v := ?v10104) ?i10104 (by kernel_rfl) (by kernel_rfl) (by kernel_rfl) ?q10104 (Or.inl ⟨?w10104, ?y10104⟩) (by assumption) ?r10104
        case' i10104 => simp only [List.getElem?_toArray, List.getElem?_cons_succ, List.getElem?_cons_zero]
        case i10104 => rfl
        case q10104 => exact fun _ _ _ h => h
        case w10104 => kernel_rfl
        case y10104 => (intro W hSw; go_simp) <;> with_reducible rfl
        try simp only [Act.put, List.setIfInBounds_toArray, List.set_cons_zero, List.set_cons_succ]
        refine wpAnyH_take (i := 4) (oi := ?o10105) (v := ?v10105) ?i10105 (by kernel_rfl) (by kernel_rfl) (by kernel_rfl) ?q10105 (Or.inl ⟨?w10105, ?y10105⟩) (by assumption) ?r10105
        case' i10105 => simp only [List.getElem?_toArray, List.getElem?_cons_succ, List.getElem?_cons_zero]
        case i10105 => rfl
        case q10105 => exact fun _ _ _ h => h
        case w10105 => kernel_rfl
        case y10105 => (intro W hSw; have k0 := HKA.out _ hSw.low; go_simp) <;> with_reducible rfl
        try simp only [Act.put, List.setIfInBounds_toArray, List.set_cons_zero, List.set_cons_succ]
        refine wpAnyH_take (i := 5) (oi := ?o10106) (v := ?v10106) ?i10106 (by kernel_rfl) (by kernel_rfl) (by kernel_rfl) ?q10106 (Or.inl ⟨?w10106, ?y10106⟩) (by assumption) ?r10106
        case' i10106 => simp only [List.getElem?_toArray, List.getElem?_cons_succ, List.getElem?_cons_zero]
        case i10106 => rfl
        case q10106 => exact fun _ _ _ h => h
        case w10106 => kernel_rfl
        case y10106 => (intro W hSw; go_simp) <;> with_reducible rfl
        try simp only [Act.put, List.setIfInBounds_toArray, List.set_cons_zero, List.set_cons_succ]
        generalize hwS : wr.drew = wS at hHeld HC HW ⊢
        clear hwS
        refine wpAnyH_ready (rs := [6, 11, 12]) (by kernel_rfl) (by simp) ?_
        refine AllReadyH.cons (o := ?t1_1o0) ?t1_1i0 (fun K' hK => ?_) (AllReadyH.cons (o := ?t1_1o1) ?t1_1i1 (fun K' hK => ?_) (AllReadyH.cons (o := ?t1_1o2) ?t1_1i2 (fun K' hK => ?_) AllReadyH.nil))
        case' t1_1i0 => simp only [List.getElem?_toArray, List.getElem?_cons_succ, List.getElem?_cons_zero]
        case t1_1i0 => rfl
        case' t1_1i1 => simp only [List.getElem?_toArray, List.getElem?_cons_succ, List.getElem?_cons_zero]
        case t1_1i1 => rfl
        case' t1_1i2 => simp only [List.getElem?_toArray, List.getElem?_cons_succ, List.getElem?_cons_zero]
        case t1_1i2 => rfl
        · go_simp
          go_at_call 10
          refine (HC.out.pput (fs := fa) HN.out.1 (HRa.out _ (fun k o q => hHeld.kept k o (HM.out.2.2.1 k o q))) HOK.out.1 (gs := ga) (ep := Ka) (key := 7) (nx := 0) (bt := 0) (gp := 0) (gk := 0) (gn := 0) (gb := 0) (is := false) HPEa.out (m := ma) HMa.out).mono ?_
          rintro e w501 ⟨rs1, a1, c1, rfl, hc, hr, hd, hz⟩
          have HDn : Hid (∀ k o, (k, o) ∈ rs1 → wS.heap.size ≤ k) := Lib.hid hd
          have HR1 := Lib.hid hr
          have HD1 : Hid (∀ k o, (k, o) ∈ rs1 → wr.heap.size ≤ k) := Lib.hid (fun k o q => by have h1 := HDn.out k o q; have h2 := HW.out; omega)
          replace HW : Hid (wr.heap.size ≤ w501.heap.size) := Lib.hid (by have := HW.out; omega)
          replace HC := Lib.hid hc
          clear hc hz hr hd HDn
          go_wp2_with fail
          refine hK.out _ _ (HC.out.less (fun x hx => by simp [hx])) (fun hHeld => ?_)
          clear hK K'
          try simp only [Act.put, List.setIfInBounds_toArray, List.set_cons_zero, List.set_cons_succ]
          have HK1 : Hid (∀ k o, (k, o) ∈ rs1 → w501.heap[k]? = some o) := Lib.hid (fun k o q => HC.out.kept k o (by simp [q]))
          refine wpAnyH_take (i := 7) (oi := ?o12051) (v := ?v12051) ?i12051 (by kernel_rfl) (by kernel_rfl) (by kernel_rfl) ?q12051 (Or.inl ⟨?w12051, ?y12051⟩) (by assumption) ?r12051
          case' i12051 => simp only [List.getElem?_toArray, List.getElem?_cons_succ, List.getElem?_cons_zero]
          case i12051 => rfl
          case q12051 => exact fun _ _ _ h => h
          case w12051 => kernel_rfl
          case y12051 => (intro W hSw; go_simp) <;> with_reducible rfl
          try simp only [Act.put, List.setIfInBounds_toArray, List.set_cons_zero, List.set_cons_succ]
          refine wpAnyH_take (i := 8) (oi := ?o12052) (v := ?v12052) ?i12052 (by kernel_rfl) (by kernel_rfl) (by kernel_rfl) ?q12052 (Or.inl ⟨?w12052, ?y12052⟩) (by assumption) ?r12052
          case' i12052 => simp only [List.getElem?_toArray, List.getElem?_cons_succ, List.getElem?_cons_zero]
          case i12052 => rfl
          case q12052 => exact fun _ _ _ h => h
          case w12052 => kernel_rfl
          case y12052 => (intro W hSw; go_simp) <;> with_reducible rfl
          try simp only [Act.put, List.setIfInBounds_toArray, List.set_cons_zero, List.set_cons_succ]
          refine wpAnyH_take (i := 9) (oi := ?o12053) (v := ?v12053) ?i12053 (by kernel_rfl) (by kernel_rfl) (by kernel_rfl) ?q12053 (Or.inl ⟨?w12053, ?y12053⟩) (by assumption) ?r12053
          case' i12053 => simp only [List.getElem?_toArray, List.getElem?_cons_succ, List.getElem?_cons_zero]
          case i12053 => rfl
          case q12053 => exact fun _ _ _ h => h
          case w12053 => kernel_rfl
          case y12053 => (intro W hSw; go_simp) <;> with_reducible rfl
          try simp only [Act.put, List.setIfInBounds_toArray, List.set_cons_zero, List.set_cons_succ]
          refine wpAnyH_take (i := 10) (oi := ?o12054) (v := ?v12054) ?i12054 (by kernel_rfl) (by kernel_rfl) (by kernel_rfl) ?q12054 (Or.inl ⟨?w12054, ?y12054⟩) (by assumption) ?r12054
          case' i12054 => simp only [List.getElem?_toArray, List.getElem?_cons_succ, List.getElem?_cons_zero]
          case i12054 => rfl
          case q12054 => exact fun _ _ _ h => h
          case w12054 => kernel_rfl
          case y12054 => (intro W hSw; go_simp) <;> with_reducible rfl
          try simp only [Act.put, List.setIfInBounds_toArray, List.set_cons_zero, List.set_cons_succ]
          refine wpAnyH_ready (rs := [11, 12]) (by kernel_rfl) (by simp) ?_
          refine AllReadyH.cons (o := ?t1_2o0) ?t1_2i0 (fun K' hK => ?_) (AllReadyH.cons (o := ?t1_2o1) ?t1_2i1 (fun K' hK => ?_) AllReadyH.nil)
          case' t1_2i0 => simp only [List.getElem?_toArray, List.getElem?_cons_succ, List.getElem?_cons_zero]
          case t1_2i0 => rfl
          case' t1_2i1 => simp only [List.getElem?_toArray, List.getElem?_cons_succ, List.getElem?_cons_zero]
          case t1_2i1 => rfl
          · go_simp
            replace HC := Lib.hid (HC.out.box #[.slice none 0 0] 26)
            have HS : Hid (wr.heap.size ≤ w501.heap.size ∧ w501.heap.size < (w501.alloc (.cells #[.slice none 0 0] 26 : Obj)).heap.size) := Lib.hid ⟨HW.out, by simp⟩
            have HNp : Hid (∀ k o, (k, o) ∈ rs1 → k ≠ w501.heap.size) := Lib.hid (fun k o q => by have h1 := blk_lt (HK1.out k o q); omega)
            refine hK.out _ _ (HC.out.less (fun x hx => by simp [hx])) (fun hHeld => ?_)
            clear hK K'
            try simp only [Act.put, List.setIfInBounds_toArray, List.set_cons_zero, List.set_cons_succ]
            generalize hwd : (w501.alloc (.cells #[.slice none 0 0] 26 : Obj)) = w502 at hHeld HC HS HNp ⊢
            generalize hwe : w501.heap.size = p at HC HS HNp ⊢
            have HBp : Hid (wr.heap.size ≤ p) := Lib.hid HS.out.1
            have HLp : Hid (p < w502.heap.size) := Lib.hid HS.out.2
            replace HW : Hid (wr.heap.size ≤ w502.heap.size) := Lib.hid (by have h1 := HS.out.1; have h2 := HS.out.2; omega)
            clear hwd hwe HS
            replace HK1 : Hid (∀ k o, (k, o) ∈ rs1 → w502.heap[k]? = some o) := Lib.hid (fun k o q => HC.out.kept k o (by simp [q]))
            refine wpAnyH_ready (rs := [12]) (by kernel_rfl) (by simp) ?_
            refine AllReadyH.cons (o := ?t1_3o0) ?t1_3i0 (fun K' hK => ?_) AllReadyH.nil
            case' t1_3i0 => simp only [List.getElem?_toArray, List.getElem?_cons_succ, List.getElem?_cons_zero]
            case t1_3i0 => rfl
            go_simp
            replace HC := Lib.hid (HC.out.box #[.int .i64 0, .int .i64 0, .int .u64 0, .int .u64 0] 33)
            have HS : Hid (wr.heap.size ≤ w502.heap.size ∧ w502.heap.size < (w502.alloc (.cells #[.int .i64 0, .int .i64 0, .int .u64 0, .int .u64 0] 33 : Obj)).heap.size) := Lib.hid ⟨HW.out, by simp⟩
            have HNq : Hid (∀ k o, (k, o) ∈ rs1 → k ≠ w502.heap.size) := Lib.hid (fun k o q => by have h1 := blk_lt (HK1.out k o q); omega)
            have HEqp : Hid (w502.heap.size ≠ p) := Lib.hid (by have := HLp.out; omega)
            replace HLp : Hid (p < (w502.alloc (.cells #[.int .i64 0, .int .i64 0, .int .u64 0, .int .u64 0] 33 : Obj)).heap.size) := Lib.hid (by have := HLp.out; have := HS.out; omega)
            refine hK.out _ _ (HC.out.less (fun x hx => by simp [hx])) (fun hHeld => ?_)
            clear hK K'
            try simp only [Act.put, List.setIfInBounds_toArray, List.set_cons_zero, List.set_cons_succ]
            generalize hwd : (w502.alloc (.cells #[.int .i64 0, .int .i64 0, .int .u64 0, .int .u64 0] 33 : Obj)) = w503 at hHeld HC HS HNq HEqp HLp ⊢
            generalize hwe : w502.heap.size = q at HC HS HNq HEqp HLp ⊢
            have HBq : Hid (wr.heap.size ≤ q) := Lib.hid HS.out.1
            have HLq : Hid (q < w503.heap.size) := Lib.hid HS.out.2
            replace HW : Hid (wr.heap.size ≤ w503.heap.size) := Lib.hid (by have h1 := HS.out.1; have h2 := HS.out.2; omega)
            clear hwd hwe HS
            have HEpq : Hid (p ≠ q) := Lib.hid HEqp.out.symm
            replace HK1 : Hid (∀ k o, (k, o) ∈ rs1 → w503.heap[k]? = some o) := Lib.hid (fun k o q => HC.out.kept k o (by simp [q]))
            replace HC : Hid (Bx w (((p, (.cells #[.slice none 0 0] 26 (0, 0) : Obj)) : Nat × Obj) :: ((q, (.cells #[.int .i64 0, .int .i64 0, .int .u64 0, .int .u64 0] 33 (0, 0) : Obj)) : Nat × Obj) :: (rs1 ++ BS)) w503) := Lib.hid (HC.out.less (fun x hx => by simp only [List.mem_cons, List.mem_append] at hx ⊢; rcases hx with h | h | h | h <;> simp [h]))
            refine wpAnyH_ready (rs := [13]) (by kernel_rfl) (by simp) ?_
            refine AllReadyH.cons (o := ?t1_4o0) ?t1_4i0 (fun K' hK => ?_) AllReadyH.nil
            case' t1_4i0 => simp only [List.getElem?_toArray, List.getElem?_cons_succ, List.getElem?_cons_zero]
            case t1_4i0 => rfl
            obtain ⟨z0, z1⟩ := cell1 (HC.out.kept p (.cells #[.slice none 0 0] 26 (0, 0) : Obj) (by simp))
            go_simp
            clear z0 z1
            replace HC := Lib.hid (HC.out.set1 (B := p) (x := .slice none 0 0) (T := 26) (by simp) (Nat.le_trans HCK.out.low.size HBp.out) (.slice a1 ma c1) (bs' := ((p, (.cells #[.slice a1 ma c1] 26 (0, 0) : Obj)) : Nat × Obj) :: ((q, (.cells #[.int .i64 0, .int .i64 0, .int .u64 0, .int .u64 0] 33 (0, 0) : Obj)) : Nat × Obj) :: (rs1 ++ BS)) (fun z hz => by
              rcases List.mem_cons.1 hz with e | e
              · exact .inl e
              ·
                rcases List.mem_cons.1 e with e | e
                · exact .inr ⟨by simp [e], by rw [e]; exact HEqp.out⟩
                ·
                  rcases List.mem_append.1 e with e | e
                  · exact .inr ⟨by simp [e], HNp.out z.1 z.2 e⟩
                  ·
                    exact .inr ⟨by simp [e], fun e2 => by have h1 := HCK.out.klt (k := z.1) (o := z.2) e; have h2 := HBp.out; omega⟩))
            refine hK.out _ _ (HC.out.less (fun x hx => by simp [hx])) (fun hHeld => ?_)
            clear hK K'
            try simp only [Act.put, List.setIfInBounds_toArray, List.set_cons_zero, List.set_cons_succ]
            refine wpAnyH_ready (rs := [14]) (by kernel_rfl) (by simp) ?_
            refine AllReadyH.cons (o := ?t1_5o0) ?t1_5i0 (fun K' hK => ?_) AllReadyH.nil
            case' t1_5i0 => simp only [List.getElem?_toArray, List.getElem?_cons_succ, List.getElem?_cons_zero]
            case t1_5i0 => rfl
            obtain ⟨z0, z1, z2, z3, z4, z5, z6, z7⟩ := cells4 (HC.out.kept q (.cells #[.int .i64 0, .int .i64 0, .int .u64 0, .int .u64 0] 33 (0, 0) : Obj) (by simp))
            go_simp
            clear z0 z1 z2 z3 z4 z5 z6 z7
            replace HC := Lib.hid (HC.out.set4 (B := q) (x := .int .i64 0) (y := .int .i64 0) (z := .int .u64 0) (q := .int .u64 0) (T := 33) (by simp) (Nat.le_trans HCK.out.low.size HBq.out) (.int .i64 0) (.int .i64 0) (.int .u64 0) (.int .u64 0) (bs' := ((p, (.cells #[.slice a1 ma c1] 26 (0, 0) : Obj)) : Nat × Obj) :: (rs1 ++ BS)) (fun z hz => by
              rcases List.mem_cons.1 hz with e | e
              · exact .inr ⟨by simp [e], by rw [e]; exact HEpq.out⟩
              ·
                rcases List.mem_append.1 e with e | e
                · exact .inr ⟨by simp [e], HNq.out z.1 z.2 e⟩
                ·
                  exact .inr ⟨by simp [e], fun e2 => by have h1 := HCK.out.klt (k := z.1) (o := z.2) e; have h2 := HBq.out; omega⟩))
            refine hK.out _ _ (HC.out.less (fun x hx => by simp [hx])) (fun hHeld => ?_)
            clear hK K'
            try simp only [Act.put, List.setIfInBounds_toArray, List.set_cons_zero, List.set_cons_succ]
            refine wpAnyH_take (i := 15) (oi := ?o15251) (v := ?v15251) ?i15251 (by kernel_rfl) (by kernel_rfl) (by kernel_rfl) ?q15251 (Or.inl ⟨?w15251, ?y15251⟩) (by assumption) ?r15251
            case' i15251 => simp only [List.getElem?_toArray, List.getElem?_cons_succ, List.getElem?_cons_zero]
            case i15251 => rfl
            case q15251 => exact fun _ _ _ h => h
            case w15251 => kernel_rfl
            case y15251 => (intro W hSw; go_simp) <;> with_reducible rfl
            try simp only [Act.put, List.setIfInBounds_toArray, List.set_cons_zero, List.set_cons_succ]
            refine wpAnyH_done (by kernel_rfl) ?_ _
            clear hHeld
            go_wp2_with fail
            go_meet
            exact ⟨p, rs1, a1, c1, rfl, rfl, HC, HD1, HBp, HR1⟩
          · go_simp
            replace HC := Lib.hid (HC.out.box #[.int .i64 0, .int .i64 0, .int .u64 0, .int .u64 0] 33)
            have HS : Hid (wr.heap.size ≤ w501.heap.size ∧ w501.heap.size < (w501.alloc (.cells #[.int .i64 0, .int .i64 0, .int .u64 0, .int .u64 0] 33 : Obj)).heap.size) := Lib.hid ⟨HW.out, by simp⟩
            have HNq : Hid (∀ k o, (k, o) ∈ rs1 → k ≠ w501.heap.size) := Lib.hid (fun k o q => by have h1 := blk_lt (HK1.out k o q); omega)
            refine hK.out _ _ (HC.out.less (fun x hx => by simp [hx])) (fun hHeld => ?_)
            clear hK K'
            try simp only [Act.put, List.setIfInBounds_toArray, List.set_cons_zero, List.set_cons_succ]
            generalize hwd : (w501.alloc (.cells #[.int .i64 0, .int .i64 0, .int .u64 0, .int .u64 0] 33 : Obj)) = w504 at hHeld HC HS HNq ⊢
            generalize hwe : w501.heap.size = q at HC HS HNq ⊢
            have HBq : Hid (wr.heap.size ≤ q) := Lib.hid HS.out.1
            have HLq : Hid (q < w504.heap.size) := Lib.hid HS.out.2
            replace HW : Hid (wr.heap.size ≤ w504.heap.size) := Lib.hid (by have h1 := HS.out.1; have h2 := HS.out.2; omega)
            clear hwd hwe HS
            replace HK1 : Hid (∀ k o, (k, o) ∈ rs1 → w504.heap[k]? = some o) := Lib.hid (fun k o q => HC.out.kept k o (by simp [q]))
            refine wpAnyH_ready (rs := [11]) (by kernel_rfl) (by simp) ?_
            refine AllReadyH.cons (o := ?t1_6o0) ?t1_6i0 (fun K' hK => ?_) AllReadyH.nil
            case' t1_6i0 => simp only [List.getElem?_toArray, List.getElem?_cons_succ, List.getElem?_cons_zero]
            case t1_6i0 => rfl
            go_simp
            replace HC := Lib.hid (HC.out.box #[.slice none 0 0] 26)
            have HS : Hid (wr.heap.size ≤ w504.heap.size ∧ w504.heap.size < (w504.alloc (.cells #[.slice none 0 0] 26 : Obj)).heap.size) := Lib.hid ⟨HW.out, by simp⟩
            have HNp : Hid (∀ k o, (k, o) ∈ rs1 → k ≠ w504.heap.size) := Lib.hid (fun k o q => by have h1 := blk_lt (HK1.out k o q); omega)
            have HEpq : Hid (w504.heap.size ≠ q) := Lib.hid (by have := HLq.out; omega)
            replace HLq : Hid (q < (w504.alloc (.cells #[.slice none 0 0] 26 : Obj)).heap.size) := Lib.hid (by have := HLq.out; have := HS.out; omega)
            refine hK.out _ _ (HC.out.less (fun x hx => by simp [hx])) (fun hHeld => ?_)
            clear hK K'
            try simp only [Act.put, List.setIfInBounds_toArray, List.set_cons_zero, List.set_cons_succ]
            generalize hwd : (w504.alloc (.cells #[.slice none 0 0] 26 : Obj)) = w505 at hHeld HC HS HNp HEpq HLq ⊢
            generalize hwe : w504.heap.size = p at HC HS HNp HEpq HLq ⊢
            have HBp : Hid (wr.heap.size ≤ p) := Lib.hid HS.out.1
            have HLp : Hid (p < w505.heap.size) := Lib.hid HS.out.2
            replace HW : Hid (wr.heap.size ≤ w505.heap.size) := Lib.hid (by have h1 := HS.out.1; have h2 := HS.out.2; omega)
            clear hwd hwe HS
            have HEqp : Hid (q ≠ p) := Lib.hid HEpq.out.symm
            replace HK1 : Hid (∀ k o, (k, o) ∈ rs1 → w505.heap[k]? = some o) := Lib.hid (fun k o q => HC.out.kept k o (by simp [q]))
            replace HC : Hid (Bx w (((p, (.cells #[.slice none 0 0] 26 (0, 0) : Obj)) : Nat × Obj) :: ((q, (.cells #[.int .i64 0, .int .i64 0, .int .u64 0, .int .u64 0] 33 (0, 0) : Obj)) : Nat × Obj) :: (rs1 ++ BS)) w505) := Lib.hid (HC.out.less (fun x hx => by simp only [List.mem_cons, List.mem_append] at hx ⊢; rcases hx with h | h | h | h <;> simp [h]))
            refine wpAnyH_ready (rs := [13]) (by kernel_rfl) (by simp) ?_
            refine AllReadyH.cons (o := ?t1_7o0) ?t1_7i0 (fun K' hK => ?_) AllReadyH.nil
            case' t1_7i0 => simp only [List.getElem?_toArray, List.getElem?_cons_succ, List.getElem?_cons_zero]
            case t1_7i0 => rfl
            obtain ⟨z0, z1⟩ := cell1 (HC.out.kept p (.cells #[.slice none 0 0] 26 (0, 0) : Obj) (by simp))
            go_simp
            clear z0 z1
            replace HC := Lib.hid (HC.out.set1 (B := p) (x := .slice none 0 0) (T := 26) (by simp) (Nat.le_trans HCK.out.low.size HBp.out) (.slice a1 ma c1) (bs' := ((p, (.cells #[.slice a1 ma c1] 26 (0, 0) : Obj)) : Nat × Obj) :: ((q, (.cells #[.int .i64 0, .int .i64 0, .int .u64 0, .int .u64 0] 33 (0, 0) : Obj)) : Nat × Obj) :: (rs1 ++ BS)) (fun z hz => by
              rcases List.mem_cons.1 hz with e | e
              · exact .inl e
              ·
                rcases List.mem_cons.1 e with e | e
                · exact .inr ⟨by simp [e], by rw [e]; exact HEqp.out⟩
                ·
                  rcases List.mem_append.1 e with e | e
                  · exact .inr ⟨by simp [e], HNp.out z.1 z.2 e⟩
                  ·
                    exact .inr ⟨by simp [e], fun e2 => by have h1 := HCK.out.klt (k := z.1) (o := z.2) e; have h2 := HBp.out; omega⟩))
            refine hK.out _ _ (HC.out.less (fun x hx => by simp [hx])) (fun hHeld => ?_)
            clear hK K'
            try simp only [Act.put, List.setIfInBounds_toArray, List.set_cons_zero, List.set_cons_succ]
            refine wpAnyH_ready (rs := [14]) (by kernel_rfl) (by simp) ?_
            refine AllReadyH.cons (o := ?t1_8o0) ?t1_8i0 (fun K' hK => ?_) AllReadyH.nil
            case' t1_8i0 => simp only [List.getElem?_toArray, List.getElem?_cons_succ, List.getElem?_cons_zero]
            case t1_8i0 => rfl
            obtain ⟨z0, z1, z2, z3, z4, z5, z6, z7⟩ := cells4 (HC.out.kept q (.cells #[.int .i64 0, .int .i64 0, .int .u64 0, .int .u64 0] 33 (0, 0) : Obj) (by simp))
            go_simp
            clear z0 z1 z2 z3 z4 z5 z6 z7
            replace HC := Lib.hid (HC.out.set4 (B := q) (x := .int .i64 0) (y := .int .i64 0) (z := .int .u64 0) (q := .int .u64 0) (T := 33) (by simp) (Nat.le_trans HCK.out.low.size HBq.out) (.int .i64 0) (.int .i64 0) (.int .u64 0) (.int .u64 0) (bs' := ((p, (.cells #[.slice a1 ma c1] 26 (0, 0) : Obj)) : Nat × Obj) :: (rs1 ++ BS)) (fun z hz => by
              rcases List.mem_cons.1 hz with e | e
              · exact .inr ⟨by simp [e], by rw [e]; exact HEpq.out⟩
              ·
                rcases List.mem_append.1 e with e | e
                · exact .inr ⟨by simp [e], HNq.out z.1 z.2 e⟩
                ·
                  exact .inr ⟨by simp [e], fun e2 => by have h1 := HCK.out.klt (k := z.1) (o := z.2) e; have h2 := HBq.out; omega⟩))
            refine hK.out _ _ (HC.out.less (fun x hx => by simp [hx])) (fun hHeld => ?_)
            clear hK K'
            try simp only [Act.put, List.setIfInBounds_toArray, List.set_cons_zero, List.set_cons_succ]
            refine wpAnyH_take (i := 15) (oi := ?o15401) (v := ?v15401) ?i15401 (by kernel_rfl) (by kernel_rfl) (by kernel_rfl) ?q15401 (Or.inl ⟨?w15401, ?y15401⟩) (by assumption) ?r15401
            case' i15401 => simp only [List.getElem?_toArray, List.getElem?_cons_succ, List.getElem?_cons_zero]
            case i15401 => rfl
            case q15401 => exact fun _ _ _ h => h
            case w15401 => kernel_rfl
            case y15401 => (intro W hSw; go_simp) <;> with_reducible rfl
            try simp only [Act.put, List.setIfInBounds_toArray, List.set_cons_zero, List.set_cons_succ]
            refine wpAnyH_done (by kernel_rfl) ?_ _
            clear hHeld
            go_wp2_with fail
            go_meet
            exact ⟨p, rs1, a1, c1, rfl, rfl, HC, HD1, HBp, HR1⟩
        · go_simp
          replace HC := Lib.hid (HC.out.box #[.slice none 0 0] 26)
          have HS : Hid (wr.heap.size ≤ wS.heap.size ∧ wS.heap.size < (wS.alloc (.cells #[.slice none 0 0] 26 : Obj)).heap.size) := Lib.hid ⟨HW.out, by simp⟩
          refine hK.out _ _ (HC.out.less (fun x hx => by simp [hx])) (fun hHeld => ?_)
          clear hK K'
          try simp only [Act.put, List.setIfInBounds_toArray, List.set_cons_zero, List.set_cons_succ]
          generalize hwd : (wS.alloc (.cells #[.slice none 0 0] 26 : Obj)) = w506 at hHeld HC HS ⊢
          generalize hwe : wS.heap.size = p at HC HS ⊢
          have HBp : Hid (wr.heap.size ≤ p) := Lib.hid HS.out.1
          have HLp : Hid (p < w506.heap.size) := Lib.hid HS.out.2
          replace HW : Hid (wr.heap.size ≤ w506.heap.size) := Lib.hid (by have h1 := HS.out.1; have h2 := HS.out.2; omega)
          clear hwd hwe HS
          refine wpAnyH_ready (rs := [6, 12]) (by kernel_rfl) (by simp) ?_
          refine AllReadyH.cons (o := ?t1_9o0) ?t1_9i0 (fun K' hK => ?_) (AllReadyH.cons (o := ?t1_9o1) ?t1_9i1 (fun K' hK => ?_) AllReadyH.nil)
          case' t1_9i0 => simp only [List.getElem?_toArray, List.getElem?_cons_succ, List.getElem?_cons_zero]
          case t1_9i0 => rfl
          case' t1_9i1 => simp only [List.getElem?_toArray, List.getElem?_cons_succ, List.getElem?_cons_zero]
          case t1_9i1 => rfl
          · go_simp
            go_at_call 10
            refine (HC.out.pput (fs := fa) HN.out.1 (HRa.out _ (fun k o q => hHeld.kept k o (HM.out.2.2.1 k o q))) HOK.out.1 (gs := ga) (ep := Ka) (key := 7) (nx := 0) (bt := 0) (gp := 0) (gk := 0) (gn := 0) (gb := 0) (is := false) HPEa.out (m := ma) HMa.out).mono ?_
            rintro e w507 ⟨rs1, a1, c1, rfl, hc, hr, hd, hz⟩
            have HDn : Hid (∀ k o, (k, o) ∈ rs1 → w506.heap.size ≤ k) := Lib.hid hd
            have HR1 := Lib.hid hr
            have HNp : Hid (∀ k o, (k, o) ∈ rs1 → k ≠ p) := Lib.hid (fun k o q => by have h1 := HDn.out k o q; have h2 := HLp.out; omega)
            replace HLp : Hid (p < w507.heap.size) := Lib.hid (by have := HLp.out; omega)
            have HD1 : Hid (∀ k o, (k, o) ∈ rs1 → wr.heap.size ≤ k) := Lib.hid (fun k o q => by have h1 := HDn.out k o q; have h2 := HW.out; omega)
            replace HW : Hid (wr.heap.size ≤ w507.heap.size) := Lib.hid (by have := HW.out; omega)
            replace HC := Lib.hid hc
            clear hc hz hr hd HDn
            go_wp2_with fail
            refine hK.out _ _ (HC.out.less (fun x hx => by simp [hx])) (fun hHeld => ?_)
            clear hK K'
            try simp only [Act.put, List.setIfInBounds_toArray, List.set_cons_zero, List.set_cons_succ]
            have HK1 : Hid (∀ k o, (k, o) ∈ rs1 → w507.heap[k]? = some o) := Lib.hid (fun k o q => HC.out.kept k o (by simp [q]))
            refine wpAnyH_take (i := 7) (oi := ?o12451) (v := ?v12451) ?i12451 (by kernel_rfl) (by kernel_rfl) (by kernel_rfl) ?q12451 (Or.inl ⟨?w12451, ?y12451⟩) (by assumption) ?r12451
            case' i12451 => simp only [List.getElem?_toArray, List.getElem?_cons_succ, List.getElem?_cons_zero]
            case i12451 => rfl
            case q12451 => exact fun _ _ _ h => h
            case w12451 => kernel_rfl
            case y12451 => (intro W hSw; go_simp) <;> with_reducible rfl
            try simp only [Act.put, List.setIfInBounds_toArray, List.set_cons_zero, List.set_cons_succ]
            refine wpAnyH_take (i := 8) (oi := ?o12452) (v := ?v12452) ?i12452 (by kernel_rfl) (by kernel_rfl) (by kernel_rfl) ?q12452 (Or.inl ⟨?w12452, ?y12452⟩) (by assumption) ?r12452
            case' i12452 => simp only [List.getElem?_toArray, List.getElem?_cons_succ, List.getElem?_cons_zero]
            case i12452 => rfl
            case q12452 => exact fun _ _ _ h => h
            case w12452 => kernel_rfl
            case y12452 => (intro W hSw; go_simp) <;> with_reducible rfl
            try simp only [Act.put, List.setIfInBounds_toArray, List.set_cons_zero, List.set_cons_succ]
            refine wpAnyH_take (i := 9) (oi := ?o12453) (v := ?v12453) ?i12453 (by kernel_rfl) (by kernel_rfl) (by kernel_rfl) ?q12453 (Or.inl ⟨?w12453, ?y12453⟩) (by assumption) ?r12453
            case' i12453 => simp only [List.getElem?_toArray, List.getElem?_cons_succ, List.getElem?_cons_zero]
            case i12453 => rfl
            case q12453 => exact fun _ _ _ h => h
            case w12453 => kernel_rfl
            case y12453 => (intro W hSw; go_simp) <;> with_reducible rfl
            try simp only [Act.put, List.setIfInBounds_toArray, List.set_cons_zero, List.set_cons_succ]
            refine wpAnyH_take (i := 10) (oi := ?o12454) (v := ?v12454) ?i12454 (by kernel_rfl) (by kernel_rfl) (by kernel_rfl) ?q12454 (Or.inl ⟨?w12454, ?y12454⟩) (by assumption) ?r12454
            case' i12454 => simp only [List.getElem?_toArray, List.getElem?_cons_succ, List.getElem?_cons_zero]
            case i12454 => rfl
            case q12454 => exact fun _ _ _ h => h
            case w12454 => kernel_rfl
            case y12454 => (intro W hSw; go_simp) <;> with_reducible rfl
            try simp only [Act.put, List.setIfInBounds_toArray, List.set_cons_zero, List.set_cons_succ]
            refine wpAnyH_ready (rs := [12]) (by kernel_rfl) (by simp) ?_
            refine AllReadyH.cons (o := ?t1_10o0) ?t1_10i0 (fun K' hK => ?_) AllReadyH.nil
            case' t1_10i0 => simp only [List.getElem?_toArray, List.getElem?_cons_succ, List.getElem?_cons_zero]
            case t1_10i0 => rfl
            go_simp
            replace HC := Lib.hid (HC.out.box #[.int .i64 0, .int .i64 0, .int .u64 0, .int .u64 0] 33)
            have HS : Hid (wr.heap.size ≤ w507.heap.size ∧ w507.heap.size < (w507.alloc (.cells #[.int .i64 0, .int .i64 0, .int .u64 0, .int .u64 0] 33 : Obj)).heap.size) := Lib.hid ⟨HW.out, by simp⟩
            have HNq : Hid (∀ k o, (k, o) ∈ rs1 → k ≠ w507.heap.size) := Lib.hid (fun k o q => by have h1 := blk_lt (HK1.out k o q); omega)
            have HEqp : Hid (w507.heap.size ≠ p) := Lib.hid (by have := HLp.out; omega)
            replace HLp : Hid (p < (w507.alloc (.cells #[.int .i64 0, .int .i64 0, .int .u64 0, .int .u64 0] 33 : Obj)).heap.size) := Lib.hid (by have := HLp.out; have := HS.out; omega)
            refine hK.out _ _ (HC.out.less (fun x hx => by simp [hx])) (fun hHeld => ?_)
            clear hK K'
            try simp only [Act.put, List.setIfInBounds_toArray, List.set_cons_zero, List.set_cons_succ]
            generalize hwd : (w507.alloc (.cells #[.int .i64 0, .int .i64 0, .int .u64 0, .int .u64 0] 33 : Obj)) = w508 at hHeld HC HS HNq HEqp HLp ⊢
            generalize hwe : w507.heap.size = q at HC HS HNq HEqp HLp ⊢
            have HBq : Hid (wr.heap.size ≤ q) := Lib.hid HS.out.1
            have HLq : Hid (q < w508.heap.size) := Lib.hid HS.out.2
            replace HW : Hid (wr.heap.size ≤ w508.heap.size) := Lib.hid (by have h1 := HS.out.1; have h2 := HS.out.2; omega)
            clear hwd hwe HS
            have HEpq : Hid (p ≠ q) := Lib.hid HEqp.out.symm
            replace HK1 : Hid (∀ k o, (k, o) ∈ rs1 → w508.heap[k]? = some o) := Lib.hid (fun k o q => HC.out.kept k o (by simp [q]))
            replace HC : Hid (Bx w (((p, (.cells #[.slice none 0 0] 26 (0, 0) : Obj)) : Nat × Obj) :: ((q, (.cells #[.int .i64 0, .int .i64 0, .int .u64 0, .int .u64 0] 33 (0, 0) : Obj)) : Nat × Obj) :: (rs1 ++ BS)) w508) := Lib.hid (HC.out.less (fun x hx => by simp only [List.mem_cons, List.mem_append] at hx ⊢; rcases hx with h | h | h | h <;> simp [h]))
            refine wpAnyH_ready (rs := [13]) (by kernel_rfl) (by simp) ?_
            refine AllReadyH.cons (o := ?t1_11o0) ?t1_11i0 (fun K' hK => ?_) AllReadyH.nil
            case' t1_11i0 => simp only [List.getElem?_toArray, List.getElem?_cons_succ, List.getElem?_cons_zero]
            case t1_11i0 => rfl
            obtain ⟨z0, z1⟩ := cell1 (HC.out.kept p (.cells #[.slice none 0 0] 26 (0, 0) : Obj) (by simp))
            go_simp
            clear z0 z1
            replace HC := Lib.hid (HC.out.set1 (B := p) (x := .slice none 0 0) (T := 26) (by simp) (Nat.le_trans HCK.out.low.size HBp.out) (.slice a1 ma c1) (bs' := ((p, (.cells #[.slice a1 ma c1] 26 (0, 0) : Obj)) : Nat × Obj) :: ((q, (.cells #[.int .i64 0, .int .i64 0, .int .u64 0, .int .u64 0] 33 (0, 0) : Obj)) : Nat × Obj) :: (rs1 ++ BS)) (fun z hz => by
              rcases List.mem_cons.1 hz with e | e
              · exact .inl e
              ·
                rcases List.mem_cons.1 e with e | e
                · exact .inr ⟨by simp [e], by rw [e]; exact HEqp.out⟩
                ·
                  rcases List.mem_append.1 e with e | e
                  · exact .inr ⟨by simp [e], HNp.out z.1 z.2 e⟩
                  ·
                    exact .inr ⟨by simp [e], fun e2 => by have h1 := HCK.out.klt (k := z.1) (o := z.2) e; have h2 := HBp.out; omega⟩))
            refine hK.out _ _ (HC.out.less (fun x hx => by simp [hx])) (fun hHeld => ?_)
            clear hK K'
            try simp only [Act.put, List.setIfInBounds_toArray, List.set_cons_zero, List.set_cons_succ]
            refine wpAnyH_ready (rs := [14]) (by kernel_rfl) (by simp) ?_
            refine AllReadyH.cons (o := ?t1_12o0) ?t1_12i0 (fun K' hK => ?_) AllReadyH.nil
            case' t1_12i0 => simp only [List.getElem?_toArray, List.getElem?_cons_succ, List.getElem?_cons_zero]
            case t1_12i0 => rfl
            obtain ⟨z0, z1, z2, z3, z4, z5, z6, z7⟩ := cells4 (HC.out.kept q (.cells #[.int .i64 0, .int .i64 0, .int .u64 0, .int .u64 0] 33 (0, 0) : Obj) (by simp))
            go_simp
            clear z0 z1 z2 z3 z4 z5 z6 z7
            replace HC := Lib.hid (HC.out.set4 (B := q) (x := .int .i64 0) (y := .int .i64 0) (z := .int .u64 0) (q := .int .u64 0) (T := 33) (by simp) (Nat.le_trans HCK.out.low.size HBq.out) (.int .i64 0) (.int .i64 0) (.int .u64 0) (.int .u64 0) (bs' := ((p, (.cells #[.slice a1 ma c1] 26 (0, 0) : Obj)) : Nat × Obj) :: (rs1 ++ BS)) (fun z hz => by
              rcases List.mem_cons.1 hz with e | e
              · exact .inr ⟨by simp [e], by rw [e]; exact HEpq.out⟩
              ·
                rcases List.mem_append.1 e with e | e
                · exact .inr ⟨by simp [e], HNq.out z.1 z.2 e⟩
                ·
                  exact .inr ⟨by simp [e], fun e2 => by have h1 := HCK.out.klt (k := z.1) (o := z.2) e; have h2 := HBq.out; omega⟩))
            refine hK.out _ _ (HC.out.less (fun x hx => by simp [hx])) (fun hHeld => ?_)
            clear hK K'
            try simp only [Act.put, List.setIfInBounds_toArray, List.set_cons_zero, List.set_cons_succ]
            refine wpAnyH_take (i := 15) (oi := ?o15601) (v := ?v15601) ?i15601 (by kernel_rfl) (by kernel_rfl) (by kernel_rfl) ?q15601 (Or.inl ⟨?w15601, ?y15601⟩) (by assumption) ?r15601
            case' i15601 => simp only [List.getElem?_toArray, List.getElem?_cons_succ, List.getElem?_cons_zero]
            case i15601 => rfl
            case q15601 => exact fun _ _ _ h => h
            case w15601 => kernel_rfl
            case y15601 => (intro W hSw; go_simp) <;> with_reducible rfl
            try simp only [Act.put, List.setIfInBounds_toArray, List.set_cons_zero, List.set_cons_succ]
            refine wpAnyH_done (by kernel_rfl) ?_ _
            clear hHeld
            go_wp2_with fail
            go_meet
            exact ⟨p, rs1, a1, c1, rfl, rfl, HC, HD1, HBp, HR1⟩
          · go_simp
            replace HC := Lib.hid (HC.out.box #[.int .i64 0, .int .i64 0, .int .u64 0, .int .u64 0] 33)
            have HS : Hid (wr.heap.size ≤ w506.heap.size ∧ w506.heap.size < (w506.alloc (.cells #[.int .i64 0, .int .i64 0, .int .u64 0, .int .u64 0] 33 : Obj)).heap.size) := Lib.hid ⟨HW.out, by simp⟩
            have HEqp : Hid (w506.heap.size ≠ p) := Lib.hid (by have := HLp.out; omega)
            replace HLp : Hid (p < (w506.alloc (.cells #[.int .i64 0, .int .i64 0, .int .u64 0, .int .u64 0] 33 : Obj)).heap.size) := Lib.hid (by have := HLp.out; have := HS.out; omega)
            refine hK.out _ _ (HC.out.less (fun x hx => by simp [hx])) (fun hHeld => ?_)
            clear hK K'
            try simp only [Act.put, List.setIfInBounds_toArray, List.set_cons_zero, List.set_cons_succ]
            generalize hwd : (w506.alloc (.cells #[.int .i64 0, .int .i64 0, .int .u64 0, .int .u64 0] 33 : Obj)) = w509 at hHeld HC HS HEqp HLp ⊢
            generalize hwe : w506.heap.size = q at HC HS HEqp HLp ⊢
            have HBq : Hid (wr.heap.size ≤ q) := Lib.hid HS.out.1
            have HLq : Hid (q < w509.heap.size) := Lib.hid HS.out.2
            replace HW : Hid (wr.heap.size ≤ w509.heap.size) := Lib.hid (by have h1 := HS.out.1; have h2 := HS.out.2; omega)
            clear hwd hwe HS
            have HEpq : Hid (p ≠ q) := Lib.hid HEqp.out.symm
            refine wpAnyH_ready (rs := [6]) (by kernel_rfl) (by simp) ?_
            refine AllReadyH.cons (o := ?t1_13o0) ?t1_13i0 (fun K' hK => ?_) AllReadyH.nil
            case' t1_13i0 => simp only [List.getElem?_toArray, List.getElem?_cons_succ, List.getElem?_cons_zero]
            case t1_13i0 => rfl
            go_simp
            go_at_call 10
            refine (HC.out.pput (fs := fa) HN.out.1 (HRa.out _ (fun k o q => hHeld.kept k o (HM.out.2.2.1 k o q))) HOK.out.1 (gs := ga) (ep := Ka) (key := 7) (nx := 0) (bt := 0) (gp := 0) (gk := 0) (gn := 0) (gb := 0) (is := false) HPEa.out (m := ma) HMa.out).mono ?_
            rintro e w510 ⟨rs1, a1, c1, rfl, hc, hr, hd, hz⟩
            have HDn : Hid (∀ k o, (k, o) ∈ rs1 → w509.heap.size ≤ k) := Lib.hid hd
            have HR1 := Lib.hid hr
            have HNp : Hid (∀ k o, (k, o) ∈ rs1 → k ≠ p) := Lib.hid (fun k o q => by have h1 := HDn.out k o q; have h2 := HLp.out; omega)
            have HNq : Hid (∀ k o, (k, o) ∈ rs1 → k ≠ q) := Lib.hid (fun k o q => by have h1 := HDn.out k o q; have h2 := HLq.out; omega)
            replace HLp : Hid (p < w510.heap.size) := Lib.hid (by have := HLp.out; omega)
            replace HLq : Hid (q < w510.heap.size) := Lib.hid (by have := HLq.out; omega)
            have HD1 : Hid (∀ k o, (k, o) ∈ rs1 → wr.heap.size ≤ k) := Lib.hid (fun k o q => by have h1 := HDn.out k o q; have h2 := HW.out; omega)
            replace HW : Hid (wr.heap.size ≤ w510.heap.size) := Lib.hid (by have := HW.out; omega)
            replace HC := Lib.hid hc
            clear hc hz hr hd HDn
            go_wp2_with fail
            refine hK.out _ _ (HC.out.less (fun x hx => by simp [hx])) (fun hHeld => ?_)
            clear hK K'
            try simp only [Act.put, List.setIfInBounds_toArray, List.set_cons_zero, List.set_cons_succ]
            have HK1 : Hid (∀ k o, (k, o) ∈ rs1 → w510.heap[k]? = some o) := Lib.hid (fun k o q => HC.out.kept k o (by simp [q]))
            refine wpAnyH_take (i := 7) (oi := ?o12651) (v := ?v12651) ?i12651 (by kernel_rfl) (by kernel_rfl) (by kernel_rfl) ?q12651 (Or.inl ⟨?w12651, ?y12651⟩) (by assumption) ?r12651
            case' i12651 => simp only [List.getElem?_toArray, List.getElem?_cons_succ, List.getElem?_cons_zero]
            case i12651 => rfl
            case q12651 => exact fun _ _ _ h => h
            case w12651 => kernel_rfl
            case y12651 => (intro W hSw; go_simp) <;> with_reducible rfl
            try simp only [Act.put, List.setIfInBounds_toArray, List.set_cons_zero, List.set_cons_succ]
            refine wpAnyH_take (i := 8) (oi := ?o12652) (v := ?v12652) ?i12652 (by kernel_rfl) (by kernel_rfl) (by kernel_rfl) ?q12652 (Or.inl ⟨?w12652, ?y12652⟩) (by assumption) ?r12652
            case' i12652 => simp only [List.getElem?_toArray, List.getElem?_cons_succ, List.getElem?_cons_zero]
            case i12652 => rfl
            case q12652 => exact fun _ _ _ h => h
            case w12652 => kernel_rfl
            case y12652 => (intro W hSw; go_simp) <;> with_reducible rfl
            try simp only [Act.put, List.setIfInBounds_toArray, List.set_cons_zero, List.set_cons_succ]
            refine wpAnyH_take (i := 9) (oi := ?o12653) (v := ?v12653) ?i12653 (by kernel_rfl) (by kernel_rfl) (by kernel_rfl) ?q12653 (Or.inl ⟨?w12653, ?y12653⟩) (by assumption) ?r12653
            case' i12653 => simp only [List.getElem?_toArray, List.getElem?_cons_succ, List.getElem?_cons_zero]
            case i12653 => rfl
            case q12653 => exact fun _ _ _ h => h
            case w12653 => kernel_rfl
            case y12653 => (intro W hSw; go_simp) <;> with_reducible rfl
            try simp only [Act.put, List.setIfInBounds_toArray, List.set_cons_zero, List.set_cons_succ]
            refine wpAnyH_take (i := 10) (oi := ?o12654) (v := ?v12654) ?i12654 (by kernel_rfl) (by kernel_rfl) (by kernel_rfl) ?q12654 (Or.inl ⟨?w12654, ?y12654⟩) (by assumption) ?r12654
            case' i12654 => simp only [List.getElem?_toArray, List.getElem?_cons_succ, List.getElem?_cons_zero]
            case i12654 => rfl
            case q12654 => exact fun _ _ _ h => h
            case w12654 => kernel_rfl
            case y12654 => (intro W hSw; go_simp) <;> with_reducible rfl
            try simp only [Act.put, List.setIfInBounds_toArray, List.set_cons_zero, List.set_cons_succ]
            replace HC : Hid (Bx w (((p, (.cells #[.slice none 0 0] 26 (0, 0) : Obj)) : Nat × Obj) :: ((q, (.cells #[.int .i64 0, .int .i64 0, .int .u64 0, .int .u64 0] 33 (0, 0) : Obj)) : Nat × Obj) :: (rs1 ++ BS)) w510) := Lib.hid (HC.out.less (fun x hx => by simp only [List.mem_cons, List.mem_append] at hx ⊢; rcases hx with h | h | h | h <;> simp [h]))
            refine wpAnyH_ready (rs := [13]) (by kernel_rfl) (by simp) ?_
            refine AllReadyH.cons (o := ?t1_14o0) ?t1_14i0 (fun K' hK => ?_) AllReadyH.nil
            case' t1_14i0 => simp only [List.getElem?_toArray, List.getElem?_cons_succ, List.getElem?_cons_zero]
            case t1_14i0 => rfl
            obtain ⟨z0, z1⟩ := cell1 (HC.out.kept p (.cells #[.slice none 0 0] 26 (0, 0) : Obj) (by simp))
            go_simp
            clear z0 z1
            replace HC := Lib.hid (HC.out.set1 (B := p) (x := .slice none 0 0) (T := 26) (by simp) (Nat.le_trans HCK.out.low.size HBp.out) (.slice a1 ma c1) (bs' := ((p, (.cells #[.slice a1 ma c1] 26 (0, 0) : Obj)) : Nat × Obj) :: ((q, (.cells #[.int .i64 0, .int .i64 0, .int .u64 0, .int .u64 0] 33 (0, 0) : Obj)) : Nat × Obj) :: (rs1 ++ BS)) (fun z hz => by
              rcases List.mem_cons.1 hz with e | e
              · exact .inl e
              ·
                rcases List.mem_cons.1 e with e | e
                · exact .inr ⟨by simp [e], by rw [e]; exact HEqp.out⟩
                ·
                  rcases List.mem_append.1 e with e | e
                  · exact .inr ⟨by simp [e], HNp.out z.1 z.2 e⟩
                  ·
                    exact .inr ⟨by simp [e], fun e2 => by have h1 := HCK.out.klt (k := z.1) (o := z.2) e; have h2 := HBp.out; omega⟩))
            refine hK.out _ _ (HC.out.less (fun x hx => by simp [hx])) (fun hHeld => ?_)
            clear hK K'
            try simp only [Act.put, List.setIfInBounds_toArray, List.set_cons_zero, List.set_cons_succ]
            refine wpAnyH_ready (rs := [14]) (by kernel_rfl) (by simp) ?_
            refine AllReadyH.cons (o := ?t1_15o0) ?t1_15i0 (fun K' hK => ?_) AllReadyH.nil
            case' t1_15i0 => simp only [List.getElem?_toArray, List.getElem?_cons_succ, List.getElem?_cons_zero]
            case t1_15i0 => rfl
            obtain ⟨z0, z1, z2, z3, z4, z5, z6, z7⟩ := cells4 (HC.out.kept q (.cells #[.int .i64 0, .int .i64 0, .int .u64 0, .int .u64 0] 33 (0, 0) : Obj) (by simp))
            go_simp
            clear z0 z1 z2 z3 z4 z5 z6 z7
            replace HC := Lib.hid (HC.out.set4 (B := q) (x := .int .i64 0) (y := .int .i64 0) (z := .int .u64 0) (q := .int .u64 0) (T := 33) (by simp) (Nat.le_trans HCK.out.low.size HBq.out) (.int .i64 0) (.int .i64 0) (.int .u64 0) (.int .u64 0) (bs' := ((p, (.cells #[.slice a1 ma c1] 26 (0, 0) : Obj)) : Nat × Obj) :: (rs1 ++ BS)) (fun z hz => by
              rcases List.mem_cons.1 hz with e | e
              · exact .inr ⟨by simp [e], by rw [e]; exact HEpq.out⟩
              ·
                rcases List.mem_append.1 e with e | e
                · exact .inr ⟨by simp [e], HNq.out z.1 z.2 e⟩
                ·
                  exact .inr ⟨by simp [e], fun e2 => by have h1 := HCK.out.klt (k := z.1) (o := z.2) e; have h2 := HBq.out; omega⟩))
            refine hK.out _ _ (HC.out.less (fun x hx => by simp [hx])) (fun hHeld => ?_)
            clear hK K'
            try simp only [Act.put, List.setIfInBounds_toArray, List.set_cons_zero, List.set_cons_succ]
            refine wpAnyH_take (i := 15) (oi := ?o15751) (v := ?v15751) ?i15751 (by kernel_rfl) (by kernel_rfl) (by kernel_rfl) ?q15751 (Or.inl ⟨?w15751, ?y15751⟩) (by assumption) ?r15751
            case' i15751 => simp only [List.getElem?_toArray, List.getElem?_cons_succ, List.getElem?_cons_zero]
            case i15751 => rfl
            case q15751 => exact fun _ _ _ h => h
            case w15751 => kernel_rfl
            case y15751 => (intro W hSw; go_simp) <;> with_reducible rfl
            try simp only [Act.put, List.setIfInBounds_toArray, List.set_cons_zero, List.set_cons_succ]
            refine wpAnyH_done (by kernel_rfl) ?_ _
            clear hHeld
            go_wp2_with fail
            go_meet
            exact ⟨p, rs1, a1, c1, rfl, rfl, HC, HD1, HBp, HR1⟩
        · go_simp
          replace HC := Lib.hid (HC.out.box #[.int .i64 0, .int .i64 0, .int .u64 0, .int .u64 0] 33)
          have HS : Hid (wr.heap.size ≤ wS.heap.size ∧ wS.heap.size < (wS.alloc (.cells #[.int .i64 0, .int .i64 0, .int .u64 0, .int .u64 0] 33 : Obj)).heap.size) := Lib.hid ⟨HW.out, by simp⟩
          refine hK.out _ _ (HC.out.less (fun x hx => by simp [hx])) (fun hHeld => ?_)
          clear hK K'
          try simp only [Act.put, List.setIfInBounds_toArray, List.set_cons_zero, List.set_cons_succ]
          generalize hwd : (wS.alloc (.cells #[.int .i64 0, .int .i64 0, .int .u64 0, .int .u64 0] 33 : Obj)) = w511 at hHeld HC HS ⊢
          generalize hwe : wS.heap.size = q at HC HS ⊢
          have HBq : Hid (wr.heap.size ≤ q) := Lib.hid HS.out.1
          have HLq : Hid (q < w511.heap.size) := Lib.hid HS.out.2
          replace HW : Hid (wr.heap.size ≤ w511.heap.size) := Lib.hid (by have h1 := HS.out.1; have h2 := HS.out.2; omega)
          clear hwd hwe HS
          refine wpAnyH_ready (rs := [6, 11]) (by kernel_rfl) (by simp) ?_
          refine AllReadyH.cons (o := ?t1_16o0) ?t1_16i0 (fun K' hK => ?_) (AllReadyH.cons (o := ?t1_16o1) ?t1_16i1 (fun K' hK => ?_) AllReadyH.nil)
          case' t1_16i0 => simp only [List.getElem?_toArray, List.getElem?_cons_succ, List.getElem?_cons_zero]
          case t1_16i0 => rfl
          case' t1_16i1 => simp only [List.getElem?_toArray, List.getElem?_cons_succ, List.getElem?_cons_zero]
          case t1_16i1 => rfl
          · go_simp
            go_at_call 10
            refine (HC.out.pput (fs := fa) HN.out.1 (HRa.out _ (fun k o q => hHeld.kept k o (HM.out.2.2.1 k o q))) HOK.out.1 (gs := ga) (ep := Ka) (key := 7) (nx := 0) (bt := 0) (gp := 0) (gk := 0) (gn := 0) (gb := 0) (is := false) HPEa.out (m := ma) HMa.out).mono ?_
            rintro e w512 ⟨rs1, a1, c1, rfl, hc, hr, hd, hz⟩
            have HDn : Hid (∀ k o, (k, o) ∈ rs1 → w511.heap.size ≤ k) := Lib.hid hd
            have HR1 := Lib.hid hr
            have HNq : Hid (∀ k o, (k, o) ∈ rs1 → k ≠ q) := Lib.hid (fun k o q => by have h1 := HDn.out k o q; have h2 := HLq.out; omega)
            replace HLq : Hid (q < w512.heap.size) := Lib.hid (by have := HLq.out; omega)
            have HD1 : Hid (∀ k o, (k, o) ∈ rs1 → wr.heap.size ≤ k) := Lib.hid (fun k o q => by have h1 := HDn.out k o q; have h2 := HW.out; omega)
            replace HW : Hid (wr.heap.size ≤ w512.heap.size) := Lib.hid (by have := HW.out; omega)
            replace HC := Lib.hid hc
            clear hc hz hr hd HDn
            go_wp2_with fail
            refine hK.out _ _ (HC.out.less (fun x hx => by simp [hx])) (fun hHeld => ?_)
            clear hK K'
            try simp only [Act.put, List.setIfInBounds_toArray, List.set_cons_zero, List.set_cons_succ]
            have HK1 : Hid (∀ k o, (k, o) ∈ rs1 → w512.heap[k]? = some o) := Lib.hid (fun k o q => HC.out.kept k o (by simp [q]))
            refine wpAnyH_take (i := 7) (oi := ?o12801) (v := ?v12801) ?i12801 (by kernel_rfl) (by kernel_rfl) (by kernel_rfl) ?q12801 (Or.inl ⟨?w12801, ?y12801⟩) (by assumption) ?r12801
            case' i12801 => simp only [List.getElem?_toArray, List.getElem?_cons_succ, List.getElem?_cons_zero]
            case i12801 => rfl
            case q12801 => exact fun _ _ _ h => h
            case w12801 => kernel_rfl
            case y12801 => (intro W hSw; go_simp) <;> with_reducible rfl
            try simp only [Act.put, List.setIfInBounds_toArray, List.set_cons_zero, List.set_cons_succ]
            refine wpAnyH_take (i := 8) (oi := ?o12802) (v := ?v12802) ?i12802 (by kernel_rfl) (by kernel_rfl) (by kernel_rfl) ?q12802 (Or.inl ⟨?w12802, ?y12802⟩) (by assumption) ?r12802
            case' i12802 => simp only [List.getElem?_toArray, List.getElem?_cons_succ, List.getElem?_cons_zero]
            case i12802 => rfl
            case q12802 => exact fun _ _ _ h => h
            case w12802 => kernel_rfl
            case y12802 => (intro W hSw; go_simp) <;> with_reducible rfl
            try simp only [Act.put, List.setIfInBounds_toArray, List.set_cons_zero, List.set_cons_succ]
            refine wpAnyH_take (i := 9) (oi := ?o12803) (v := ?v12803) ?i12803 (by kernel_rfl) (by kernel_rfl) (by kernel_rfl) ?q12803 (Or.inl ⟨?w12803, ?y12803⟩) (by assumption) ?r12803
            case' i12803 => simp only [List.getElem?_toArray, List.getElem?_cons_succ, List.getElem?_cons_zero]
            case i12803 => rfl
            case q12803 => exact fun _ _ _ h => h
            case w12803 => kernel_rfl
            case y12803 => (intro W hSw; go_simp) <;> with_reducible rfl
            try simp only [Act.put, List.setIfInBounds_toArray, List.set_cons_zero, List.set_cons_succ]
            refine wpAnyH_take (i := 10) (oi := ?o12804) (v := ?v12804) ?i12804 (by kernel_rfl) (by kernel_rfl) (by kernel_rfl) ?q12804 (Or.inl ⟨?w12804, ?y12804⟩) (by assumption) ?r12804
            case' i12804 => simp only [List.getElem?_toArray, List.getElem?_cons_succ, List.getElem?_cons_zero]
            case i12804 => rfl
            case q12804 => exact fun _ _ _ h => h
            case w12804 => kernel_rfl
            case y12804 => (intro W hSw; go_simp) <;> with_reducible rfl
            try simp only [Act.put, List.setIfInBounds_toArray, List.set_cons_zero, List.set_cons_succ]
            refine wpAnyH_ready (rs := [11]) (by kernel_rfl) (by simp) ?_
            refine AllReadyH.cons (o := ?t1_17o0) ?t1_17i0 (fun K' hK => ?_) AllReadyH.nil
            case' t1_17i0 => simp only [List.getElem?_toArray, List.getElem?_cons_succ, List.getElem?_cons_zero]
            case t1_17i0 => rfl
            go_simp
            replace HC := Lib.hid (HC.out.box #[.slice none 0 0] 26)
            have HS : Hid (wr.heap.size ≤ w512.heap.size ∧ w512.heap.size < (w512.alloc (.cells #[.slice none 0 0] 26 : Obj)).heap.size) := Lib.hid ⟨HW.out, by simp⟩
            have HNp : Hid (∀ k o, (k, o) ∈ rs1 → k ≠ w512.heap.size) := Lib.hid (fun k o q => by have h1 := blk_lt (HK1.out k o q); omega)
            have HEpq : Hid (w512.heap.size ≠ q) := Lib.hid (by have := HLq.out; omega)
            replace HLq : Hid (q < (w512.alloc (.cells #[.slice none 0 0] 26 : Obj)).heap.size) := Lib.hid (by have := HLq.out; have := HS.out; omega)
            refine hK.out _ _ (HC.out.less (fun x hx => by simp [hx])) (fun hHeld => ?_)
            clear hK K'
            try simp only [Act.put, List.setIfInBounds_toArray, List.set_cons_zero, List.set_cons_succ]
            generalize hwd : (w512.alloc (.cells #[.slice none 0 0] 26 : Obj)) = w513 at hHeld HC HS HNp HEpq HLq ⊢
            generalize hwe : w512.heap.size = p at HC HS HNp HEpq HLq ⊢
            have HBp : Hid (wr.heap.size ≤ p) := Lib.hid HS.out.1
            have HLp : Hid (p < w513.heap.size) := Lib.hid HS.out.2
            replace HW : Hid (wr.heap.size ≤ w513.heap.size) := Lib.hid (by have h1 := HS.out.1; have h2 := HS.out.2; omega)
            clear hwd hwe HS
            have HEqp : Hid (q ≠ p) := Lib.hid HEpq.out.symm
            replace HK1 : Hid (∀ k o, (k, o) ∈ rs1 → w513.heap[k]? = some o) := Lib.hid (fun k o q => HC.out.kept k o (by simp [q]))
            replace HC : Hid (Bx w (((p, (.cells #[.slice none 0 0] 26 (0, 0) : Obj)) : Nat × Obj) :: ((q, (.cells #[.int .i64 0, .int .i64 0, .int .u64 0, .int .u64 0] 33 (0, 0) : Obj)) : Nat × Obj) :: (rs1 ++ BS)) w513) := Lib.hid (HC.out.less (fun x hx => by simp only [List.mem_cons, List.mem_append] at hx ⊢; rcases hx with h | h | h | h <;> simp [h]))
            refine wpAnyH_ready (rs := [13]) (by kernel_rfl) (by simp) ?_
            refine AllReadyH.cons (o := ?t1_18o0) ?t1_18i0 (fun K' hK => ?_) AllReadyH.nil
            case' t1_18i0 => simp only [List.getElem?_toArray, List.getElem?_cons_succ, List.getElem?_cons_zero]
            case t1_18i0 => rfl
            obtain ⟨z0, z1⟩ := cell1 (HC.out.kept p (.cells #[.slice none 0 0] 26 (0, 0) : Obj) (by simp))
            go_simp
            clear z0 z1
            replace HC := Lib.hid (HC.out.set1 (B := p) (x := .slice none 0 0) (T := 26) (by simp) (Nat.le_trans HCK.out.low.size HBp.out) (.slice a1 ma c1) (bs' := ((p, (.cells #[.slice a1 ma c1] 26 (0, 0) : Obj)) : Nat × Obj) :: ((q, (.cells #[.int .i64 0, .int .i64 0, .int .u64 0, .int .u64 0] 33 (0, 0) : Obj)) : Nat × Obj) :: (rs1 ++ BS)) (fun z hz => by
              rcases List.mem_cons.1 hz with e | e
              · exact .inl e
              ·
                rcases List.mem_cons.1 e with e | e
                · exact .inr ⟨by simp [e], by rw [e]; exact HEqp.out⟩
                ·
                  rcases List.mem_append.1 e with e | e
                  · exact .inr ⟨by simp [e], HNp.out z.1 z.2 e⟩
                  ·
                    exact .inr ⟨by simp [e], fun e2 => by have h1 := HCK.out.klt (k := z.1) (o := z.2) e; have h2 := HBp.out; omega⟩))
            refine hK.out _ _ (HC.out.less (fun x hx => by simp [hx])) (fun hHeld => ?_)
            clear hK K'
            try simp only [Act.put, List.setIfInBounds_toArray, List.set_cons_zero, List.set_cons_succ]
            refine wpAnyH_ready (rs := [14]) (by kernel_rfl) (by simp) ?_
            refine AllReadyH.cons (o := ?t1_19o0) ?t1_19i0 (fun K' hK => ?_) AllReadyH.nil
            case' t1_19i0 => simp only [List.getElem?_toArray, List.getElem?_cons_succ, List.getElem?_cons_zero]
            case t1_19i0 => rfl
            obtain ⟨z0, z1, z2, z3, z4, z5, z6, z7⟩ := cells4 (HC.out.kept q (.cells #[.int .i64 0, .int .i64 0, .int .u64 0, .int .u64 0] 33 (0, 0) : Obj) (by simp))
            go_simp
            clear z0 z1 z2 z3 z4 z5 z6 z7
            replace HC := Lib.hid (HC.out.set4 (B := q) (x := .int .i64 0) (y := .int .i64 0) (z := .int .u64 0) (q := .int .u64 0) (T := 33) (by simp) (Nat.le_trans HCK.out.low.size HBq.out) (.int .i64 0) (.int .i64 0) (.int .u64 0) (.int .u64 0) (bs' := ((p, (.cells #[.slice a1 ma c1] 26 (0, 0) : Obj)) : Nat × Obj) :: (rs1 ++ BS)) (fun z hz => by
              rcases List.mem_cons.1 hz with e | e
              · exact .inr ⟨by simp [e], by rw [e]; exact HEpq.out⟩
              ·
                rcases List.mem_append.1 e with e | e
                · exact .inr ⟨by simp [e], HNq.out z.1 z.2 e⟩
                ·
                  exact .inr ⟨by simp [e], fun e2 => by have h1 := HCK.out.klt (k := z.1) (o := z.2) e; have h2 := HBq.out; omega⟩))
            refine hK.out _ _ (HC.out.less (fun x hx => by simp [hx])) (fun hHeld => ?_)
            clear hK K'
            try simp only [Act.put, List.setIfInBounds_toArray, List.set_cons_zero, List.set_cons_succ]
            refine wpAnyH_take (i := 15) (oi := ?o15951) (v := ?v15951) ?i15951 (by kernel_rfl) (by kernel_rfl) (by kernel_rfl) ?q15951 (Or.inl ⟨?w15951, ?y15951⟩) (by assumption) ?r15951
            case' i15951 => simp only [List.getElem?_toArray, List.getElem?_cons_succ, List.getElem?_cons_zero]
            case i15951 => rfl
            case q15951 => exact fun _ _ _ h => h
            case w15951 => kernel_rfl
            case y15951 => (intro W hSw; go_simp) <;> with_reducible rfl
            try simp only [Act.put, List.setIfInBounds_toArray, List.set_cons_zero, List.set_cons_succ]
            refine wpAnyH_done (by kernel_rfl) ?_ _
            clear hHeld
            go_wp2_with fail
            go_meet
            exact ⟨p, rs1, a1, c1, rfl, rfl, HC, HD1, HBp, HR1⟩
          · go_simp
            replace HC := Lib.hid (HC.out.box #[.slice none 0 0] 26)
            have HS : Hid (wr.heap.size ≤ w511.heap.size ∧ w511.heap.size < (w511.alloc (.cells #[.slice none 0 0] 26 : Obj)).heap.size) := Lib.hid ⟨HW.out, by simp⟩
            have HEpq : Hid (w511.heap.size ≠ q) := Lib.hid (by have := HLq.out; omega)
            replace HLq : Hid (q < (w511.alloc (.cells #[.slice none 0 0] 26 : Obj)).heap.size) := Lib.hid (by have := HLq.out; have := HS.out; omega)
            refine hK.out _ _ (HC.out.less (fun x hx => by simp [hx])) (fun hHeld => ?_)
            clear hK K'
            try simp only [Act.put, List.setIfInBounds_toArray, List.set_cons_zero, List.set_cons_succ]
            generalize hwd : (w511.alloc (.cells #[.slice none 0 0] 26 : Obj)) = w514 at hHeld HC HS HEpq HLq ⊢
            generalize hwe : w511.heap.size = p at HC HS HEpq HLq ⊢
            have HBp : Hid (wr.heap.size ≤ p) := Lib.hid HS.out.1
            have HLp : Hid (p < w514.heap.size) := Lib.hid HS.out.2
            replace HW : Hid (wr.heap.size ≤ w514.heap.size) := Lib.hid (by have h1 := HS.out.1; have h2 := HS.out.2; omega)
            clear hwd hwe HS
            have HEqp : Hid (q ≠ p) := Lib.hid HEpq.out.symm
            refine wpAnyH_ready (rs := [6]) (by kernel_rfl) (by simp) ?_
            refine AllReadyH.cons (o := ?t1_20o0) ?t1_20i0 (fun K' hK => ?_) AllReadyH.nil
            case' t1_20i0 => simp only [List.getElem?_toArray, List.getElem?_cons_succ, List.getElem?_cons_zero]
            case t1_20i0 => rfl
            go_simp
            go_at_call 10
            refine (HC.out.pput (fs := fa) HN.out.1 (HRa.out _ (fun k o q => hHeld.kept k o (HM.out.2.2.1 k o q))) HOK.out.1 (gs := ga) (ep := Ka) (key := 7) (nx := 0) (bt := 0) (gp := 0) (gk := 0) (gn := 0) (gb := 0) (is := false) HPEa.out (m := ma) HMa.out).mono ?_
            rintro e w515 ⟨rs1, a1, c1, rfl, hc, hr, hd, hz⟩
            have HDn : Hid (∀ k o, (k, o) ∈ rs1 → w514.heap.size ≤ k) := Lib.hid hd
            have HR1 := Lib.hid hr
            have HNq : Hid (∀ k o, (k, o) ∈ rs1 → k ≠ q) := Lib.hid (fun k o q => by have h1 := HDn.out k o q; have h2 := HLq.out; omega)
            have HNp : Hid (∀ k o, (k, o) ∈ rs1 → k ≠ p) := Lib.hid (fun k o q => by have h1 := HDn.out k o q; have h2 := HLp.out; omega)
            replace HLq : Hid (q < w515.heap.size) := Lib.hid (by have := HLq.out; omega)
            replace HLp : Hid (p < w515.heap.size) := Lib.hid (by have := HLp.out; omega)
            have HD1 : Hid (∀ k o, (k, o) ∈ rs1 → wr.heap.size ≤ k) := Lib.hid (fun k o q => by have h1 := HDn.out k o q; have h2 := HW.out; omega)
            replace HW : Hid (wr.heap.size ≤ w515.heap.size) := Lib.hid (by have := HW.out; omega)
            replace HC := Lib.hid hc
            clear hc hz hr hd HDn
            go_wp2_with fail
            refine hK.out _ _ (HC.out.less (fun x hx => by simp [hx])) (fun hHeld => ?_)
            clear hK K'
            try simp only [Act.put, List.setIfInBounds_toArray, List.set_cons_zero, List.set_cons_succ]
            have HK1 : Hid (∀ k o, (k, o) ∈ rs1 → w515.heap[k]? = some o) := Lib.hid (fun k o q => HC.out.kept k o (by simp [q]))
            refine wpAnyH_take (i := 7) (oi := ?o13001) (v := ?v13001) ?i13001 (by kernel_rfl) (by kernel_rfl) (by kernel_rfl) ?q13001 (Or.inl ⟨?w13001, ?y13001⟩) (by assumption) ?r13001
            case' i13001 => simp only [List.getElem?_toArray, List.getElem?_cons_succ, List.getElem?_cons_zero]
            case i13001 => rfl
            case q13001 => exact fun _ _ _ h => h
            case w13001 => kernel_rfl
            case y13001 => (intro W hSw; go_simp) <;> with_reducible rfl
            try simp only [Act.put, List.setIfInBounds_toArray, List.set_cons_zero, List.set_cons_succ]
            refine wpAnyH_take (i := 8) (oi := ?o13002) (v := ?v13002) ?i13002 (by kernel_rfl) (by kernel_rfl) (by kernel_rfl) ?q13002 (Or.inl ⟨?w13002, ?y13002⟩) (by assumption) ?r13002
            case' i13002 => simp only [List.getElem?_toArray, List.getElem?_cons_succ, List.getElem?_cons_zero]
            case i13002 => rfl
            case q13002 => exact fun _ _ _ h => h
            case w13002 => kernel_rfl
            case y13002 => (intro W hSw; go_simp) <;> with_reducible rfl
            try simp only [Act.put, List.setIfInBounds_toArray, List.set_cons_zero, List.set_cons_succ]
            refine wpAnyH_take (i := 9) (oi := ?o13003) (v := ?v13003) ?i13003 (by kernel_rfl) (by kernel_rfl) (by kernel_rfl) ?q13003 (Or.inl ⟨?w13003, ?y13003⟩) (by assumption) ?r13003
            case' i13003 => simp only [List.getElem?_toArray, List.getElem?_cons_succ, List.getElem?_cons_zero]
            case i13003 => rfl
            case q13003 => exact fun _ _ _ h => h
            case w13003 => kernel_rfl
            case y13003 => (intro W hSw; go_simp) <;> with_reducible rfl
            try simp only [Act.put, List.setIfInBounds_toArray, List.set_cons_zero, List.set_cons_succ]
            refine wpAnyH_take (i := 10) (oi := ?o13004) (v := ?v13004) ?i13004 (by kernel_rfl) (by kernel_rfl) (by kernel_rfl) ?q13004 (Or.inl ⟨?w13004, ?y13004⟩) (by assumption) ?r13004
            case' i13004 => simp only [List.getElem?_toArray, List.getElem?_cons_succ, List.getElem?_cons_zero]
            case i13004 => rfl
            case q13004 => exact fun _ _ _ h => h
            case w13004 => kernel_rfl
            case y13004 => (intro W hSw; go_simp) <;> with_reducible rfl
            try simp only [Act.put, List.setIfInBounds_toArray, List.set_cons_zero, List.set_cons_succ]
            replace HC : Hid (Bx w (((p, (.cells #[.slice none 0 0] 26 (0, 0) : Obj)) : Nat × Obj) :: ((q, (.cells #[.int .i64 0, .int .i64 0, .int .u64 0, .int .u64 0] 33 (0, 0) : Obj)) : Nat × Obj) :: (rs1 ++ BS)) w515) := Lib.hid (HC.out.less (fun x hx => by simp only [List.mem_cons, List.mem_append] at hx ⊢; rcases hx with h | h | h | h <;> simp [h]))
            refine wpAnyH_ready (rs := [13]) (by kernel_rfl) (by simp) ?_
            refine AllReadyH.cons (o := ?t1_21o0) ?t1_21i0 (fun K' hK => ?_) AllReadyH.nil
            case' t1_21i0 => simp only [List.getElem?_toArray, List.getElem?_cons_succ, List.getElem?_cons_zero]
            case t1_21i0 => rfl
            obtain ⟨z0, z1⟩ := cell1 (HC.out.kept p (.cells #[.slice none 0 0] 26 (0, 0) : Obj) (by simp))
            go_simp
            clear z0 z1
            replace HC := Lib.hid (HC.out.set1 (B := p) (x := .slice none 0 0) (T := 26) (by simp) (Nat.le_trans HCK.out.low.size HBp.out) (.slice a1 ma c1) (bs' := ((p, (.cells #[.slice a1 ma c1] 26 (0, 0) : Obj)) : Nat × Obj) :: ((q, (.cells #[.int .i64 0, .int .i64 0, .int .u64 0, .int .u64 0] 33 (0, 0) : Obj)) : Nat × Obj) :: (rs1 ++ BS)) (fun z hz => by
              rcases List.mem_cons.1 hz with e | e
              · exact .inl e
              ·
                rcases List.mem_cons.1 e with e | e
                · exact .inr ⟨by simp [e], by rw [e]; exact HEqp.out⟩
                ·
                  rcases List.mem_append.1 e with e | e
                  · exact .inr ⟨by simp [e], HNp.out z.1 z.2 e⟩
                  ·
                    exact .inr ⟨by simp [e], fun e2 => by have h1 := HCK.out.klt (k := z.1) (o := z.2) e; have h2 := HBp.out; omega⟩))
            refine hK.out _ _ (HC.out.less (fun x hx => by simp [hx])) (fun hHeld => ?_)
            clear hK K'
            try simp only [Act.put, List.setIfInBounds_toArray, List.set_cons_zero, List.set_cons_succ]
            refine wpAnyH_ready (rs := [14]) (by kernel_rfl) (by simp) ?_
            refine AllReadyH.cons (o := ?t1_22o0) ?t1_22i0 (fun K' hK => ?_) AllReadyH.nil
            case' t1_22i0 => simp only [List.getElem?_toArray, List.getElem?_cons_succ, List.getElem?_cons_zero]
            case t1_22i0 => rfl
            obtain ⟨z0, z1, z2, z3, z4, z5, z6, z7⟩ := cells4 (HC.out.kept q (.cells #[.int .i64 0, .int .i64 0, .int .u64 0, .int .u64 0] 33 (0, 0) : Obj) (by simp))
            go_simp
            clear z0 z1 z2 z3 z4 z5 z6 z7
            replace HC := Lib.hid (HC.out.set4 (B := q) (x := .int .i64 0) (y := .int .i64 0) (z := .int .u64 0) (q := .int .u64 0) (T := 33) (by simp) (Nat.le_trans HCK.out.low.size HBq.out) (.int .i64 0) (.int .i64 0) (.int .u64 0) (.int .u64 0) (bs' := ((p, (.cells #[.slice a1 ma c1] 26 (0, 0) : Obj)) : Nat × Obj) :: (rs1 ++ BS)) (fun z hz => by
              rcases List.mem_cons.1 hz with e | e
              · exact .inr ⟨by simp [e], by rw [e]; exact HEpq.out⟩
              ·
                rcases List.mem_append.1 e with e | e
                · exact .inr ⟨by simp [e], HNq.out z.1 z.2 e⟩
                ·
                  exact .inr ⟨by simp [e], fun e2 => by have h1 := HCK.out.klt (k := z.1) (o := z.2) e; have h2 := HBq.out; omega⟩))
            refine hK.out _ _ (HC.out.less (fun x hx => by simp [hx])) (fun hHeld => ?_)
            clear hK K'
            try simp only [Act.put, List.setIfInBounds_toArray, List.set_cons_zero, List.set_cons_succ]
            refine wpAnyH_take (i := 15) (oi := ?o16101) (v := ?v16101) ?i16101 (by kernel_rfl) (by kernel_rfl) (by kernel_rfl) ?q16101 (Or.inl ⟨?w16101, ?y16101⟩) (by assumption) ?r16101
            case' i16101 => simp only [List.getElem?_toArray, List.getElem?_cons_succ, List.getElem?_cons_zero]
            case i16101 => rfl
            case q16101 => exact fun _ _ _ h => h
            case w16101 => kernel_rfl
            case y16101 => (intro W hSw; go_simp) <;> with_reducible rfl
            try simp only [Act.put, List.setIfInBounds_toArray, List.set_cons_zero, List.set_cons_succ]
            refine wpAnyH_done (by kernel_rfl) ?_ _
            clear hHeld
            go_wp2_with fail
            go_meet
            exact ⟨p, rs1, a1, c1, rfl, rfl, HC, HD1, HBp, HR1⟩
      case rest =>
        obtain ⟨wx, hwx⟩ : ∃ u, u = wc := ⟨_, rfl⟩
        subst hwx
        obtain ⟨p, rs1, a1, c1, rfl, rfl, HC, HD1, HPB, HR1⟩ := hcut
        have HM0 := HM
        clear HM
        go_upto_region 7 with fail
        obtain ⟨BS2, hM, hB⟩ : ∃ BS2, (((BB, (.cells #[.slice ab nb cb] 26 (0, 0) : Obj)) : Nat × Obj) ∈ BS2 ∧ ((p, (.cells #[.slice a1 ma c1] 26 (0, 0) : Obj)) : Nat × Obj) ∈ BS2 ∧ ((BA, (.cells #[.slice aa na ca] 26 (0, 0) : Obj)) : Nat × Obj) ∈ BS2 ∧ (∀ k o, (k, o) ∈ rsb → (k, o) ∈ BS2) ∧ (∀ k o, (k, o) ∈ rs1 → (k, o) ∈ BS2)) ∧ Bx w BS2 wx := ⟨_, ⟨by simp [HM0.out.1, HM0.out.2.1], by simp [HM0.out.1, HM0.out.2.1], by simp [HM0.out.1, HM0.out.2.1], fun k o q => by simp [HM0.out.2.2.2 k o q], fun k o q => by simp [q]⟩, HC.out⟩
        have HM := Lib.hid hM
        have HCK := Lib.hid hB
        clear hM hB HC
        have HBX : Hid (BA < wx.heap.size ∧ BB < wx.heap.size) := Lib.hid ⟨HCK.out.klt HM.out.2.2.1, HCK.out.klt HM.out.1⟩
        go_cut [10, 11, 12] from 27 to 62 (fun s10 s11 s12 wx2 => ∃ (p2 : Nat) (rs2 : List (Nat × Obj)) (a2 : Option Addr) (c2 : Nat), s10 = .pointer (some ⟨p2, 0, none⟩) ∧ s12 = .bool false ∧ Hid (Bx w (((p2, (.cells #[.slice a2 mb c2] 26 (0, 0) : Obj)) : Nat × Obj) :: (rs2 ++ BS2)) wx2) ∧ Hid (∀ k o, (k, o) ∈ rs2 → wx.heap.size ≤ k) ∧ Hid (wx.heap.size ≤ p2) ∧ Hid (∀ u : World, (∀ k o, (k, o) ∈ rs2 → u.heap[k]? = some o) → RowE u a2 c2 gb))
        case first =>
          refine wp_region_held_drew (S := Bx w BS2) (by kernel_rfl) (HCK.out.below (drew_b wx)) (fun hHeld => ?_)
          have HC := Lib.hid hHeld
          have HW : Hid (wx.heap.size ≤ wx.drew.heap.size) := Lib.hid (by simp)
          refine wpAnyH_take (i := 0) (oi := ?o20101) (v := ?v20101) ?i20101 (by kernel_rfl) (by kernel_rfl) (by kernel_rfl) ?q20101 (Or.inl ⟨?w20101, ?y20101⟩) (by assumption) ?r20101
          case' i20101 => simp only [List.getElem?_toArray, List.getElem?_cons_succ, List.getElem?_cons_zero]
          case i20101 => rfl
          case q20101 => exact fun _ _ _ h => h
          case w20101 => kernel_rfl
          case y20101 => (intro W hSw; obtain ⟨z0, z1⟩ := cell1 (hSw.kept _ _ HM.out.1); go_simp) <;> with_reducible rfl
          try simp only [Act.put, List.setIfInBounds_toArray, List.set_cons_zero, List.set_cons_succ]
          refine wpAnyH_take (i := 1) (oi := ?o20102) (v := ?v20102) ?i20102 (by kernel_rfl) (by kernel_rfl) (by kernel_rfl) ?q20102 (Or.inl ⟨?w20102, ?y20102⟩) (by assumption) ?r20102
          case' i20102 => simp only [List.getElem?_toArray, List.getElem?_cons_succ, List.getElem?_cons_zero]
          case i20102 => rfl
          case q20102 => exact fun _ _ _ h => h
          case w20102 => kernel_rfl
          case y20102 => (intro W hSw; go_simp) <;> with_reducible rfl
          try simp only [Act.put, List.setIfInBounds_toArray, List.set_cons_zero, List.set_cons_succ]
          refine wpAnyH_take (i := 2) (oi := ?o20103) (v := ?v20103) ?i20103 (by kernel_rfl) (by kernel_rfl) (by kernel_rfl) ?q20103 (Or.inl ⟨?w20103, ?y20103⟩) (by assumption) ?r20103
          case' i20103 => simp only [List.getElem?_toArray, List.getElem?_cons_succ, List.getElem?_cons_zero]
          case i20103 => rfl
          case q20103 => exact fun _ _ _ h => h
          case w20103 => kernel_rfl
          case y20103 => (intro W hSw; go_simp) <;> with_reducible rfl
          try simp only [Act.put, List.setIfInBounds_toArray, List.set_cons_zero, List.set_cons_succ]
          refine wpAnyH_take (i := 3) (oi := ?o20104) (v := ?v20104) ?i20104 (by kernel_rfl) (by kernel_rfl) (by kernel_rfl) ?q20104 (Or.inl ⟨?w20104, ?y20104⟩) (by assumption) ?r20104
          case' i20104 => simp only [List.getElem?_toArray, List.getElem?_cons_succ, List.getElem?_cons_zero]
          case i20104 => rfl
          case q20104 => exact fun _ _ _ h => h
          case w20104 => kernel_rfl
          case y20104 => (intro W hSw; go_simp) <;> with_reducible rfl
          try simp only [Act.put, List.setIfInBounds_toArray, List.set_cons_zero, List.set_cons_succ]
          refine wpAnyH_take (i := 4) (oi := ?o20105) (v := ?v20105) ?i20105 (by kernel_rfl) (by kernel_rfl) (by kernel_rfl) ?q20105 (Or.inl ⟨?w20105, ?y20105⟩) (by assumption) ?r20105
          case' i20105 => simp only [List.getElem?_toArray, List.getElem?_cons_succ, List.getElem?_cons_zero]
          case i20105 => rfl
          case q20105 => exact fun _ _ _ h => h
          case w20105 => kernel_rfl
          case y20105 => (intro W hSw; go_simp) <;> with_reducible rfl
          try simp only [Act.put, List.setIfInBounds_toArray, List.set_cons_zero, List.set_cons_succ]
          refine wpAnyH_take (i := 5) (oi := ?o20106) (v := ?v20106) ?i20106 (by kernel_rfl) (by kernel_rfl) (by kernel_rfl) ?q20106 (Or.inl ⟨?w20106, ?y20106⟩) (by assumption) ?r20106
          case' i20106 => simp only [List.getElem?_toArray, List.getElem?_cons_succ, List.getElem?_cons_zero]
          case i20106 => rfl
          case q20106 => exact fun _ _ _ h => h
          case w20106 => kernel_rfl
          case y20106 => (intro W hSw; go_simp) <;> with_reducible rfl
          try simp only [Act.put, List.setIfInBounds_toArray, List.set_cons_zero, List.set_cons_succ]
          refine wpAnyH_take (i := 6) (oi := ?o20107) (v := ?v20107) ?i20107 (by kernel_rfl) (by kernel_rfl) (by kernel_rfl) ?q20107 (Or.inl ⟨?w20107, ?y20107⟩) (by assumption) ?r20107
          case' i20107 => simp only [List.getElem?_toArray, List.getElem?_cons_succ, List.getElem?_cons_zero]
          case i20107 => rfl
          case q20107 => exact fun _ _ _ h => h
          case w20107 => kernel_rfl
          case y20107 => (intro W hSw; go_simp) <;> with_reducible rfl
          try simp only [Act.put, List.setIfInBounds_toArray, List.set_cons_zero, List.set_cons_succ]
          refine wpAnyH_take (i := 7) (oi := ?o20108) (v := ?v20108) ?i20108 (by kernel_rfl) (by kernel_rfl) (by kernel_rfl) ?q20108 (Or.inl ⟨?w20108, ?y20108⟩) (by assumption) ?r20108
          case' i20108 => simp only [List.getElem?_toArray, List.getElem?_cons_succ, List.getElem?_cons_zero]
          case i20108 => rfl
          case q20108 => exact fun _ _ _ h => h
          case w20108 => kernel_rfl
          case y20108 => (intro W hSw; have k0 := HKB.out _ hSw.low; go_simp) <;> with_reducible rfl
          try simp only [Act.put, List.setIfInBounds_toArray, List.set_cons_zero, List.set_cons_succ]
          refine wpAnyH_take (i := 8) (oi := ?o20109) (v := ?v20109) ?i20109 (by kernel_rfl) (by kernel_rfl) (by kernel_rfl) ?q20109 (Or.inl ⟨?w20109, ?y20109⟩) (by assumption) ?r20109
          case' i20109 => simp only [List.getElem?_toArray, List.getElem?_cons_succ, List.getElem?_cons_zero]
          case i20109 => rfl
          case q20109 => exact fun _ _ _ h => h
          case w20109 => kernel_rfl
          case y20109 => (intro W hSw; go_simp) <;> with_reducible rfl
          try simp only [Act.put, List.setIfInBounds_toArray, List.set_cons_zero, List.set_cons_succ]
          generalize hwS : wx.drew = wS at hHeld HC HW ⊢
          clear hwS
          refine wpAnyH_ready (rs := [9, 14, 15]) (by kernel_rfl) (by simp) ?_
          refine AllReadyH.cons (o := ?t2_1o0) ?t2_1i0 (fun K' hK => ?_) (AllReadyH.cons (o := ?t2_1o1) ?t2_1i1 (fun K' hK => ?_) (AllReadyH.cons (o := ?t2_1o2) ?t2_1i2 (fun K' hK => ?_) AllReadyH.nil))
          case' t2_1i0 => simp only [List.getElem?_toArray, List.getElem?_cons_succ, List.getElem?_cons_zero]
          case t2_1i0 => rfl
          case' t2_1i1 => simp only [List.getElem?_toArray, List.getElem?_cons_succ, List.getElem?_cons_zero]
          case t2_1i1 => rfl
          case' t2_1i2 => simp only [List.getElem?_toArray, List.getElem?_cons_succ, List.getElem?_cons_zero]
          case t2_1i2 => rfl
          · go_simp
            go_at_call 10
            refine (HC.out.pput (fs := fb) HN.out.2 (HRb.out _ (fun k o q => hHeld.kept k o (HM.out.2.2.2.1 k o q))) HOK.out.2 (gs := gb) (ep := Kb) (key := 7) (nx := 0) (bt := 0) (gp := 0) (gk := 0) (gn := 0) (gb := 0) (is := false) HPEb.out (m := mb) HMb.out).mono ?_
            rintro e w501 ⟨rs2, a2, c2, rfl, hc, hr, hd, hz⟩
            have HDn : Hid (∀ k o, (k, o) ∈ rs2 → wS.heap.size ≤ k) := Lib.hid hd
            have HR2 := Lib.hid hr
            have HD2 : Hid (∀ k o, (k, o) ∈ rs2 → wx.heap.size ≤ k) := Lib.hid (fun k o q => by have h1 := HDn.out k o q; have h2 := HW.out; omega)
            replace HW : Hid (wx.heap.size ≤ w501.heap.size) := Lib.hid (by have := HW.out; omega)
            replace HC := Lib.hid hc
            clear hc hz hr hd HDn
            go_wp2_with fail
            refine hK.out _ _ (HC.out.less (fun x hx => by simp [hx])) (fun hHeld => ?_)
            clear hK K'
            try simp only [Act.put, List.setIfInBounds_toArray, List.set_cons_zero, List.set_cons_succ]
            have HK1 : Hid (∀ k o, (k, o) ∈ rs2 → w501.heap[k]? = some o) := Lib.hid (fun k o q => HC.out.kept k o (by simp [q]))
            refine wpAnyH_take (i := 10) (oi := ?o22051) (v := ?v22051) ?i22051 (by kernel_rfl) (by kernel_rfl) (by kernel_rfl) ?q22051 (Or.inl ⟨?w22051, ?y22051⟩) (by assumption) ?r22051
            case' i22051 => simp only [List.getElem?_toArray, List.getElem?_cons_succ, List.getElem?_cons_zero]
            case i22051 => rfl
            case q22051 => exact fun _ _ _ h => h
            case w22051 => kernel_rfl
            case y22051 => (intro W hSw; go_simp) <;> with_reducible rfl
            try simp only [Act.put, List.setIfInBounds_toArray, List.set_cons_zero, List.set_cons_succ]
            refine wpAnyH_take (i := 11) (oi := ?o22052) (v := ?v22052) ?i22052 (by kernel_rfl) (by kernel_rfl) (by kernel_rfl) ?q22052 (Or.inl ⟨?w22052, ?y22052⟩) (by assumption) ?r22052
            case' i22052 => simp only [List.getElem?_toArray, List.getElem?_cons_succ, List.getElem?_cons_zero]
            case i22052 => rfl
            case q22052 => exact fun _ _ _ h => h
            case w22052 => kernel_rfl
            case y22052 => (intro W hSw; go_simp) <;> with_reducible rfl
            try simp only [Act.put, List.setIfInBounds_toArray, List.set_cons_zero, List.set_cons_succ]
            refine wpAnyH_take (i := 12) (oi := ?o22053) (v := ?v22053) ?i22053 (by kernel_rfl) (by kernel_rfl) (by kernel_rfl) ?q22053 (Or.inl ⟨?w22053, ?y22053⟩) (by assumption) ?r22053
            case' i22053 => simp only [List.getElem?_toArray, List.getElem?_cons_succ, List.getElem?_cons_zero]
            case i22053 => rfl
            case q22053 => exact fun _ _ _ h => h
            case w22053 => kernel_rfl
            case y22053 => (intro W hSw; go_simp) <;> with_reducible rfl
            try simp only [Act.put, List.setIfInBounds_toArray, List.set_cons_zero, List.set_cons_succ]
            refine wpAnyH_take (i := 13) (oi := ?o22054) (v := ?v22054) ?i22054 (by kernel_rfl) (by kernel_rfl) (by kernel_rfl) ?q22054 (Or.inl ⟨?w22054, ?y22054⟩) (by assumption) ?r22054
            case' i22054 => simp only [List.getElem?_toArray, List.getElem?_cons_succ, List.getElem?_cons_zero]
            case i22054 => rfl
            case q22054 => exact fun _ _ _ h => h
            case w22054 => kernel_rfl
            case y22054 => (intro W hSw; go_simp) <;> with_reducible rfl
            try simp only [Act.put, List.setIfInBounds_toArray, List.set_cons_zero, List.set_cons_succ]
            refine wpAnyH_ready (rs := [14, 15]) (by kernel_rfl) (by simp) ?_
            refine AllReadyH.cons (o := ?t2_2o0) ?t2_2i0 (fun K' hK => ?_) (AllReadyH.cons (o := ?t2_2o1) ?t2_2i1 (fun K' hK => ?_) AllReadyH.nil)
            case' t2_2i0 => simp only [List.getElem?_toArray, List.getElem?_cons_succ, List.getElem?_cons_zero]
            case t2_2i0 => rfl
            case' t2_2i1 => simp only [List.getElem?_toArray, List.getElem?_cons_succ, List.getElem?_cons_zero]
            case t2_2i1 => rfl
            · go_simp
              replace HC := Lib.hid (HC.out.box #[.slice none 0 0] 26)
              have HS : Hid (wx.heap.size ≤ w501.heap.size ∧ w501.heap.size < (w501.alloc (.cells #[.slice none 0 0] 26 : Obj)).heap.size) := Lib.hid ⟨HW.out, by simp⟩
              have HNp2 : Hid (∀ k o, (k, o) ∈ rs2 → k ≠ w501.heap.size) := Lib.hid (fun k o q => by have h1 := blk_lt (HK1.out k o q); omega)
              refine hK.out _ _ (HC.out.less (fun x hx => by simp [hx])) (fun hHeld => ?_)
              clear hK K'
              try simp only [Act.put, List.setIfInBounds_toArray, List.set_cons_zero, List.set_cons_succ]
              generalize hwd : (w501.alloc (.cells #[.slice none 0 0] 26 : Obj)) = w502 at hHeld HC HS HNp2 ⊢
              generalize hwe : w501.heap.size = p2 at HC HS HNp2 ⊢
              have HBp2 : Hid (wx.heap.size ≤ p2) := Lib.hid HS.out.1
              have HLp2 : Hid (p2 < w502.heap.size) := Lib.hid HS.out.2
              replace HW : Hid (wx.heap.size ≤ w502.heap.size) := Lib.hid (by have h1 := HS.out.1; have h2 := HS.out.2; omega)
              clear hwd hwe HS
              replace HK1 : Hid (∀ k o, (k, o) ∈ rs2 → w502.heap[k]? = some o) := Lib.hid (fun k o q => HC.out.kept k o (by simp [q]))
              refine wpAnyH_ready (rs := [15]) (by kernel_rfl) (by simp) ?_
              refine AllReadyH.cons (o := ?t2_3o0) ?t2_3i0 (fun K' hK => ?_) AllReadyH.nil
              case' t2_3i0 => simp only [List.getElem?_toArray, List.getElem?_cons_succ, List.getElem?_cons_zero]
              case t2_3i0 => rfl
              go_simp
              replace HC := Lib.hid (HC.out.box #[.int .i64 0, .int .i64 0, .int .u64 0, .int .u64 0] 33)
              have HS : Hid (wx.heap.size ≤ w502.heap.size ∧ w502.heap.size < (w502.alloc (.cells #[.int .i64 0, .int .i64 0, .int .u64 0, .int .u64 0] 33 : Obj)).heap.size) := Lib.hid ⟨HW.out, by simp⟩
              have HNq : Hid (∀ k o, (k, o) ∈ rs2 → k ≠ w502.heap.size) := Lib.hid (fun k o q => by have h1 := blk_lt (HK1.out k o q); omega)
              have HEqp2 : Hid (w502.heap.size ≠ p2) := Lib.hid (by have := HLp2.out; omega)
              replace HLp2 : Hid (p2 < (w502.alloc (.cells #[.int .i64 0, .int .i64 0, .int .u64 0, .int .u64 0] 33 : Obj)).heap.size) := Lib.hid (by have := HLp2.out; have := HS.out; omega)
              refine hK.out _ _ (HC.out.less (fun x hx => by simp [hx])) (fun hHeld => ?_)
              clear hK K'
              try simp only [Act.put, List.setIfInBounds_toArray, List.set_cons_zero, List.set_cons_succ]
              generalize hwd : (w502.alloc (.cells #[.int .i64 0, .int .i64 0, .int .u64 0, .int .u64 0] 33 : Obj)) = w503 at hHeld HC HS HNq HEqp2 HLp2 ⊢
              generalize hwe : w502.heap.size = q at HC HS HNq HEqp2 HLp2 ⊢
              have HBq : Hid (wx.heap.size ≤ q) := Lib.hid HS.out.1
              have HLq : Hid (q < w503.heap.size) := Lib.hid HS.out.2
              replace HW : Hid (wx.heap.size ≤ w503.heap.size) := Lib.hid (by have h1 := HS.out.1; have h2 := HS.out.2; omega)
              clear hwd hwe HS
              have HEp2q : Hid (p2 ≠ q) := Lib.hid HEqp2.out.symm
              replace HK1 : Hid (∀ k o, (k, o) ∈ rs2 → w503.heap[k]? = some o) := Lib.hid (fun k o q => HC.out.kept k o (by simp [q]))
              replace HC : Hid (Bx w (((p2, (.cells #[.slice none 0 0] 26 (0, 0) : Obj)) : Nat × Obj) :: ((q, (.cells #[.int .i64 0, .int .i64 0, .int .u64 0, .int .u64 0] 33 (0, 0) : Obj)) : Nat × Obj) :: (rs2 ++ BS2)) w503) := Lib.hid (HC.out.less (fun x hx => by simp only [List.mem_cons, List.mem_append] at hx ⊢; rcases hx with h | h | h | h <;> simp [h]))
              refine wpAnyH_ready (rs := [16]) (by kernel_rfl) (by simp) ?_
              refine AllReadyH.cons (o := ?t2_4o0) ?t2_4i0 (fun K' hK => ?_) AllReadyH.nil
              case' t2_4i0 => simp only [List.getElem?_toArray, List.getElem?_cons_succ, List.getElem?_cons_zero]
              case t2_4i0 => rfl
              obtain ⟨z0, z1⟩ := cell1 (HC.out.kept p2 (.cells #[.slice none 0 0] 26 (0, 0) : Obj) (by simp))
              go_simp
              clear z0 z1
              replace HC := Lib.hid (HC.out.set1 (B := p2) (x := .slice none 0 0) (T := 26) (by simp) (Nat.le_trans HCK.out.low.size HBp2.out) (.slice a2 mb c2) (bs' := ((p2, (.cells #[.slice a2 mb c2] 26 (0, 0) : Obj)) : Nat × Obj) :: ((q, (.cells #[.int .i64 0, .int .i64 0, .int .u64 0, .int .u64 0] 33 (0, 0) : Obj)) : Nat × Obj) :: (rs2 ++ BS2)) (fun z hz => by
                rcases List.mem_cons.1 hz with e | e
                · exact .inl e
                ·
                  rcases List.mem_cons.1 e with e | e
                  · exact .inr ⟨by simp [e], by rw [e]; exact HEqp2.out⟩
                  ·
                    rcases List.mem_append.1 e with e | e
                    · exact .inr ⟨by simp [e], HNp2.out z.1 z.2 e⟩
                    ·
                      exact .inr ⟨by simp [e], fun e2 => by have h1 := HCK.out.klt (k := z.1) (o := z.2) e; have h2 := HBp2.out; omega⟩))
              refine hK.out _ _ (HC.out.less (fun x hx => by simp [hx])) (fun hHeld => ?_)
              clear hK K'
              try simp only [Act.put, List.setIfInBounds_toArray, List.set_cons_zero, List.set_cons_succ]
              refine wpAnyH_ready (rs := [17]) (by kernel_rfl) (by simp) ?_
              refine AllReadyH.cons (o := ?t2_5o0) ?t2_5i0 (fun K' hK => ?_) AllReadyH.nil
              case' t2_5i0 => simp only [List.getElem?_toArray, List.getElem?_cons_succ, List.getElem?_cons_zero]
              case t2_5i0 => rfl
              obtain ⟨z0, z1, z2, z3, z4, z5, z6, z7⟩ := cells4 (HC.out.kept q (.cells #[.int .i64 0, .int .i64 0, .int .u64 0, .int .u64 0] 33 (0, 0) : Obj) (by simp))
              go_simp
              clear z0 z1 z2 z3 z4 z5 z6 z7
              replace HC := Lib.hid (HC.out.set4 (B := q) (x := .int .i64 0) (y := .int .i64 0) (z := .int .u64 0) (q := .int .u64 0) (T := 33) (by simp) (Nat.le_trans HCK.out.low.size HBq.out) (.int .i64 0) (.int .i64 0) (.int .u64 0) (.int .u64 0) (bs' := ((p2, (.cells #[.slice a2 mb c2] 26 (0, 0) : Obj)) : Nat × Obj) :: (rs2 ++ BS2)) (fun z hz => by
                rcases List.mem_cons.1 hz with e | e
                · exact .inr ⟨by simp [e], by rw [e]; exact HEp2q.out⟩
                ·
                  rcases List.mem_append.1 e with e | e
                  · exact .inr ⟨by simp [e], HNq.out z.1 z.2 e⟩
                  ·
                    exact .inr ⟨by simp [e], fun e2 => by have h1 := HCK.out.klt (k := z.1) (o := z.2) e; have h2 := HBq.out; omega⟩))
              refine hK.out _ _ (HC.out.less (fun x hx => by simp [hx])) (fun hHeld => ?_)
              clear hK K'
              try simp only [Act.put, List.setIfInBounds_toArray, List.set_cons_zero, List.set_cons_succ]
              refine wpAnyH_take (i := 18) (oi := ?o25251) (v := ?v25251) ?i25251 (by kernel_rfl) (by kernel_rfl) (by kernel_rfl) ?q25251 (Or.inl ⟨?w25251, ?y25251⟩) (by assumption) ?r25251
              case' i25251 => simp only [List.getElem?_toArray, List.getElem?_cons_succ, List.getElem?_cons_zero]
              case i25251 => rfl
              case q25251 => exact fun _ _ _ h => h
              case w25251 => kernel_rfl
              case y25251 => (intro W hSw; go_simp) <;> with_reducible rfl
              try simp only [Act.put, List.setIfInBounds_toArray, List.set_cons_zero, List.set_cons_succ]
              refine wpAnyH_done (by kernel_rfl) ?_ _
              clear hHeld
              go_wp2_with fail
              go_meet
              exact ⟨p2, rs2, a2, c2, rfl, rfl, HC, HD2, HBp2, HR2⟩
            · go_simp
              replace HC := Lib.hid (HC.out.box #[.int .i64 0, .int .i64 0, .int .u64 0, .int .u64 0] 33)
              have HS : Hid (wx.heap.size ≤ w501.heap.size ∧ w501.heap.size < (w501.alloc (.cells #[.int .i64 0, .int .i64 0, .int .u64 0, .int .u64 0] 33 : Obj)).heap.size) := Lib.hid ⟨HW.out, by simp⟩
              have HNq : Hid (∀ k o, (k, o) ∈ rs2 → k ≠ w501.heap.size) := Lib.hid (fun k o q => by have h1 := blk_lt (HK1.out k o q); omega)
              refine hK.out _ _ (HC.out.less (fun x hx => by simp [hx])) (fun hHeld => ?_)
              clear hK K'
              try simp only [Act.put, List.setIfInBounds_toArray, List.set_cons_zero, List.set_cons_succ]
              generalize hwd : (w501.alloc (.cells #[.int .i64 0, .int .i64 0, .int .u64 0, .int .u64 0] 33 : Obj)) = w504 at hHeld HC HS HNq ⊢
              generalize hwe : w501.heap.size = q at HC HS HNq ⊢
              have HBq : Hid (wx.heap.size ≤ q) := Lib.hid HS.out.1
              have HLq : Hid (q < w504.heap.size) := Lib.hid HS.out.2
              replace HW : Hid (wx.heap.size ≤ w504.heap.size) := Lib.hid (by have h1 := HS.out.1; have h2 := HS.out.2; omega)
              clear hwd hwe HS
              replace HK1 : Hid (∀ k o, (k, o) ∈ rs2 → w504.heap[k]? = some o) := Lib.hid (fun k o q => HC.out.kept k o (by simp [q]))
              refine wpAnyH_ready (rs := [14]) (by kernel_rfl) (by simp) ?_
              refine AllReadyH.cons (o := ?t2_6o0) ?t2_6i0 (fun K' hK => ?_) AllReadyH.nil
              case' t2_6i0 => simp only [List.getElem?_toArray, List.getElem?_cons_succ, List.getElem?_cons_zero]
              case t2_6i0 => rfl
              go_simp
              replace HC := Lib.hid (HC.out.box #[.slice none 0 0] 26)
              have HS : Hid (wx.heap.size ≤ w504.heap.size ∧ w504.heap.size < (w504.alloc (.cells #[.slice none 0 0] 26 : Obj)).heap.size) := Lib.hid ⟨HW.out, by simp⟩
              have HNp2 : Hid (∀ k o, (k, o) ∈ rs2 → k ≠ w504.heap.size) := Lib.hid (fun k o q => by have h1 := blk_lt (HK1.out k o q); omega)
              have HEp2q : Hid (w504.heap.size ≠ q) := Lib.hid (by have := HLq.out; omega)
              replace HLq : Hid (q < (w504.alloc (.cells #[.slice none 0 0] 26 : Obj)).heap.size) := Lib.hid (by have := HLq.out; have := HS.out; omega)
              refine hK.out _ _ (HC.out.less (fun x hx => by simp [hx])) (fun hHeld => ?_)
              clear hK K'
              try simp only [Act.put, List.setIfInBounds_toArray, List.set_cons_zero, List.set_cons_succ]
              generalize hwd : (w504.alloc (.cells #[.slice none 0 0] 26 : Obj)) = w505 at hHeld HC HS HNp2 HEp2q HLq ⊢
              generalize hwe : w504.heap.size = p2 at HC HS HNp2 HEp2q HLq ⊢
              have HBp2 : Hid (wx.heap.size ≤ p2) := Lib.hid HS.out.1
              have HLp2 : Hid (p2 < w505.heap.size) := Lib.hid HS.out.2
              replace HW : Hid (wx.heap.size ≤ w505.heap.size) := Lib.hid (by have h1 := HS.out.1; have h2 := HS.out.2; omega)
              clear hwd hwe HS
              have HEqp2 : Hid (q ≠ p2) := Lib.hid HEp2q.out.symm
              replace HK1 : Hid (∀ k o, (k, o) ∈ rs2 → w505.heap[k]? = some o) := Lib.hid (fun k o q => HC.out.kept k o (by simp [q]))
              replace HC : Hid (Bx w (((p2, (.cells #[.slice none 0 0] 26 (0, 0) : Obj)) : Nat × Obj) :: ((q, (.cells #[.int .i64 0, .int .i64 0, .int .u64 0, .int .u64 0] 33 (0, 0) : Obj)) : Nat × Obj) :: (rs2 ++ BS2)) w505) := Lib.hid (HC.out.less (fun x hx => by simp only [List.mem_cons, List.mem_append] at hx ⊢; rcases hx with h | h | h | h <;> simp [h]))
              refine wpAnyH_ready (rs := [16]) (by kernel_rfl) (by simp) ?_
              refine AllReadyH.cons (o := ?t2_7o0) ?t2_7i0 (fun K' hK => ?_) AllReadyH.nil
              case' t2_7i0 => simp only [List.getElem?_toArray, List.getElem?_cons_succ, List.getElem?_cons_zero]
              case t2_7i0 => rfl
              obtain ⟨z0, z1⟩ := cell1 (HC.out.kept p2 (.cells #[.slice none 0 0] 26 (0, 0) : Obj) (by simp))
              go_simp
              clear z0 z1
              replace HC := Lib.hid (HC.out.set1 (B := p2) (x := .slice none 0 0) (T := 26) (by simp) (Nat.le_trans HCK.out.low.size HBp2.out) (.slice a2 mb c2) (bs' := ((p2, (.cells #[.slice a2 mb c2] 26 (0, 0) : Obj)) : Nat × Obj) :: ((q, (.cells #[.int .i64 0, .int .i64 0, .int .u64 0, .int .u64 0] 33 (0, 0) : Obj)) : Nat × Obj) :: (rs2 ++ BS2)) (fun z hz => by
                rcases List.mem_cons.1 hz with e | e
                · exact .inl e
                ·
                  rcases List.mem_cons.1 e with e | e
                  · exact .inr ⟨by simp [e], by rw [e]; exact HEqp2.out⟩
                  ·
                    rcases List.mem_append.1 e with e | e
                    · exact .inr ⟨by simp [e], HNp2.out z.1 z.2 e⟩
                    ·
                      exact .inr ⟨by simp [e], fun e2 => by have h1 := HCK.out.klt (k := z.1) (o := z.2) e; have h2 := HBp2.out; omega⟩))
              refine hK.out _ _ (HC.out.less (fun x hx => by simp [hx])) (fun hHeld => ?_)
              clear hK K'
              try simp only [Act.put, List.setIfInBounds_toArray, List.set_cons_zero, List.set_cons_succ]
              refine wpAnyH_ready (rs := [17]) (by kernel_rfl) (by simp) ?_
              refine AllReadyH.cons (o := ?t2_8o0) ?t2_8i0 (fun K' hK => ?_) AllReadyH.nil
              case' t2_8i0 => simp only [List.getElem?_toArray, List.getElem?_cons_succ, List.getElem?_cons_zero]
              case t2_8i0 => rfl
              obtain ⟨z0, z1, z2, z3, z4, z5, z6, z7⟩ := cells4 (HC.out.kept q (.cells #[.int .i64 0, .int .i64 0, .int .u64 0, .int .u64 0] 33 (0, 0) : Obj) (by simp))
              go_simp
              clear z0 z1 z2 z3 z4 z5 z6 z7
              replace HC := Lib.hid (HC.out.set4 (B := q) (x := .int .i64 0) (y := .int .i64 0) (z := .int .u64 0) (q := .int .u64 0) (T := 33) (by simp) (Nat.le_trans HCK.out.low.size HBq.out) (.int .i64 0) (.int .i64 0) (.int .u64 0) (.int .u64 0) (bs' := ((p2, (.cells #[.slice a2 mb c2] 26 (0, 0) : Obj)) : Nat × Obj) :: (rs2 ++ BS2)) (fun z hz => by
                rcases List.mem_cons.1 hz with e | e
                · exact .inr ⟨by simp [e], by rw [e]; exact HEp2q.out⟩
                ·
                  rcases List.mem_append.1 e with e | e
                  · exact .inr ⟨by simp [e], HNq.out z.1 z.2 e⟩
                  ·
                    exact .inr ⟨by simp [e], fun e2 => by have h1 := HCK.out.klt (k := z.1) (o := z.2) e; have h2 := HBq.out; omega⟩))
              refine hK.out _ _ (HC.out.less (fun x hx => by simp [hx])) (fun hHeld => ?_)
              clear hK K'
              try simp only [Act.put, List.setIfInBounds_toArray, List.set_cons_zero, List.set_cons_succ]
              refine wpAnyH_take (i := 18) (oi := ?o25401) (v := ?v25401) ?i25401 (by kernel_rfl) (by kernel_rfl) (by kernel_rfl) ?q25401 (Or.inl ⟨?w25401, ?y25401⟩) (by assumption) ?r25401
              case' i25401 => simp only [List.getElem?_toArray, List.getElem?_cons_succ, List.getElem?_cons_zero]
              case i25401 => rfl
              case q25401 => exact fun _ _ _ h => h
              case w25401 => kernel_rfl
              case y25401 => (intro W hSw; go_simp) <;> with_reducible rfl
              try simp only [Act.put, List.setIfInBounds_toArray, List.set_cons_zero, List.set_cons_succ]
              refine wpAnyH_done (by kernel_rfl) ?_ _
              clear hHeld
              go_wp2_with fail
              go_meet
              exact ⟨p2, rs2, a2, c2, rfl, rfl, HC, HD2, HBp2, HR2⟩
          · go_simp
            replace HC := Lib.hid (HC.out.box #[.slice none 0 0] 26)
            have HS : Hid (wx.heap.size ≤ wS.heap.size ∧ wS.heap.size < (wS.alloc (.cells #[.slice none 0 0] 26 : Obj)).heap.size) := Lib.hid ⟨HW.out, by simp⟩
            refine hK.out _ _ (HC.out.less (fun x hx => by simp [hx])) (fun hHeld => ?_)
            clear hK K'
            try simp only [Act.put, List.setIfInBounds_toArray, List.set_cons_zero, List.set_cons_succ]
            generalize hwd : (wS.alloc (.cells #[.slice none 0 0] 26 : Obj)) = w506 at hHeld HC HS ⊢
            generalize hwe : wS.heap.size = p2 at HC HS ⊢
            have HBp2 : Hid (wx.heap.size ≤ p2) := Lib.hid HS.out.1
            have HLp2 : Hid (p2 < w506.heap.size) := Lib.hid HS.out.2
            replace HW : Hid (wx.heap.size ≤ w506.heap.size) := Lib.hid (by have h1 := HS.out.1; have h2 := HS.out.2; omega)
            clear hwd hwe HS
            refine wpAnyH_ready (rs := [9, 15]) (by kernel_rfl) (by simp) ?_
            refine AllReadyH.cons (o := ?t2_9o0) ?t2_9i0 (fun K' hK => ?_) (AllReadyH.cons (o := ?t2_9o1) ?t2_9i1 (fun K' hK => ?_) AllReadyH.nil)
            case' t2_9i0 => simp only [List.getElem?_toArray, List.getElem?_cons_succ, List.getElem?_cons_zero]
            case t2_9i0 => rfl
            case' t2_9i1 => simp only [List.getElem?_toArray, List.getElem?_cons_succ, List.getElem?_cons_zero]
            case t2_9i1 => rfl
            · go_simp
              go_at_call 10
              refine (HC.out.pput (fs := fb) HN.out.2 (HRb.out _ (fun k o q => hHeld.kept k o (HM.out.2.2.2.1 k o q))) HOK.out.2 (gs := gb) (ep := Kb) (key := 7) (nx := 0) (bt := 0) (gp := 0) (gk := 0) (gn := 0) (gb := 0) (is := false) HPEb.out (m := mb) HMb.out).mono ?_
              rintro e w507 ⟨rs2, a2, c2, rfl, hc, hr, hd, hz⟩
              have HDn : Hid (∀ k o, (k, o) ∈ rs2 → w506.heap.size ≤ k) := Lib.hid hd
              have HR2 := Lib.hid hr
              have HNp2 : Hid (∀ k o, (k, o) ∈ rs2 → k ≠ p2) := Lib.hid (fun k o q => by have h1 := HDn.out k o q; have h2 := HLp2.out; omega)
              replace HLp2 : Hid (p2 < w507.heap.size) := Lib.hid (by have := HLp2.out; omega)
              have HD2 : Hid (∀ k o, (k, o) ∈ rs2 → wx.heap.size ≤ k) := Lib.hid (fun k o q => by have h1 := HDn.out k o q; have h2 := HW.out; omega)
              replace HW : Hid (wx.heap.size ≤ w507.heap.size) := Lib.hid (by have := HW.out; omega)
              replace HC := Lib.hid hc
              clear hc hz hr hd HDn
              go_wp2_with fail
              refine hK.out _ _ (HC.out.less (fun x hx => by simp [hx])) (fun hHeld => ?_)
              clear hK K'
              try simp only [Act.put, List.setIfInBounds_toArray, List.set_cons_zero, List.set_cons_succ]
              have HK1 : Hid (∀ k o, (k, o) ∈ rs2 → w507.heap[k]? = some o) := Lib.hid (fun k o q => HC.out.kept k o (by simp [q]))
              refine wpAnyH_take (i := 10) (oi := ?o22451) (v := ?v22451) ?i22451 (by kernel_rfl) (by kernel_rfl) (by kernel_rfl) ?q22451 (Or.inl ⟨?w22451, ?y22451⟩) (by assumption) ?r22451
              case' i22451 => simp only [List.getElem?_toArray, List.getElem?_cons_succ, List.getElem?_cons_zero]
              case i22451 => rfl
              case q22451 => exact fun _ _ _ h => h
              case w22451 => kernel_rfl
              case y22451 => (intro W hSw; go_simp) <;> with_reducible rfl
              try simp only [Act.put, List.setIfInBounds_toArray, List.set_cons_zero, List.set_cons_succ]
              refine wpAnyH_take (i := 11) (oi := ?o22452) (v := ?v22452) ?i22452 (by kernel_rfl) (by kernel_rfl) (by kernel_rfl) ?q22452 (Or.inl ⟨?w22452, ?y22452⟩) (by assumption) ?r22452
              case' i22452 => simp only [List.getElem?_toArray, List.getElem?_cons_succ, List.getElem?_cons_zero]
              case i22452 => rfl
              case q22452 => exact fun _ _ _ h => h
              case w22452 => kernel_rfl
              case y22452 => (intro W hSw; go_simp) <;> with_reducible rfl
              try simp only [Act.put, List.setIfInBounds_toArray, List.set_cons_zero, List.set_cons_succ]
              refine wpAnyH_take (i := 12) (oi := ?o22453) (v := ?v22453) ?i22453 (by kernel_rfl) (by kernel_rfl) (by kernel_rfl) ?q22453 (Or.inl ⟨?w22453, ?y22453⟩) (by assumption) ?r22453
              case' i22453 => simp only [List.getElem?_toArray, List.getElem?_cons_succ, List.getElem?_cons_zero]
              case i22453 => rfl
              case q22453 => exact fun _ _ _ h => h
              case w22453 => kernel_rfl
              case y22453 => (intro W hSw; go_simp) <;> with_reducible rfl
              try simp only [Act.put, List.setIfInBounds_toArray, List.set_cons_zero, List.set_cons_succ]
              refine wpAnyH_take (i := 13) (oi := ?o22454) (v := ?v22454) ?i22454 (by kernel_rfl) (by kernel_rfl) (by kernel_rfl) ?q22454 (Or.inl ⟨?w22454, ?y22454⟩) (by assumption) ?r22454
              case' i22454 => simp only [List.getElem?_toArray, List.getElem?_cons_succ, List.getElem?_cons_zero]
              case i22454 => rfl
              case q22454 => exact fun _ _ _ h => h
              case w22454 => kernel_rfl
              case y22454 => (intro W hSw; go_simp) <;> with_reducible rfl
              try simp only [Act.put, List.setIfInBounds_toArray, List.set_cons_zero, List.set_cons_succ]
              refine wpAnyH_ready (rs := [15]) (by kernel_rfl) (by simp) ?_
              refine AllReadyH.cons (o := ?t2_10o0) ?t2_10i0 (fun K' hK => ?_) AllReadyH.nil
              case' t2_10i0 => simp only [List.getElem?_toArray, List.getElem?_cons_succ, List.getElem?_cons_zero]
              case t2_10i0 => rfl
              go_simp
              replace HC := Lib.hid (HC.out.box #[.int .i64 0, .int .i64 0, .int .u64 0, .int .u64 0] 33)
              have HS : Hid (wx.heap.size ≤ w507.heap.size ∧ w507.heap.size < (w507.alloc (.cells #[.int .i64 0, .int .i64 0, .int .u64 0, .int .u64 0] 33 : Obj)).heap.size) := Lib.hid ⟨HW.out, by simp⟩
              have HNq : Hid (∀ k o, (k, o) ∈ rs2 → k ≠ w507.heap.size) := Lib.hid (fun k o q => by have h1 := blk_lt (HK1.out k o q); omega)
              have HEqp2 : Hid (w507.heap.size ≠ p2) := Lib.hid (by have := HLp2.out; omega)
              replace HLp2 : Hid (p2 < (w507.alloc (.cells #[.int .i64 0, .int .i64 0, .int .u64 0, .int .u64 0] 33 : Obj)).heap.size) := Lib.hid (by have := HLp2.out; have := HS.out; omega)
              refine hK.out _ _ (HC.out.less (fun x hx => by simp [hx])) (fun hHeld => ?_)
              clear hK K'
              try simp only [Act.put, List.setIfInBounds_toArray, List.set_cons_zero, List.set_cons_succ]
              generalize hwd : (w507.alloc (.cells #[.int .i64 0, .int .i64 0, .int .u64 0, .int .u64 0] 33 : Obj)) = w508 at hHeld HC HS HNq HEqp2 HLp2 ⊢
              generalize hwe : w507.heap.size = q at HC HS HNq HEqp2 HLp2 ⊢
              have HBq : Hid (wx.heap.size ≤ q) := Lib.hid HS.out.1
              have HLq : Hid (q < w508.heap.size) := Lib.hid HS.out.2
              replace HW : Hid (wx.heap.size ≤ w508.heap.size) := Lib.hid (by have h1 := HS.out.1; have h2 := HS.out.2; omega)
              clear hwd hwe HS
              have HEp2q : Hid (p2 ≠ q) := Lib.hid HEqp2.out.symm
              replace HK1 : Hid (∀ k o, (k, o) ∈ rs2 → w508.heap[k]? = some o) := Lib.hid (fun k o q => HC.out.kept k o (by simp [q]))
              replace HC : Hid (Bx w (((p2, (.cells #[.slice none 0 0] 26 (0, 0) : Obj)) : Nat × Obj) :: ((q, (.cells #[.int .i64 0, .int .i64 0, .int .u64 0, .int .u64 0] 33 (0, 0) : Obj)) : Nat × Obj) :: (rs2 ++ BS2)) w508) := Lib.hid (HC.out.less (fun x hx => by simp only [List.mem_cons, List.mem_append] at hx ⊢; rcases hx with h | h | h | h <;> simp [h]))
              refine wpAnyH_ready (rs := [16]) (by kernel_rfl) (by simp) ?_
              refine AllReadyH.cons (o := ?t2_11o0) ?t2_11i0 (fun K' hK => ?_) AllReadyH.nil
              case' t2_11i0 => simp only [List.getElem?_toArray, List.getElem?_cons_succ, List.getElem?_cons_zero]
              case t2_11i0 => rfl
              obtain ⟨z0, z1⟩ := cell1 (HC.out.kept p2 (.cells #[.slice none 0 0] 26 (0, 0) : Obj) (by simp))
              go_simp
              clear z0 z1
              replace HC := Lib.hid (HC.out.set1 (B := p2) (x := .slice none 0 0) (T := 26) (by simp) (Nat.le_trans HCK.out.low.size HBp2.out) (.slice a2 mb c2) (bs' := ((p2, (.cells #[.slice a2 mb c2] 26 (0, 0) : Obj)) : Nat × Obj) :: ((q, (.cells #[.int .i64 0, .int .i64 0, .int .u64 0, .int .u64 0] 33 (0, 0) : Obj)) : Nat × Obj) :: (rs2 ++ BS2)) (fun z hz => by
                rcases List.mem_cons.1 hz with e | e
                · exact .inl e
                ·
                  rcases List.mem_cons.1 e with e | e
                  · exact .inr ⟨by simp [e], by rw [e]; exact HEqp2.out⟩
                  ·
                    rcases List.mem_append.1 e with e | e
                    · exact .inr ⟨by simp [e], HNp2.out z.1 z.2 e⟩
                    ·
                      exact .inr ⟨by simp [e], fun e2 => by have h1 := HCK.out.klt (k := z.1) (o := z.2) e; have h2 := HBp2.out; omega⟩))
              refine hK.out _ _ (HC.out.less (fun x hx => by simp [hx])) (fun hHeld => ?_)
              clear hK K'
              try simp only [Act.put, List.setIfInBounds_toArray, List.set_cons_zero, List.set_cons_succ]
              refine wpAnyH_ready (rs := [17]) (by kernel_rfl) (by simp) ?_
              refine AllReadyH.cons (o := ?t2_12o0) ?t2_12i0 (fun K' hK => ?_) AllReadyH.nil
              case' t2_12i0 => simp only [List.getElem?_toArray, List.getElem?_cons_succ, List.getElem?_cons_zero]
              case t2_12i0 => rfl
              obtain ⟨z0, z1, z2, z3, z4, z5, z6, z7⟩ := cells4 (HC.out.kept q (.cells #[.int .i64 0, .int .i64 0, .int .u64 0, .int .u64 0] 33 (0, 0) : Obj) (by simp))
              go_simp
              clear z0 z1 z2 z3 z4 z5 z6 z7
              replace HC := Lib.hid (HC.out.set4 (B := q) (x := .int .i64 0) (y := .int .i64 0) (z := .int .u64 0) (q := .int .u64 0) (T := 33) (by simp) (Nat.le_trans HCK.out.low.size HBq.out) (.int .i64 0) (.int .i64 0) (.int .u64 0) (.int .u64 0) (bs' := ((p2, (.cells #[.slice a2 mb c2] 26 (0, 0) : Obj)) : Nat × Obj) :: (rs2 ++ BS2)) (fun z hz => by
                rcases List.mem_cons.1 hz with e | e
                · exact .inr ⟨by simp [e], by rw [e]; exact HEp2q.out⟩
                ·
                  rcases List.mem_append.1 e with e | e
                  · exact .inr ⟨by simp [e], HNq.out z.1 z.2 e⟩
                  ·
                    exact .inr ⟨by simp [e], fun e2 => by have h1 := HCK.out.klt (k := z.1) (o := z.2) e; have h2 := HBq.out; omega⟩))
              refine hK.out _ _ (HC.out.less (fun x hx => by simp [hx])) (fun hHeld => ?_)
              clear hK K'
              try simp only [Act.put, List.setIfInBounds_toArray, List.set_cons_zero, List.set_cons_succ]
              refine wpAnyH_take (i := 18) (oi := ?o25601) (v := ?v25601) ?i25601 (by kernel_rfl) (by kernel_rfl) (by kernel_rfl) ?q25601 (Or.inl ⟨?w25601, ?y25601⟩) (by assumption) ?r25601
              case' i25601 => simp only [List.getElem?_toArray, List.getElem?_cons_succ, List.getElem?_cons_zero]
              case i25601 => rfl
              case q25601 => exact fun _ _ _ h => h
              case w25601 => kernel_rfl
              case y25601 => (intro W hSw; go_simp) <;> with_reducible rfl
              try simp only [Act.put, List.setIfInBounds_toArray, List.set_cons_zero, List.set_cons_succ]
              refine wpAnyH_done (by kernel_rfl) ?_ _
              clear hHeld
              go_wp2_with fail
              go_meet
              exact ⟨p2, rs2, a2, c2, rfl, rfl, HC, HD2, HBp2, HR2⟩
            · go_simp
              replace HC := Lib.hid (HC.out.box #[.int .i64 0, .int .i64 0, .int .u64 0, .int .u64 0] 33)
              have HS : Hid (wx.heap.size ≤ w506.heap.size ∧ w506.heap.size < (w506.alloc (.cells #[.int .i64 0, .int .i64 0, .int .u64 0, .int .u64 0] 33 : Obj)).heap.size) := Lib.hid ⟨HW.out, by simp⟩
              have HEqp2 : Hid (w506.heap.size ≠ p2) := Lib.hid (by have := HLp2.out; omega)
              replace HLp2 : Hid (p2 < (w506.alloc (.cells #[.int .i64 0, .int .i64 0, .int .u64 0, .int .u64 0] 33 : Obj)).heap.size) := Lib.hid (by have := HLp2.out; have := HS.out; omega)
              refine hK.out _ _ (HC.out.less (fun x hx => by simp [hx])) (fun hHeld => ?_)
              clear hK K'
              try simp only [Act.put, List.setIfInBounds_toArray, List.set_cons_zero, List.set_cons_succ]
              generalize hwd : (w506.alloc (.cells #[.int .i64 0, .int .i64 0, .int .u64 0, .int .u64 0] 33 : Obj)) = w509 at hHeld HC HS HEqp2 HLp2 ⊢
              generalize hwe : w506.heap.size = q at HC HS HEqp2 HLp2 ⊢
              have HBq : Hid (wx.heap.size ≤ q) := Lib.hid HS.out.1
              have HLq : Hid (q < w509.heap.size) := Lib.hid HS.out.2
              replace HW : Hid (wx.heap.size ≤ w509.heap.size) := Lib.hid (by have h1 := HS.out.1; have h2 := HS.out.2; omega)
              clear hwd hwe HS
              have HEp2q : Hid (p2 ≠ q) := Lib.hid HEqp2.out.symm
              refine wpAnyH_ready (rs := [9]) (by kernel_rfl) (by simp) ?_
              refine AllReadyH.cons (o := ?t2_13o0) ?t2_13i0 (fun K' hK => ?_) AllReadyH.nil
              case' t2_13i0 => simp only [List.getElem?_toArray, List.getElem?_cons_succ, List.getElem?_cons_zero]
              case t2_13i0 => rfl
              go_simp
              go_at_call 10
              refine (HC.out.pput (fs := fb) HN.out.2 (HRb.out _ (fun k o q => hHeld.kept k o (HM.out.2.2.2.1 k o q))) HOK.out.2 (gs := gb) (ep := Kb) (key := 7) (nx := 0) (bt := 0) (gp := 0) (gk := 0) (gn := 0) (gb := 0) (is := false) HPEb.out (m := mb) HMb.out).mono ?_
              rintro e w510 ⟨rs2, a2, c2, rfl, hc, hr, hd, hz⟩
              have HDn : Hid (∀ k o, (k, o) ∈ rs2 → w509.heap.size ≤ k) := Lib.hid hd
              have HR2 := Lib.hid hr
              have HNp2 : Hid (∀ k o, (k, o) ∈ rs2 → k ≠ p2) := Lib.hid (fun k o q => by have h1 := HDn.out k o q; have h2 := HLp2.out; omega)
              have HNq : Hid (∀ k o, (k, o) ∈ rs2 → k ≠ q) := Lib.hid (fun k o q => by have h1 := HDn.out k o q; have h2 := HLq.out; omega)
              replace HLp2 : Hid (p2 < w510.heap.size) := Lib.hid (by have := HLp2.out; omega)
              replace HLq : Hid (q < w510.heap.size) := Lib.hid (by have := HLq.out; omega)
              have HD2 : Hid (∀ k o, (k, o) ∈ rs2 → wx.heap.size ≤ k) := Lib.hid (fun k o q => by have h1 := HDn.out k o q; have h2 := HW.out; omega)
              replace HW : Hid (wx.heap.size ≤ w510.heap.size) := Lib.hid (by have := HW.out; omega)
              replace HC := Lib.hid hc
              clear hc hz hr hd HDn
              go_wp2_with fail
              refine hK.out _ _ (HC.out.less (fun x hx => by simp [hx])) (fun hHeld => ?_)
              clear hK K'
              try simp only [Act.put, List.setIfInBounds_toArray, List.set_cons_zero, List.set_cons_succ]
              have HK1 : Hid (∀ k o, (k, o) ∈ rs2 → w510.heap[k]? = some o) := Lib.hid (fun k o q => HC.out.kept k o (by simp [q]))
              refine wpAnyH_take (i := 10) (oi := ?o22651) (v := ?v22651) ?i22651 (by kernel_rfl) (by kernel_rfl) (by kernel_rfl) ?q22651 (Or.inl ⟨?w22651, ?y22651⟩) (by assumption) ?r22651
              case' i22651 => simp only [List.getElem?_toArray, List.getElem?_cons_succ, List.getElem?_cons_zero]
              case i22651 => rfl
              case q22651 => exact fun _ _ _ h => h
              case w22651 => kernel_rfl
              case y22651 => (intro W hSw; go_simp) <;> with_reducible rfl
              try simp only [Act.put, List.setIfInBounds_toArray, List.set_cons_zero, List.set_cons_succ]
              refine wpAnyH_take (i := 11) (oi := ?o22652) (v := ?v22652) ?i22652 (by kernel_rfl) (by kernel_rfl) (by kernel_rfl) ?q22652 (Or.inl ⟨?w22652, ?y22652⟩) (by assumption) ?r22652
              case' i22652 => simp only [List.getElem?_toArray, List.getElem?_cons_succ, List.getElem?_cons_zero]
              case i22652 => rfl
              case q22652 => exact fun _ _ _ h => h
              case w22652 => kernel_rfl
              case y22652 => (intro W hSw; go_simp) <;> with_reducible rfl
              try simp only [Act.put, List.setIfInBounds_toArray, List.set_cons_zero, List.set_cons_succ]
              refine wpAnyH_take (i := 12) (oi := ?o22653) (v := ?v22653) ?i22653 (by kernel_rfl) (by kernel_rfl) (by kernel_rfl) ?q22653 (Or.inl ⟨?w22653, ?y22653⟩) (by assumption) ?r22653
              case' i22653 => simp only [List.getElem?_toArray, List.getElem?_cons_succ, List.getElem?_cons_zero]
              case i22653 => rfl
              case q22653 => exact fun _ _ _ h => h
              case w22653 => kernel_rfl
              case y22653 => (intro W hSw; go_simp) <;> with_reducible rfl
              try simp only [Act.put, List.setIfInBounds_toArray, List.set_cons_zero, List.set_cons_succ]
              refine wpAnyH_take (i := 13) (oi := ?o22654) (v := ?v22654) ?i22654 (by kernel_rfl) (by kernel_rfl) (by kernel_rfl) ?q22654 (Or.inl ⟨?w22654, ?y22654⟩) (by assumption) ?r22654
              case' i22654 => simp only [List.getElem?_toArray, List.getElem?_cons_succ, List.getElem?_cons_zero]
              case i22654 => rfl
              case q22654 => exact fun _ _ _ h => h
              case w22654 => kernel_rfl
              case y22654 => (intro W hSw; go_simp) <;> with_reducible rfl
              try simp only [Act.put, List.setIfInBounds_toArray, List.set_cons_zero, List.set_cons_succ]
              replace HC : Hid (Bx w (((p2, (.cells #[.slice none 0 0] 26 (0, 0) : Obj)) : Nat × Obj) :: ((q, (.cells #[.int .i64 0, .int .i64 0, .int .u64 0, .int .u64 0] 33 (0, 0) : Obj)) : Nat × Obj) :: (rs2 ++ BS2)) w510) := Lib.hid (HC.out.less (fun x hx => by simp only [List.mem_cons, List.mem_append] at hx ⊢; rcases hx with h | h | h | h <;> simp [h]))
              refine wpAnyH_ready (rs := [16]) (by kernel_rfl) (by simp) ?_
              refine AllReadyH.cons (o := ?t2_14o0) ?t2_14i0 (fun K' hK => ?_) AllReadyH.nil
              case' t2_14i0 => simp only [List.getElem?_toArray, List.getElem?_cons_succ, List.getElem?_cons_zero]
              case t2_14i0 => rfl
              obtain ⟨z0, z1⟩ := cell1 (HC.out.kept p2 (.cells #[.slice none 0 0] 26 (0, 0) : Obj) (by simp))
              go_simp
              clear z0 z1
              replace HC := Lib.hid (HC.out.set1 (B := p2) (x := .slice none 0 0) (T := 26) (by simp) (Nat.le_trans HCK.out.low.size HBp2.out) (.slice a2 mb c2) (bs' := ((p2, (.cells #[.slice a2 mb c2] 26 (0, 0) : Obj)) : Nat × Obj) :: ((q, (.cells #[.int .i64 0, .int .i64 0, .int .u64 0, .int .u64 0] 33 (0, 0) : Obj)) : Nat × Obj) :: (rs2 ++ BS2)) (fun z hz => by
                rcases List.mem_cons.1 hz with e | e
                · exact .inl e
                ·
                  rcases List.mem_cons.1 e with e | e
                  · exact .inr ⟨by simp [e], by rw [e]; exact HEqp2.out⟩
                  ·
                    rcases List.mem_append.1 e with e | e
                    · exact .inr ⟨by simp [e], HNp2.out z.1 z.2 e⟩
                    ·
                      exact .inr ⟨by simp [e], fun e2 => by have h1 := HCK.out.klt (k := z.1) (o := z.2) e; have h2 := HBp2.out; omega⟩))
              refine hK.out _ _ (HC.out.less (fun x hx => by simp [hx])) (fun hHeld => ?_)
              clear hK K'
              try simp only [Act.put, List.setIfInBounds_toArray, List.set_cons_zero, List.set_cons_succ]
              refine wpAnyH_ready (rs := [17]) (by kernel_rfl) (by simp) ?_
              refine AllReadyH.cons (o := ?t2_15o0) ?t2_15i0 (fun K' hK => ?_) AllReadyH.nil
              case' t2_15i0 => simp only [List.getElem?_toArray, List.getElem?_cons_succ, List.getElem?_cons_zero]
              case t2_15i0 => rfl
              obtain ⟨z0, z1, z2, z3, z4, z5, z6, z7⟩ := cells4 (HC.out.kept q (.cells #[.int .i64 0, .int .i64 0, .int .u64 0, .int .u64 0] 33 (0, 0) : Obj) (by simp))
              go_simp
              clear z0 z1 z2 z3 z4 z5 z6 z7
              replace HC := Lib.hid (HC.out.set4 (B := q) (x := .int .i64 0) (y := .int .i64 0) (z := .int .u64 0) (q := .int .u64 0) (T := 33) (by simp) (Nat.le_trans HCK.out.low.size HBq.out) (.int .i64 0) (.int .i64 0) (.int .u64 0) (.int .u64 0) (bs' := ((p2, (.cells #[.slice a2 mb c2] 26 (0, 0) : Obj)) : Nat × Obj) :: (rs2 ++ BS2)) (fun z hz => by
                rcases List.mem_cons.1 hz with e | e
                · exact .inr ⟨by simp [e], by rw [e]; exact HEp2q.out⟩
                ·
                  rcases List.mem_append.1 e with e | e
                  · exact .inr ⟨by simp [e], HNq.out z.1 z.2 e⟩
                  ·
                    exact .inr ⟨by simp [e], fun e2 => by have h1 := HCK.out.klt (k := z.1) (o := z.2) e; have h2 := HBq.out; omega⟩))
              refine hK.out _ _ (HC.out.less (fun x hx => by simp [hx])) (fun hHeld => ?_)
              clear hK K'
              try simp only [Act.put, List.setIfInBounds_toArray, List.set_cons_zero, List.set_cons_succ]
              refine wpAnyH_take (i := 18) (oi := ?o25751) (v := ?v25751) ?i25751 (by kernel_rfl) (by kernel_rfl) (by kernel_rfl) ?q25751 (Or.inl ⟨?w25751, ?y25751⟩) (by assumption) ?r25751
              case' i25751 => simp only [List.getElem?_toArray, List.getElem?_cons_succ, List.getElem?_cons_zero]
              case i25751 => rfl
              case q25751 => exact fun _ _ _ h => h
              case w25751 => kernel_rfl
              case y25751 => (intro W hSw; go_simp) <;> with_reducible rfl
              try simp only [Act.put, List.setIfInBounds_toArray, List.set_cons_zero, List.set_cons_succ]
              refine wpAnyH_done (by kernel_rfl) ?_ _
              clear hHeld
              go_wp2_with fail
              go_meet
              exact ⟨p2, rs2, a2, c2, rfl, rfl, HC, HD2, HBp2, HR2⟩
          · go_simp
            replace HC := Lib.hid (HC.out.box #[.int .i64 0, .int .i64 0, .int .u64 0, .int .u64 0] 33)
            have HS : Hid (wx.heap.size ≤ wS.heap.size ∧ wS.heap.size < (wS.alloc (.cells #[.int .i64 0, .int .i64 0, .int .u64 0, .int .u64 0] 33 : Obj)).heap.size) := Lib.hid ⟨HW.out, by simp⟩
            refine hK.out _ _ (HC.out.less (fun x hx => by simp [hx])) (fun hHeld => ?_)
            clear hK K'
            try simp only [Act.put, List.setIfInBounds_toArray, List.set_cons_zero, List.set_cons_succ]
            generalize hwd : (wS.alloc (.cells #[.int .i64 0, .int .i64 0, .int .u64 0, .int .u64 0] 33 : Obj)) = w511 at hHeld HC HS ⊢
            generalize hwe : wS.heap.size = q at HC HS ⊢
            have HBq : Hid (wx.heap.size ≤ q) := Lib.hid HS.out.1
            have HLq : Hid (q < w511.heap.size) := Lib.hid HS.out.2
            replace HW : Hid (wx.heap.size ≤ w511.heap.size) := Lib.hid (by have h1 := HS.out.1; have h2 := HS.out.2; omega)
            clear hwd hwe HS
            refine wpAnyH_ready (rs := [9, 14]) (by kernel_rfl) (by simp) ?_
            refine AllReadyH.cons (o := ?t2_16o0) ?t2_16i0 (fun K' hK => ?_) (AllReadyH.cons (o := ?t2_16o1) ?t2_16i1 (fun K' hK => ?_) AllReadyH.nil)
            case' t2_16i0 => simp only [List.getElem?_toArray, List.getElem?_cons_succ, List.getElem?_cons_zero]
            case t2_16i0 => rfl
            case' t2_16i1 => simp only [List.getElem?_toArray, List.getElem?_cons_succ, List.getElem?_cons_zero]
            case t2_16i1 => rfl
            · go_simp
              go_at_call 10
              refine (HC.out.pput (fs := fb) HN.out.2 (HRb.out _ (fun k o q => hHeld.kept k o (HM.out.2.2.2.1 k o q))) HOK.out.2 (gs := gb) (ep := Kb) (key := 7) (nx := 0) (bt := 0) (gp := 0) (gk := 0) (gn := 0) (gb := 0) (is := false) HPEb.out (m := mb) HMb.out).mono ?_
              rintro e w512 ⟨rs2, a2, c2, rfl, hc, hr, hd, hz⟩
              have HDn : Hid (∀ k o, (k, o) ∈ rs2 → w511.heap.size ≤ k) := Lib.hid hd
              have HR2 := Lib.hid hr
              have HNq : Hid (∀ k o, (k, o) ∈ rs2 → k ≠ q) := Lib.hid (fun k o q => by have h1 := HDn.out k o q; have h2 := HLq.out; omega)
              replace HLq : Hid (q < w512.heap.size) := Lib.hid (by have := HLq.out; omega)
              have HD2 : Hid (∀ k o, (k, o) ∈ rs2 → wx.heap.size ≤ k) := Lib.hid (fun k o q => by have h1 := HDn.out k o q; have h2 := HW.out; omega)
              replace HW : Hid (wx.heap.size ≤ w512.heap.size) := Lib.hid (by have := HW.out; omega)
              replace HC := Lib.hid hc
              clear hc hz hr hd HDn
              go_wp2_with fail
              refine hK.out _ _ (HC.out.less (fun x hx => by simp [hx])) (fun hHeld => ?_)
              clear hK K'
              try simp only [Act.put, List.setIfInBounds_toArray, List.set_cons_zero, List.set_cons_succ]
              have HK1 : Hid (∀ k o, (k, o) ∈ rs2 → w512.heap[k]? = some o) := Lib.hid (fun k o q => HC.out.kept k o (by simp [q]))
              refine wpAnyH_take (i := 10) (oi := ?o22801) (v := ?v22801) ?i22801 (by kernel_rfl) (by kernel_rfl) (by kernel_rfl) ?q22801 (Or.inl ⟨?w22801, ?y22801⟩) (by assumption) ?r22801
              case' i22801 => simp only [List.getElem?_toArray, List.getElem?_cons_succ, List.getElem?_cons_zero]
              case i22801 => rfl
              case q22801 => exact fun _ _ _ h => h
              case w22801 => kernel_rfl
              case y22801 => (intro W hSw; go_simp) <;> with_reducible rfl
              try simp only [Act.put, List.setIfInBounds_toArray, List.set_cons_zero, List.set_cons_succ]
              refine wpAnyH_take (i := 11) (oi := ?o22802) (v := ?v22802) ?i22802 (by kernel_rfl) (by kernel_rfl) (by kernel_rfl) ?q22802 (Or.inl ⟨?w22802, ?y22802⟩) (by assumption) ?r22802
              case' i22802 => simp only [List.getElem?_toArray, List.getElem?_cons_succ, List.getElem?_cons_zero]
              case i22802 => rfl
              case q22802 => exact fun _ _ _ h => h
              case w22802 => kernel_rfl
              case y22802 => (intro W hSw; go_simp) <;> with_reducible rfl
              try simp only [Act.put, List.setIfInBounds_toArray, List.set_cons_zero, List.set_cons_succ]
              refine wpAnyH_take (i := 12) (oi := ?o22803) (v := ?v22803) ?i22803 (by kernel_rfl) (by kernel_rfl) (by kernel_rfl) ?q22803 (Or.inl ⟨?w22803, ?y22803⟩) (by assumption) ?r22803
              case' i22803 => simp only [List.getElem?_toArray, List.getElem?_cons_succ, List.getElem?_cons_zero]
              case i22803 => rfl
              case q22803 => exact fun _ _ _ h => h
              case w22803 => kernel_rfl
              case y22803 => (intro W hSw; go_simp) <;> with_reducible rfl
              try simp only [Act.put, List.setIfInBounds_toArray, List.set_cons_zero, List.set_cons_succ]
              refine wpAnyH_take (i := 13) (oi := ?o22804) (v := ?v22804) ?i22804 (by kernel_rfl) (by kernel_rfl) (by kernel_rfl) ?q22804 (Or.inl ⟨?w22804, ?y22804⟩) (by assumption) ?r22804
              case' i22804 => simp only [List.getElem?_toArray, List.getElem?_cons_succ, List.getElem?_cons_zero]
              case i22804 => rfl
              case q22804 => exact fun _ _ _ h => h
              case w22804 => kernel_rfl
              case y22804 => (intro W hSw; go_simp) <;> with_reducible rfl
              try simp only [Act.put, List.setIfInBounds_toArray, List.set_cons_zero, List.set_cons_succ]
              refine wpAnyH_ready (rs := [14]) (by kernel_rfl) (by simp) ?_
              refine AllReadyH.cons (o := ?t2_17o0) ?t2_17i0 (fun K' hK => ?_) AllReadyH.nil
              case' t2_17i0 => simp only [List.getElem?_toArray, List.getElem?_cons_succ, List.getElem?_cons_zero]
              case t2_17i0 => rfl
              go_simp
              replace HC := Lib.hid (HC.out.box #[.slice none 0 0] 26)
              have HS : Hid (wx.heap.size ≤ w512.heap.size ∧ w512.heap.size < (w512.alloc (.cells #[.slice none 0 0] 26 : Obj)).heap.size) := Lib.hid ⟨HW.out, by simp⟩
              have HNp2 : Hid (∀ k o, (k, o) ∈ rs2 → k ≠ w512.heap.size) := Lib.hid (fun k o q => by have h1 := blk_lt (HK1.out k o q); omega)
              have HEp2q : Hid (w512.heap.size ≠ q) := Lib.hid (by have := HLq.out; omega)
              replace HLq : Hid (q < (w512.alloc (.cells #[.slice none 0 0] 26 : Obj)).heap.size) := Lib.hid (by have := HLq.out; have := HS.out; omega)
              refine hK.out _ _ (HC.out.less (fun x hx => by simp [hx])) (fun hHeld => ?_)
              clear hK K'
              try simp only [Act.put, List.setIfInBounds_toArray, List.set_cons_zero, List.set_cons_succ]
              generalize hwd : (w512.alloc (.cells #[.slice none 0 0] 26 : Obj)) = w513 at hHeld HC HS HNp2 HEp2q HLq ⊢
              generalize hwe : w512.heap.size = p2 at HC HS HNp2 HEp2q HLq ⊢
              have HBp2 : Hid (wx.heap.size ≤ p2) := Lib.hid HS.out.1
              have HLp2 : Hid (p2 < w513.heap.size) := Lib.hid HS.out.2
              replace HW : Hid (wx.heap.size ≤ w513.heap.size) := Lib.hid (by have h1 := HS.out.1; have h2 := HS.out.2; omega)
              clear hwd hwe HS
              have HEqp2 : Hid (q ≠ p2) := Lib.hid HEp2q.out.symm
              replace HK1 : Hid (∀ k o, (k, o) ∈ rs2 → w513.heap[k]? = some o) := Lib.hid (fun k o q => HC.out.kept k o (by simp [q]))
              replace HC : Hid (Bx w (((p2, (.cells #[.slice none 0 0] 26 (0, 0) : Obj)) : Nat × Obj) :: ((q, (.cells #[.int .i64 0, .int .i64 0, .int .u64 0, .int .u64 0] 33 (0, 0) : Obj)) : Nat × Obj) :: (rs2 ++ BS2)) w513) := Lib.hid (HC.out.less (fun x hx => by simp only [List.mem_cons, List.mem_append] at hx ⊢; rcases hx with h | h | h | h <;> simp [h]))
              refine wpAnyH_ready (rs := [16]) (by kernel_rfl) (by simp) ?_
              refine AllReadyH.cons (o := ?t2_18o0) ?t2_18i0 (fun K' hK => ?_) AllReadyH.nil
              case' t2_18i0 => simp only [List.getElem?_toArray, List.getElem?_cons_succ, List.getElem?_cons_zero]
              case t2_18i0 => rfl
              obtain ⟨z0, z1⟩ := cell1 (HC.out.kept p2 (.cells #[.slice none 0 0] 26 (0, 0) : Obj) (by simp))
              go_simp
              clear z0 z1
              replace HC := Lib.hid (HC.out.set1 (B := p2) (x := .slice none 0 0) (T := 26) (by simp) (Nat.le_trans HCK.out.low.size HBp2.out) (.slice a2 mb c2) (bs' := ((p2, (.cells #[.slice a2 mb c2] 26 (0, 0) : Obj)) : Nat × Obj) :: ((q, (.cells #[.int .i64 0, .int .i64 0, .int .u64 0, .int .u64 0] 33 (0, 0) : Obj)) : Nat × Obj) :: (rs2 ++ BS2)) (fun z hz => by
                rcases List.mem_cons.1 hz with e | e
                · exact .inl e
                ·
                  rcases List.mem_cons.1 e with e | e
                  · exact .inr ⟨by simp [e], by rw [e]; exact HEqp2.out⟩
                  ·
                    rcases List.mem_append.1 e with e | e
                    · exact .inr ⟨by simp [e], HNp2.out z.1 z.2 e⟩
                    ·
                      exact .inr ⟨by simp [e], fun e2 => by have h1 := HCK.out.klt (k := z.1) (o := z.2) e; have h2 := HBp2.out; omega⟩))
              refine hK.out _ _ (HC.out.less (fun x hx => by simp [hx])) (fun hHeld => ?_)
              clear hK K'
              try simp only [Act.put, List.setIfInBounds_toArray, List.set_cons_zero, List.set_cons_succ]
              refine wpAnyH_ready (rs := [17]) (by kernel_rfl) (by simp) ?_
              refine AllReadyH.cons (o := ?t2_19o0) ?t2_19i0 (fun K' hK => ?_) AllReadyH.nil
              case' t2_19i0 => simp only [List.getElem?_toArray, List.getElem?_cons_succ, List.getElem?_cons_zero]
              case t2_19i0 => rfl
              obtain ⟨z0, z1, z2, z3, z4, z5, z6, z7⟩ := cells4 (HC.out.kept q (.cells #[.int .i64 0, .int .i64 0, .int .u64 0, .int .u64 0] 33 (0, 0) : Obj) (by simp))
              go_simp
              clear z0 z1 z2 z3 z4 z5 z6 z7
              replace HC := Lib.hid (HC.out.set4 (B := q) (x := .int .i64 0) (y := .int .i64 0) (z := .int .u64 0) (q := .int .u64 0) (T := 33) (by simp) (Nat.le_trans HCK.out.low.size HBq.out) (.int .i64 0) (.int .i64 0) (.int .u64 0) (.int .u64 0) (bs' := ((p2, (.cells #[.slice a2 mb c2] 26 (0, 0) : Obj)) : Nat × Obj) :: (rs2 ++ BS2)) (fun z hz => by
                rcases List.mem_cons.1 hz with e | e
                · exact .inr ⟨by simp [e], by rw [e]; exact HEp2q.out⟩
                ·
                  rcases List.mem_append.1 e with e | e
                  · exact .inr ⟨by simp [e], HNq.out z.1 z.2 e⟩
                  ·
                    exact .inr ⟨by simp [e], fun e2 => by have h1 := HCK.out.klt (k := z.1) (o := z.2) e; have h2 := HBq.out; omega⟩))
              refine hK.out _ _ (HC.out.less (fun x hx => by simp [hx])) (fun hHeld => ?_)
              clear hK K'
              try simp only [Act.put, List.setIfInBounds_toArray, List.set_cons_zero, List.set_cons_succ]
              refine wpAnyH_take (i := 18) (oi := ?o25951) (v := ?v25951) ?i25951 (by kernel_rfl) (by kernel_rfl) (by kernel_rfl) ?q25951 (Or.inl ⟨?w25951, ?y25951⟩) (by assumption) ?r25951
              case' i25951 => simp only [List.getElem?_toArray, List.getElem?_cons_succ, List.getElem?_cons_zero]
              case i25951 => rfl
              case q25951 => exact fun _ _ _ h => h
              case w25951 => kernel_rfl
              case y25951 => (intro W hSw; go_simp) <;> with_reducible rfl
              try simp only [Act.put, List.setIfInBounds_toArray, List.set_cons_zero, List.set_cons_succ]
              refine wpAnyH_done (by kernel_rfl) ?_ _
              clear hHeld
              go_wp2_with fail
              go_meet
              exact ⟨p2, rs2, a2, c2, rfl, rfl, HC, HD2, HBp2, HR2⟩
            · go_simp
              replace HC := Lib.hid (HC.out.box #[.slice none 0 0] 26)
              have HS : Hid (wx.heap.size ≤ w511.heap.size ∧ w511.heap.size < (w511.alloc (.cells #[.slice none 0 0] 26 : Obj)).heap.size) := Lib.hid ⟨HW.out, by simp⟩
              have HEp2q : Hid (w511.heap.size ≠ q) := Lib.hid (by have := HLq.out; omega)
              replace HLq : Hid (q < (w511.alloc (.cells #[.slice none 0 0] 26 : Obj)).heap.size) := Lib.hid (by have := HLq.out; have := HS.out; omega)
              refine hK.out _ _ (HC.out.less (fun x hx => by simp [hx])) (fun hHeld => ?_)
              clear hK K'
              try simp only [Act.put, List.setIfInBounds_toArray, List.set_cons_zero, List.set_cons_succ]
              generalize hwd : (w511.alloc (.cells #[.slice none 0 0] 26 : Obj)) = w514 at hHeld HC HS HEp2q HLq ⊢
              generalize hwe : w511.heap.size = p2 at HC HS HEp2q HLq ⊢
              have HBp2 : Hid (wx.heap.size ≤ p2) := Lib.hid HS.out.1
              have HLp2 : Hid (p2 < w514.heap.size) := Lib.hid HS.out.2
              replace HW : Hid (wx.heap.size ≤ w514.heap.size) := Lib.hid (by have h1 := HS.out.1; have h2 := HS.out.2; omega)
              clear hwd hwe HS
              have HEqp2 : Hid (q ≠ p2) := Lib.hid HEp2q.out.symm
              refine wpAnyH_ready (rs := [9]) (by kernel_rfl) (by simp) ?_
              refine AllReadyH.cons (o := ?t2_20o0) ?t2_20i0 (fun K' hK => ?_) AllReadyH.nil
              case' t2_20i0 => simp only [List.getElem?_toArray, List.getElem?_cons_succ, List.getElem?_cons_zero]
              case t2_20i0 => rfl
              go_simp
              go_at_call 10
              refine (HC.out.pput (fs := fb) HN.out.2 (HRb.out _ (fun k o q => hHeld.kept k o (HM.out.2.2.2.1 k o q))) HOK.out.2 (gs := gb) (ep := Kb) (key := 7) (nx := 0) (bt := 0) (gp := 0) (gk := 0) (gn := 0) (gb := 0) (is := false) HPEb.out (m := mb) HMb.out).mono ?_
              rintro e w515 ⟨rs2, a2, c2, rfl, hc, hr, hd, hz⟩
              have HDn : Hid (∀ k o, (k, o) ∈ rs2 → w514.heap.size ≤ k) := Lib.hid hd
              have HR2 := Lib.hid hr
              have HNq : Hid (∀ k o, (k, o) ∈ rs2 → k ≠ q) := Lib.hid (fun k o q => by have h1 := HDn.out k o q; have h2 := HLq.out; omega)
              have HNp2 : Hid (∀ k o, (k, o) ∈ rs2 → k ≠ p2) := Lib.hid (fun k o q => by have h1 := HDn.out k o q; have h2 := HLp2.out; omega)
              replace HLq : Hid (q < w515.heap.size) := Lib.hid (by have := HLq.out; omega)
              replace HLp2 : Hid (p2 < w515.heap.size) := Lib.hid (by have := HLp2.out; omega)
              have HD2 : Hid (∀ k o, (k, o) ∈ rs2 → wx.heap.size ≤ k) := Lib.hid (fun k o q => by have h1 := HDn.out k o q; have h2 := HW.out; omega)
              replace HW : Hid (wx.heap.size ≤ w515.heap.size) := Lib.hid (by have := HW.out; omega)
              replace HC := Lib.hid hc
              clear hc hz hr hd HDn
              go_wp2_with fail
              refine hK.out _ _ (HC.out.less (fun x hx => by simp [hx])) (fun hHeld => ?_)
              clear hK K'
              try simp only [Act.put, List.setIfInBounds_toArray, List.set_cons_zero, List.set_cons_succ]
              have HK1 : Hid (∀ k o, (k, o) ∈ rs2 → w515.heap[k]? = some o) := Lib.hid (fun k o q => HC.out.kept k o (by simp [q]))
              refine wpAnyH_take (i := 10) (oi := ?o23001) (v := ?v23001) ?i23001 (by kernel_rfl) (by kernel_rfl) (by kernel_rfl) ?q23001 (Or.inl ⟨?w23001, ?y23001⟩) (by assumption) ?r23001
              case' i23001 => simp only [List.getElem?_toArray, List.getElem?_cons_succ, List.getElem?_cons_zero]
              case i23001 => rfl
              case q23001 => exact fun _ _ _ h => h
              case w23001 => kernel_rfl
              case y23001 => (intro W hSw; go_simp) <;> with_reducible rfl
              try simp only [Act.put, List.setIfInBounds_toArray, List.set_cons_zero, List.set_cons_succ]
              refine wpAnyH_take (i := 11) (oi := ?o23002) (v := ?v23002) ?i23002 (by kernel_rfl) (by kernel_rfl) (by kernel_rfl) ?q23002 (Or.inl ⟨?w23002, ?y23002⟩) (by assumption) ?r23002
              case' i23002 => simp only [List.getElem?_toArray, List.getElem?_cons_succ, List.getElem?_cons_zero]
              case i23002 => rfl
              case q23002 => exact fun _ _ _ h => h
              case w23002 => kernel_rfl
              case y23002 => (intro W hSw; go_simp) <;> with_reducible rfl
              try simp only [Act.put, List.setIfInBounds_toArray, List.set_cons_zero, List.set_cons_succ]
              refine wpAnyH_take (i := 12) (oi := ?o23003) (v := ?v23003) ?i23003 (by kernel_rfl) (by kernel_rfl) (by kernel_rfl) ?q23003 (Or.inl ⟨?w23003, ?y23003⟩) (by assumption) ?r23003
              case' i23003 => simp only [List.getElem?_toArray, List.getElem?_cons_succ, List.getElem?_cons_zero]
              case i23003 => rfl
              case q23003 => exact fun _ _ _ h => h
              case w23003 => kernel_rfl
              case y23003 => (intro W hSw; go_simp) <;> with_reducible rfl
              try simp only [Act.put, List.setIfInBounds_toArray, List.set_cons_zero, List.set_cons_succ]
              refine wpAnyH_take (i := 13) (oi := ?o23004) (v := ?v23004) ?i23004 (by kernel_rfl) (by kernel_rfl) (by kernel_rfl) ?q23004 (Or.inl ⟨?w23004, ?y23004⟩) (by assumption) ?r23004
              case' i23004 => simp only [List.getElem?_toArray, List.getElem?_cons_succ, List.getElem?_cons_zero]
              case i23004 => rfl
              case q23004 => exact fun _ _ _ h => h
              case w23004 => kernel_rfl
              case y23004 => (intro W hSw; go_simp) <;> with_reducible rfl
              try simp only [Act.put, List.setIfInBounds_toArray, List.set_cons_zero, List.set_cons_succ]
              replace HC : Hid (Bx w (((p2, (.cells #[.slice none 0 0] 26 (0, 0) : Obj)) : Nat × Obj) :: ((q, (.cells #[.int .i64 0, .int .i64 0, .int .u64 0, .int .u64 0] 33 (0, 0) : Obj)) : Nat × Obj) :: (rs2 ++ BS2)) w515) := Lib.hid (HC.out.less (fun x hx => by simp only [List.mem_cons, List.mem_append] at hx ⊢; rcases hx with h | h | h | h <;> simp [h]))
              refine wpAnyH_ready (rs := [16]) (by kernel_rfl) (by simp) ?_
              refine AllReadyH.cons (o := ?t2_21o0) ?t2_21i0 (fun K' hK => ?_) AllReadyH.nil
              case' t2_21i0 => simp only [List.getElem?_toArray, List.getElem?_cons_succ, List.getElem?_cons_zero]
              case t2_21i0 => rfl
              obtain ⟨z0, z1⟩ := cell1 (HC.out.kept p2 (.cells #[.slice none 0 0] 26 (0, 0) : Obj) (by simp))
              go_simp
              clear z0 z1
              replace HC := Lib.hid (HC.out.set1 (B := p2) (x := .slice none 0 0) (T := 26) (by simp) (Nat.le_trans HCK.out.low.size HBp2.out) (.slice a2 mb c2) (bs' := ((p2, (.cells #[.slice a2 mb c2] 26 (0, 0) : Obj)) : Nat × Obj) :: ((q, (.cells #[.int .i64 0, .int .i64 0, .int .u64 0, .int .u64 0] 33 (0, 0) : Obj)) : Nat × Obj) :: (rs2 ++ BS2)) (fun z hz => by
                rcases List.mem_cons.1 hz with e | e
                · exact .inl e
                ·
                  rcases List.mem_cons.1 e with e | e
                  · exact .inr ⟨by simp [e], by rw [e]; exact HEqp2.out⟩
                  ·
                    rcases List.mem_append.1 e with e | e
                    · exact .inr ⟨by simp [e], HNp2.out z.1 z.2 e⟩
                    ·
                      exact .inr ⟨by simp [e], fun e2 => by have h1 := HCK.out.klt (k := z.1) (o := z.2) e; have h2 := HBp2.out; omega⟩))
              refine hK.out _ _ (HC.out.less (fun x hx => by simp [hx])) (fun hHeld => ?_)
              clear hK K'
              try simp only [Act.put, List.setIfInBounds_toArray, List.set_cons_zero, List.set_cons_succ]
              refine wpAnyH_ready (rs := [17]) (by kernel_rfl) (by simp) ?_
              refine AllReadyH.cons (o := ?t2_22o0) ?t2_22i0 (fun K' hK => ?_) AllReadyH.nil
              case' t2_22i0 => simp only [List.getElem?_toArray, List.getElem?_cons_succ, List.getElem?_cons_zero]
              case t2_22i0 => rfl
              obtain ⟨z0, z1, z2, z3, z4, z5, z6, z7⟩ := cells4 (HC.out.kept q (.cells #[.int .i64 0, .int .i64 0, .int .u64 0, .int .u64 0] 33 (0, 0) : Obj) (by simp))
              go_simp
              clear z0 z1 z2 z3 z4 z5 z6 z7
              replace HC := Lib.hid (HC.out.set4 (B := q) (x := .int .i64 0) (y := .int .i64 0) (z := .int .u64 0) (q := .int .u64 0) (T := 33) (by simp) (Nat.le_trans HCK.out.low.size HBq.out) (.int .i64 0) (.int .i64 0) (.int .u64 0) (.int .u64 0) (bs' := ((p2, (.cells #[.slice a2 mb c2] 26 (0, 0) : Obj)) : Nat × Obj) :: (rs2 ++ BS2)) (fun z hz => by
                rcases List.mem_cons.1 hz with e | e
                · exact .inr ⟨by simp [e], by rw [e]; exact HEp2q.out⟩
                ·
                  rcases List.mem_append.1 e with e | e
                  · exact .inr ⟨by simp [e], HNq.out z.1 z.2 e⟩
                  ·
                    exact .inr ⟨by simp [e], fun e2 => by have h1 := HCK.out.klt (k := z.1) (o := z.2) e; have h2 := HBq.out; omega⟩))
              refine hK.out _ _ (HC.out.less (fun x hx => by simp [hx])) (fun hHeld => ?_)
              clear hK K'
              try simp only [Act.put, List.setIfInBounds_toArray, List.set_cons_zero, List.set_cons_succ]
              refine wpAnyH_take (i := 18) (oi := ?o26101) (v := ?v26101) ?i26101 (by kernel_rfl) (by kernel_rfl) (by kernel_rfl) ?q26101 (Or.inl ⟨?w26101, ?y26101⟩) (by assumption) ?r26101
              case' i26101 => simp only [List.getElem?_toArray, List.getElem?_cons_succ, List.getElem?_cons_zero]
              case i26101 => rfl
              case q26101 => exact fun _ _ _ h => h
              case w26101 => kernel_rfl
              case y26101 => (intro W hSw; go_simp) <;> with_reducible rfl
              try simp only [Act.put, List.setIfInBounds_toArray, List.set_cons_zero, List.set_cons_succ]
              refine wpAnyH_done (by kernel_rfl) ?_ _
              clear hHeld
              go_wp2_with fail
              go_meet
              exact ⟨p2, rs2, a2, c2, rfl, rfl, HC, HD2, HBp2, HR2⟩
        case rest =>
          obtain ⟨wx2, hwx⟩ : ∃ u, u = wc := ⟨_, rfl⟩
          subst hwx
          obtain ⟨p2, rs2, a2, c2, rfl, rfl, HC, HD2, HPB2, HR2⟩ := hcut
          obtain ⟨z0, z1⟩ := cell1 (HC.out.kept p2 (.cells #[.slice a2 mb c2] 26 (0, 0) : Obj) (by simp))
          obtain ⟨z2, z3⟩ := cell1 (HC.out.kept BB (.cells #[.slice ab nb cb] 26 (0, 0) : Obj) (by simp [HM.out.1]))
          obtain ⟨z4, z5⟩ := cell1 (HC.out.kept p (.cells #[.slice a1 ma c1] 26 (0, 0) : Obj) (by simp [HM.out.2.1]))
          obtain ⟨z6, z7⟩ := cell1 (HC.out.kept BA (.cells #[.slice aa na ca] 26 (0, 0) : Obj) (by simp [HM.out.2.2.1]))
          have hpA : BA ≠ p2 := by have := HPB2.out; have := HBX.out; omega
          have hpB : BB ≠ p2 := by have := HPB2.out; have := HBX.out; omega
          have HPB3 := Lib.hid (And.intro hpA hpB)
          have HC1 : Hid (Bx w (((p2, (.cells #[.slice a2 mb c2] 26 (0, 0) : Obj)) : Nat × Obj) :: (rs1 ++ (rs2 ++ [(((BB, (.cells #[.slice ab nb cb] 26 (0, 0) : Obj)) : Nat × Obj)), (((BA, (.cells #[.slice a1 ma c1] 26 (0, 0) : Obj)) : Nat × Obj))]))) (wx2.setCell ⟨BA, 0, none⟩ (.slice a1 ma c1))) := Lib.hid (HC.out.set1 (B := BA) (x := .slice aa na ca) (T := 26) (by simp [HM.out.2.2.1]) HB.out.1 (.slice a1 ma c1) (fun z hz => by
            rcases List.mem_cons.1 hz with e | e
            · exact .inr ⟨by simp [e], by rw [e]; exact HPB3.out.1.symm⟩
            · rcases List.mem_append.1 e with e | e
              · exact .inr ⟨by simp [HM.out.2.2.2.2 z.1 z.2 e], fun e2 => by have := HD1.out z.1 z.2 e; have := HBW.out; omega⟩
              · rcases List.mem_append.1 e with e | e
                · exact .inr ⟨by simp [e], fun e2 => by have := HD2.out z.1 z.2 e; have := HBX.out; omega⟩
                · rcases List.mem_cons.1 e with e | e
                  · exact .inr ⟨by simp [e, HM.out.1], by rw [e]; have := HB.out; dsimp only; omega⟩
                  · exact .inl (List.mem_singleton.1 e)))
          have HC2 : Hid (Bx w (rs1 ++ (rs2 ++ [(((BB, (.cells #[.slice a2 mb c2] 26 (0, 0) : Obj)) : Nat × Obj)), (((BA, (.cells #[.slice a1 ma c1] 26 (0, 0) : Obj)) : Nat × Obj))])) ((wx2.setCell ⟨BA, 0, none⟩ (.slice a1 ma c1)).setCell ⟨BB, 0, none⟩ (.slice a2 mb c2))) := Lib.hid (HC1.out.set1 (B := BB) (x := .slice ab nb cb) (T := 26) (by simp) (by have := HB.out; omega) (.slice a2 mb c2) (fun z hz => by
            rcases List.mem_append.1 hz with e | e
            · exact .inr ⟨by simp [e], fun e2 => by have := HD1.out z.1 z.2 e; have := HBW.out; omega⟩
            · rcases List.mem_append.1 e with e | e
              · exact .inr ⟨by simp [e], fun e2 => by have := HD2.out z.1 z.2 e; have := HBX.out; omega⟩
              · rcases List.mem_cons.1 e with e | e
                · exact .inl e
                · exact .inr ⟨by simp [List.mem_singleton.1 e], by rw [List.mem_singleton.1 e]; have := HB.out; dsimp only; omega⟩))
          obtain ⟨y0, y1⟩ := cell1 (HC1.out.kept p2 (.cells #[.slice a2 mb c2] 26 (0, 0) : Obj) (by simp))
          obtain ⟨y2, y3⟩ := cell1 (HC1.out.kept BB (.cells #[.slice ab nb cb] 26 (0, 0) : Obj) (by simp))
          clear hpA hpB
          have hABne := HB.out.2
          have hABne2 : BA ≠ BB := by omega
          go_wp2_with fail
          go_roundg (gk - 1)
          case rel => exact ⟨i + 1, ga, gb, a1, ma, c1, a2, mb, c2, rs1, rs2, by have := HI9.out; omega, by have := HI9.out; go_num, HFa2, HFb2, HOK2, Lib.hid ⟨HMa.out.symm, HMb.out.symm⟩, HC2, Lib.hid (fun k oo q => by have := HD1.out k oo q; have := HBW.out; omega), Lib.hid (fun k oo q => by have := HD2.out k oo q; have := HBX.out; omega), HR1, HR2⟩
          case measure => have := HI9.out; omega
    · have him : i = n := by omega
      subst him
      have i1 : decide ((i : Int) < (i : Int)) = false := decide_eq_false (by omega)
      have i2 : decide (i < i) = false := decide_eq_false (by omega)
      have hFa := HFa.out
      have hFb := HFb.out
      have hll : L.length = i := HLN.out
      rw [List.take_of_length_le (by omega)] at hFa
      rw [List.take_of_length_le (by simp; omega)] at hFb
      have hab : fa = fb := hFa.both hFb
      subst hab
      have hnn : na = nb := by have := HN.out; omega
      subst hnn
      have HF := Lib.hid hFa
      have HNA : Hid (na = fa.length) := Lib.hid HN.out.1
      have HOKA := Lib.hid HOK.out.1
      have bna : (na : Int) ≤ 4 := by have := HNA.out; have := HOKA.out.2; omega
      clear hFa hFb hll hi HFa HFb
      obtain ⟨BS, hM, hB⟩ : ∃ BS, (((BA, (.cells #[.slice aa na ca] 26 (0, 0) : Obj)) : Nat × Obj) ∈ BS ∧ ((BB, (.cells #[.slice ab na cb] 26 (0, 0) : Obj)) : Nat × Obj) ∈ BS ∧ (∀ k o, (k, o) ∈ rsa → (k, o) ∈ BS) ∧ (∀ k o, (k, o) ∈ rsb → (k, o) ∈ BS)) ∧ Bx w BS wr := ⟨_, ⟨by simp, by simp, fun k o q => by simp [q], fun k o q => by simp [q]⟩, HC.out⟩
      have HM := Lib.hid hM
      have HC1 := Lib.hid hB
      clear hM hB HC
      have HC := HC1
      clear HC1
      obtain ⟨z0, z1⟩ := cell1 (HC.out.kept BA (.cells #[.slice aa na ca] 26 (0, 0) : Obj) HM.out.1)
      obtain ⟨z2, z3⟩ := cell1 (HC.out.kept BB (.cells #[.slice ab na cb] 26 (0, 0) : Obj) HM.out.2.1)
      go_wp2_with fail
      clear z0 z1 z2 z3
      go_loopg [13] na (fun gk sj wr => ∃ (j : Nat), j + gk = na ∧ sj = .int .i64 (j : Nat) ∧ Hid (Bx w BS wr))
      case atStart => exact ⟨0, by omega, rfl, HC⟩
      case round =>
        clear HC
        obtain ⟨j, hj, rfl, HC⟩ := hrel
        obtain ⟨z0, z1⟩ := cell1 (HC.out.kept BA (.cells #[.slice aa na ca] 26 (0, 0) : Obj) HM.out.1)
        obtain ⟨z2, z3⟩ := cell1 (HC.out.kept BB (.cells #[.slice ab na cb] 26 (0, 0) : Obj) HM.out.2.1)
        by_cases hjm : j < na
        · obtain ⟨b1, f1, hx1, c0, c1, c2, c3⟩ := erow_cell (HRa.out wr (fun k o q => HC.out.kept k o (HM.out.2.2.1 k o q))) (j := j) (by rw [← HNA.out]; exact hjm)
          obtain ⟨b2, f2, hx2, d0, d1, d2, d3⟩ := erow_cell (HRb.out wr (fun k o q => HC.out.kept k o (HM.out.2.2.2 k o q))) (j := j) (by rw [← HNA.out]; exact hjm)
          subst hx1 hx2
          generalize fa.getD j zeroE = z at c0 c1 c2 c3 d0 d1 d2 d3
          obtain ⟨ep, key, nx, bt⟩ := z
          dsimp only at c0 c1 c2 c3 d0 d1 d2 d3
          have hq := fun u => (show (binOp .neq 33 (.agg #[.int .i64 ep, .int .i64 key, .int .u64 nx, .int .u64 bt]) (.agg #[.int .i64 ep, .int .i64 key, .int .u64 nx, .int .u64 bt])).run Try.prog u = .ok (.bool false) u by have := neqE ⟨ep, key, nx, bt⟩ ⟨ep, key, nx, bt⟩ u; rw [eqE_self] at this; exact this)
          have hg := guardE
          have HJ := Lib.hid (And.intro hjm hj)
          have j1 : (j : Int) < (na : Int) := by omega
          have j0 : (0 : Int) ≤ (j : Int) := by omega
          clear hj
          go_wp2_with fail
          go_quiet (fail)
          go_wp2_with fail
          go_roundg (gk - 1)
          case rel => exact ⟨j + 1, by have := HJ.out; omega, by have := HJ.out; go_num, Lib.hid (HC.out.below (drewN_b _ _))⟩
          case measure => have := HJ.out; omega
        · have hje : na = j := by omega
          subst hje
          have j1 : decide (na < na) = false := decide_eq_false (Nat.lt_irrefl _)
          have j2 : decide ((na : Int) < (na : Int)) = false := decide_eq_false (by omega)
          clear hjm hj
          go_wp2_with fail
          clear z0 z1 z2 z3
          go_loopg [14] i (fun gk st wr => ∃ (t : Nat) (G : List En) (ag : Option Addr) (ng cg : Nat) (rsg : List (Nat × Obj)), t + gk = i ∧ st = .int .i64 (t : Nat) ∧ Hid (OkE G) ∧ Hid (∀ x, x ∈ G → x.ep ∈ L.drop t) ∧ Hid (ng = G.length) ∧ Hid (Bx w (rsg ++ (rsa ++ [(((BB, (.cells #[.slice ag ng cg] 26 (0, 0) : Obj)) : Nat × Obj)), (((BA, (.cells #[.slice aa na ca] 26 (0, 0) : Obj)) : Nat × Obj))])) wr) ∧ Hid (∀ k o, (k, o) ∈ rsg → k ≠ BA ∧ k ≠ BB) ∧ Hid (∀ u : World, (∀ k o, (k, o) ∈ rsg → u.heap[k]? = some o) → RowE u ag cg G))
          case atStart => exact ⟨0, fa, ab, na, cb, rsb, by omega, rfl, HOKA, Lib.hid (fun x hx => by obtain ⟨k, h1, h2⟩ := (HF.out.mem x).1 hx; rw [h2, List.drop_zero]; exact h1), HNA, Lib.hid (HC.out.less (fun x hx => by
              rcases List.mem_append.1 hx with e | e
              · exact HM.out.2.2.2 x.1 x.2 e
              · rcases List.mem_append.1 e with e | e
                · exact HM.out.2.2.1 x.1 x.2 e
                · rcases List.mem_cons.1 e with e | e
                  · rw [e]; exact HM.out.2.1
                  · rw [List.mem_singleton.1 e]; exact HM.out.1)), HDb, HRb⟩
          case round =>
            clear HC HM
            obtain ⟨t, G, ag, ng, cg, rsg, ht, rfl, HOKG, HLEFT, HNG, HC, HDg, HRg⟩ := hrel
            by_cases h5 : t < i
            · have t1 : (t : Int) < (i : Int) := by omega
              have t2 : (t : Int) < (len0 : Int) := by have := HN4.out; omega
              have t0 : (0 : Int) ≤ (t : Int) := by omega
              have bti : (i : Int) ≤ 4 := by have := HN4.out; omega
              obtain ⟨b0, f0, ha0, hc0⟩ := HCELL.out t h5
              have hLt : t < L.length := by rw [HLN.out]; exact h5
              have hLf := left_step hLt HLEFT.out
              have hget := HF.out.get (getD_in hLt)
              generalize L.getD t 0 = K at hc0 hLf hget
              obtain ⟨G2, hG2⟩ : ∃ G2, dropE G K = G2 := ⟨_, rfl⟩
              have hno := drop_no (b := G) (k := K)
              have hok2 := HOKG.out.drop K
              rw [hG2] at hLf hno hok2
              obtain ⟨g, was, hgg⟩ : ∃ g was, getE G K = (g, was) := ⟨_, _, rfl⟩
              obtain ⟨g1, g2, g3, g4⟩ := g
              obtain ⟨mg, hmg⟩ : ∃ m, G2.length = m := ⟨_, rfl⟩
              have bmg : (mg : Int) ≤ 4 := by have := hok2.2; omega
              have HGG := Lib.hid hgg
              have HMG := Lib.hid hmg
              have HDP := Lib.hid hG2
              have HGN : Hid (getE G2 K = (⟨0, 0, 0, 0⟩, false)) := Lib.hid hno
              have HGA : Hid (getE fa K = (⟨K, 7, 0, 0⟩, true)) := Lib.hid hget
              have HOKG2 := Lib.hid hok2
              have HLEFT2 := Lib.hid hLf
              have HKK := Lib.hid hc0
              have HI9 : Hid (t < i ∧ t + gk = i) := Lib.hid ⟨h5, ht⟩
              have bng : (ng : Int) ≤ 4 := by have := HOKG.out.2; have := HNG.out; omega
              subst ha0
              clear hgg hmg hG2 hno hget hok2 hLf hc0 h5 ht hLt
              go_upto_region 22 with fail
              obtain ⟨BS3, hM, hB⟩ : ∃ BS3, (((BA, (.cells #[.slice aa na ca] 26 (0, 0) : Obj)) : Nat × Obj) ∈ BS3 ∧ ((BB, (.cells #[.slice ag ng cg] 26 (0, 0) : Obj)) : Nat × Obj) ∈ BS3 ∧ (∀ k o, (k, o) ∈ rsa → (k, o) ∈ BS3) ∧ (∀ k o, (k, o) ∈ rsg → (k, o) ∈ BS3)) ∧ Bx w BS3 wr := ⟨_, ⟨by simp, by simp, fun k o q => by simp [q], fun k o q => by simp [q]⟩, HC.out⟩
              have HM := Lib.hid hM
              have HCK := Lib.hid hB
              clear hM hB HC
              go_cut [15, 16] from 88 to 157 (fun s15 s16 wx => s16 = .bool true ∧ Hid (Bx w BS3 wx))
              case first =>
                refine wp_region_held_drew (S := Bx w BS3) (by kernel_rfl) (HCK.out.below (drew_b wr)) (fun hHeld => ?_)
                have HC := Lib.hid hHeld
                have HW : Hid (wr.heap.size ≤ wr.drew.heap.size) := Lib.hid (by simp)
                refine wpAnyH_take (i := 0) (oi := ?o30101) (v := ?v30101) ?i30101 (by kernel_rfl) (by kernel_rfl) (by kernel_rfl) ?q30101 (Or.inl ⟨?w30101, ?y30101⟩) (by assumption) ?r30101
                case' i30101 => simp only [List.getElem?_toArray, List.getElem?_cons_succ, List.getElem?_cons_zero]
                case i30101 => rfl
                case q30101 => exact fun _ _ _ h => h
                case w30101 => kernel_rfl
                case y30101 => (intro W hSw; obtain ⟨z0, z1⟩ := cell1 (hSw.kept _ _ HM.out.1); go_simp) <;> with_reducible rfl
                try simp only [Act.put, List.setIfInBounds_toArray, List.set_cons_zero, List.set_cons_succ]
                refine wpAnyH_take (i := 1) (oi := ?o30102) (v := ?v30102) ?i30102 (by kernel_rfl) (by kernel_rfl) (by kernel_rfl) ?q30102 (Or.inl ⟨?w30102, ?y30102⟩) (by assumption) ?r30102
                case' i30102 => simp only [List.getElem?_toArray, List.getElem?_cons_succ, List.getElem?_cons_zero]
                case i30102 => rfl
                case q30102 => exact fun _ _ _ h => h
                case w30102 => kernel_rfl
                case y30102 => (intro W hSw; go_simp) <;> with_reducible rfl
                try simp only [Act.put, List.setIfInBounds_toArray, List.set_cons_zero, List.set_cons_succ]
                refine wpAnyH_take (i := 2) (oi := ?o30103) (v := ?v30103) ?i30103 (by kernel_rfl) (by kernel_rfl) (by kernel_rfl) ?q30103 (Or.inl ⟨?w30103, ?y30103⟩) (by assumption) ?r30103
                case' i30103 => simp only [List.getElem?_toArray, List.getElem?_cons_succ, List.getElem?_cons_zero]
                case i30103 => rfl
                case q30103 => exact fun _ _ _ h => h
                case w30103 => kernel_rfl
                case y30103 => (intro W hSw; go_simp) <;> with_reducible rfl
                try simp only [Act.put, List.setIfInBounds_toArray, List.set_cons_zero, List.set_cons_succ]
                refine wpAnyH_take (i := 3) (oi := ?o30104) (v := ?v30104) ?i30104 (by kernel_rfl) (by kernel_rfl) (by kernel_rfl) ?q30104 (Or.inl ⟨?w30104, ?y30104⟩) (by assumption) ?r30104
                case' i30104 => simp only [List.getElem?_toArray, List.getElem?_cons_succ, List.getElem?_cons_zero]
                case i30104 => rfl
                case q30104 => exact fun _ _ _ h => h
                case w30104 => kernel_rfl
                case y30104 => (intro W hSw; go_simp) <;> with_reducible rfl
                try simp only [Act.put, List.setIfInBounds_toArray, List.set_cons_zero, List.set_cons_succ]
                refine wpAnyH_take (i := 4) (oi := ?o30105) (v := ?v30105) ?i30105 (by kernel_rfl) (by kernel_rfl) (by kernel_rfl) ?q30105 (Or.inl ⟨?w30105, ?y30105⟩) (by assumption) ?r30105
                case' i30105 => simp only [List.getElem?_toArray, List.getElem?_cons_succ, List.getElem?_cons_zero]
                case i30105 => rfl
                case q30105 => exact fun _ _ _ h => h
                case w30105 => kernel_rfl
                case y30105 => (intro W hSw; have k0 := HKK.out _ hSw.low; go_simp) <;> with_reducible rfl
                try simp only [Act.put, List.setIfInBounds_toArray, List.set_cons_zero, List.set_cons_succ]
                generalize hwS : wr.drew = wS at hHeld HC HW ⊢
                clear hwS
                refine wpAnyH_ready (rs := [5, 9]) (by kernel_rfl) (by simp) ?_
                refine AllReadyH.cons (o := ?t3_1o0) ?t3_1i0 (fun K' hK => ?_) (AllReadyH.cons (o := ?t3_1o1) ?t3_1i1 (fun K' hK => ?_) AllReadyH.nil)
                case' t3_1i0 => simp only [List.getElem?_toArray, List.getElem?_cons_succ, List.getElem?_cons_zero]
                case t3_1i0 => rfl
                case' t3_1i1 => simp only [List.getElem?_toArray, List.getElem?_cons_succ, List.getElem?_cons_zero]
                case t3_1i1 => rfl
                · go_simp
                  go_at_call 13
                  refine (HC.out.pget (fs := fa) HNA.out (HRa.out _ (fun k o q => hHeld.kept k o (HM.out.2.2.1 k o q))) HOKA.out (K := K) (gp := K) (gk := 7) (gn := 0) (gb := 0) (is := true) HGA.out).mono ?_
                  rintro e w501 ⟨rfl, hc, hz⟩
                  replace HW : Hid (wr.heap.size ≤ w501.heap.size) := Lib.hid (by have := HW.out; omega)
                  replace HC := Lib.hid hc
                  clear hc hz
                  go_wp2_with fail
                  refine hK.out _ _ (HC.out.less (fun x hx => by simp [hx])) (fun hHeld => ?_)
                  clear hK K'
                  try simp only [Act.put, List.setIfInBounds_toArray, List.set_cons_zero, List.set_cons_succ]
                  refine wpAnyH_take (i := 6) (oi := ?o32051) (v := ?v32051) ?i32051 (by kernel_rfl) (by kernel_rfl) (by kernel_rfl) ?q32051 (Or.inl ⟨?w32051, ?y32051⟩) (by assumption) ?r32051
                  case' i32051 => simp only [List.getElem?_toArray, List.getElem?_cons_succ, List.getElem?_cons_zero]
                  case i32051 => rfl
                  case q32051 => exact fun _ _ _ h => h
                  case w32051 => kernel_rfl
                  case y32051 => (intro W hSw; go_simp) <;> with_reducible rfl
                  try simp only [Act.put, List.setIfInBounds_toArray, List.set_cons_zero, List.set_cons_succ]
                  refine wpAnyH_take (i := 7) (oi := ?o32052) (v := ?v32052) ?i32052 (by kernel_rfl) (by kernel_rfl) (by kernel_rfl) ?q32052 (Or.inl ⟨?w32052, ?y32052⟩) (by assumption) ?r32052
                  case' i32052 => simp only [List.getElem?_toArray, List.getElem?_cons_succ, List.getElem?_cons_zero]
                  case i32052 => rfl
                  case q32052 => exact fun _ _ _ h => h
                  case w32052 => kernel_rfl
                  case y32052 => (intro W hSw; go_simp) <;> with_reducible rfl
                  try simp only [Act.put, List.setIfInBounds_toArray, List.set_cons_zero, List.set_cons_succ]
                  refine wpAnyH_take (i := 8) (oi := ?o32053) (v := ?v32053) ?i32053 (by kernel_rfl) (by kernel_rfl) (by kernel_rfl) ?q32053 (Or.inl ⟨?w32053, ?y32053⟩) (by assumption) ?r32053
                  case' i32053 => simp only [List.getElem?_toArray, List.getElem?_cons_succ, List.getElem?_cons_zero]
                  case i32053 => rfl
                  case q32053 => exact fun _ _ _ h => h
                  case w32053 => kernel_rfl
                  case y32053 => (intro W hSw; go_simp) <;> with_reducible rfl
                  try simp only [Act.put, List.setIfInBounds_toArray, List.set_cons_zero, List.set_cons_succ]
                  refine wpAnyH_ready (rs := [9]) (by kernel_rfl) (by simp) ?_
                  refine AllReadyH.cons (o := ?t3_2o0) ?t3_2i0 (fun K' hK => ?_) AllReadyH.nil
                  case' t3_2i0 => simp only [List.getElem?_toArray, List.getElem?_cons_succ, List.getElem?_cons_zero]
                  case t3_2i0 => rfl
                  go_simp
                  replace HC := Lib.hid (HC.out.box #[.int .i64 0, .int .i64 0, .int .u64 0, .int .u64 0] 33)
                  have HS : Hid (wr.heap.size ≤ w501.heap.size ∧ w501.heap.size < (w501.alloc (.cells #[.int .i64 0, .int .i64 0, .int .u64 0, .int .u64 0] 33 : Obj)).heap.size) := Lib.hid ⟨HW.out, by simp⟩
                  refine hK.out _ _ (HC.out.less (fun x hx => by simp [hx])) (fun hHeld => ?_)
                  clear hK K'
                  try simp only [Act.put, List.setIfInBounds_toArray, List.set_cons_zero, List.set_cons_succ]
                  generalize hwd : (w501.alloc (.cells #[.int .i64 0, .int .i64 0, .int .u64 0, .int .u64 0] 33 : Obj)) = w502 at hHeld HC HS ⊢
                  generalize hwe : w501.heap.size = q at HC HS ⊢
                  have HBq : Hid (wr.heap.size ≤ q) := Lib.hid HS.out.1
                  have HLq : Hid (q < w502.heap.size) := Lib.hid HS.out.2
                  replace HW : Hid (wr.heap.size ≤ w502.heap.size) := Lib.hid (by have h1 := HS.out.1; have h2 := HS.out.2; omega)
                  clear hwd hwe HS
                  replace HC : Hid (Bx w (((q, (.cells #[.int .i64 0, .int .i64 0, .int .u64 0, .int .u64 0] 33 (0, 0) : Obj)) : Nat × Obj) :: BS3) w502) := Lib.hid (HC.out.less (fun x hx => by simp only [List.mem_cons, List.mem_append] at hx ⊢; rcases hx with h | h <;> simp [h]))
                  refine wpAnyH_ready (rs := [10]) (by kernel_rfl) (by simp) ?_
                  refine AllReadyH.cons (o := ?t3_3o0) ?t3_3i0 (fun K' hK => ?_) AllReadyH.nil
                  case' t3_3i0 => simp only [List.getElem?_toArray, List.getElem?_cons_succ, List.getElem?_cons_zero]
                  case t3_3i0 => rfl
                  obtain ⟨z0, z1, z2, z3, z4, z5, z6, z7⟩ := cells4 (HC.out.kept q (.cells #[.int .i64 0, .int .i64 0, .int .u64 0, .int .u64 0] 33 (0, 0) : Obj) (by simp))
                  go_simp
                  clear z0 z1 z2 z3 z4 z5 z6 z7
                  replace HC := Lib.hid (HC.out.set4 (B := q) (x := .int .i64 0) (y := .int .i64 0) (z := .int .u64 0) (q := .int .u64 0) (T := 33) (by simp) (Nat.le_trans HCK.out.low.size HBq.out) (.int .i64 K) (.int .i64 7) (.int .u64 0) (.int .u64 0) (bs' := BS3) (fun z hz => by
                    exact .inr ⟨by simp [hz], fun e2 => by have h1 := HCK.out.klt (k := z.1) (o := z.2) hz; have h2 := HBq.out; omega⟩))
                  refine hK.out _ _ (HC.out.less (fun x hx => by simp [hx])) (fun hHeld => ?_)
                  clear hK K'
                  try simp only [Act.put, List.setIfInBounds_toArray, List.set_cons_zero, List.set_cons_succ]
                  refine wpAnyH_take (i := 11) (oi := ?o35151) (v := ?v35151) ?i35151 (by kernel_rfl) (by kernel_rfl) (by kernel_rfl) ?q35151 (Or.inl ⟨?w35151, ?y35151⟩) (by assumption) ?r35151
                  case' i35151 => simp only [List.getElem?_toArray, List.getElem?_cons_succ, List.getElem?_cons_zero]
                  case i35151 => rfl
                  case q35151 => exact fun _ _ _ h => h
                  case w35151 => kernel_rfl
                  case y35151 => (intro W hSw; go_simp) <;> with_reducible rfl
                  try simp only [Act.put, List.setIfInBounds_toArray, List.set_cons_zero, List.set_cons_succ]
                  refine wpAnyH_done (by kernel_rfl) ?_ _
                  clear hHeld
                  go_wp2_with fail
                  go_meet
                  exact ⟨rfl, HC⟩
                · go_simp
                  replace HC := Lib.hid (HC.out.box #[.int .i64 0, .int .i64 0, .int .u64 0, .int .u64 0] 33)
                  have HS : Hid (wr.heap.size ≤ wS.heap.size ∧ wS.heap.size < (wS.alloc (.cells #[.int .i64 0, .int .i64 0, .int .u64 0, .int .u64 0] 33 : Obj)).heap.size) := Lib.hid ⟨HW.out, by simp⟩
                  refine hK.out _ _ (HC.out.less (fun x hx => by simp [hx])) (fun hHeld => ?_)
                  clear hK K'
                  try simp only [Act.put, List.setIfInBounds_toArray, List.set_cons_zero, List.set_cons_succ]
                  generalize hwd : (wS.alloc (.cells #[.int .i64 0, .int .i64 0, .int .u64 0, .int .u64 0] 33 : Obj)) = w503 at hHeld HC HS ⊢
                  generalize hwe : wS.heap.size = q at HC HS ⊢
                  have HBq : Hid (wr.heap.size ≤ q) := Lib.hid HS.out.1
                  have HLq : Hid (q < w503.heap.size) := Lib.hid HS.out.2
                  replace HW : Hid (wr.heap.size ≤ w503.heap.size) := Lib.hid (by have h1 := HS.out.1; have h2 := HS.out.2; omega)
                  clear hwd hwe HS
                  refine wpAnyH_ready (rs := [5]) (by kernel_rfl) (by simp) ?_
                  refine AllReadyH.cons (o := ?t3_4o0) ?t3_4i0 (fun K' hK => ?_) AllReadyH.nil
                  case' t3_4i0 => simp only [List.getElem?_toArray, List.getElem?_cons_succ, List.getElem?_cons_zero]
                  case t3_4i0 => rfl
                  go_simp
                  go_at_call 13
                  refine (HC.out.pget (fs := fa) HNA.out (HRa.out _ (fun k o q => hHeld.kept k o (HM.out.2.2.1 k o q))) HOKA.out (K := K) (gp := K) (gk := 7) (gn := 0) (gb := 0) (is := true) HGA.out).mono ?_
                  rintro e w504 ⟨rfl, hc, hz⟩
                  replace HLq : Hid (q < w504.heap.size) := Lib.hid (by have := HLq.out; omega)
                  replace HW : Hid (wr.heap.size ≤ w504.heap.size) := Lib.hid (by have := HW.out; omega)
                  replace HC := Lib.hid hc
                  clear hc hz
                  go_wp2_with fail
                  refine hK.out _ _ (HC.out.less (fun x hx => by simp [hx])) (fun hHeld => ?_)
                  clear hK K'
                  try simp only [Act.put, List.setIfInBounds_toArray, List.set_cons_zero, List.set_cons_succ]
                  refine wpAnyH_take (i := 6) (oi := ?o32201) (v := ?v32201) ?i32201 (by kernel_rfl) (by kernel_rfl) (by kernel_rfl) ?q32201 (Or.inl ⟨?w32201, ?y32201⟩) (by assumption) ?r32201
                  case' i32201 => simp only [List.getElem?_toArray, List.getElem?_cons_succ, List.getElem?_cons_zero]
                  case i32201 => rfl
                  case q32201 => exact fun _ _ _ h => h
                  case w32201 => kernel_rfl
                  case y32201 => (intro W hSw; go_simp) <;> with_reducible rfl
                  try simp only [Act.put, List.setIfInBounds_toArray, List.set_cons_zero, List.set_cons_succ]
                  refine wpAnyH_take (i := 7) (oi := ?o32202) (v := ?v32202) ?i32202 (by kernel_rfl) (by kernel_rfl) (by kernel_rfl) ?q32202 (Or.inl ⟨?w32202, ?y32202⟩) (by assumption) ?r32202
                  case' i32202 => simp only [List.getElem?_toArray, List.getElem?_cons_succ, List.getElem?_cons_zero]
                  case i32202 => rfl
                  case q32202 => exact fun _ _ _ h => h
                  case w32202 => kernel_rfl
                  case y32202 => (intro W hSw; go_simp) <;> with_reducible rfl
                  try simp only [Act.put, List.setIfInBounds_toArray, List.set_cons_zero, List.set_cons_succ]
                  refine wpAnyH_take (i := 8) (oi := ?o32203) (v := ?v32203) ?i32203 (by kernel_rfl) (by kernel_rfl) (by kernel_rfl) ?q32203 (Or.inl ⟨?w32203, ?y32203⟩) (by assumption) ?r32203
                  case' i32203 => simp only [List.getElem?_toArray, List.getElem?_cons_succ, List.getElem?_cons_zero]
                  case i32203 => rfl
                  case q32203 => exact fun _ _ _ h => h
                  case w32203 => kernel_rfl
                  case y32203 => (intro W hSw; go_simp) <;> with_reducible rfl
                  try simp only [Act.put, List.setIfInBounds_toArray, List.set_cons_zero, List.set_cons_succ]
                  replace HC : Hid (Bx w (((q, (.cells #[.int .i64 0, .int .i64 0, .int .u64 0, .int .u64 0] 33 (0, 0) : Obj)) : Nat × Obj) :: BS3) w504) := Lib.hid (HC.out.less (fun x hx => by simp only [List.mem_cons, List.mem_append] at hx ⊢; rcases hx with h | h <;> simp [h]))
                  refine wpAnyH_ready (rs := [10]) (by kernel_rfl) (by simp) ?_
                  refine AllReadyH.cons (o := ?t3_5o0) ?t3_5i0 (fun K' hK => ?_) AllReadyH.nil
                  case' t3_5i0 => simp only [List.getElem?_toArray, List.getElem?_cons_succ, List.getElem?_cons_zero]
                  case t3_5i0 => rfl
                  obtain ⟨z0, z1, z2, z3, z4, z5, z6, z7⟩ := cells4 (HC.out.kept q (.cells #[.int .i64 0, .int .i64 0, .int .u64 0, .int .u64 0] 33 (0, 0) : Obj) (by simp))
                  go_simp
                  clear z0 z1 z2 z3 z4 z5 z6 z7
                  replace HC := Lib.hid (HC.out.set4 (B := q) (x := .int .i64 0) (y := .int .i64 0) (z := .int .u64 0) (q := .int .u64 0) (T := 33) (by simp) (Nat.le_trans HCK.out.low.size HBq.out) (.int .i64 K) (.int .i64 7) (.int .u64 0) (.int .u64 0) (bs' := BS3) (fun z hz => by
                    exact .inr ⟨by simp [hz], fun e2 => by have h1 := HCK.out.klt (k := z.1) (o := z.2) hz; have h2 := HBq.out; omega⟩))
                  refine hK.out _ _ (HC.out.less (fun x hx => by simp [hx])) (fun hHeld => ?_)
                  clear hK K'
                  try simp only [Act.put, List.setIfInBounds_toArray, List.set_cons_zero, List.set_cons_succ]
                  refine wpAnyH_take (i := 11) (oi := ?o35251) (v := ?v35251) ?i35251 (by kernel_rfl) (by kernel_rfl) (by kernel_rfl) ?q35251 (Or.inl ⟨?w35251, ?y35251⟩) (by assumption) ?r35251
                  case' i35251 => simp only [List.getElem?_toArray, List.getElem?_cons_succ, List.getElem?_cons_zero]
                  case i35251 => rfl
                  case q35251 => exact fun _ _ _ h => h
                  case w35251 => kernel_rfl
                  case y35251 => (intro W hSw; go_simp) <;> with_reducible rfl
                  try simp only [Act.put, List.setIfInBounds_toArray, List.set_cons_zero, List.set_cons_succ]
                  refine wpAnyH_done (by kernel_rfl) ?_ _
                  clear hHeld
                  go_wp2_with fail
                  go_meet
                  exact ⟨rfl, HC⟩
              case rest =>
                obtain ⟨wy, hwx⟩ : ∃ u, u = wc := ⟨_, rfl⟩
                subst hwx
                obtain ⟨rfl, HC⟩ := hcut
                clear HCK
                have HCK := HC
                clear HC
                go_upto_region 23 with fail
                go_cut [17, 18] from 88 to 157 (fun s17 s18 wx => s18 = .bool was ∧ Hid (Bx w BS3 wx))
                case first =>
                  refine wp_region_held_drew (S := Bx w BS3) (by kernel_rfl) (HCK.out.below (drew_b wy)) (fun hHeld => ?_)
                  have HC := Lib.hid hHeld
                  have HW : Hid (wy.heap.size ≤ wy.drew.heap.size) := Lib.hid (by simp)
                  refine wpAnyH_take (i := 0) (oi := ?o40101) (v := ?v40101) ?i40101 (by kernel_rfl) (by kernel_rfl) (by kernel_rfl) ?q40101 (Or.inl ⟨?w40101, ?y40101⟩) (by assumption) ?r40101
                  case' i40101 => simp only [List.getElem?_toArray, List.getElem?_cons_succ, List.getElem?_cons_zero]
                  case i40101 => rfl
                  case q40101 => exact fun _ _ _ h => h
                  case w40101 => kernel_rfl
                  case y40101 => (intro W hSw; obtain ⟨z0, z1⟩ := cell1 (hSw.kept _ _ HM.out.2.1); go_simp) <;> with_reducible rfl
                  try simp only [Act.put, List.setIfInBounds_toArray, List.set_cons_zero, List.set_cons_succ]
                  refine wpAnyH_take (i := 1) (oi := ?o40102) (v := ?v40102) ?i40102 (by kernel_rfl) (by kernel_rfl) (by kernel_rfl) ?q40102 (Or.inl ⟨?w40102, ?y40102⟩) (by assumption) ?r40102
                  case' i40102 => simp only [List.getElem?_toArray, List.getElem?_cons_succ, List.getElem?_cons_zero]
                  case i40102 => rfl
                  case q40102 => exact fun _ _ _ h => h
                  case w40102 => kernel_rfl
                  case y40102 => (intro W hSw; go_simp) <;> with_reducible rfl
                  try simp only [Act.put, List.setIfInBounds_toArray, List.set_cons_zero, List.set_cons_succ]
                  refine wpAnyH_take (i := 2) (oi := ?o40103) (v := ?v40103) ?i40103 (by kernel_rfl) (by kernel_rfl) (by kernel_rfl) ?q40103 (Or.inl ⟨?w40103, ?y40103⟩) (by assumption) ?r40103
                  case' i40103 => simp only [List.getElem?_toArray, List.getElem?_cons_succ, List.getElem?_cons_zero]
                  case i40103 => rfl
                  case q40103 => exact fun _ _ _ h => h
                  case w40103 => kernel_rfl
                  case y40103 => (intro W hSw; go_simp) <;> with_reducible rfl
                  try simp only [Act.put, List.setIfInBounds_toArray, List.set_cons_zero, List.set_cons_succ]
                  refine wpAnyH_take (i := 3) (oi := ?o40104) (v := ?v40104) ?i40104 (by kernel_rfl) (by kernel_rfl) (by kernel_rfl) ?q40104 (Or.inl ⟨?w40104, ?y40104⟩) (by assumption) ?r40104
                  case' i40104 => simp only [List.getElem?_toArray, List.getElem?_cons_succ, List.getElem?_cons_zero]
                  case i40104 => rfl
                  case q40104 => exact fun _ _ _ h => h
                  case w40104 => kernel_rfl
                  case y40104 => (intro W hSw; go_simp) <;> with_reducible rfl
                  try simp only [Act.put, List.setIfInBounds_toArray, List.set_cons_zero, List.set_cons_succ]
                  refine wpAnyH_take (i := 4) (oi := ?o40105) (v := ?v40105) ?i40105 (by kernel_rfl) (by kernel_rfl) (by kernel_rfl) ?q40105 (Or.inl ⟨?w40105, ?y40105⟩) (by assumption) ?r40105
                  case' i40105 => simp only [List.getElem?_toArray, List.getElem?_cons_succ, List.getElem?_cons_zero]
                  case i40105 => rfl
                  case q40105 => exact fun _ _ _ h => h
                  case w40105 => kernel_rfl
                  case y40105 => (intro W hSw; have k0 := HKK.out _ hSw.low; go_simp) <;> with_reducible rfl
                  try simp only [Act.put, List.setIfInBounds_toArray, List.set_cons_zero, List.set_cons_succ]
                  generalize hwS : wy.drew = wS at hHeld HC HW ⊢
                  clear hwS
                  refine wpAnyH_ready (rs := [5, 9]) (by kernel_rfl) (by simp) ?_
                  refine AllReadyH.cons (o := ?t4_1o0) ?t4_1i0 (fun K' hK => ?_) (AllReadyH.cons (o := ?t4_1o1) ?t4_1i1 (fun K' hK => ?_) AllReadyH.nil)
                  case' t4_1i0 => simp only [List.getElem?_toArray, List.getElem?_cons_succ, List.getElem?_cons_zero]
                  case t4_1i0 => rfl
                  case' t4_1i1 => simp only [List.getElem?_toArray, List.getElem?_cons_succ, List.getElem?_cons_zero]
                  case t4_1i1 => rfl
                  · go_simp
                    go_at_call 13
                    refine (HC.out.pget (fs := G) HNG.out (HRg.out _ (fun k o q => hHeld.kept k o (HM.out.2.2.2 k o q))) HOKG.out (K := K) (gp := g1) (gk := g2) (gn := g3) (gb := g4) (is := was) HGG.out).mono ?_
                    rintro e w501 ⟨rfl, hc, hz⟩
                    replace HW : Hid (wy.heap.size ≤ w501.heap.size) := Lib.hid (by have := HW.out; omega)
                    replace HC := Lib.hid hc
                    clear hc hz
                    go_wp2_with fail
                    refine hK.out _ _ (HC.out.less (fun x hx => by simp [hx])) (fun hHeld => ?_)
                    clear hK K'
                    try simp only [Act.put, List.setIfInBounds_toArray, List.set_cons_zero, List.set_cons_succ]
                    refine wpAnyH_take (i := 6) (oi := ?o42051) (v := ?v42051) ?i42051 (by kernel_rfl) (by kernel_rfl) (by kernel_rfl) ?q42051 (Or.inl ⟨?w42051, ?y42051⟩) (by assumption) ?r42051
                    case' i42051 => simp only [List.getElem?_toArray, List.getElem?_cons_succ, List.getElem?_cons_zero]
                    case i42051 => rfl
                    case q42051 => exact fun _ _ _ h => h
                    case w42051 => kernel_rfl
                    case y42051 => (intro W hSw; go_simp) <;> with_reducible rfl
                    try simp only [Act.put, List.setIfInBounds_toArray, List.set_cons_zero, List.set_cons_succ]
                    refine wpAnyH_take (i := 7) (oi := ?o42052) (v := ?v42052) ?i42052 (by kernel_rfl) (by kernel_rfl) (by kernel_rfl) ?q42052 (Or.inl ⟨?w42052, ?y42052⟩) (by assumption) ?r42052
                    case' i42052 => simp only [List.getElem?_toArray, List.getElem?_cons_succ, List.getElem?_cons_zero]
                    case i42052 => rfl
                    case q42052 => exact fun _ _ _ h => h
                    case w42052 => kernel_rfl
                    case y42052 => (intro W hSw; go_simp) <;> with_reducible rfl
                    try simp only [Act.put, List.setIfInBounds_toArray, List.set_cons_zero, List.set_cons_succ]
                    refine wpAnyH_take (i := 8) (oi := ?o42053) (v := ?v42053) ?i42053 (by kernel_rfl) (by kernel_rfl) (by kernel_rfl) ?q42053 (Or.inl ⟨?w42053, ?y42053⟩) (by assumption) ?r42053
                    case' i42053 => simp only [List.getElem?_toArray, List.getElem?_cons_succ, List.getElem?_cons_zero]
                    case i42053 => rfl
                    case q42053 => exact fun _ _ _ h => h
                    case w42053 => kernel_rfl
                    case y42053 => (intro W hSw; go_simp) <;> with_reducible rfl
                    try simp only [Act.put, List.setIfInBounds_toArray, List.set_cons_zero, List.set_cons_succ]
                    refine wpAnyH_ready (rs := [9]) (by kernel_rfl) (by simp) ?_
                    refine AllReadyH.cons (o := ?t4_2o0) ?t4_2i0 (fun K' hK => ?_) AllReadyH.nil
                    case' t4_2i0 => simp only [List.getElem?_toArray, List.getElem?_cons_succ, List.getElem?_cons_zero]
                    case t4_2i0 => rfl
                    go_simp
                    replace HC := Lib.hid (HC.out.box #[.int .i64 0, .int .i64 0, .int .u64 0, .int .u64 0] 33)
                    have HS : Hid (wy.heap.size ≤ w501.heap.size ∧ w501.heap.size < (w501.alloc (.cells #[.int .i64 0, .int .i64 0, .int .u64 0, .int .u64 0] 33 : Obj)).heap.size) := Lib.hid ⟨HW.out, by simp⟩
                    refine hK.out _ _ (HC.out.less (fun x hx => by simp [hx])) (fun hHeld => ?_)
                    clear hK K'
                    try simp only [Act.put, List.setIfInBounds_toArray, List.set_cons_zero, List.set_cons_succ]
                    generalize hwd : (w501.alloc (.cells #[.int .i64 0, .int .i64 0, .int .u64 0, .int .u64 0] 33 : Obj)) = w502 at hHeld HC HS ⊢
                    generalize hwe : w501.heap.size = q at HC HS ⊢
                    have HBq : Hid (wy.heap.size ≤ q) := Lib.hid HS.out.1
                    have HLq : Hid (q < w502.heap.size) := Lib.hid HS.out.2
                    replace HW : Hid (wy.heap.size ≤ w502.heap.size) := Lib.hid (by have h1 := HS.out.1; have h2 := HS.out.2; omega)
                    clear hwd hwe HS
                    replace HC : Hid (Bx w (((q, (.cells #[.int .i64 0, .int .i64 0, .int .u64 0, .int .u64 0] 33 (0, 0) : Obj)) : Nat × Obj) :: BS3) w502) := Lib.hid (HC.out.less (fun x hx => by simp only [List.mem_cons, List.mem_append] at hx ⊢; rcases hx with h | h <;> simp [h]))
                    refine wpAnyH_ready (rs := [10]) (by kernel_rfl) (by simp) ?_
                    refine AllReadyH.cons (o := ?t4_3o0) ?t4_3i0 (fun K' hK => ?_) AllReadyH.nil
                    case' t4_3i0 => simp only [List.getElem?_toArray, List.getElem?_cons_succ, List.getElem?_cons_zero]
                    case t4_3i0 => rfl
                    obtain ⟨z0, z1, z2, z3, z4, z5, z6, z7⟩ := cells4 (HC.out.kept q (.cells #[.int .i64 0, .int .i64 0, .int .u64 0, .int .u64 0] 33 (0, 0) : Obj) (by simp))
                    go_simp
                    clear z0 z1 z2 z3 z4 z5 z6 z7
                    replace HC := Lib.hid (HC.out.set4 (B := q) (x := .int .i64 0) (y := .int .i64 0) (z := .int .u64 0) (q := .int .u64 0) (T := 33) (by simp) (Nat.le_trans HCK.out.low.size HBq.out) (.int .i64 g1) (.int .i64 g2) (.int .u64 g3) (.int .u64 g4) (bs' := BS3) (fun z hz => by
                      exact .inr ⟨by simp [hz], fun e2 => by have h1 := HCK.out.klt (k := z.1) (o := z.2) hz; have h2 := HBq.out; omega⟩))
                    refine hK.out _ _ (HC.out.less (fun x hx => by simp [hx])) (fun hHeld => ?_)
                    clear hK K'
                    try simp only [Act.put, List.setIfInBounds_toArray, List.set_cons_zero, List.set_cons_succ]
                    refine wpAnyH_take (i := 11) (oi := ?o45151) (v := ?v45151) ?i45151 (by kernel_rfl) (by kernel_rfl) (by kernel_rfl) ?q45151 (Or.inl ⟨?w45151, ?y45151⟩) (by assumption) ?r45151
                    case' i45151 => simp only [List.getElem?_toArray, List.getElem?_cons_succ, List.getElem?_cons_zero]
                    case i45151 => rfl
                    case q45151 => exact fun _ _ _ h => h
                    case w45151 => kernel_rfl
                    case y45151 => (intro W hSw; go_simp) <;> with_reducible rfl
                    try simp only [Act.put, List.setIfInBounds_toArray, List.set_cons_zero, List.set_cons_succ]
                    refine wpAnyH_done (by kernel_rfl) ?_ _
                    clear hHeld
                    go_wp2_with fail
                    go_meet
                    exact ⟨rfl, HC⟩
                  · go_simp
                    replace HC := Lib.hid (HC.out.box #[.int .i64 0, .int .i64 0, .int .u64 0, .int .u64 0] 33)
                    have HS : Hid (wy.heap.size ≤ wS.heap.size ∧ wS.heap.size < (wS.alloc (.cells #[.int .i64 0, .int .i64 0, .int .u64 0, .int .u64 0] 33 : Obj)).heap.size) := Lib.hid ⟨HW.out, by simp⟩
                    refine hK.out _ _ (HC.out.less (fun x hx => by simp [hx])) (fun hHeld => ?_)
                    clear hK K'
                    try simp only [Act.put, List.setIfInBounds_toArray, List.set_cons_zero, List.set_cons_succ]
                    generalize hwd : (wS.alloc (.cells #[.int .i64 0, .int .i64 0, .int .u64 0, .int .u64 0] 33 : Obj)) = w503 at hHeld HC HS ⊢
                    generalize hwe : wS.heap.size = q at HC HS ⊢
                    have HBq : Hid (wy.heap.size ≤ q) := Lib.hid HS.out.1
                    have HLq : Hid (q < w503.heap.size) := Lib.hid HS.out.2
                    replace HW : Hid (wy.heap.size ≤ w503.heap.size) := Lib.hid (by have h1 := HS.out.1; have h2 := HS.out.2; omega)
                    clear hwd hwe HS
                    refine wpAnyH_ready (rs := [5]) (by kernel_rfl) (by simp) ?_
                    refine AllReadyH.cons (o := ?t4_4o0) ?t4_4i0 (fun K' hK => ?_) AllReadyH.nil
                    case' t4_4i0 => simp only [List.getElem?_toArray, List.getElem?_cons_succ, List.getElem?_cons_zero]
                    case t4_4i0 => rfl
                    go_simp
                    go_at_call 13
                    refine (HC.out.pget (fs := G) HNG.out (HRg.out _ (fun k o q => hHeld.kept k o (HM.out.2.2.2 k o q))) HOKG.out (K := K) (gp := g1) (gk := g2) (gn := g3) (gb := g4) (is := was) HGG.out).mono ?_
                    rintro e w504 ⟨rfl, hc, hz⟩
                    replace HLq : Hid (q < w504.heap.size) := Lib.hid (by have := HLq.out; omega)
                    replace HW : Hid (wy.heap.size ≤ w504.heap.size) := Lib.hid (by have := HW.out; omega)
                    replace HC := Lib.hid hc
                    clear hc hz
                    go_wp2_with fail
                    refine hK.out _ _ (HC.out.less (fun x hx => by simp [hx])) (fun hHeld => ?_)
                    clear hK K'
                    try simp only [Act.put, List.setIfInBounds_toArray, List.set_cons_zero, List.set_cons_succ]
                    refine wpAnyH_take (i := 6) (oi := ?o42201) (v := ?v42201) ?i42201 (by kernel_rfl) (by kernel_rfl) (by kernel_rfl) ?q42201 (Or.inl ⟨?w42201, ?y42201⟩) (by assumption) ?r42201
                    case' i42201 => simp only [List.getElem?_toArray, List.getElem?_cons_succ, List.getElem?_cons_zero]
                    case i42201 => rfl
                    case q42201 => exact fun _ _ _ h => h
                    case w42201 => kernel_rfl
                    case y42201 => (intro W hSw; go_simp) <;> with_reducible rfl
                    try simp only [Act.put, List.setIfInBounds_toArray, List.set_cons_zero, List.set_cons_succ]
                    refine wpAnyH_take (i := 7) (oi := ?o42202) (v := ?v42202) ?i42202 (by kernel_rfl) (by kernel_rfl) (by kernel_rfl) ?q42202 (Or.inl ⟨?w42202, ?y42202⟩) (by assumption) ?r42202
                    case' i42202 => simp only [List.getElem?_toArray, List.getElem?_cons_succ, List.getElem?_cons_zero]
                    case i42202 => rfl
                    case q42202 => exact fun _ _ _ h => h
                    case w42202 => kernel_rfl
                    case y42202 => (intro W hSw; go_simp) <;> with_reducible rfl
                    try simp only [Act.put, List.setIfInBounds_toArray, List.set_cons_zero, List.set_cons_succ]
                    refine wpAnyH_take (i := 8) (oi := ?o42203) (v := ?v42203) ?i42203 (by kernel_rfl) (by kernel_rfl) (by kernel_rfl) ?q42203 (Or.inl ⟨?w42203, ?y42203⟩) (by assumption) ?r42203
                    case' i42203 => simp only [List.getElem?_toArray, List.getElem?_cons_succ, List.getElem?_cons_zero]
                    case i42203 => rfl
                    case q42203 => exact fun _ _ _ h => h
                    case w42203 => kernel_rfl
                    case y42203 => (intro W hSw; go_simp) <;> with_reducible rfl
                    try simp only [Act.put, List.setIfInBounds_toArray, List.set_cons_zero, List.set_cons_succ]
                    replace HC : Hid (Bx w (((q, (.cells #[.int .i64 0, .int .i64 0, .int .u64 0, .int .u64 0] 33 (0, 0) : Obj)) : Nat × Obj) :: BS3) w504) := Lib.hid (HC.out.less (fun x hx => by simp only [List.mem_cons, List.mem_append] at hx ⊢; rcases hx with h | h <;> simp [h]))
                    refine wpAnyH_ready (rs := [10]) (by kernel_rfl) (by simp) ?_
                    refine AllReadyH.cons (o := ?t4_5o0) ?t4_5i0 (fun K' hK => ?_) AllReadyH.nil
                    case' t4_5i0 => simp only [List.getElem?_toArray, List.getElem?_cons_succ, List.getElem?_cons_zero]
                    case t4_5i0 => rfl
                    obtain ⟨z0, z1, z2, z3, z4, z5, z6, z7⟩ := cells4 (HC.out.kept q (.cells #[.int .i64 0, .int .i64 0, .int .u64 0, .int .u64 0] 33 (0, 0) : Obj) (by simp))
                    go_simp
                    clear z0 z1 z2 z3 z4 z5 z6 z7
                    replace HC := Lib.hid (HC.out.set4 (B := q) (x := .int .i64 0) (y := .int .i64 0) (z := .int .u64 0) (q := .int .u64 0) (T := 33) (by simp) (Nat.le_trans HCK.out.low.size HBq.out) (.int .i64 g1) (.int .i64 g2) (.int .u64 g3) (.int .u64 g4) (bs' := BS3) (fun z hz => by
                      exact .inr ⟨by simp [hz], fun e2 => by have h1 := HCK.out.klt (k := z.1) (o := z.2) hz; have h2 := HBq.out; omega⟩))
                    refine hK.out _ _ (HC.out.less (fun x hx => by simp [hx])) (fun hHeld => ?_)
                    clear hK K'
                    try simp only [Act.put, List.setIfInBounds_toArray, List.set_cons_zero, List.set_cons_succ]
                    refine wpAnyH_take (i := 11) (oi := ?o45251) (v := ?v45251) ?i45251 (by kernel_rfl) (by kernel_rfl) (by kernel_rfl) ?q45251 (Or.inl ⟨?w45251, ?y45251⟩) (by assumption) ?r45251
                    case' i45251 => simp only [List.getElem?_toArray, List.getElem?_cons_succ, List.getElem?_cons_zero]
                    case i45251 => rfl
                    case q45251 => exact fun _ _ _ h => h
                    case w45251 => kernel_rfl
                    case y45251 => (intro W hSw; go_simp) <;> with_reducible rfl
                    try simp only [Act.put, List.setIfInBounds_toArray, List.set_cons_zero, List.set_cons_succ]
                    refine wpAnyH_done (by kernel_rfl) ?_ _
                    clear hHeld
                    go_wp2_with fail
                    go_meet
                    exact ⟨rfl, HC⟩
                case rest =>
                  obtain ⟨wz, hwx⟩ : ∃ u, u = wc := ⟨_, rfl⟩
                  subst hwx
                  obtain ⟨rfl, HC⟩ := hcut
                  clear HCK
                  have HCK := HC
                  clear HC
                  go_upto_region 24 with fail
                  go_cut [19] from 88 to 157 (fun s19 wx => ∃ (p : Nat) (rs3 : List (Nat × Obj)) (a3 : Option Addr) (c3 : Nat), s19 = .pointer (some ⟨p, 0, none⟩) ∧ Hid (Bx w (((p, (.cells #[.slice a3 mg c3] 26 (0, 0) : Obj)) : Nat × Obj) :: (rs3 ++ BS3)) wx) ∧ Hid (∀ k o, (k, o) ∈ rs3 → wz.heap.size ≤ k) ∧ Hid (wz.heap.size ≤ p) ∧ Hid (∀ u : World, (∀ k o, (k, o) ∈ rs3 → u.heap[k]? = some o) → RowE u a3 c3 G2))
                  case first =>
                    refine wp_region_held_drew (S := Bx w BS3) (by kernel_rfl) (HCK.out.below (drew_b wz)) (fun hHeld => ?_)
                    have HC := Lib.hid hHeld
                    have HW : Hid (wz.heap.size ≤ wz.drew.heap.size) := Lib.hid (by simp)
                    refine wpAnyH_take (i := 0) (oi := ?o50101) (v := ?v50101) ?i50101 (by kernel_rfl) (by kernel_rfl) (by kernel_rfl) ?q50101 (Or.inl ⟨?w50101, ?y50101⟩) (by assumption) ?r50101
                    case' i50101 => simp only [List.getElem?_toArray, List.getElem?_cons_succ, List.getElem?_cons_zero]
                    case i50101 => rfl
                    case q50101 => exact fun _ _ _ h => h
                    case w50101 => kernel_rfl
                    case y50101 => (intro W hSw; obtain ⟨z0, z1⟩ := cell1 (hSw.kept _ _ HM.out.2.1); go_simp) <;> with_reducible rfl
                    try simp only [Act.put, List.setIfInBounds_toArray, List.set_cons_zero, List.set_cons_succ]
                    refine wpAnyH_take (i := 1) (oi := ?o50102) (v := ?v50102) ?i50102 (by kernel_rfl) (by kernel_rfl) (by kernel_rfl) ?q50102 (Or.inl ⟨?w50102, ?y50102⟩) (by assumption) ?r50102
                    case' i50102 => simp only [List.getElem?_toArray, List.getElem?_cons_succ, List.getElem?_cons_zero]
                    case i50102 => rfl
                    case q50102 => exact fun _ _ _ h => h
                    case w50102 => kernel_rfl
                    case y50102 => (intro W hSw; go_simp) <;> with_reducible rfl
                    try simp only [Act.put, List.setIfInBounds_toArray, List.set_cons_zero, List.set_cons_succ]
                    refine wpAnyH_take (i := 2) (oi := ?o50103) (v := ?v50103) ?i50103 (by kernel_rfl) (by kernel_rfl) (by kernel_rfl) ?q50103 (Or.inl ⟨?w50103, ?y50103⟩) (by assumption) ?r50103
                    case' i50103 => simp only [List.getElem?_toArray, List.getElem?_cons_succ, List.getElem?_cons_zero]
                    case i50103 => rfl
                    case q50103 => exact fun _ _ _ h => h
                    case w50103 => kernel_rfl
                    case y50103 => (intro W hSw; go_simp) <;> with_reducible rfl
                    try simp only [Act.put, List.setIfInBounds_toArray, List.set_cons_zero, List.set_cons_succ]
                    refine wpAnyH_take (i := 3) (oi := ?o50104) (v := ?v50104) ?i50104 (by kernel_rfl) (by kernel_rfl) (by kernel_rfl) ?q50104 (Or.inl ⟨?w50104, ?y50104⟩) (by assumption) ?r50104
                    case' i50104 => simp only [List.getElem?_toArray, List.getElem?_cons_succ, List.getElem?_cons_zero]
                    case i50104 => rfl
                    case q50104 => exact fun _ _ _ h => h
                    case w50104 => kernel_rfl
                    case y50104 => (intro W hSw; go_simp) <;> with_reducible rfl
                    try simp only [Act.put, List.setIfInBounds_toArray, List.set_cons_zero, List.set_cons_succ]
                    refine wpAnyH_take (i := 4) (oi := ?o50105) (v := ?v50105) ?i50105 (by kernel_rfl) (by kernel_rfl) (by kernel_rfl) ?q50105 (Or.inl ⟨?w50105, ?y50105⟩) (by assumption) ?r50105
                    case' i50105 => simp only [List.getElem?_toArray, List.getElem?_cons_succ, List.getElem?_cons_zero]
                    case i50105 => rfl
                    case q50105 => exact fun _ _ _ h => h
                    case w50105 => kernel_rfl
                    case y50105 => (intro W hSw; have k0 := HKK.out _ hSw.low; go_simp) <;> with_reducible rfl
                    try simp only [Act.put, List.setIfInBounds_toArray, List.set_cons_zero, List.set_cons_succ]
                    generalize hwS : wz.drew = wS at hHeld HC HW ⊢
                    clear hwS
                    refine wpAnyH_ready (rs := [5, 6]) (by kernel_rfl) (by simp) ?_
                    refine AllReadyH.cons (o := ?t5_1o0) ?t5_1i0 (fun K' hK => ?_) (AllReadyH.cons (o := ?t5_1o1) ?t5_1i1 (fun K' hK => ?_) AllReadyH.nil)
                    case' t5_1i0 => simp only [List.getElem?_toArray, List.getElem?_cons_succ, List.getElem?_cons_zero]
                    case t5_1i0 => rfl
                    case' t5_1i1 => simp only [List.getElem?_toArray, List.getElem?_cons_succ, List.getElem?_cons_zero]
                    case t5_1i1 => rfl
                    · go_simp
                      go_at_call 8
                      refine (HC.out.pdrop (fs := G) HNG.out (HRg.out _ (fun k o q => hHeld.kept k o (HM.out.2.2.2 k o q))) HOKG.out (gs := G2) (K := K) HDP.out (m := mg) HMG.out).mono ?_
                      rintro e w501 ⟨rs3, a3, c3, rfl, hc, hr, hd, hz⟩
                      have HDn : Hid (∀ k o, (k, o) ∈ rs3 → wS.heap.size ≤ k) := Lib.hid hd
                      have HR3 := Lib.hid hr
                      have HD3 : Hid (∀ k o, (k, o) ∈ rs3 → wz.heap.size ≤ k) := Lib.hid (fun k o q => by have h1 := HDn.out k o q; have h2 := HW.out; omega)
                      replace HW : Hid (wz.heap.size ≤ w501.heap.size) := Lib.hid (by have := HW.out; omega)
                      replace HC := Lib.hid hc
                      clear hc hz hr hd HDn
                      go_wp2_with fail
                      refine hK.out _ _ (HC.out.less (fun x hx => by simp [hx])) (fun hHeld => ?_)
                      clear hK K'
                      try simp only [Act.put, List.setIfInBounds_toArray, List.set_cons_zero, List.set_cons_succ]
                      have HK1 : Hid (∀ k o, (k, o) ∈ rs3 → w501.heap[k]? = some o) := Lib.hid (fun k o q => HC.out.kept k o (by simp [q]))
                      refine wpAnyH_ready (rs := [6]) (by kernel_rfl) (by simp) ?_
                      refine AllReadyH.cons (o := ?t5_2o0) ?t5_2i0 (fun K' hK => ?_) AllReadyH.nil
                      case' t5_2i0 => simp only [List.getElem?_toArray, List.getElem?_cons_succ, List.getElem?_cons_zero]
                      case t5_2i0 => rfl
                      go_simp
                      replace HC := Lib.hid (HC.out.box #[.slice none 0 0] 26)
                      have HS : Hid (wz.heap.size ≤ w501.heap.size ∧ w501.heap.size < (w501.alloc (.cells #[.slice none 0 0] 26 : Obj)).heap.size) := Lib.hid ⟨HW.out, by simp⟩
                      have HNp : Hid (∀ k o, (k, o) ∈ rs3 → k ≠ w501.heap.size) := Lib.hid (fun k o q => by have h1 := blk_lt (HK1.out k o q); omega)
                      refine hK.out _ _ (HC.out.less (fun x hx => by simp [hx])) (fun hHeld => ?_)
                      clear hK K'
                      try simp only [Act.put, List.setIfInBounds_toArray, List.set_cons_zero, List.set_cons_succ]
                      generalize hwd : (w501.alloc (.cells #[.slice none 0 0] 26 : Obj)) = w502 at hHeld HC HS HNp ⊢
                      generalize hwe : w501.heap.size = p at HC HS HNp ⊢
                      have HBp : Hid (wz.heap.size ≤ p) := Lib.hid HS.out.1
                      have HLp : Hid (p < w502.heap.size) := Lib.hid HS.out.2
                      replace HW : Hid (wz.heap.size ≤ w502.heap.size) := Lib.hid (by have h1 := HS.out.1; have h2 := HS.out.2; omega)
                      clear hwd hwe HS
                      replace HK1 : Hid (∀ k o, (k, o) ∈ rs3 → w502.heap[k]? = some o) := Lib.hid (fun k o q => HC.out.kept k o (by simp [q]))
                      replace HC : Hid (Bx w (((p, (.cells #[.slice none 0 0] 26 (0, 0) : Obj)) : Nat × Obj) :: (rs3 ++ BS3)) w502) := Lib.hid (HC.out.less (fun x hx => by simp only [List.mem_cons, List.mem_append] at hx ⊢; rcases hx with h | h | h <;> simp [h]))
                      refine wpAnyH_ready (rs := [7]) (by kernel_rfl) (by simp) ?_
                      refine AllReadyH.cons (o := ?t5_3o0) ?t5_3i0 (fun K' hK => ?_) AllReadyH.nil
                      case' t5_3i0 => simp only [List.getElem?_toArray, List.getElem?_cons_succ, List.getElem?_cons_zero]
                      case t5_3i0 => rfl
                      obtain ⟨z0, z1⟩ := cell1 (HC.out.kept p (.cells #[.slice none 0 0] 26 (0, 0) : Obj) (by simp))
                      go_simp
                      clear z0 z1
                      replace HC := Lib.hid (HC.out.set1 (B := p) (x := .slice none 0 0) (T := 26) (by simp) (Nat.le_trans HCK.out.low.size HBp.out) (.slice a3 mg c3) (bs' := ((p, (.cells #[.slice a3 mg c3] 26 (0, 0) : Obj)) : Nat × Obj) :: (rs3 ++ BS3)) (fun z hz => by
                        rcases List.mem_cons.1 hz with e | e
                        · exact .inl e
                        ·
                          rcases List.mem_append.1 e with e | e
                          · exact .inr ⟨by simp [e], HNp.out z.1 z.2 e⟩
                          ·
                            exact .inr ⟨by simp [e], fun e2 => by have h1 := HCK.out.klt (k := z.1) (o := z.2) e; have h2 := HBp.out; omega⟩))
                      refine hK.out _ _ (HC.out.less (fun x hx => by simp [hx])) (fun hHeld => ?_)
                      clear hK K'
                      try simp only [Act.put, List.setIfInBounds_toArray, List.set_cons_zero, List.set_cons_succ]
                      refine wpAnyH_done (by kernel_rfl) ?_ _
                      clear hHeld
                      go_wp2_with fail
                      go_meet
                      exact ⟨p, rs3, a3, c3, rfl, HC, HD3, HBp, HR3⟩
                    · go_simp
                      replace HC := Lib.hid (HC.out.box #[.slice none 0 0] 26)
                      have HS : Hid (wz.heap.size ≤ wS.heap.size ∧ wS.heap.size < (wS.alloc (.cells #[.slice none 0 0] 26 : Obj)).heap.size) := Lib.hid ⟨HW.out, by simp⟩
                      refine hK.out _ _ (HC.out.less (fun x hx => by simp [hx])) (fun hHeld => ?_)
                      clear hK K'
                      try simp only [Act.put, List.setIfInBounds_toArray, List.set_cons_zero, List.set_cons_succ]
                      generalize hwd : (wS.alloc (.cells #[.slice none 0 0] 26 : Obj)) = w503 at hHeld HC HS ⊢
                      generalize hwe : wS.heap.size = p at HC HS ⊢
                      have HBp : Hid (wz.heap.size ≤ p) := Lib.hid HS.out.1
                      have HLp : Hid (p < w503.heap.size) := Lib.hid HS.out.2
                      replace HW : Hid (wz.heap.size ≤ w503.heap.size) := Lib.hid (by have h1 := HS.out.1; have h2 := HS.out.2; omega)
                      clear hwd hwe HS
                      refine wpAnyH_ready (rs := [5]) (by kernel_rfl) (by simp) ?_
                      refine AllReadyH.cons (o := ?t5_4o0) ?t5_4i0 (fun K' hK => ?_) AllReadyH.nil
                      case' t5_4i0 => simp only [List.getElem?_toArray, List.getElem?_cons_succ, List.getElem?_cons_zero]
                      case t5_4i0 => rfl
                      go_simp
                      go_at_call 8
                      refine (HC.out.pdrop (fs := G) HNG.out (HRg.out _ (fun k o q => hHeld.kept k o (HM.out.2.2.2 k o q))) HOKG.out (gs := G2) (K := K) HDP.out (m := mg) HMG.out).mono ?_
                      rintro e w504 ⟨rs3, a3, c3, rfl, hc, hr, hd, hz⟩
                      have HDn : Hid (∀ k o, (k, o) ∈ rs3 → w503.heap.size ≤ k) := Lib.hid hd
                      have HR3 := Lib.hid hr
                      have HNp : Hid (∀ k o, (k, o) ∈ rs3 → k ≠ p) := Lib.hid (fun k o q => by have h1 := HDn.out k o q; have h2 := HLp.out; omega)
                      replace HLp : Hid (p < w504.heap.size) := Lib.hid (by have := HLp.out; omega)
                      have HD3 : Hid (∀ k o, (k, o) ∈ rs3 → wz.heap.size ≤ k) := Lib.hid (fun k o q => by have h1 := HDn.out k o q; have h2 := HW.out; omega)
                      replace HW : Hid (wz.heap.size ≤ w504.heap.size) := Lib.hid (by have := HW.out; omega)
                      replace HC := Lib.hid hc
                      clear hc hz hr hd HDn
                      go_wp2_with fail
                      refine hK.out _ _ (HC.out.less (fun x hx => by simp [hx])) (fun hHeld => ?_)
                      clear hK K'
                      try simp only [Act.put, List.setIfInBounds_toArray, List.set_cons_zero, List.set_cons_succ]
                      have HK1 : Hid (∀ k o, (k, o) ∈ rs3 → w504.heap[k]? = some o) := Lib.hid (fun k o q => HC.out.kept k o (by simp [q]))
                      replace HC : Hid (Bx w (((p, (.cells #[.slice none 0 0] 26 (0, 0) : Obj)) : Nat × Obj) :: (rs3 ++ BS3)) w504) := Lib.hid (HC.out.less (fun x hx => by simp only [List.mem_cons, List.mem_append] at hx ⊢; rcases hx with h | h | h <;> simp [h]))
                      refine wpAnyH_ready (rs := [7]) (by kernel_rfl) (by simp) ?_
                      refine AllReadyH.cons (o := ?t5_5o0) ?t5_5i0 (fun K' hK => ?_) AllReadyH.nil
                      case' t5_5i0 => simp only [List.getElem?_toArray, List.getElem?_cons_succ, List.getElem?_cons_zero]
                      case t5_5i0 => rfl
                      obtain ⟨z0, z1⟩ := cell1 (HC.out.kept p (.cells #[.slice none 0 0] 26 (0, 0) : Obj) (by simp))
                      go_simp
                      clear z0 z1
                      replace HC := Lib.hid (HC.out.set1 (B := p) (x := .slice none 0 0) (T := 26) (by simp) (Nat.le_trans HCK.out.low.size HBp.out) (.slice a3 mg c3) (bs' := ((p, (.cells #[.slice a3 mg c3] 26 (0, 0) : Obj)) : Nat × Obj) :: (rs3 ++ BS3)) (fun z hz => by
                        rcases List.mem_cons.1 hz with e | e
                        · exact .inl e
                        ·
                          rcases List.mem_append.1 e with e | e
                          · exact .inr ⟨by simp [e], HNp.out z.1 z.2 e⟩
                          ·
                            exact .inr ⟨by simp [e], fun e2 => by have h1 := HCK.out.klt (k := z.1) (o := z.2) e; have h2 := HBp.out; omega⟩))
                      refine hK.out _ _ (HC.out.less (fun x hx => by simp [hx])) (fun hHeld => ?_)
                      clear hK K'
                      try simp only [Act.put, List.setIfInBounds_toArray, List.set_cons_zero, List.set_cons_succ]
                      refine wpAnyH_done (by kernel_rfl) ?_ _
                      clear hHeld
                      go_wp2_with fail
                      go_meet
                      exact ⟨p, rs3, a3, c3, rfl, HC, HD3, HBp, HR3⟩
                  case rest =>
                    obtain ⟨wv, hwx⟩ : ∃ u, u = wc := ⟨_, rfl⟩
                    subst hwx
                    obtain ⟨p, rs3, a3, c3, rfl, HC, HD3, HPB, HR3⟩ := hcut
                    have HBZ : Hid (BA < wz.heap.size ∧ BB < wz.heap.size) := Lib.hid ⟨HCK.out.klt HM.out.1, HCK.out.klt HM.out.2.1⟩
                    have HM0 := HM
                    clear HM HCK
                    go_upto_region 25 with fail
                    obtain ⟨BS4, hM, hB⟩ : ∃ BS4, (((p, (.cells #[.slice a3 mg c3] 26 (0, 0) : Obj)) : Nat × Obj) ∈ BS4 ∧ ((BB, (.cells #[.slice ag ng cg] 26 (0, 0) : Obj)) : Nat × Obj) ∈ BS4 ∧ ((BA, (.cells #[.slice aa na ca] 26 (0, 0) : Obj)) : Nat × Obj) ∈ BS4 ∧ (∀ k o, (k, o) ∈ rsa → (k, o) ∈ BS4) ∧ (∀ k o, (k, o) ∈ rs3 → (k, o) ∈ BS4)) ∧ Bx w BS4 wv := ⟨_, ⟨by simp [HM0.out.1, HM0.out.2.1], by simp [HM0.out.1, HM0.out.2.1], by simp [HM0.out.1, HM0.out.2.1], fun k o q => by simp [HM0.out.2.2.1 k o q], fun k o q => by simp [q]⟩, HC.out⟩
                    have HM := Lib.hid hM
                    have HCK := Lib.hid hB
                    clear hM hB HC
                    go_cut [20, 21] from 88 to 157 (fun s20 s21 wx => s21 = .bool false ∧ Hid (Bx w BS4 wx))
                    case first =>
                      refine wp_region_held_drew (S := Bx w BS4) (by kernel_rfl) (HCK.out.below (drew_b wv)) (fun hHeld => ?_)
                      have HC := Lib.hid hHeld
                      have HW : Hid (wv.heap.size ≤ wv.drew.heap.size) := Lib.hid (by simp)
                      refine wpAnyH_take (i := 0) (oi := ?o60101) (v := ?v60101) ?i60101 (by kernel_rfl) (by kernel_rfl) (by kernel_rfl) ?q60101 (Or.inl ⟨?w60101, ?y60101⟩) (by assumption) ?r60101
                      case' i60101 => simp only [List.getElem?_toArray, List.getElem?_cons_succ, List.getElem?_cons_zero]
                      case i60101 => rfl
                      case q60101 => exact fun _ _ _ h => h
                      case w60101 => kernel_rfl
                      case y60101 => (intro W hSw; obtain ⟨z0, z1⟩ := cell1 (hSw.kept _ _ HM.out.1); go_simp) <;> with_reducible rfl
                      try simp only [Act.put, List.setIfInBounds_toArray, List.set_cons_zero, List.set_cons_succ]
                      refine wpAnyH_take (i := 1) (oi := ?o60102) (v := ?v60102) ?i60102 (by kernel_rfl) (by kernel_rfl) (by kernel_rfl) ?q60102 (Or.inl ⟨?w60102, ?y60102⟩) (by assumption) ?r60102
                      case' i60102 => simp only [List.getElem?_toArray, List.getElem?_cons_succ, List.getElem?_cons_zero]
                      case i60102 => rfl
                      case q60102 => exact fun _ _ _ h => h
                      case w60102 => kernel_rfl
                      case y60102 => (intro W hSw; go_simp) <;> with_reducible rfl
                      try simp only [Act.put, List.setIfInBounds_toArray, List.set_cons_zero, List.set_cons_succ]
                      refine wpAnyH_take (i := 2) (oi := ?o60103) (v := ?v60103) ?i60103 (by kernel_rfl) (by kernel_rfl) (by kernel_rfl) ?q60103 (Or.inl ⟨?w60103, ?y60103⟩) (by assumption) ?r60103
                      case' i60103 => simp only [List.getElem?_toArray, List.getElem?_cons_succ, List.getElem?_cons_zero]
                      case i60103 => rfl
                      case q60103 => exact fun _ _ _ h => h
                      case w60103 => kernel_rfl
                      case y60103 => (intro W hSw; go_simp) <;> with_reducible rfl
                      try simp only [Act.put, List.setIfInBounds_toArray, List.set_cons_zero, List.set_cons_succ]
                      refine wpAnyH_take (i := 3) (oi := ?o60104) (v := ?v60104) ?i60104 (by kernel_rfl) (by kernel_rfl) (by kernel_rfl) ?q60104 (Or.inl ⟨?w60104, ?y60104⟩) (by assumption) ?r60104
                      case' i60104 => simp only [List.getElem?_toArray, List.getElem?_cons_succ, List.getElem?_cons_zero]
                      case i60104 => rfl
                      case q60104 => exact fun _ _ _ h => h
                      case w60104 => kernel_rfl
                      case y60104 => (intro W hSw; go_simp) <;> with_reducible rfl
                      try simp only [Act.put, List.setIfInBounds_toArray, List.set_cons_zero, List.set_cons_succ]
                      refine wpAnyH_take (i := 4) (oi := ?o60105) (v := ?v60105) ?i60105 (by kernel_rfl) (by kernel_rfl) (by kernel_rfl) ?q60105 (Or.inl ⟨?w60105, ?y60105⟩) (by assumption) ?r60105
                      case' i60105 => simp only [List.getElem?_toArray, List.getElem?_cons_succ, List.getElem?_cons_zero]
                      case i60105 => rfl
                      case q60105 => exact fun _ _ _ h => h
                      case w60105 => kernel_rfl
                      case y60105 => (intro W hSw; have k0 := HKK.out _ hSw.low; go_simp) <;> with_reducible rfl
                      try simp only [Act.put, List.setIfInBounds_toArray, List.set_cons_zero, List.set_cons_succ]
                      generalize hwS : wv.drew = wS at hHeld HC HW ⊢
                      clear hwS
                      refine wpAnyH_ready (rs := [5, 9]) (by kernel_rfl) (by simp) ?_
                      refine AllReadyH.cons (o := ?t6_1o0) ?t6_1i0 (fun K' hK => ?_) (AllReadyH.cons (o := ?t6_1o1) ?t6_1i1 (fun K' hK => ?_) AllReadyH.nil)
                      case' t6_1i0 => simp only [List.getElem?_toArray, List.getElem?_cons_succ, List.getElem?_cons_zero]
                      case t6_1i0 => rfl
                      case' t6_1i1 => simp only [List.getElem?_toArray, List.getElem?_cons_succ, List.getElem?_cons_zero]
                      case t6_1i1 => rfl
                      · go_simp
                        go_at_call 13
                        refine (HC.out.pget (fs := G2) HMG.out.symm (HR3.out _ (fun k o q => hHeld.kept k o (HM.out.2.2.2.2 k o q))) HOKG2.out (K := K) (gp := 0) (gk := 0) (gn := 0) (gb := 0) (is := false) HGN.out).mono ?_
                        rintro e w501 ⟨rfl, hc, hz⟩
                        replace HW : Hid (wv.heap.size ≤ w501.heap.size) := Lib.hid (by have := HW.out; omega)
                        replace HC := Lib.hid hc
                        clear hc hz
                        go_wp2_with fail
                        refine hK.out _ _ (HC.out.less (fun x hx => by simp [hx])) (fun hHeld => ?_)
                        clear hK K'
                        try simp only [Act.put, List.setIfInBounds_toArray, List.set_cons_zero, List.set_cons_succ]
                        refine wpAnyH_take (i := 6) (oi := ?o62051) (v := ?v62051) ?i62051 (by kernel_rfl) (by kernel_rfl) (by kernel_rfl) ?q62051 (Or.inl ⟨?w62051, ?y62051⟩) (by assumption) ?r62051
                        case' i62051 => simp only [List.getElem?_toArray, List.getElem?_cons_succ, List.getElem?_cons_zero]
                        case i62051 => rfl
                        case q62051 => exact fun _ _ _ h => h
                        case w62051 => kernel_rfl
                        case y62051 => (intro W hSw; go_simp) <;> with_reducible rfl
                        try simp only [Act.put, List.setIfInBounds_toArray, List.set_cons_zero, List.set_cons_succ]
                        refine wpAnyH_take (i := 7) (oi := ?o62052) (v := ?v62052) ?i62052 (by kernel_rfl) (by kernel_rfl) (by kernel_rfl) ?q62052 (Or.inl ⟨?w62052, ?y62052⟩) (by assumption) ?r62052
                        case' i62052 => simp only [List.getElem?_toArray, List.getElem?_cons_succ, List.getElem?_cons_zero]
                        case i62052 => rfl
                        case q62052 => exact fun _ _ _ h => h
                        case w62052 => kernel_rfl
                        case y62052 => (intro W hSw; go_simp) <;> with_reducible rfl
                        try simp only [Act.put, List.setIfInBounds_toArray, List.set_cons_zero, List.set_cons_succ]
                        refine wpAnyH_take (i := 8) (oi := ?o62053) (v := ?v62053) ?i62053 (by kernel_rfl) (by kernel_rfl) (by kernel_rfl) ?q62053 (Or.inl ⟨?w62053, ?y62053⟩) (by assumption) ?r62053
                        case' i62053 => simp only [List.getElem?_toArray, List.getElem?_cons_succ, List.getElem?_cons_zero]
                        case i62053 => rfl
                        case q62053 => exact fun _ _ _ h => h
                        case w62053 => kernel_rfl
                        case y62053 => (intro W hSw; go_simp) <;> with_reducible rfl
                        try simp only [Act.put, List.setIfInBounds_toArray, List.set_cons_zero, List.set_cons_succ]
                        refine wpAnyH_ready (rs := [9]) (by kernel_rfl) (by simp) ?_
                        refine AllReadyH.cons (o := ?t6_2o0) ?t6_2i0 (fun K' hK => ?_) AllReadyH.nil
                        case' t6_2i0 => simp only [List.getElem?_toArray, List.getElem?_cons_succ, List.getElem?_cons_zero]
                        case t6_2i0 => rfl
                        go_simp
                        replace HC := Lib.hid (HC.out.box #[.int .i64 0, .int .i64 0, .int .u64 0, .int .u64 0] 33)
                        have HS : Hid (wv.heap.size ≤ w501.heap.size ∧ w501.heap.size < (w501.alloc (.cells #[.int .i64 0, .int .i64 0, .int .u64 0, .int .u64 0] 33 : Obj)).heap.size) := Lib.hid ⟨HW.out, by simp⟩
                        refine hK.out _ _ (HC.out.less (fun x hx => by simp [hx])) (fun hHeld => ?_)
                        clear hK K'
                        try simp only [Act.put, List.setIfInBounds_toArray, List.set_cons_zero, List.set_cons_succ]
                        generalize hwd : (w501.alloc (.cells #[.int .i64 0, .int .i64 0, .int .u64 0, .int .u64 0] 33 : Obj)) = w502 at hHeld HC HS ⊢
                        generalize hwe : w501.heap.size = q at HC HS ⊢
                        have HBq : Hid (wv.heap.size ≤ q) := Lib.hid HS.out.1
                        have HLq : Hid (q < w502.heap.size) := Lib.hid HS.out.2
                        replace HW : Hid (wv.heap.size ≤ w502.heap.size) := Lib.hid (by have h1 := HS.out.1; have h2 := HS.out.2; omega)
                        clear hwd hwe HS
                        replace HC : Hid (Bx w (((q, (.cells #[.int .i64 0, .int .i64 0, .int .u64 0, .int .u64 0] 33 (0, 0) : Obj)) : Nat × Obj) :: BS4) w502) := Lib.hid (HC.out.less (fun x hx => by simp only [List.mem_cons, List.mem_append] at hx ⊢; rcases hx with h | h <;> simp [h]))
                        refine wpAnyH_ready (rs := [10]) (by kernel_rfl) (by simp) ?_
                        refine AllReadyH.cons (o := ?t6_3o0) ?t6_3i0 (fun K' hK => ?_) AllReadyH.nil
                        case' t6_3i0 => simp only [List.getElem?_toArray, List.getElem?_cons_succ, List.getElem?_cons_zero]
                        case t6_3i0 => rfl
                        obtain ⟨z0, z1, z2, z3, z4, z5, z6, z7⟩ := cells4 (HC.out.kept q (.cells #[.int .i64 0, .int .i64 0, .int .u64 0, .int .u64 0] 33 (0, 0) : Obj) (by simp))
                        go_simp
                        clear z0 z1 z2 z3 z4 z5 z6 z7
                        replace HC := Lib.hid (HC.out.set4 (B := q) (x := .int .i64 0) (y := .int .i64 0) (z := .int .u64 0) (q := .int .u64 0) (T := 33) (by simp) (Nat.le_trans HCK.out.low.size HBq.out) (.int .i64 0) (.int .i64 0) (.int .u64 0) (.int .u64 0) (bs' := BS4) (fun z hz => by
                          exact .inr ⟨by simp [hz], fun e2 => by have h1 := HCK.out.klt (k := z.1) (o := z.2) hz; have h2 := HBq.out; omega⟩))
                        refine hK.out _ _ (HC.out.less (fun x hx => by simp [hx])) (fun hHeld => ?_)
                        clear hK K'
                        try simp only [Act.put, List.setIfInBounds_toArray, List.set_cons_zero, List.set_cons_succ]
                        refine wpAnyH_take (i := 11) (oi := ?o65151) (v := ?v65151) ?i65151 (by kernel_rfl) (by kernel_rfl) (by kernel_rfl) ?q65151 (Or.inl ⟨?w65151, ?y65151⟩) (by assumption) ?r65151
                        case' i65151 => simp only [List.getElem?_toArray, List.getElem?_cons_succ, List.getElem?_cons_zero]
                        case i65151 => rfl
                        case q65151 => exact fun _ _ _ h => h
                        case w65151 => kernel_rfl
                        case y65151 => (intro W hSw; go_simp) <;> with_reducible rfl
                        try simp only [Act.put, List.setIfInBounds_toArray, List.set_cons_zero, List.set_cons_succ]
                        refine wpAnyH_done (by kernel_rfl) ?_ _
                        clear hHeld
                        go_wp2_with fail
                        go_meet
                        exact ⟨rfl, HC⟩
                      · go_simp
                        replace HC := Lib.hid (HC.out.box #[.int .i64 0, .int .i64 0, .int .u64 0, .int .u64 0] 33)
                        have HS : Hid (wv.heap.size ≤ wS.heap.size ∧ wS.heap.size < (wS.alloc (.cells #[.int .i64 0, .int .i64 0, .int .u64 0, .int .u64 0] 33 : Obj)).heap.size) := Lib.hid ⟨HW.out, by simp⟩
                        refine hK.out _ _ (HC.out.less (fun x hx => by simp [hx])) (fun hHeld => ?_)
                        clear hK K'
                        try simp only [Act.put, List.setIfInBounds_toArray, List.set_cons_zero, List.set_cons_succ]
                        generalize hwd : (wS.alloc (.cells #[.int .i64 0, .int .i64 0, .int .u64 0, .int .u64 0] 33 : Obj)) = w503 at hHeld HC HS ⊢
                        generalize hwe : wS.heap.size = q at HC HS ⊢
                        have HBq : Hid (wv.heap.size ≤ q) := Lib.hid HS.out.1
                        have HLq : Hid (q < w503.heap.size) := Lib.hid HS.out.2
                        replace HW : Hid (wv.heap.size ≤ w503.heap.size) := Lib.hid (by have h1 := HS.out.1; have h2 := HS.out.2; omega)
                        clear hwd hwe HS
                        refine wpAnyH_ready (rs := [5]) (by kernel_rfl) (by simp) ?_
                        refine AllReadyH.cons (o := ?t6_4o0) ?t6_4i0 (fun K' hK => ?_) AllReadyH.nil
                        case' t6_4i0 => simp only [List.getElem?_toArray, List.getElem?_cons_succ, List.getElem?_cons_zero]
                        case t6_4i0 => rfl
                        go_simp
                        go_at_call 13
                        refine (HC.out.pget (fs := G2) HMG.out.symm (HR3.out _ (fun k o q => hHeld.kept k o (HM.out.2.2.2.2 k o q))) HOKG2.out (K := K) (gp := 0) (gk := 0) (gn := 0) (gb := 0) (is := false) HGN.out).mono ?_
                        rintro e w504 ⟨rfl, hc, hz⟩
                        replace HLq : Hid (q < w504.heap.size) := Lib.hid (by have := HLq.out; omega)
                        replace HW : Hid (wv.heap.size ≤ w504.heap.size) := Lib.hid (by have := HW.out; omega)
                        replace HC := Lib.hid hc
                        clear hc hz
                        go_wp2_with fail
                        refine hK.out _ _ (HC.out.less (fun x hx => by simp [hx])) (fun hHeld => ?_)
                        clear hK K'
                        try simp only [Act.put, List.setIfInBounds_toArray, List.set_cons_zero, List.set_cons_succ]
                        refine wpAnyH_take (i := 6) (oi := ?o62201) (v := ?v62201) ?i62201 (by kernel_rfl) (by kernel_rfl) (by kernel_rfl) ?q62201 (Or.inl ⟨?w62201, ?y62201⟩) (by assumption) ?r62201
                        case' i62201 => simp only [List.getElem?_toArray, List.getElem?_cons_succ, List.getElem?_cons_zero]
                        case i62201 => rfl
                        case q62201 => exact fun _ _ _ h => h
                        case w62201 => kernel_rfl
                        case y62201 => (intro W hSw; go_simp) <;> with_reducible rfl
                        try simp only [Act.put, List.setIfInBounds_toArray, List.set_cons_zero, List.set_cons_succ]
                        refine wpAnyH_take (i := 7) (oi := ?o62202) (v := ?v62202) ?i62202 (by kernel_rfl) (by kernel_rfl) (by kernel_rfl) ?q62202 (Or.inl ⟨?w62202, ?y62202⟩) (by assumption) ?r62202
                        case' i62202 => simp only [List.getElem?_toArray, List.getElem?_cons_succ, List.getElem?_cons_zero]
                        case i62202 => rfl
                        case q62202 => exact fun _ _ _ h => h
                        case w62202 => kernel_rfl
                        case y62202 => (intro W hSw; go_simp) <;> with_reducible rfl
                        try simp only [Act.put, List.setIfInBounds_toArray, List.set_cons_zero, List.set_cons_succ]
                        refine wpAnyH_take (i := 8) (oi := ?o62203) (v := ?v62203) ?i62203 (by kernel_rfl) (by kernel_rfl) (by kernel_rfl) ?q62203 (Or.inl ⟨?w62203, ?y62203⟩) (by assumption) ?r62203
                        case' i62203 => simp only [List.getElem?_toArray, List.getElem?_cons_succ, List.getElem?_cons_zero]
                        case i62203 => rfl
                        case q62203 => exact fun _ _ _ h => h
                        case w62203 => kernel_rfl
                        case y62203 => (intro W hSw; go_simp) <;> with_reducible rfl
                        try simp only [Act.put, List.setIfInBounds_toArray, List.set_cons_zero, List.set_cons_succ]
                        replace HC : Hid (Bx w (((q, (.cells #[.int .i64 0, .int .i64 0, .int .u64 0, .int .u64 0] 33 (0, 0) : Obj)) : Nat × Obj) :: BS4) w504) := Lib.hid (HC.out.less (fun x hx => by simp only [List.mem_cons, List.mem_append] at hx ⊢; rcases hx with h | h <;> simp [h]))
                        refine wpAnyH_ready (rs := [10]) (by kernel_rfl) (by simp) ?_
                        refine AllReadyH.cons (o := ?t6_5o0) ?t6_5i0 (fun K' hK => ?_) AllReadyH.nil
                        case' t6_5i0 => simp only [List.getElem?_toArray, List.getElem?_cons_succ, List.getElem?_cons_zero]
                        case t6_5i0 => rfl
                        obtain ⟨z0, z1, z2, z3, z4, z5, z6, z7⟩ := cells4 (HC.out.kept q (.cells #[.int .i64 0, .int .i64 0, .int .u64 0, .int .u64 0] 33 (0, 0) : Obj) (by simp))
                        go_simp
                        clear z0 z1 z2 z3 z4 z5 z6 z7
                        replace HC := Lib.hid (HC.out.set4 (B := q) (x := .int .i64 0) (y := .int .i64 0) (z := .int .u64 0) (q := .int .u64 0) (T := 33) (by simp) (Nat.le_trans HCK.out.low.size HBq.out) (.int .i64 0) (.int .i64 0) (.int .u64 0) (.int .u64 0) (bs' := BS4) (fun z hz => by
                          exact .inr ⟨by simp [hz], fun e2 => by have h1 := HCK.out.klt (k := z.1) (o := z.2) hz; have h2 := HBq.out; omega⟩))
                        refine hK.out _ _ (HC.out.less (fun x hx => by simp [hx])) (fun hHeld => ?_)
                        clear hK K'
                        try simp only [Act.put, List.setIfInBounds_toArray, List.set_cons_zero, List.set_cons_succ]
                        refine wpAnyH_take (i := 11) (oi := ?o65251) (v := ?v65251) ?i65251 (by kernel_rfl) (by kernel_rfl) (by kernel_rfl) ?q65251 (Or.inl ⟨?w65251, ?y65251⟩) (by assumption) ?r65251
                        case' i65251 => simp only [List.getElem?_toArray, List.getElem?_cons_succ, List.getElem?_cons_zero]
                        case i65251 => rfl
                        case q65251 => exact fun _ _ _ h => h
                        case w65251 => kernel_rfl
                        case y65251 => (intro W hSw; go_simp) <;> with_reducible rfl
                        try simp only [Act.put, List.setIfInBounds_toArray, List.set_cons_zero, List.set_cons_succ]
                        refine wpAnyH_done (by kernel_rfl) ?_ _
                        clear hHeld
                        go_wp2_with fail
                        go_meet
                        exact ⟨rfl, HC⟩
                    case rest =>
                      obtain ⟨wu, hwx⟩ : ∃ u, u = wc := ⟨_, rfl⟩
                      subst hwx
                      obtain ⟨rfl, HC⟩ := hcut
                      clear HCK
                      cases was with
                      | true =>
                        have hy := drop_len_yes HOKG.out.1 (k := K) (by rw [HGG.out])
                        rw [HDP.out, HMG.out, ← HNG.out] at hy
                        have y1 : (ng : Int) - 1 = (mg : Int) := by omega
                        have y2 : IntKind.i64.wrap (mg : Int) = (mg : Int) := by simp [IntKind.wrap, IntKind.signed, IntKind.bits]; omega
                        clear hy
                        obtain ⟨z0, z1⟩ := cell1 (HC.out.kept p (.cells #[.slice a3 mg c3] 26 (0, 0) : Obj) HM.out.1)
                        obtain ⟨z2, z3⟩ := cell1 (HC.out.kept BB (.cells #[.slice ag ng cg] 26 (0, 0) : Obj) HM.out.2.1)
                        go_wp2_with fail
                        have HC2 : Hid (Bx w (rs3 ++ (rsa ++ [(((BB, (.cells #[.slice a3 mg c3] 26 (0, 0) : Obj)) : Nat × Obj)), (((BA, (.cells #[.slice aa na ca] 26 (0, 0) : Obj)) : Nat × Obj))])) (wu.setCell ⟨BB, 0, none⟩ (.slice a3 mg c3))) := Lib.hid (HC.out.set1 (B := BB) (x := .slice ag ng cg) (T := 26) HM.out.2.1 (by have := HB.out; omega) (.slice a3 mg c3) (fun z hz => by
                          rcases List.mem_append.1 hz with e | e
                          · exact .inr ⟨HM.out.2.2.2.2 z.1 z.2 e, fun e2 => by have := HD3.out z.1 z.2 e; have := HBZ.out; omega⟩
                          · rcases List.mem_append.1 e with e | e
                            · exact .inr ⟨HM.out.2.2.2.1 z.1 z.2 e, (HDa.out z.1 z.2 e).2⟩
                            · rcases List.mem_cons.1 e with e | e
                              · exact .inl e
                              · exact .inr ⟨by rw [List.mem_singleton.1 e]; exact HM.out.2.2.1, by rw [List.mem_singleton.1 e]; have := HB.out; dsimp only; omega⟩))
                        clear z0 z1 z2 z3
                        go_roundg (gk - 1)
                        case rel => exact ⟨t + 1, G2, a3, mg, c3, rs3, by have := HI9.out; omega, by have := HI9.out; go_num, HOKG2, HLEFT2, Lib.hid HMG.out.symm, HC2, Lib.hid (fun k oo q => by have := HD3.out k oo q; have := HBZ.out; omega), HR3⟩
                        case measure => have := HI9.out; omega
                      | false =>
                        have hy := drop_len_no (b := G) (k := K) (by rw [HGG.out])
                        rw [HDP.out] at hy
                        have y1 : mg = ng := by rw [← HMG.out, hy, ← HNG.out]
                        subst y1
                        clear hy
                        obtain ⟨z0, z1⟩ := cell1 (HC.out.kept p (.cells #[.slice a3 mg c3] 26 (0, 0) : Obj) HM.out.1)
                        obtain ⟨z2, z3⟩ := cell1 (HC.out.kept BB (.cells #[.slice ag mg cg] 26 (0, 0) : Obj) HM.out.2.1)
                        go_wp2_with fail
                        have HC2 : Hid (Bx w (rs3 ++ (rsa ++ [(((BB, (.cells #[.slice a3 mg c3] 26 (0, 0) : Obj)) : Nat × Obj)), (((BA, (.cells #[.slice aa na ca] 26 (0, 0) : Obj)) : Nat × Obj))])) (wu.setCell ⟨BB, 0, none⟩ (.slice a3 mg c3))) := Lib.hid (HC.out.set1 (B := BB) (x := .slice ag mg cg) (T := 26) HM.out.2.1 (by have := HB.out; omega) (.slice a3 mg c3) (fun z hz => by
                          rcases List.mem_append.1 hz with e | e
                          · exact .inr ⟨HM.out.2.2.2.2 z.1 z.2 e, fun e2 => by have := HD3.out z.1 z.2 e; have := HBZ.out; omega⟩
                          · rcases List.mem_append.1 e with e | e
                            · exact .inr ⟨HM.out.2.2.2.1 z.1 z.2 e, (HDa.out z.1 z.2 e).2⟩
                            · rcases List.mem_cons.1 e with e | e
                              · exact .inl e
                              · exact .inr ⟨by rw [List.mem_singleton.1 e]; exact HM.out.2.2.1, by rw [List.mem_singleton.1 e]; have := HB.out; dsimp only; omega⟩))
                        clear z0 z1 z2 z3
                        go_roundg (gk - 1)
                        case rel => exact ⟨t + 1, G2, a3, mg, c3, rs3, by have := HI9.out; omega, by have := HI9.out; go_num, HOKG2, HLEFT2, Lib.hid HMG.out.symm, HC2, Lib.hid (fun k oo q => by have := HD3.out k oo q; have := HBZ.out; omega), HR3⟩
                        case measure => have := HI9.out; omega
            · have hte : i = t := by omega
              subst hte
              have t1 : decide ((i : Int) < (i : Int)) = false := decide_eq_false (by omega)
              have t2 : decide (i < i) = false := decide_eq_false (by omega)
              have hG : G = [] := left_none (by rw [HLN.out]; exact HLEFT.out)
              subst hG
              have hng : ng = 0 := HNG.out
              subst hng
              obtain ⟨z0, z1⟩ := cell1 (HC.out.kept BB (.cells #[.slice ag 0 cg] 26 (0, 0) : Obj) (by simp))
              go_wp2_with fail
              clear z0 z1
              refine (HC.out.pkeys (fs := []) HNG.out (HRg.out _ (fun k o q => HC.out.kept k o (by simp [q]))) HOKG.out).mono ?_
              rintro e w31 ⟨rk, ak, ck, rfl, hc, hr, hd, hz⟩
              replace HC := Lib.hid hc
              clear hc hr hd hz
              go_wp2_with fail
              refine (fixed_any _).mono ?_
              rintro e w32 ⟨rfl, hb⟩
              replace HC := Lib.hid (HC.out.below hb)
              clear hb
              go_wp2_with fail
              go_ret
              exact ⟨rfl, HC.out.low⟩
set_option maxRecDepth 100000 in
theorem lifted (os : Os) (started : os.Started) (H : Type) (enc : TypeId × Value → H) :
    ReturnsInHanded {} Try.checked os 6 .any (Rows.skipOrderSpec.pre6 enc Try.prog Try.f6 Rows.skipOrderRow.domain false) (Rows.skipOrderSpec.post enc Try.prog Try.f6 false true false false) := by
  refine returnsInHanded_of_change (C := Try.checked) own started (by kernel_rfl) Try.func6
    (ChangeSpec.witness6 (enc := enc) (C := Try.checked) false ⟨#[], #[.slice none 0 0], []⟩ 8 (by kernel_rfl) (by kernel_rfl) (by kernel_rfl) (by kernel_rfl)) ?_
  intro W base args ds gs before hval0 hW hcnd _
  have hval : ∀ (j : Nat) t v, Try.f6.params[j]? = some t → args[j]? = some v → Value.okWide Try.prog W .any base t v := hval0
  have hW' := hW
  obtain ⟨p, q, hA0, hV, rfl, hfz, hnd⟩ := hW
  have hA : DataW.TrodAll enc Try.prog W 0 (fun _ => true) true Try.f6.params.toList args.toList ds p := hA0
  rw [Try.params6] at hA hval
  obtain ⟨v0, vs0, d0, ds0, p0, q0, hargs, rfl, rfl, h0, r0⟩ := trodAll_cons hA
  obtain ⟨rfl, rfl, rfl⟩ := trodAll_nil r0
  obtain rfl : args = #[v0] := by cases args; simp_all
  obtain ⟨rfl, rfl⟩ := trodVars_none hV
  obtain ⟨a0, len0, cap0, rfl⟩ := okWide_slice Try.underlying51 (hval 0 51 v0 rfl rfl)
  have k0 := h0
  have lt0 : ∀ x ∈ p0, x.block < W.heap.size := by obtain ⟨m, hm⟩ := k0; exact DataW.trod_lt m _ _ _ hm
  obtain ⟨z0, w0⟩ : ∃ zs, IsRow .i64 W a0 len0 cap0 zs := by
    obtain ⟨fuel, hf⟩ := h0
    rcases open_ints Try.underlying51 Try.underlying3 (by kernel_rfl) hf with ⟨hcs, _⟩ | ⟨x, l, c, zs, hcs, _, hl, hm, hz, _, hcell, hwz⟩
    · simp [Value.cells] at hcs
      obtain ⟨rfl, rfl, rfl⟩ := hcs
      exact ⟨[], .inl ⟨rfl, rfl, rfl, rfl⟩⟩
    · simp [Value.cells] at hcs
      obtain ⟨rfl, rfl, rfl⟩ := hcs
      exact ⟨zs, .inr ⟨_, rfl, hl, hm, by simpa using hz, hcell, hwz⟩⟩
  clear hA0 hval0
  refine (walk a0 len0 cap0 z0 W w0).mono fun e W' ⟨he, bel⟩ => ?_
  subst he
  exact ⟨_, rfl, _, _, _, [], _, [], hW', trodAll_mk1 (shut_bool Try.underlying4 _), (trodAll_cons_mk (Below.trod laidOut (by kernel_rfl) (of_decide_eq_true (by kernel_rfl)) k0 bel lt0) trodAll_mk0), rfl, bel.frame _, fun h => by cases h⟩

theorem over : Rows.skipOrderRow.holds Try.pinned (OpenSpec.ofChange Rows.skipOrderSpec) :=
  OpenClaim.holds_of_wide 6 Try.f6 rfl rfl rfl rfl rfl rfl rfl ⟨rfl, rfl, rfl, rfl, rfl⟩ rfl rfl rfl rfl rfl (by kernel_rfl) Try.func6 (by kernel_rfl)
    (of_decide_eq_true (by kernel_rfl)) (by unfold Func.isWrapper; first | (rw [if_pos (by decide +kernel)]; kernel_rfl) | (rw [if_neg (by decide +kernel)]; exact ⟨rfl, rfl⟩))
    (fun os started H enc _ => lifted os started H enc)

theorem proved : Rows.SkipOrderSaid := over
#print axioms proved
end Go.Proofs.Ytpbcndbmmphngaa.skipOrder
