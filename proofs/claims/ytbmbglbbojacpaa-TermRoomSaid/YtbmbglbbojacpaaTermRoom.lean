/- TermRoom: of every room and row of terms, no more terms than can be are there, and where there is no room those that are there are told on. No condition. -/
import Derived.Test.YtbmbglbbojacpaaRows
import Derived.Test.YtbmbglbbojacpaaPair
import Derived.WalkKit
import Derived.ProofKit
import Derived.OpenShut
import Derived.ShutString
import Derived.ChangeOld
import Derived.Below
namespace Go.Proofs.Ytbmbglbbojacpaa.termRoom
open Go.ChangeShapes Go.WideShapes Go.ChangeAt Go.RowKit
open Go.ChangeMaps (open_string shut_string)
open Go.Proofs.Ytbmbglbbojacpaa
set_option linter.unusedVariables false

theorem own : ownKnob Try.prog.godebug = none := by kernel_rfl
theorem laidOut : laidOutB Try.prog = true := by kernel_rfl

theorem neq_same (t : Tm) (w : World) : (binOp .neq 32 t.v t.v).run Try.prog w = .ok (.bool false) w := by
  rw [neq_termP, (eqB_iff t t).2 rfl]; rfl
theorem get_zero (L : List Tm) : getT L 0 = (zeroT, false) := by unfold getT; rw [if_neg (by omega)]
theorem get_in (L : List Tm) (k : Nat) (h : k < L.length) : getT L ((k : Int) + 1) = (L.getD k zeroT, true) := by unfold getT; rw [if_pos (by omega), show ((k : Int) + 1 - 1).toNat = k from by omega]
theorem get_last (L : List Tm) (t : Tm) : getT (L ++ [t]) ((L.length : Int) + 1) = (t, true) := by rw [get_in _ L.length (by simp), getD_snoc_eq]

set_option maxHeartbeats 4000000 in
set_option maxRecDepth 100000 in
theorem walkN (n m : Nat) (a1 : Option Addr) (len1 cap1 : Nat) (T1 : Nat → Tm) (w : World) (hn : n ≤ 255) (hm : (n : Int).tmod 10 = (m : Int)) (hm9 : m ≤ 9) (hcm : cap1 ≤ maxLen) (hlc : len1 ≤ cap1) (b off : Nat)
    (hT : Hid (∀ i, i < len1 → a1 = some ⟨b, off, none⟩ ∧ Wf (T1 i) ∧ ∀ j u, (T1 i).cl[j]? = some u → w.cell? ⟨b, off + i * 6 + j, none⟩ = some u)) :
    Calls Try.prog 6 #[.int .u8 n, .slice a1 len1 cap1] w fun e w' => e = .returned (.bool true) ∧ Below w.heap.size w w' := by
  unfold maxLen at hcm
  go_enter Try.func6, Try.ntmps6
  go_wp2_with fail

  refine (Pair.new1 (base := w.heap.size) (w0 := w) rfl (Below.refl _ _) (by omega) (by omega)).mono ?_
  rintro e w1 ⟨g, rfl, hp⟩
  have HP0 := Lib.hid hp
  clear hp
  go_wp2_with fail
  go_loopw [8] (fun i wr => ∃ k, ∃ L : List Tm, k ≤ 40 ∧ i = .int .i64 (k : Nat) ∧ Hid (Pair w.heap.size (PSq w.heap.size g m) NoS L [] (fun _ => False) w wr)) (fun i _ => 40 - (intOf i).toNat)
  case atStart => exact ⟨0, [], Nat.zero_le _, rfl, HP0⟩
  case round =>
    obtain ⟨k, L, hk, rfl, HP⟩ := hrel
    clear HP0
    have ends : ∀ W, Pair w.heap.size (PSq w.heap.size g m) NoS L [] (fun _ => False) w W → Below w.heap.size w W := fun W h => h.belowW
    by_cases hlt : k < len1
    · have hlt1 : (k : Int) < (len1 : Int) := by omega
      by_cases h40 : k < 40
      · have h41 : (k : Int) < 40 := by omega
        obtain ⟨rfl, hwf, hcl⟩ := hT.out k hlt
        have hbw : b < w.heap.size := block_lt_of_cell (hcl 0 _ rfl)
        have hbl := HP.out.belowW
        have hcut := Lib.hid (fun W => cut_c (T1 k) W hwf)
        have HWF0 := Lib.hid (cutT_wf hwf)
        obtain ⟨⟨K, S, N, A, B, C⟩, ht⟩ : ∃ u, u = cutT (T1 k) := ⟨_, rfl⟩
        rw [← ht] at hcut HWF0
        have HWF := HWF0
        obtain ⟨⟨K', S', N', A', B', C'⟩, ht'⟩ : ∃ u, u = T1 k := ⟨_, rfl⟩
        rw [← ht'] at hcut hcl
        have q0 := hcl 0 _ rfl
        have q1 := hcl 1 _ rfl
        have q2 := hcl 2 _ rfl
        have q3 := hcl 3 _ rfl
        have q4 := hcl 4 _ rfl
        have q5 := hcl 5 _ rfl
        rw [← hbl.cell (by exact hbw)] at q0 q1 q2 q3 q4 q5
        simp at q0 q1 q2 q3 q4 q5
        have Hk := Lib.hid h40
        clear hcl ht ht' hbl HWF0 hwf hk ends
        go_wp2_with fail
        refine (HP.out.lenP).mono ?_
        rintro e w2 ⟨rfl, rfl⟩
        go_wp2_with fail
        refine (hcut.out _).mono ?_
        rintro e w3 ⟨rfl, hb3⟩
        rw [show Tm.v ⟨K, S, N, A, B, C⟩ = .agg #[.int .i64 K, .string S, .int .u64 N, .int .i64 A, .int .i64 B, .int .i64 C] from rfl]
        have HP3 := Lib.hid (HP.out.below (PSq.good _ _ _) (NoS.good _) hb3)
        clear hb3 HP hcut q0 q1 q2 q3 q4 q5
        go_wp2_with fail
        have HP := Lib.hid (HP3.out.box (PSq.good _ _ _) (NoS.good _) (.cells #[.int .i64 K, .string S, .int .u64 N, .int .i64 A, .int .i64 B, .int .i64 C] 32))
        have HBX := Lib.hid (heap_alloc_new w3 (.cells #[.int .i64 K, .string S, .int .u64 N, .int .i64 A, .int .i64 B, .int .i64 C] 32))
        generalize w3.alloc (.cells #[.int .i64 K, .string S, .int .u64 N, .int .i64 A, .int .i64 B, .int .i64 C] 32) = w3' at HP HBX ⊢
        have hfa := Lib.hid (HP3.out.facts)
        clear HP3
        have hL20 : (L.length : Int) ≤ 9 := by have := hfa.out.2.1; omega
        rcases putF_cases L m ⟨K, S, N, A, B, C⟩ with ⟨hp, _⟩ | ⟨j, hj, hp, hjt, _, _⟩ | ⟨hr, hp, _, _⟩ | ⟨hr, hp, _, _⟩
        · refine (HP.out.putP (NoS.good _) ⟨K, S, N, A, B, C⟩ HWF.out hp).mono ?_
          rintro e w4 ⟨rfl, hP4, hk4⟩
          have HP4 := Lib.hid hP4
          have hbx : w4.heap[w3.heap.size]? = some (.cells #[.int .i64 K, .string S, .int .u64 N, .int .i64 A, .int .i64 B, .int .i64 C] 32 (0, 0)) := by rw [hk4 _ (.inr rfl)]; exact HBX.out
          have HBX4 := Lib.hid hbx
          clear hP4 hk4 hbx hp HP HBX
          have d1 : L.length ≤ m := by have := hfa.out.2.1; omega
          have d2 : ((L.length : Int) == L.length) = true := beq_self_eq_true _
          go_wp2_with fail
          refine (HP4.out.lenP).mono ?_
          rintro e w5 ⟨rfl, rfl⟩
          go_wp2_with fail
          refine (HP4.out.getP (NoS.good _) 0 (get_zero L)).mono ?_
          rintro e w5 ⟨rfl, hP5, hb5⟩
          rw [show ((zeroT, false) : Tm × Bool).1.v = .agg #[.int .i64 0, .string ⟨#[]⟩, .int .u64 0, .int .i64 0, .int .i64 0, .int .i64 0] from rfl]
          have HP5 := Lib.hid hP5
          have hbx : w5.heap[w3.heap.size]? = some (.cells #[.int .i64 K, .string S, .int .u64 N, .int .i64 A, .int .i64 B, .int .i64 C] 32 (0, 0)) := by rw [hb5.block _ (blk_lt HBX4.out)]; exact HBX4.out
          have z : ∀ j, w5.cell? ⟨w3.heap.size, j, none⟩ = #[Value.int .i64 K, .string S, .int .u64 N, .int .i64 A, .int .i64 B, .int .i64 C][j]? := fun j => cell_of_row _ _ j _ _ _ hbx
          have z0 := z 0
          have z1 := z 1
          have z2 := z 2
          have z3 := z 3
          have z4 := z 4
          have z5 := z 5
          simp at z0 z1 z2 z3 z4 z5
          have hlt5 : w3.heap.size < w5.heap.size := blk_lt hbx
          have hE := neq_same ⟨K, S, N, A, B, C⟩
          have hgd := guard32
          unfold Tm.v at hE
          simp only [] at hE
          clear hP5 hb5 z hbx HP4 HBX4
          go_wp2_with fail
          go_round
          case rel => exact ⟨k + 1, L, by have := Hk.out; omega, by go_num, Lib.hid ((HP5.out.below (PSq.good _ _ _) (NoS.good _) ((Below.refl _ _).alloc (Nat.le_refl _) _)).less (fun _ q => q.elim))⟩
          case measure => have := Hk.out; simp [intOf]; omega
        · refine (HP.out.putP (NoS.good _) ⟨K, S, N, A, B, C⟩ HWF.out hp).mono ?_
          rintro e w4 ⟨rfl, hP4, hk4⟩
          have HP4 := Lib.hid hP4
          have hbx : w4.heap[w3.heap.size]? = some (.cells #[.int .i64 K, .string S, .int .u64 N, .int .i64 A, .int .i64 B, .int .i64 C] 32 (0, 0)) := by rw [hk4 _ (.inr rfl)]; exact HBX.out
          have HBX4 := Lib.hid hbx
          clear hP4 hk4 hbx hp HP HBX
          have d1 : L.length ≤ m := by have := hfa.out.2.1; omega
          have d2 : ((L.length : Int) == L.length) = true := beq_self_eq_true _
          have hG := get_in L j hj
          rw [hjt] at hG
          have d3 : ((j : Int) + 1 == 0) = false := beq_eq_false_iff_ne.2 (by omega)
          clear hj hjt
          go_wp2_with fail
          refine (HP4.out.lenP).mono ?_
          rintro e w5 ⟨rfl, rfl⟩
          go_wp2_with fail
          refine (HP4.out.getP (NoS.good _) ((j : Int) + 1) hG).mono ?_
          rintro e w5 ⟨rfl, hP5, hb5⟩
          rw [show ((⟨K, S, N, A, B, C⟩, true) : Tm × Bool).1.v = .agg #[.int .i64 K, .string S, .int .u64 N, .int .i64 A, .int .i64 B, .int .i64 C] from rfl]
          have HP5 := Lib.hid hP5
          have hbx : w5.heap[w3.heap.size]? = some (.cells #[.int .i64 K, .string S, .int .u64 N, .int .i64 A, .int .i64 B, .int .i64 C] 32 (0, 0)) := by rw [hb5.block _ (blk_lt HBX4.out)]; exact HBX4.out
          have z : ∀ j, w5.cell? ⟨w3.heap.size, j, none⟩ = #[Value.int .i64 K, .string S, .int .u64 N, .int .i64 A, .int .i64 B, .int .i64 C][j]? := fun j => cell_of_row _ _ j _ _ _ hbx
          have z0 := z 0
          have z1 := z 1
          have z2 := z 2
          have z3 := z 3
          have z4 := z 4
          have z5 := z 5
          simp at z0 z1 z2 z3 z4 z5
          have hlt5 : w3.heap.size < w5.heap.size := blk_lt hbx
          have hE := neq_same ⟨K, S, N, A, B, C⟩
          have hgd := guard32
          unfold Tm.v at hE
          simp only [] at hE
          clear hP5 hb5 z hbx HP4 HBX4
          go_wp2_with fail
          go_round
          case rel => exact ⟨k + 1, L, by have := Hk.out; omega, by go_num, Lib.hid ((HP5.out.below (PSq.good _ _ _) (NoS.good _) ((Below.refl _ _).alloc (Nat.le_refl _) _)).less (fun _ q => q.elim))⟩
          case measure => have := Hk.out; simp [intOf]; omega
        · refine (HP.out.putP (NoS.good _) ⟨K, S, N, A, B, C⟩ HWF.out hp).mono ?_
          rintro e w4 ⟨rfl, hP4, hk4⟩
          have HP4 := Lib.hid hP4
          have hbx : w4.heap[w3.heap.size]? = some (.cells #[.int .i64 K, .string S, .int .u64 N, .int .i64 A, .int .i64 B, .int .i64 C] 32 (0, 0)) := by rw [hk4 _ (.inr rfl)]; exact HBX.out
          have HBX4 := Lib.hid hbx
          clear hP4 hk4 hbx hp HP HBX
          have d1 : L.length ≤ m := by have := hfa.out.2.1; omega
          have d2 : ((L.length : Int) == L.length) = true := beq_self_eq_true _
          have d3 : (L.length : Int) = m := by have := hfa.out.2.1; omega
          clear hr
          go_wp2_with fail
          refine (HP4.out.lenP).mono ?_
          rintro e w5 ⟨rfl, rfl⟩
          go_wp2_with fail
          refine (HP4.out.getP (NoS.good _) 0 (get_zero L)).mono ?_
          rintro e w5 ⟨rfl, hP5, hb5⟩
          rw [show ((zeroT, false) : Tm × Bool).1.v = .agg #[.int .i64 0, .string ⟨#[]⟩, .int .u64 0, .int .i64 0, .int .i64 0, .int .i64 0] from rfl]
          have HP5 := Lib.hid hP5
          have hbx : w5.heap[w3.heap.size]? = some (.cells #[.int .i64 K, .string S, .int .u64 N, .int .i64 A, .int .i64 B, .int .i64 C] 32 (0, 0)) := by rw [hb5.block _ (blk_lt HBX4.out)]; exact HBX4.out
          have z : ∀ j, w5.cell? ⟨w3.heap.size, j, none⟩ = #[Value.int .i64 K, .string S, .int .u64 N, .int .i64 A, .int .i64 B, .int .i64 C][j]? := fun j => cell_of_row _ _ j _ _ _ hbx
          have z0 := z 0
          have z1 := z 1
          have z2 := z 2
          have z3 := z 3
          have z4 := z 4
          have z5 := z 5
          simp at z0 z1 z2 z3 z4 z5
          have hlt5 : w3.heap.size < w5.heap.size := blk_lt hbx
          have hE := neq_same ⟨K, S, N, A, B, C⟩
          have hgd := guard32
          unfold Tm.v at hE
          simp only [] at hE
          clear hP5 hb5 z hbx HP4 HBX4
          go_wp2_with fail
          go_round
          case rel => exact ⟨k + 1, L, by have := Hk.out; omega, by go_num, Lib.hid ((HP5.out.below (PSq.good _ _ _) (NoS.good _) ((Below.refl _ _).alloc (Nat.le_refl _) _)).less (fun _ q => q.elim))⟩
          case measure => have := Hk.out; simp [intOf]; omega
        · refine (HP.out.putP (NoS.good _) ⟨K, S, N, A, B, C⟩ HWF.out hp).mono ?_
          rintro e w4 ⟨rfl, hP4, hk4⟩
          have HP4 := Lib.hid hP4
          have hbx : w4.heap[w3.heap.size]? = some (.cells #[.int .i64 K, .string S, .int .u64 N, .int .i64 A, .int .i64 B, .int .i64 C] 32 (0, 0)) := by rw [hk4 _ (.inr rfl)]; exact HBX.out
          have HBX4 := Lib.hid hbx
          clear hP4 hk4 hbx hp HP HBX
          have hlen : ((L ++ [(⟨K, S, N, A, B, C⟩ : Tm)]).length : Int) = (L.length : Int) + 1 := by simp
          have d1 : (L.length : Int) + 1 ≤ m := by omega
          have d2 : ((L.length : Int) + 1 == L.length) = false := beq_eq_false_iff_ne.2 (by omega)
          have d4 : ((L.length : Int) + 1 == (L.length : Int) + 1) = true := beq_self_eq_true _
          clear hr
          go_wp2_with fail
          refine (HP4.out.lenP).mono ?_
          rintro e w5 ⟨rfl, rfl⟩
          rw [hlen]
          clear hlen
          go_wp2_with fail
          refine (HP4.out.getP (NoS.good _) ((L.length : Int) + 1) (get_last L _)).mono ?_
          rintro e w5 ⟨rfl, hP5, hb5⟩
          rw [show ((⟨K, S, N, A, B, C⟩, true) : Tm × Bool).1.v = .agg #[.int .i64 K, .string S, .int .u64 N, .int .i64 A, .int .i64 B, .int .i64 C] from rfl]
          have HP5 := Lib.hid hP5
          have hbx : w5.heap[w3.heap.size]? = some (.cells #[.int .i64 K, .string S, .int .u64 N, .int .i64 A, .int .i64 B, .int .i64 C] 32 (0, 0)) := by rw [hb5.block _ (blk_lt HBX4.out)]; exact HBX4.out
          have z : ∀ j, w5.cell? ⟨w3.heap.size, j, none⟩ = #[Value.int .i64 K, .string S, .int .u64 N, .int .i64 A, .int .i64 B, .int .i64 C][j]? := fun j => cell_of_row _ _ j _ _ _ hbx
          have z0 := z 0
          have z1 := z 1
          have z2 := z 2
          have z3 := z 3
          have z4 := z 4
          have z5 := z 5
          simp at z0 z1 z2 z3 z4 z5
          have hlt5 : w3.heap.size < w5.heap.size := blk_lt hbx
          have hE := neq_same ⟨K, S, N, A, B, C⟩
          have hgd := guard32
          unfold Tm.v at hE
          simp only [] at hE
          clear hP5 hb5 z hbx HP4 HBX4
          go_wp2_with fail
          go_round
          case rel => exact ⟨k + 1, L ++ [⟨K, S, N, A, B, C⟩], by have := Hk.out; omega, by go_num, Lib.hid ((HP5.out.below (PSq.good _ _ _) (NoS.good _) ((Below.refl _ _).alloc (Nat.le_refl _) _)).less (fun _ q => q.elim))⟩
          case measure => have := Hk.out; simp [intOf]; omega
      · have h61 : decide ((k : Int) < 40) = false := by simp; omega
        clear hk
        go_wp2_with fail
        refine (fixed_any _).mono ?_
        rintro e w1 ⟨rfl, hb1⟩
        have hb4 := (ends _ HP.out).trans (hb1.mono HP.out.base_le)
        clear hb1
        go_wp2
        go_ret
        exact ⟨rfl, hb4⟩
    · have hlt1 : decide (k < len1) = false := by simpa using hlt
      clear hlt
      go_wp2_with fail
      refine (fixed_any _).mono ?_
      rintro e w1 ⟨rfl, hb1⟩
      have hb4 := (ends _ HP.out).trans (hb1.mono HP.out.base_le)
      clear hb1
      go_wp2
      go_ret
      exact ⟨rfl, hb4⟩

theorem walk (a0 : Int) (a1 : Option Addr) (len1 cap1 : Nat) (T1 : Nat → Tm) (w : World) (w0 : (Lit.int .u8 a0).wf = true) (w1 : Terms w a1 len1 cap1 T1) :
    Calls Try.prog 6 #[.int .u8 a0, .slice a1 len1 cap1] w fun e w' => e = .returned (.bool true) ∧ Below w.heap.size w w' := by
  have hb : 0 ≤ a0 ∧ a0 ≤ 255 := by
    have e1 : IntKind.u8.min = 0 := by decide
    have e2 : IntKind.u8.max = 255 := by decide
    simp only [Lit.wf, e1, e2, Bool.and_eq_true, decide_eq_true_eq] at w0
    exact w0
  obtain ⟨n, rfl⟩ := Int.eq_ofNat_of_zero_le hb.1
  obtain ⟨h1, h2, b, off, h3⟩ := w1
  exact walkN n (n % 10) a1 len1 cap1 T1 w (by omega) (by rw [Int.tmod_eq_emod_of_nonneg (by omega)]; omega) (by omega) h1 h2 b off (Lib.hid h3)

set_option maxRecDepth 100000 in
theorem lifted (os : Os) (started : os.Started) (H : Type) (enc : TypeId × Value → H) :
    ReturnsInHanded {} Try.checked os 6 .any (Rows.termRoomSpec.pre6 enc Try.prog Try.f6 Rows.termRoomRow.domain false) (Rows.termRoomSpec.post enc Try.prog Try.f6 false true false false) := by
  refine returnsInHanded_of_change (C := Try.checked) own started (by kernel_rfl) Try.func6
    (ChangeSpec.witness6 (enc := enc) (C := Try.checked) false ⟨#[], #[.int .u8 0, .slice none 0 0], []⟩ 8 (by kernel_rfl) (by kernel_rfl) (by kernel_rfl) (by kernel_rfl)) ?_
  intro W base args ds gs before hval0 hW hcnd _
  have hval : ∀ (j : Nat) t v, Try.f6.params[j]? = some t → args[j]? = some v → Value.okWide Try.prog W .any base t v := hval0
  have hW' := hW
  obtain ⟨p, q, hA0, hV, rfl, hfz, hnd⟩ := hW
  have hA : DataW.TrodAll enc Try.prog W 0 (fun _ => true) true Try.f6.params.toList args.toList ds p := hA0
  rw [Try.params6] at hA hval
  obtain ⟨v0, vs0, d0, ds0, p0, q0, hargs, rfl, rfl, h0, r0⟩ := trodAll_cons hA
  obtain ⟨v1, vs1, d1, ds1, p1, q1, rfl, rfl, rfl, h1, r1⟩ := trodAll_cons r0
  obtain ⟨rfl, rfl, rfl⟩ := trodAll_nil r1
  obtain rfl : args = #[v0, v1] := by cases args; simp_all
  obtain ⟨rfl, rfl⟩ := trodVars_none hV
  obtain ⟨a0, rfl, rfl, rfl, w0⟩ := open_int Try.underlying5 (hval 0 5 v0 rfl rfl) h0
  obtain ⟨a1, len1, cap1, rfl⟩ := okWide_slice Try.underlying22 (hval 1 22 v1 rfl rfl)
  have k1 := h1
  have lt1 : ∀ x ∈ p1, x.block < W.heap.size := by obtain ⟨m, hm⟩ := k1; exact DataW.trod_lt m _ _ _ hm
  obtain ⟨T1, w1⟩ : ∃ T, Terms W a1 len1 cap1 T := by
    obtain ⟨fuel, hf⟩ := h1
    exact open_terms (by simpa [Value.cells] using hf)
  clear hA0 hval0
  refine (walk a0 a1 len1 cap1 T1 W w0 w1).mono fun e W' ⟨he, bel⟩ => ?_
  subst he
  exact ⟨_, rfl, _, _, _, [], _, [], hW', trodAll_mk1 (shut_bool Try.underlying4 _), (trodAll_cons_mk (shut_int Try.underlying5 w0) (trodAll_cons_mk (Below.trod laidOut (by kernel_rfl) (of_decide_eq_true (by kernel_rfl)) k1 bel lt1) trodAll_mk0)), rfl, bel.frame _, fun h => by cases h⟩

theorem over : Rows.termRoomRow.holds Try.pinned (OpenSpec.ofChange Rows.termRoomSpec) :=
  OpenClaim.holds_of_wide 6 Try.f6 rfl rfl rfl rfl rfl rfl rfl ⟨rfl, rfl, rfl, rfl, rfl⟩ rfl rfl rfl rfl rfl (by kernel_rfl) Try.func6 (by kernel_rfl)
    (of_decide_eq_true (by kernel_rfl)) (by unfold Func.isWrapper; first | (rw [if_pos (by decide +kernel)]; kernel_rfl) | (rw [if_neg (by decide +kernel)]; exact ⟨rfl, rfl⟩))
    (fun os started H enc _ => lifted os started H enc)

theorem proved : Rows.TermRoomSaid := over
#print axioms proved
end Go.Proofs.Ytbmbglbbojacpaa.termRoom
