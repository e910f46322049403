/- The law OfferOnce returns true for every row of bytes and any byte, and its arguments read as they did. No conditions. -/
import Derived.Test.YtahlekcnleedhaaRows
import Derived.Test.YtahlekcnleedhaaOffN
import Derived.WalkKit
import Derived.ProofKit
import Derived.OpenShut
import Derived.ShutString
import Derived.ChangeOld
import Derived.Below
namespace Go.Proofs.Ytahlekcnleedhaa.offerOnce
open Go.ChangeShapes Go.WideShapes Go.ChangeAt Go.RowKit
open Go.ChangeMaps (open_string shut_string)
open Go.Proofs.Ytahlekcnleedhaa
set_option linter.unusedVariables false
set_option linter.unusedSimpArgs false
set_option maxRecDepth 20000

theorem own : ownKnob Try.prog.godebug = none := by kernel_rfl
theorem laidOut : laidOutB Try.prog = true := by kernel_rfl


set_option maxHeartbeats 8000000 in
set_option maxRecDepth 100000 in
theorem walkN (a0 : Option Addr) (len0 cap0 : Nat) (k0s : List Int) (f : Nat) (w : World) (hl0 : k0s.length = len0) (hr0 : RowAt .u8 w a0 cap0 k0s) (hw0 : ∀ x, x ∈ k0s → (Lit.int .u8 x).wf = true) (hm0 : len0 ≤ 9223372036854775807) (f1 : (f : Int) ≤ 255) :
    Calls Try.prog 6 #[.slice a0 len0 cap0, .int .u8 f] w fun e w' => e = .returned (.bool true) ∧ Below w.heap.size w w' := by
  have HL0 := Lib.hid hl0
  have HR0 := Lib.hid hr0
  have HW0 := Lib.hid hw0
  clear hl0 hr0 hw0
  go_enter Try.func6, Try.ntmps6
  go_wp2_with fail
  go_loopw [5, 6] (fun s j wr => ∃ (k : Nat) (a : Option Addr) (cap : Nat), k ≤ 8 ∧ k ≤ len0 ∧ j = .int .i64 k ∧ s = .slice a k cap ∧ Hid (RowsOk w.heap.size ([] ++ (.slice a k cap, picks (k0s.take k)) :: []) wr) ∧ Hid (Below w.heap.size w wr)) (fun _ j _ => 8 - (intOf j).toNat)
  case atStart => exact ⟨0, some ⟨w.heap.size, 0, none⟩, 0, Nat.zero_le _, Nat.zero_le _, rfl, rfl, Lib.hid ((RowsOk.nil _ w).lit (Nat.le_refl _) [] 0 rfl (by omega) _ rfl), Lib.hid (below_alloc _ _)⟩
  case round =>
    obtain ⟨k, a, cap, hk1, hk2, rfl, rfl, HRW, HB⟩ := hrel
    by_cases hlt : k < len0 ∧ k < 8
    · obtain ⟨h1, h2⟩ := hlt
      obtain ⟨q1, q2, bk, off, q3⟩ := HR0.out
      obtain ⟨hqa, hc⟩ := q3 k (by rw [HL0.out]; exact h1)
      subst hqa
      have hzw := bounds_u8 (HW0.out _ (getD_mem (ks := k0s) (k := k) (by rw [HL0.out]; exact h1)))
      obtain ⟨z0, z1⟩ := hzw
      have htk := take_getD (ks := k0s) (k := k) (by rw [HL0.out]; exact h1)
      have hc2 : wr.cell? ⟨bk, off + k, none⟩ = some (.int .u8 (k0s.getD k 0)) := (HB.out.cell (block_lt_of_cell hc)).trans hc
      generalize k0s.getD k 0 = z at z0 z1 htk hc2
      clear hc q1 q2 q3
      have HTK := Lib.hid htk
      clear htk
      have HLN : Hid ((picks (k0s.take k)).length = k) := Lib.hid (by rw [picks_len, List.length_take, HL0.out]; omega)
      have e1 : decide (k < len0) = true := by simpa using h1
      have e2 : decide (k < 8) = true := by simpa using h2
      have e3 : decide ((k : Int) < 8) = true := decide_eq_true (by omega)
      have h3 : (k : Int) < (len0 : Int) := by omega
      have HI := Lib.hid (And.intro h1 h2)
      clear h1 h2 hk1 hk2
      go_wp2_with (at_builtin; refine wpList_push rfl (.tmp 24) (.tmp 32) rfl w.heap.size ([]) ([]) _ (picks (k0s.take k)) (1 + z % 255) wr HRW.out rfl rfl k HLN.out (by have := HI.out; omega) HB.out.size ?_; intro g3 cap3 w6 hR6 hB6; have HR6 := Lib.hid hR6; have HB6 := Lib.hid hB6; clear hR6 hB6)
      go_roundw
      case rel => exact ⟨k + 1, some ⟨g3, 0, none⟩, cap3, by have := HI.out; omega, by have := HI.out; omega, by go_num, rfl, Lib.hid (by rw [HTK.out, picks_snoc]; exact HR6.out), Lib.hid (HB.out.trans HB6.out)⟩
      case measure => have := HI.out; simp [intOf]; omega
    · have e12 : decide (k < len0) = false ∨ (decide (k < len0) = true ∧ decide ((k : Int) < 8) = false) := by
        simp only [decide_eq_false_iff_not, decide_eq_true_eq]
        omega
      have HK : Hid (k0s.take k = k0s.take 8) := Lib.hid (by
        rcases Nat.lt_or_ge k 8 with q | q
        · rw [List.take_of_length_le (by rw [HL0.out]; omega), List.take_of_length_le (by rw [HL0.out]; omega)]
        · rw [show k = 8 by omega])
      have HKL : Hid ((picks (k0s.take k)).length = k) := Lib.hid (by rw [picks_len, List.length_take, HL0.out]; omega)
      have HK8 := Lib.hid hk1
      clear hlt hk1 hk2
      rcases e12 with e1 | ⟨e1, e2⟩
      all_goals
        obtain ⟨xs, hxs⟩ : ∃ xs, picks (k0s.take k) = xs := ⟨_, rfl⟩
        rw [hxs] at HRW HKL
        have HXW : Hid (∀ x, x ∈ xs → (Lit.int .i64 x).wf = true) := Lib.hid (ok_wf (by rw [← hxs]; exact picks_ok _))
        have HOK : Hid (okV xs = true) := Lib.hid (by rw [← hxs]; exact picks_ok _)
        have HRX : Hid (RowAt .i64 wr a cap xs) := Lib.hid (HRW.out.rowAt (M := xs) (n := k) (by simp)).2
        have HXL := Lib.hid HKL.out.symm
        clear hxs HKL HRW
        by_cases hk0 : k = 0
        · have hk1 : ((k : Int) == 0) = true := by simp [hk0]
          have HE : Hid ((⟨#[]⟩ : ByteArray).data.toList = makeS xs ∧ makeE xs = 1) := Lib.hid (by
            have e : xs = [] := List.eq_nil_of_length_eq_zero (by rw [← HXL.out, hk0])
            rw [e]; exact ⟨rfl, rfl⟩)
          clear hk0
          go_wp2_with fail
          refine (make_any a k cap xs _ HXL.out HRX.out HXW.out ⟨#[]⟩ 1 (Lib.hid HE.out.1) (Lib.hid HE.out.2)).mono ?_
          rintro e v1 ⟨rfl, hb⟩
          have J1 := Lib.hid (HB.out.trans (hb.mono HB.out.size))
          clear hb HB
          go_wp2_with fail
          refine (fixed_any _).mono ?_
          rintro e v2 ⟨rfl, hb⟩
          have J2 := Lib.hid (J1.out.trans (hb.mono J1.out.size))
          clear hb J1
          go_wp2_with fail
          go_ret
          exact ⟨rfl, J2.out⟩
        · have hg := make_good HOK.out (fun e => hk0 (by have := HXL.out; rw [e] at this; simpa using this)) (by rw [← HXL.out]; exact HK8.out)
          obtain ⟨s, hs⟩ := text_of (makeS xs)
          have HS := Lib.hid hs
          have HSR : Hid (rightB s.data.toList = true) := Lib.hid (by rw [hs]; exact hg.2.2.2)
          have HE : Hid (makeE xs = 0) := Lib.hid hg.2.2.1
          have hsz := right_iff.1 HSR.out
          rw [text_size] at hsz
          have HSS : Hid (s.size ≤ maxLen) := Lib.hid (by unfold maxLen; omega)
          have HSZ : Hid (1 ≤ s.size ∧ s.size ≤ 8) := Lib.hid ⟨hsz.1, hsz.2.1⟩
          have s1 : (1 : Int) ≤ (s.size : Int) := by omega
          have s8 : (s.size : Int) ≤ 8 := by omega
          have s0 : (0 : Int) < (s.size : Int) := by omega
          have s1n : 0 < s.size := by omega
          clear hg hs hsz hk0
          go_wp2_with fail
          refine (make_any a k cap xs _ HXL.out HRX.out HXW.out s 0 HS (Lib.hid HE.out)).mono ?_
          rintro e v1 ⟨rfl, hb⟩
          have J1 := Lib.hid (HB.out.trans (hb.mono HB.out.size))
          clear hb HB
          go_wp2_with fail
          go_loopw [9, 10] (fun s9 j wr => ∃ (m : Nat) (b : Option Addr) (cb : Nat), m ≤ 2 * s.size ∧ j = .int .i64 m ∧ s9 = .slice b m cb ∧ Hid (RowsOk w.heap.size [(.slice b m cb, rot s.data.toList f m)] wr) ∧ Hid (Below w.heap.size w wr)) (fun _ j _ => 2 * s.size - (intOf j).toNat)
          case atStart => exact ⟨0, _, 0, Nat.zero_le _, rfl, rfl, Lib.hid ((RowsOk.nil _ _).lit J1.out.size [] 0 rfl (by omega) _ rfl), Lib.hid (J1.out.alloc J1.out.size _)⟩
          case round =>
            clear J1
            obtain ⟨m, b, cb, hm, rfl, rfl, HRB2, HQ⟩ := hrel
            by_cases hlt : m < 2 * s.size
            · have hlt' : (m : Int) < 2 * (s.size : Int) := by omega
              obtain ⟨q, hq⟩ : ∃ q, (m + f) % s.size = q := ⟨_, rfl⟩
              have hqs : q < s.size := by rw [← hq]; exact Nat.mod_lt _ (by omega)
              have hqi : ((m : Int) + (f : Int)) % (s.size : Int) = (q : Int) := by rw [← hq]; simp
              have hqi2 : (q : Int) < (s.size : Int) := by omega
              have hcb := UInt8.toNat_lt s[q]
              have HRS : Hid (rot s.data.toList f (m + 1) = rot s.data.toList f m ++ [(s[q].toNat : Int)]) := Lib.hid (by
                rw [rot_snoc, text_size, hq]
                congr 2
                simp [List.getD, hqs, ByteArray.getElem_eq_getElem_data])
              have HLN : Hid ((rot s.data.toList f m).length = m) := Lib.hid (rot_len _ _ _)
              have HI := Lib.hid hlt
              have HQQ := Lib.hid hq
              have hmf : (0 : Int) ≤ (m : Int) + (f : Int) := by omega
              clear hq hlt hm
              go_wp2_with (at_builtin; refine wpList_push rfl (.tmp 63) (.tmp 74) rfl w.heap.size [] [] _ (rot s.data.toList f m) (s[q].toNat : Int) wr HRB2.out rfl rfl m HLN.out (by have := HI.out; have := HSZ.out; omega) HQ.out.size ?_; intro g3 cap3 w6 hR6 hB6; have HR6 := Lib.hid hR6; have HB6 := Lib.hid hB6; clear hR6 hB6)
              go_roundw
              case rel => exact ⟨m + 1, some ⟨g3, 0, none⟩, cap3, by have := HI.out; omega, by go_num, rfl, Lib.hid (by rw [HRS.out]; exact HR6.out), Lib.hid (HQ.out.trans HB6.out)⟩
              case measure => have := HI.out; simp [intOf]; omega
            · obtain rfl : m = 2 * s.size := by omega
              obtain ⟨m, hmm⟩ : ∃ m, m = 2 * s.size := ⟨_, rfl⟩
              rw [← hmm] at HRB2 ⊢
              have hnl : ¬ ((m : Int) < 2 * (s.size : Int)) := by omega
              have hnl2 : decide ((m : Int) < 2 * (s.size : Int)) = false := by simp; omega
              have hrt := make_rot HSR.out f
              rw [text_size, ← hmm] at hrt
              have HML : Hid (m = (rot s.data.toList f m).length) := Lib.hid (rot_len _ _ _).symm
              have HRB : Hid (RowAt .i64 wr b cb (rot s.data.toList f m)) := Lib.hid (HRB2.out.rowAt (n := m) (by simp)).2
              have HRK := Lib.hid (ok_wf hrt.2.2)
              have HS2 : Hid (s.data.toList = makeS (rot s.data.toList f m)) := Lib.hid hrt.1.symm
              have HE2 : Hid (makeE (rot s.data.toList f m) = 0) := Lib.hid hrt.2.1
              clear hrt hlt hm hmm
              have t1 := eqS s
              go_wp2_with fail
              refine (make_any b m cb (rot s.data.toList f m) _ HML.out HRB.out HRK.out s 0 HS2 HE2).mono ?_
              rintro e v1 ⟨rfl, hb⟩
              have J1 := Lib.hid (HQ.out.trans (hb.mono HQ.out.size))
              clear hb HQ
              go_wp2_with fail
              refine (right_any s _ HSS.out true HSR).mono ?_
              rintro e v2 ⟨rfl, hb⟩
              have J2 := Lib.hid (J1.out.trans (hb.mono J1.out.size))
              clear hb J1
              go_wp2_with fail
              refine (fixed_any _).mono ?_
              rintro e v3 ⟨rfl, hb⟩
              have J3 := Lib.hid (J2.out.trans (hb.mono J2.out.size))
              clear hb J2
              go_wp2_with fail
              go_ret
              exact ⟨rfl, J3.out⟩

theorem walk (a0 : Option Addr) (len0 cap0 : Nat) (z0 : List Int) (x1 : Int) (w : World) (w0 : IsRow .u8 w a0 len0 cap0 z0) (w1 : (Lit.int .u8 x1).wf = true) :
    Calls Try.prog 6 #[.slice a0 len0 cap0, .int .u8 x1] w fun e w' => e = .returned (.bool true) ∧ Below w.heap.size w w' := by
  obtain ⟨ks0, hks0, hr0, hwf0, _⟩ := w0.row
  obtain ⟨f0, f1⟩ := bounds_u8 w1
  obtain ⟨f, rfl⟩ : ∃ f : Nat, x1 = f := ⟨x1.toNat, by omega⟩
  exact walkN a0 len0 cap0 ks0 f w hks0 hr0 hwf0 (by have := hr0.len; omega) f1

set_option maxRecDepth 100000 in
theorem lifted (os : Os) (started : os.Started) (H : Type) (enc : TypeId × Value → H) :
    ReturnsInHanded {} Try.checked os 6 .any (Rows.offerOnceSpec.pre6 enc Try.prog Try.f6 Rows.offerOnceRow.domain false) (Rows.offerOnceSpec.post enc Try.prog Try.f6 false true false false) := by
  refine returnsInHanded_of_change (C := Try.checked) own started (by kernel_rfl) Try.func6
    (ChangeSpec.witness6 (enc := enc) (C := Try.checked) false ⟨#[], #[.slice none 0 0, .int .u8 0], []⟩ 8 (by kernel_rfl) (by kernel_rfl) (by kernel_rfl) (by kernel_rfl)) ?_
  intro W base args ds gs before hval0 hW hcnd _
  have hval : ∀ (j : Nat) t v, Try.f6.params[j]? = some t → args[j]? = some v → Value.okWide Try.prog W .any base t v := hval0
  have hW' := hW
  obtain ⟨p, q, hA0, hV, rfl, hfz, hnd⟩ := hW
  have hA : DataW.TrodAll enc Try.prog W 0 (fun _ => true) true Try.f6.params.toList args.toList ds p := hA0
  rw [Try.params6] at hA hval
  obtain ⟨v0, vs0, d0, ds0, p0, q0, hargs, rfl, rfl, h0, r0⟩ := trodAll_cons hA
  obtain ⟨v1, vs1, d1, ds1, p1, q1, rfl, rfl, rfl, h1, r1⟩ := trodAll_cons r0
  obtain ⟨rfl, rfl, rfl⟩ := trodAll_nil r1
  obtain rfl : args = #[v0, v1] := by cases args; simp_all
  obtain ⟨rfl, rfl⟩ := trodVars_none hV
  obtain ⟨a0, len0, cap0, rfl⟩ := okWide_slice Try.underlying32 (hval 0 32 v0 rfl rfl)
  have k0 := h0
  have lt0 : ∀ x ∈ p0, x.block < W.heap.size := by obtain ⟨m, hm⟩ := k0; exact DataW.trod_lt m _ _ _ hm
  obtain ⟨z0, w0⟩ : ∃ zs, IsRow .u8 W a0 len0 cap0 zs := by
    obtain ⟨fuel, hf⟩ := h0
    rcases open_ints Try.underlying32 Try.underlying5 (by kernel_rfl) hf with ⟨hcs, _⟩ | ⟨x, l, c, zs, hcs, _, hl, hm, hz, _, hcell, hwz⟩
    · simp [Value.cells] at hcs
      obtain ⟨rfl, rfl, rfl⟩ := hcs
      exact ⟨[], .inl ⟨rfl, rfl, rfl, rfl⟩⟩
    · simp [Value.cells] at hcs
      obtain ⟨rfl, rfl, rfl⟩ := hcs
      exact ⟨zs, .inr ⟨_, rfl, hl, hm, by simpa using hz, hcell, hwz⟩⟩
  obtain ⟨a1, rfl, rfl, rfl, w1⟩ := open_int Try.underlying5 (hval 1 5 v1 rfl rfl) h1
  clear hA0 hval0
  refine (walk a0 len0 cap0 z0 a1 W w0 w1).mono fun e W' ⟨he, bel⟩ => ?_
  subst he
  exact ⟨_, rfl, _, _, _, [], _, [], hW', trodAll_mk1 (shut_bool Try.underlying4 _), (trodAll_cons_mk (Below.trod laidOut (by kernel_rfl) (of_decide_eq_true (by kernel_rfl)) k0 bel lt0) (trodAll_cons_mk (shut_int Try.underlying5 w1) trodAll_mk0)), rfl, bel.frame _, fun h => by cases h⟩

theorem over : Rows.offerOnceRow.holds Try.pinned (OpenSpec.ofChange Rows.offerOnceSpec) :=
  OpenClaim.holds_of_wide 6 Try.f6 rfl rfl rfl rfl rfl rfl rfl ⟨rfl, rfl, rfl, rfl, rfl⟩ rfl rfl rfl rfl rfl (by kernel_rfl) Try.func6 (by kernel_rfl)
    (of_decide_eq_true (by kernel_rfl)) (by unfold Func.isWrapper; first | (rw [if_pos (by decide +kernel)]; kernel_rfl) | (rw [if_neg (by decide +kernel)]; exact ⟨rfl, rfl⟩))
    (fun os started H enc _ => lifted os started H enc)

theorem proved : Rows.OfferOnceSaid := over
#print axioms proved
end Go.Proofs.Ytahlekcnleedhaa.offerOnce
