/- The law OfferMore returns true for any two rows of bytes and any byte, and its arguments read as they did. No conditions. -/
import Derived.Test.YtahlekcnleedhaaRows
import Derived.Test.YtahlekcnleedhaaOffN
import Derived.WalkKit
import Derived.ProofKit
import Derived.OpenShut
import Derived.ShutString
import Derived.ChangeOld
import Derived.Below
namespace Go.Proofs.Ytahlekcnleedhaa.offerMore
open Go.ChangeShapes Go.WideShapes Go.ChangeAt Go.RowKit
open Go.ChangeMaps (open_string shut_string)
open Go.Proofs.Ytahlekcnleedhaa
set_option linter.unusedVariables false
set_option linter.unusedSimpArgs false
set_option maxRecDepth 20000

theorem own : ownKnob Try.prog.godebug = none := by kernel_rfl
theorem laidOut : laidOutB Try.prog = true := by kernel_rfl


theorem made_size {t : ByteArray} {l : List Int} (h : t.data.toList = makeS l) : t.size ≤ maxLen := by
  rw [← text_size, h, makeS]
  split
  · have := fall_len (vers l); unfold maxLen; omega
  · exact Nat.zero_le _
theorem rmake_lit (zs : List Int) (w : World) (hm : zs.length ≤ 1000) (hwf : zs.all (fun x => (Lit.int .i64 x).wf) = true) (t : ByteArray) (er : Int) (ht : t.data.toList = makeS zs) (he : makeE zs = er) :
    Calls Try.prog 10 #[.slice (some ⟨w.heap.size, 0, none⟩) zs.length zs.length] (w.alloc (.cells (valsR .i64 zs).toArray 3)) fun e w' => e = .returned (.tuple #[.string t, .int .i64 er]) ∧ Below w.heap.size w w' :=
  (rmake_any _ _ _ zs _ rfl (lit_row .i64 3 w zs (by unfold maxLen; omega)) (fun x hx => List.all_eq_true.1 hwf x hx) t er (Lib.hid ht) (Lib.hid he)).mono fun e w' ⟨h1, h2⟩ => ⟨h1, (below_alloc w _).trans (h2.mono (by simp))⟩

set_option maxHeartbeats 8000000 in
set_option maxRecDepth 100000 in
theorem walkN (a0 : Option Addr) (len0 cap0 : Nat) (k0s : List Int) (a1 : Option Addr) (len1 cap1 : Nat) (k1s : List Int) (x2 vv : Int) (w : World) (hl0 : k0s.length = len0) (hr0 : RowAt .u8 w a0 cap0 k0s) (hw0 : ∀ x, x ∈ k0s → (Lit.int .u8 x).wf = true) (hm0 : len0 ≤ 9223372036854775807) (hl1 : k1s.length = len1) (hr1 : RowAt .u8 w a1 cap1 k1s) (hw1 : ∀ x, x ∈ k1s → (Lit.int .u8 x).wf = true) (hm1 : len1 ≤ 9223372036854775807) (f0 : 0 ≤ x2) (f1 : x2 ≤ 255) (hvv : 1 + x2 % 255 = vv) :
    Calls Try.prog 8 #[.slice a0 len0 cap0, .slice a1 len1 cap1, .int .u8 x2] w fun e w' => e = .returned (.bool true) ∧ Below w.heap.size w w' := by
  have HL0 := Lib.hid hl0
  have HR0 := Lib.hid hr0
  have HW0 := Lib.hid hw0
  clear hl0 hr0 hw0
  have HL1 := Lib.hid hl1
  have HR1 := Lib.hid hr1
  have HW1 := Lib.hid hw1
  clear hl1 hr1 hw1
  have HV : Hid (1 ≤ vv ∧ vv ≤ 255) := Lib.hid (by omega)
  have HST : Hid (RowsOk w.heap.size [(.slice (some ⟨w.heap.size, 0, none⟩) 0 0, picks (k0s.take 0)), (.slice (some ⟨w.heap.size + 1, 0, none⟩) 0 0, []), (.slice (some ⟨w.heap.size + 2, 0, none⟩) 1 1, vv :: picks (k0s.take 0)), (.slice (some ⟨w.heap.size + 3, 0, none⟩) 1 1, [vv])] ((((w.alloc (.cells #[] 3)).alloc (.cells #[] 3)).alloc (.cells #[.int .i64 vv] 3)).alloc (.cells #[.int .i64 vv] 3))) := Lib.hid (by
    have h1 := (RowsOk.nil w.heap.size w).lit (Nat.le_refl _) [] 0 rfl (by omega) #[] rfl
    have h2 := h1.lit (by simp) [] 0 rfl (by omega) #[] rfl
    have h3 := h2.lit (by simp; omega) [vv] 1 rfl (by omega) #[.int .i64 vv] rfl
    have h4 := h3.lit (by simp; omega) [vv] 1 rfl (by omega) #[.int .i64 vv] rfl
    have h5 := h4.perm (qs := _) (List.reverse_perm _).symm
    simpa [picks] using h5)
  have HBS : Hid (Below w.heap.size w ((((w.alloc (.cells #[] 3)).alloc (.cells #[] 3)).alloc (.cells #[.int .i64 vv] 3)).alloc (.cells #[.int .i64 vv] 3))) := Lib.hid (((((Below.refl _ _).alloc (Nat.le_refl _) _).alloc (by simp) _).alloc (by simp; omega) _).alloc (by simp; omega) _)
  go_enter Try.func8, Try.ntmps8
  go_wp2_with fail
  clear hvv
  go_loopw [8, 10, 12] (fun s r j wr => ∃ (k : Nat) (a : Option Addr) (ca : Nat) (c : Option Addr) (cc : Nat), k ≤ 7 ∧ k ≤ len0 ∧ j = .int .i64 k ∧ s = .slice a k ca ∧ r = .slice c (k + 1) cc ∧ Hid (RowsOk w.heap.size [(.slice a k ca, picks (k0s.take k)), (.slice (some ⟨w.heap.size + 1, 0, none⟩) 0 0, []), (.slice c (k + 1) cc, vv :: picks (k0s.take k)), (.slice (some ⟨w.heap.size + 3, 0, none⟩) 1 1, [vv])] wr) ∧ Hid (Below w.heap.size w wr)) (fun _ _ j _ => 7 - (intOf j).toNat)
  case atStart => exact ⟨0, some ⟨w.heap.size, 0, none⟩, 0, some ⟨w.heap.size + 2, 0, none⟩, 1, Nat.zero_le _, Nat.zero_le _, rfl, rfl, rfl, HST, HBS⟩
  case round =>
    obtain ⟨k, a, ca, c, cc, hk1, hk2, rfl, rfl, rfl, HRW, HB⟩ := hrel
    by_cases hlt : k < len0 ∧ k < 7
    · obtain ⟨h1, h2⟩ := hlt
      obtain ⟨q1, q2, bk, off, q3⟩ := HR0.out
      obtain ⟨hqa, hc⟩ := q3 k (by rw [HL0.out]; exact h1)
      subst hqa
      have hzw := bounds_u8 (HW0.out _ (getD_mem (ks := k0s) (k := k) (by rw [HL0.out]; exact h1)))
      obtain ⟨z0, z1⟩ := hzw
      have htk := take_getD (ks := k0s) (k := k) (by rw [HL0.out]; exact h1)
      generalize k0s.getD k 0 = z at z0 z1 htk hc
      have hc2 : wr.cell? ⟨bk, off + k, none⟩ = some (.int .u8 z) := (HB.out.cell (block_lt_of_cell hc)).trans hc
      have HC : Hid (w.cell? ⟨bk, off + k, none⟩ = some (.int .u8 z)) := Lib.hid hc
      clear hc q1 q2 q3
      have HTK := Lib.hid htk
      clear htk
      have HLN : Hid ((picks (k0s.take k)).length = k) := Lib.hid (by rw [picks_len, List.length_take, HL0.out]; omega)
      have HLN2 : Hid ((vv :: picks (k0s.take k)).length = k + 1) := Lib.hid (by rw [List.length_cons, HLN.out])
      have e1 : decide (k < len0) = true := by simpa using h1
      have e2 : decide (k < 7) = true := by simpa using h2
      have e3 : decide ((k : Int) < 7) = true := decide_eq_true (by omega)
      have h3 : (k : Int) < (len0 : Int) := by omega
      have HI := Lib.hid (And.intro h1 h2)
      clear h1 h2 hk1 hk2
      go_wp2_with (first
        | (at_builtin; refine wpList_push rfl (.tmp 48) (.tmp 56) rfl w.heap.size [] [(.slice (some ⟨w.heap.size + 1, 0, none⟩) 0 0, []), (.slice c (k + 1) cc, vv :: picks (k0s.take k)), (.slice (some ⟨w.heap.size + 3, 0, none⟩) 1 1, [vv])] _ (picks (k0s.take k)) (1 + z % 255) wr HRW.out rfl rfl k HLN.out (by have := HI.out; omega) HB.out.size ?_; intro g3 cap3 w6 hR6 hB6; have HR6 := Lib.hid hR6; have HB6 := Lib.hid (HB.out.trans hB6); have hc6 : w6.cell? ⟨bk, off + k, none⟩ = some (.int .u8 z) := (HB6.out.cell (block_lt_of_cell HC.out)).trans HC.out; clear hR6 hB6)
        | (at_builtin; refine wpList_push rfl (.tmp 58) (.tmp 66) rfl w.heap.size [(.slice (some ⟨g3, 0, none⟩) (k + 1) cap3, picks (k0s.take k) ++ [1 + z % 255]), (.slice (some ⟨w.heap.size + 1, 0, none⟩) 0 0, [])] [(.slice (some ⟨w.heap.size + 3, 0, none⟩) 1 1, [vv])] _ (vv :: picks (k0s.take k)) (1 + z % 255) w6 HR6.out rfl rfl (k + 1) HLN2.out (by have := HI.out; omega) HB6.out.size ?_; intro g4 cap4 w7 hR7 hB7; have HR7 := Lib.hid hR7; have HB7 := Lib.hid (HB6.out.trans hB7); clear hR7 hB7))
      go_roundw
      case rel => exact ⟨k + 1, some ⟨g3, 0, none⟩, cap3, some ⟨g4, 0, none⟩, cap4, by have := HI.out; omega, by have := HI.out; omega, by go_num, rfl, rfl, Lib.hid (by rw [HTK.out, picks_snoc]; exact HR7.out), HB7⟩
      case measure => have := HI.out; simp [intOf]; omega
    · have e12 : decide (k < len0) = false ∨ (decide (k < len0) = true ∧ decide ((k : Int) < 7) = false) := by
        simp only [decide_eq_false_iff_not, decide_eq_true_eq]
        omega
      have HKL : Hid ((picks (k0s.take k)).length = k) := Lib.hid (by rw [picks_len, List.length_take, HL0.out]; omega)
      have HK8 := Lib.hid hk1
      clear hlt hk1 hk2
      rcases e12 with e1 | ⟨e1, e2⟩
      all_goals
        obtain ⟨xs, hxs⟩ : ∃ xs, picks (k0s.take k) = xs := ⟨_, rfl⟩
        rw [hxs] at HRW HKL
        have HOX : Hid (okV xs = true) := Lib.hid (by rw [← hxs]; exact picks_ok _)
        have HXL := Lib.hid HKL.out.symm
        have HK7 := HK8
        clear hxs HKL HK8
        go_wp2_with fail
        go_loopw [9, 11, 13] (fun s r j wr => ∃ (m : Nat) (b : Option Addr) (cb : Nat) (d : Option Addr) (cd : Nat), m ≤ 7 ∧ m ≤ len1 ∧ j = .int .i64 m ∧ s = .slice b m cb ∧ r = .slice d (m + 1) cd ∧ Hid (RowsOk w.heap.size [(.slice a k ca, xs), (.slice b m cb, picks (k1s.take m)), (.slice c (k + 1) cc, vv :: xs), (.slice d (m + 1) cd, vv :: picks (k1s.take m))] wr) ∧ Hid (Below w.heap.size w wr)) (fun _ _ j _ => 7 - (intOf j).toNat)
        case atStart => exact ⟨0, some ⟨w.heap.size + 1, 0, none⟩, 0, some ⟨w.heap.size + 3, 0, none⟩, 1, Nat.zero_le _, Nat.zero_le _, rfl, rfl, rfl, Lib.hid HRW.out, HB⟩
        case round =>
          clear HRW HB
          obtain ⟨m, b, cb, d, cd, hk1, hk2, rfl, rfl, rfl, HRW, HB⟩ := hrel
          by_cases hlt : m < len1 ∧ m < 7
          · obtain ⟨h1, h2⟩ := hlt
            obtain ⟨q1, q2, bk, off, q3⟩ := HR1.out
            obtain ⟨hqa, hc⟩ := q3 m (by rw [HL1.out]; exact h1)
            subst hqa
            have hzw := bounds_u8 (HW1.out _ (getD_mem (ks := k1s) (k := m) (by rw [HL1.out]; exact h1)))
            obtain ⟨z0, z1⟩ := hzw
            have htk := take_getD (ks := k1s) (k := m) (by rw [HL1.out]; exact h1)
            generalize k1s.getD m 0 = z at z0 z1 htk hc
            have hc2 : wr.cell? ⟨bk, off + m, none⟩ = some (.int .u8 z) := (HB.out.cell (block_lt_of_cell hc)).trans hc
            have HC : Hid (w.cell? ⟨bk, off + m, none⟩ = some (.int .u8 z)) := Lib.hid hc
            clear hc q1 q2 q3
            have HTK := Lib.hid htk
            clear htk
            have HLN : Hid ((picks (k1s.take m)).length = m) := Lib.hid (by rw [picks_len, List.length_take, HL1.out]; omega)
            have HLN2 : Hid ((vv :: picks (k1s.take m)).length = m + 1) := Lib.hid (by rw [List.length_cons, HLN.out])
            have e1 : decide (m < len1) = true := by simpa using h1
            have e2 : decide (m < 7) = true := by simpa using h2
            have e3 : decide ((m : Int) < 7) = true := decide_eq_true (by omega)
            have h3 : (m : Int) < (len1 : Int) := by omega
            have HI := Lib.hid (And.intro h1 h2)
            clear h1 h2 hk1 hk2
            go_wp2_with (first
              | (at_builtin; refine wpList_push rfl (.tmp 78) (.tmp 86) rfl w.heap.size [(.slice a k ca, xs)] [(.slice c (k + 1) cc, vv :: xs), (.slice d (m + 1) cd, vv :: picks (k1s.take m))] _ (picks (k1s.take m)) (1 + z % 255) wr HRW.out rfl rfl m HLN.out (by have := HI.out; omega) HB.out.size ?_; intro g3 cap3 w6 hR6 hB6; have HR6 := Lib.hid hR6; have HB6 := Lib.hid (HB.out.trans hB6); have hc6 : w6.cell? ⟨bk, off + m, none⟩ = some (.int .u8 z) := (HB6.out.cell (block_lt_of_cell HC.out)).trans HC.out; clear hR6 hB6)
              | (at_builtin; refine wpList_push rfl (.tmp 88) (.tmp 96) rfl w.heap.size [(.slice a k ca, xs), (.slice (some ⟨g3, 0, none⟩) (m + 1) cap3, picks (k1s.take m) ++ [1 + z % 255]), (.slice c (k + 1) cc, vv :: xs)] [] _ (vv :: picks (k1s.take m)) (1 + z % 255) w6 HR6.out rfl rfl (m + 1) HLN2.out (by have := HI.out; omega) HB6.out.size ?_; intro g4 cap4 w7 hR7 hB7; have HR7 := Lib.hid hR7; have HB7 := Lib.hid (HB6.out.trans hB7); clear hR7 hB7))
            go_roundw
            case rel => exact ⟨m + 1, some ⟨g3, 0, none⟩, cap3, some ⟨g4, 0, none⟩, cap4, by have := HI.out; omega, by have := HI.out; omega, by go_num, rfl, rfl, Lib.hid (by rw [HTK.out, picks_snoc]; exact HR7.out), HB7⟩
            case measure => have := HI.out; simp [intOf]; omega
          · have e12 : decide (m < len1) = false ∨ (decide (m < len1) = true ∧ decide ((m : Int) < 7) = false) := by
              simp only [decide_eq_false_iff_not, decide_eq_true_eq]
              omega
            have HKL : Hid ((picks (k1s.take m)).length = m) := Lib.hid (by rw [picks_len, List.length_take, HL1.out]; omega)
            have HK8 := Lib.hid hk1
            clear hlt hk1 hk2
            rcases e12 with e1 | ⟨e1, e2⟩
            all_goals
              obtain ⟨ys, hys⟩ : ∃ ys, picks (k1s.take m) = ys := ⟨_, rfl⟩
              rw [hys] at HRW HKL
              have HOY : Hid (okV ys = true) := Lib.hid (by rw [← hys]; exact picks_ok _)
              have HYL := Lib.hid HKL.out.symm
              have hm7 := HK8.out
              clear hys HKL HK8
              have HRA : Hid (RowAt .i64 wr a ca xs) := Lib.hid (HRW.out.rowAt (n := k) (by simp)).2
              have HRB : Hid (RowAt .i64 wr b cb ys) := Lib.hid (HRW.out.rowAt (n := m) (by simp)).2
              have HRC : Hid (RowAt .i64 wr c cc (vv :: xs)) := Lib.hid (HRW.out.rowAt (n := k + 1) (by simp)).2
              have HRD : Hid (RowAt .i64 wr d cd (vv :: ys)) := Lib.hid (HRW.out.rowAt (n := m + 1) (by simp)).2
              clear HRW
              obtain ⟨m1, m2, m3, m4, m5, m6, m7, m8, m9⟩ := more_math HOX.out HOY.out (by rw [← HXL.out]; exact HK7.out) (by rw [← HYL.out]; exact hm7) HV.out.1 HV.out.2
              have HXW := Lib.hid (ok_wf HOX.out)
              have HYW := Lib.hid (ok_wf HOY.out)
              have HCW := Lib.hid (ok_wf m4)
              have HDW := Lib.hid (ok_wf m5)
              have HOV : Hid ([vv].all (fun x => (Lit.int .i64 x).wf) = true) := Lib.hid (List.all_eq_true.2 (ok_wf m6))
              have HCL : Hid (k + 1 = (vv :: xs).length) := Lib.hid (by rw [List.length_cons, ← HXL.out])
              have HDL : Hid (m + 1 = (vv :: ys).length) := Lib.hid (by rw [List.length_cons, ← HYL.out])
              obtain ⟨s, hs⟩ := text_of (makeS xs)
              obtain ⟨t, ht⟩ := text_of (makeS ys)
              obtain ⟨x, hx⟩ := text_of (makeS (vv :: xs))
              obtain ⟨y, hy⟩ := text_of (makeS (vv :: ys))
              obtain ⟨one, ho⟩ := text_of (makeS [vv])
              obtain ⟨es, hes⟩ : ∃ es, makeE xs = es := ⟨_, rfl⟩
              obtain ⟨et, het⟩ : ∃ et, makeE ys = et := ⟨_, rfl⟩
              obtain ⟨was, wer, hbw⟩ : ∃ was wer, BestIs s t was wer := ⟨_, _, rfl, rfl⟩
              obtain ⟨now, hnow⟩ : ∃ now, max was vv = now := ⟨_, rfl⟩
              have HBW := Lib.hid hbw
              have HBN : Hid (BestIs x y now 0) := Lib.hid ⟨by rw [hx, hy, m7, ← hs, ← ht, hbw.1, hnow], by rw [hx, hy]; exact m8⟩
              have HBO : Hid (one.data.toList = bothS x.data.toList one.data.toList) := Lib.hid (by rw [hx, ho, m9])
              have HS := Lib.hid hs
              have HT := Lib.hid ht
              have HX := Lib.hid hx
              have HY := Lib.hid hy
              have HON := Lib.hid ho
              have HES := Lib.hid hes
              have HET := Lib.hid het
              have HEX := Lib.hid m1
              have HEY := Lib.hid m2
              have HEO := Lib.hid m3
              have HSZ : Hid (s.size ≤ maxLen) := Lib.hid (made_size hs)
              have HTZ : Hid (t.size ≤ maxLen) := Lib.hid (made_size ht)
              have HXZ : Hid (x.size ≤ maxLen) := Lib.hid (made_size hx)
              have HYZ : Hid (y.size ≤ maxLen) := Lib.hid (made_size hy)
              have HOZ : Hid (one.size ≤ maxLen) := Lib.hid (made_size ho)
              have t1 := eqS one
              have t2 : (now == now) = true := by simp
              have t3 : (if was < vv then vv else was) = now := by rw [← hnow]; omega
              have t4 : (if vv < was then was else vv) = now := by rw [← hnow]; omega
              clear m1 m2 m3 m4 m5 m6 m7 m8 m9 hs ht hx hy ho hes het hbw hnow hm7
              go_wp2_with fail
              refine (make_any a k ca xs _ HXL.out HRA.out HXW.out s es HS HES).mono ?_
              rintro e v1 ⟨rfl, hb⟩
              have J1 := Lib.hid (hb)
              clear hb
              go_wp2_with fail
              refine (make_any b m cb ys _ HYL.out (HRB.out.below J1.out) HYW.out t et HT HET).mono ?_
              rintro e v2 ⟨rfl, hb⟩
              have J2 := Lib.hid (J1.out.trans (hb.mono J1.out.size))
              clear hb J1
              go_wp2_with fail
              refine (make_any c (k + 1) cc (vv :: xs) _ HCL.out (HRC.out.below J2.out) HCW.out x 0 HX HEX).mono ?_
              rintro e v3 ⟨rfl, hb⟩
              have J3 := Lib.hid (J2.out.trans (hb.mono J2.out.size))
              clear hb J2
              go_wp2_with fail
              refine (make_any d (m + 1) cd (vv :: ys) _ HDL.out (HRD.out.below J3.out) HDW.out y 0 HY HEY).mono ?_
              rintro e v4 ⟨rfl, hb⟩
              have J4 := Lib.hid (J3.out.trans (hb.mono J3.out.size))
              clear hb J3
              go_wp2_with fail
              refine (best_any s t _ HSZ.out HTZ.out was wer HBW).mono ?_
              rintro e v5 ⟨rfl, hb⟩
              have J5 := Lib.hid (J4.out.trans (hb.mono J4.out.size))
              clear hb J4
              go_wp2_with fail
              refine (best_any x y _ HXZ.out HYZ.out now 0 HBN).mono ?_
              rintro e v6 ⟨rfl, hb⟩
              have J6 := Lib.hid (J5.out.trans (hb.mono J5.out.size))
              clear hb J5
              go_wp2_with fail
              refine (rmake_lit [vv] _ (by simp) HOV.out one 0 HON.out HEO.out).mono ?_
              rintro e v7 ⟨rfl, hb⟩
              have J7 := Lib.hid (J6.out.trans (hb.mono J6.out.size))
              clear hb J6
              go_wp2_with fail
              refine (both_any x one _ HXZ.out HOZ.out one HBO).mono ?_
              rintro e v8 ⟨rfl, hb⟩
              have J8 := Lib.hid (J7.out.trans (hb.mono J7.out.size))
              clear hb J7
              go_wp2_with fail
              refine (fixed_any _).mono ?_
              rintro e v9 ⟨rfl, hb⟩
              have J9 := Lib.hid (J8.out.trans (hb.mono J8.out.size))
              clear hb J8
              go_wp2_with fail
              go_ret
              exact ⟨rfl, HB.out.trans (J9.out.mono HB.out.size)⟩

theorem walk (a0 : Option Addr) (len0 cap0 : Nat) (z0 : List Int) (a1 : Option Addr) (len1 cap1 : Nat) (z1 : List Int) (x2 : Int) (w : World) (w0 : IsRow .u8 w a0 len0 cap0 z0) (w1 : IsRow .u8 w a1 len1 cap1 z1) (w2 : (Lit.int .u8 x2).wf = true) :
    Calls Try.prog 8 #[.slice a0 len0 cap0, .slice a1 len1 cap1, .int .u8 x2] w fun e w' => e = .returned (.bool true) ∧ Below w.heap.size w w' := by
  obtain ⟨ks0, hks0, hr0, hwf0, _⟩ := w0.row
  obtain ⟨ks1, hks1, hr1, hwf1, _⟩ := w1.row
  obtain ⟨f0, f1⟩ := bounds_u8 w2
  exact walkN a0 len0 cap0 ks0 a1 len1 cap1 ks1 x2 _ w hks0 hr0 hwf0 (by have := hr0.len; omega) hks1 hr1 hwf1 (by have := hr1.len; omega) f0 f1 rfl

set_option maxRecDepth 100000 in
theorem lifted (os : Os) (started : os.Started) (H : Type) (enc : TypeId × Value → H) :
    ReturnsInHanded {} Try.checked os 8 .any (Rows.offerMoreSpec.pre6 enc Try.prog Try.f8 Rows.offerMoreRow.domain false) (Rows.offerMoreSpec.post enc Try.prog Try.f8 false true false false) := by
  refine returnsInHanded_of_change (C := Try.checked) own started (by kernel_rfl) Try.func8
    (ChangeSpec.witness6 (enc := enc) (C := Try.checked) false ⟨#[], #[.slice none 0 0, .slice none 0 0, .int .u8 0], []⟩ 8 (by kernel_rfl) (by kernel_rfl) (by kernel_rfl) (by kernel_rfl)) ?_
  intro W base args ds gs before hval0 hW hcnd _
  have hval : ∀ (j : Nat) t v, Try.f8.params[j]? = some t → args[j]? = some v → Value.okWide Try.prog W .any base t v := hval0
  have hW' := hW
  obtain ⟨p, q, hA0, hV, rfl, hfz, hnd⟩ := hW
  have hA : DataW.TrodAll enc Try.prog W 0 (fun _ => true) true Try.f8.params.toList args.toList ds p := hA0
  rw [Try.params8] at hA hval
  obtain ⟨v0, vs0, d0, ds0, p0, q0, hargs, rfl, rfl, h0, r0⟩ := trodAll_cons hA
  obtain ⟨v1, vs1, d1, ds1, p1, q1, rfl, rfl, rfl, h1, r1⟩ := trodAll_cons r0
  obtain ⟨v2, vs2, d2, ds2, p2, q2, rfl, rfl, rfl, h2, r2⟩ := trodAll_cons r1
  obtain ⟨rfl, rfl, rfl⟩ := trodAll_nil r2
  obtain rfl : args = #[v0, v1, v2] := by cases args; simp_all
  obtain ⟨rfl, rfl⟩ := trodVars_none hV
  obtain ⟨a0, len0, cap0, rfl⟩ := okWide_slice Try.underlying32 (hval 0 32 v0 rfl rfl)
  have k0 := h0
  have lt0 : ∀ x ∈ p0, x.block < W.heap.size := by obtain ⟨m, hm⟩ := k0; exact DataW.trod_lt m _ _ _ hm
  obtain ⟨z0, w0⟩ : ∃ zs, IsRow .u8 W a0 len0 cap0 zs := by
    obtain ⟨fuel, hf⟩ := h0
    rcases open_ints Try.underlying32 Try.underlying5 (by kernel_rfl) hf with ⟨hcs, _⟩ | ⟨x, l, c, zs, hcs, _, hl, hm, hz, _, hcell, hwz⟩
    · simp [Value.cells] at hcs
      obtain ⟨rfl, rfl, rfl⟩ := hcs
      exact ⟨[], .inl ⟨rfl, rfl, rfl, rfl⟩⟩
    · simp [Value.cells] at hcs
      obtain ⟨rfl, rfl, rfl⟩ := hcs
      exact ⟨zs, .inr ⟨_, rfl, hl, hm, by simpa using hz, hcell, hwz⟩⟩
  obtain ⟨a1, len1, cap1, rfl⟩ := okWide_slice Try.underlying32 (hval 1 32 v1 rfl rfl)
  have k1 := h1
  have lt1 : ∀ x ∈ p1, x.block < W.heap.size := by obtain ⟨m, hm⟩ := k1; exact DataW.trod_lt m _ _ _ hm
  obtain ⟨z1, w1⟩ : ∃ zs, IsRow .u8 W a1 len1 cap1 zs := by
    obtain ⟨fuel, hf⟩ := h1
    rcases open_ints Try.underlying32 Try.underlying5 (by kernel_rfl) hf with ⟨hcs, _⟩ | ⟨x, l, c, zs, hcs, _, hl, hm, hz, _, hcell, hwz⟩
    · simp [Value.cells] at hcs
      obtain ⟨rfl, rfl, rfl⟩ := hcs
      exact ⟨[], .inl ⟨rfl, rfl, rfl, rfl⟩⟩
    · simp [Value.cells] at hcs
      obtain ⟨rfl, rfl, rfl⟩ := hcs
      exact ⟨zs, .inr ⟨_, rfl, hl, hm, by simpa using hz, hcell, hwz⟩⟩
  obtain ⟨a2, rfl, rfl, rfl, w2⟩ := open_int Try.underlying5 (hval 2 5 v2 rfl rfl) h2
  clear hA0 hval0
  refine (walk a0 len0 cap0 z0 a1 len1 cap1 z1 a2 W w0 w1 w2).mono fun e W' ⟨he, bel⟩ => ?_
  subst he
  exact ⟨_, rfl, _, _, _, [], _, [], hW', trodAll_mk1 (shut_bool Try.underlying4 _), (trodAll_cons_mk (Below.trod laidOut (by kernel_rfl) (of_decide_eq_true (by kernel_rfl)) k0 bel lt0) (trodAll_cons_mk (Below.trod laidOut (by kernel_rfl) (of_decide_eq_true (by kernel_rfl)) k1 bel lt1) (trodAll_cons_mk (shut_int Try.underlying5 w2) trodAll_mk0))), rfl, bel.frame _, fun h => by cases h⟩

theorem over : Rows.offerMoreRow.holds Try.pinned (OpenSpec.ofChange Rows.offerMoreSpec) :=
  OpenClaim.holds_of_wide 8 Try.f8 rfl rfl rfl rfl rfl rfl rfl ⟨rfl, rfl, rfl, rfl, rfl⟩ rfl rfl rfl rfl rfl (by kernel_rfl) Try.func8 (by kernel_rfl)
    (of_decide_eq_true (by kernel_rfl)) (by unfold Func.isWrapper; first | (rw [if_pos (by decide +kernel)]; kernel_rfl) | (rw [if_neg (by decide +kernel)]; exact ⟨rfl, rfl⟩))
    (fun os started H enc _ => lifted os started H enc)

theorem proved : Rows.OfferMoreSaid := over
#print axioms proved
end Go.Proofs.Ytahlekcnleedhaa.offerMore
