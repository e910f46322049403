/- AlarmRoom: never are there more alarms than there is room for; there is none just for a new one where all is taken; what is there already finds its place again. No condition. -/
import Derived.Test.YtcnfchjiiglijaaRows
import Derived.Test.YtcnfchjiiglijaaAlarmO
import Derived.WalkKit
import Derived.ProofKit
import Derived.OpenShut
import Derived.ShutString
import Derived.ChangeOld
import Derived.Below
import Derived.Test.YtcnfchjiiglijaaAlarmMovesW
import Derived.Test.YtcnfchjiiglijaaArrs
import Derived.Test.YtcnfchjiiglijaaAlsD
namespace Go.Proofs.Ytcnfchjiiglijaa.alarmRoom
open Go.ChangeShapes Go.WideShapes Go.ChangeAt Go.RowKit
open Go.ChangeMaps (open_string shut_string)
open Go.Proofs.Ytcnfchjiiglijaa
set_option linter.unusedVariables false
set_option linter.unusedSimpArgs false
set_option maxRecDepth 20000

theorem own : ownKnob Try.prog.godebug = none := by kernel_rfl
theorem laidOut : laidOutB Try.prog = true := by kernel_rfl
/-- What the set holds: just the ids of the row; at times that are bytes. -/
structure Same (L : List On) (M : List Int) (most : Int) (k : Nat) : Prop where
  perm : (L.map On.id).Perm M
  small : ∀ o, o ∈ L → o.at_ ≤ 255
  room : (L.length : Int) ≤ max 0 most
  few : M.length ≤ k
theorem Same.len {L : List On} {M : List Int} {most : Int} {k : Nat} (h : Same L M most k) : L.length = M.length := by
  have := h.perm.length_eq
  simpa using this
theorem Same.has {L : List On} {M : List Int} {most : Int} {k : Nat} (h : Same L M most k) (id : Int) : hasD id L = decide (id ∈ M) := by
  rw [Bool.eq_iff_iff, decide_eq_true_eq, has_iff, ← h.perm.mem_iff, List.mem_map]
theorem Same.put {L : List On} {M : List Int} {most : Int} {k : Nat} (h : Same L M most k) (hr : Rise L) {id at_ : Int} (ha : at_ ≤ 255) (hf : id ∈ M ∨ (M.length : Int) < max 0 most) :
    Same (insD ⟨id, at_⟩ (dropD id L)) (if id ∈ M then M else M ++ [id]) most (k + 1) := by
  have hh := h.has id
  have hl := h.len
  have hp1 : ((insD ⟨id, at_⟩ (dropD id L)).map On.id).Perm (id :: (dropD id L).map On.id) := (ins_perm ⟨id, at_⟩ (dropD id L)).map On.id
  refine ⟨?_, fun o ho => ?_, ?_, ?_⟩
  · split
    · rename_i q
      have hb : hasD id L = true := by rw [hh]; exact decide_eq_true q
      have h2 := drop_split hb
      have h3 : (gt L (foundD id L)).id = id := by simpa using found_at (id := id) (L := L) (by unfold hasD at hb; simpa using hb)
      have h4 := h2.map On.id
      rw [List.map_cons, h3] at h4
      exact hp1.trans (h4.trans h.perm)
    · rename_i q
      have hb : hasD id L = false := by rw [hh]; exact decide_eq_false q
      rw [drop_none hb] at hp1 ⊢
      exact hp1.trans ((h.perm.cons id).trans (List.perm_append_singleton id M).symm)
  · rcases (put_mem hr.2.1 o).1 ho with q | ⟨q, _⟩
    · rw [q]; exact ha
    · exact h.small o q
  · rw [put_len, hh]
    have := h.room
    by_cases q : id ∈ M
    · simp [q]; exact this
    · rcases hf with r | r
      · exact absurd r q
      · simp [q]; omega
  · have := h.few
    split
    · omega
    · simp; omega
theorem Same.mono {L : List On} {M : List Int} {most : Int} {k : Nat} (h : Same L M most k) : Same L M most (k + 1) := ⟨h.perm, h.small, h.room, by have := h.few; omega⟩
theorem take_mem {M : List Int} {id : Int} {j : Nat} (h : j < M.length) : decide (id ∈ M.take (j + 1)) = (decide (id ∈ M.take j) || (M.getD j 0 == id)) := by
  rw [List.take_succ_eq_append_getElem h, Bool.eq_iff_iff, decide_eq_true_eq, Bool.or_eq_true, decide_eq_true_eq, beq_iff_eq, List.mem_append, List.mem_singleton, List.getD_eq_getElem?_getD, List.getElem?_eq_getElem h, Option.getD_some]
  exact or_congr Iff.rfl eq_comm
theorem u8_mod {x : Int} (h : 0 ≤ x ∧ x ≤ 255) : 0 ≤ x.tmod 16 ∧ x.tmod 16 ≤ 15 := by
  rw [Int.tmod_eq_emod_of_nonneg h.1]; omega
set_option maxHeartbeats 4000000 in
set_option maxRecDepth 100000 in
theorem walk (a0 : Int) (a1 : Option Addr) (len1 cap1 : Nat) (Z1 : Nat → Nat → Int) (w : World) (w0 : (Lit.int .i64 a0).wf = true) (w1 : Arrs .u8 2 w a1 len1 cap1 Z1) :
    Calls Try.prog 6 #[.int .i64 a0, .slice a1 len1 cap1] w fun e w' => e = .returned (.bool true) ∧ Below w.heap.size w w' := by
  obtain ⟨hcm, hlc, b, off, hz⟩ := w1
  have HZ := Lib.hid hz
  unfold maxLen at hcm
  clear hz
  obtain ⟨mm, hmm⟩ : ∃ mm, max 0 a0 = mm := ⟨_, rfl⟩
  have hm1 : (if (0 : Int) < a0 then a0 else 0) = mm := by split <;> omega
  have hm2 : (if a0 < (0 : Int) then 0 else a0) = mm := by split <;> omega
  have HMM := Lib.hid hmm
  clear hmm
  go_enter Try.func6, Try.ntmps6
  go_wp2_with fail
  refine (new_s a0 a0 w w (Below.refl _ _) rfl).mono ?_
  rintro e w1 ⟨p, F1, rfl, ha, hfn, hb⟩
  have HA0 := Lib.hid ha
  clear ha hfn hb
  go_wp2_with fail
  have HOR := Lib.hid (OR.start HA0.out)
  generalize w1.alloc (.cells #[] 29) = w2 at HOR ⊢
  generalize (Value.slice (some ⟨w1.heap.size, 0, none⟩) 0 0) = v2 at HOR ⊢
  clear HA0
  go_loopw [6, 7] (fun v i wr => ∃ (k : Nat) (u : Value) (L : List On) (M : List Int) (F : Nat → Prop), u = v ∧ k ≤ 40 ∧ i = .int .i64 (k : Nat) ∧ Hid (OR w F wr p L a0 u M) ∧ Hid (Same L M a0 k)) (fun _ i _ => 40 - (intOf i).toNat)
  case atStart => exact ⟨0, _, [], [], F1, rfl, Nat.zero_le _, rfl, HOR, Lib.hid ⟨List.Perm.refl _, fun o ho => (by cases ho), by simp; omega, Nat.le_refl _⟩⟩
  case round =>
    clear HOR
    obtain ⟨k, u, L, M, F, rfl, hk, rfl, HA, HSM⟩ := hrel
    by_cases hlt : k < len1
    · have hlt1 : (k : Int) < (len1 : Int) := by omega
      by_cases h40 : k < 40
      · have h41 : (k : Int) < 40 := by omega
        obtain ⟨rfl, hcl⟩ := HZ.out k hlt
        obtain ⟨q0, wf0⟩ := hcl 0 (by omega)
        obtain ⟨q1, wf1⟩ := hcl 1 (by omega)
        have hbw : b < w.heap.size := block_lt_of_cell q0
        obtain ⟨u0, hu0⟩ : ∃ u, u = Z1 k 0 := ⟨_, rfl⟩
        rw [← hu0] at q0 wf0
        obtain ⟨u1, hu1⟩ : ∃ u, u = Z1 k 1 := ⟨_, rfl⟩
        rw [← hu1] at q1 wf1
        have y0 := Go.bounds_u8 wf0
        have y1 := Go.bounds_u8 wf1
        obtain ⟨id, hid⟩ : ∃ x, u0.tmod 16 = x := ⟨_, rfl⟩
        have hidb : 0 ≤ id ∧ id ≤ 15 := by rw [← hid]; exact u8_mod y0
        obtain ⟨hidb0, hidb1⟩ := hidb
        obtain ⟨y10, y11⟩ := y1
        have iw0 : IntKind.u64.wrap id = id := wrap_u64 (by omega) (by omega)
        have iw1 : IntKind.u64.wrap u1 = u1 := wrap_u64 (by omega) (by omega)
        have iw2 : IntKind.u8.wrap id = id := by simp [IntKind.wrap, IntKind.signed, IntKind.bits]; omega
        have HID : Hid (U64 id ∧ U64 u1 ∧ u1 ≤ 255) := Lib.hid ⟨⟨by omega, by omega⟩, ⟨by omega, by omega⟩, by omega⟩
        have HR := Lib.hid (show Row8 b (off + k * 2) u0 u1 w from ⟨q0, q1⟩)
        have HBW := Lib.hid hbw
        have HK : Hid (k < 40) := Lib.hid h40
        have hc8 := HR.out.of HA.out.low hbw
        have g0 := hc8.1
        have g1 := hc8.2
        obtain ⟨au, cu, hu, hru⟩ := HA.out.at
        subst hu
        obtain ⟨n, hn⟩ : ∃ n, M.length = n := ⟨_, rfl⟩
        have HN := Lib.hid hn
        rw [hn] at HA ⊢
        have hn1 : n ≤ 40 := by have := HSM.out.few; omega
        clear hu0 wf0 q0 hu1 wf1 q1 hcl hk h40 hbw hc8 y0 hru
        go_wp2_with fail
        go_loopw [9, 11] (fun c i wx => ∃ (j : Nat), j ≤ n ∧ i = .int .i64 (j : Nat) ∧ c = .bool (decide (id ∈ M.take j)) ∧ wx = wr) (fun _ i _ => n - (intOf i).toNat)
        case atStart => exact ⟨0, Nat.zero_le _, rfl, rfl, rfl⟩
        case round =>
          obtain ⟨j, hj, rfl, rfl, rfl⟩ := hrel
          by_cases hjn : j < n
          · have hj1 : (j : Int) < (n : Int) := by omega
            have hj0 : (0 : Int) ≤ (j : Int) := by omega
            have hcell : ∃ b2 o2, au = some ⟨b2, o2, none⟩ ∧ wr.cell? ⟨b2, o2 + j, none⟩ = some (.int .u64 (M.getD j 0)) := by
              obtain ⟨a2, c2, e2, _, _, b2, o2, hr⟩ := HA.out.at
              injection e2 with e2 _ _
              obtain ⟨e3, hr⟩ := hr j (by rw [HN.out]; exact hjn)
              exact ⟨b2, o2, by rw [e2]; exact e3, hr⟩
            obtain ⟨b2, o2, rfl, hx⟩ := hcell
            have hn64 : n ≤ 9223372036854775807 := by omega
            have hmt := take_mem (M := M) (id := id) (j := j) (by rw [HN.out]; exact hjn)
            obtain ⟨z, hz⟩ : ∃ z, M.getD j 0 = z := ⟨_, rfl⟩
            rw [hz] at hx hmt
            have HMT := Lib.hid hmt
            have HJ := Lib.hid hjn
            clear hmt hz hj hjn
            cases hc : decide (id ∈ M.take j) with
            | true =>
              have HC := Lib.hid hc
              clear hc
              go_wp2_with fail
              go_roundw
              case rel => exact ⟨j + 1, HJ.out, by go_num, by rw [HMT.out, HC.out]; rfl, trivial⟩
              case measure => have := HJ.out; simp [intOf]; omega
            | false =>
              have HC := Lib.hid hc
              clear hc
              cases hc2 : (z == id) with
              | true =>
                have HC2 := Lib.hid hc2
                go_wp2_with fail
                go_roundw
                case rel => exact ⟨j + 1, HJ.out, by go_num, by rw [HMT.out, HC.out, HC2.out]; rfl, trivial⟩
                case measure => have := HJ.out; simp [intOf]; omega
              | false =>
                have HC2 := Lib.hid hc2
                go_wp2_with fail
                go_roundw
                case rel => exact ⟨j + 1, HJ.out, by go_num, by rw [HMT.out, HC.out, HC2.out]; rfl, trivial⟩
                case measure => have := HJ.out; simp [intOf]; omega
          · obtain rfl : j = n := by omega
            have htk : M.take j = M := by rw [← HN.out]; exact List.take_length
            rw [htk]
            have hj1 : decide (j < j) = false := decide_eq_false (Nat.lt_irrefl _)
            clear htk hj hjn
            have hhas := HSM.out.has id
            have hsl := HSM.out.len
            have hrise := HA.out.al.al.rise
            cases hm : decide (id ∈ M) with
            | true =>
              have hmem : id ∈ M := of_decide_eq_true hm
              obtain ⟨L1, hL1⟩ : ∃ X, X = insD ⟨id, u1⟩ (dropD id L) := ⟨_, rfl⟩
              have HP : Hid (putD a0 id u1 L = (L1, 0)) := Lib.hid (by rw [hL1]; exact put_fits (.inl (by rw [hhas, hm])))
              have hs1 := HSM.out.put hrise HID.out.2.2 (.inl hmem)
              rw [if_pos hmem, ← hL1] at hs1
              have HS1 := Lib.hid hs1
              have HL1 : Hid (L1.length = j ∧ L.length = j) := Lib.hid ⟨by rw [hs1.len, HN.out], by rw [hsl, HN.out]⟩
              have tnn : ((j : Int) != (j : Int)) = false := by simp
              clear hL1 hs1 hhas hsl hrise hmem hm
              go_wp2_with fail
              refine (put_r HA.out id u1 0 L1 0 (by rw [HL1.out.2]; omega) HID.out.1 HID.out.2.1 HP.out rfl).mono ?_
              rintro e wy ⟨F', rfl, hp⟩
              have HA2 := Lib.hid hp
              clear hp
              go_wp2_with fail
              refine (len_r HA2.out j (by rw [HL1.out.1]; omega) (by rw [HL1.out.1])).mono ?_
              rintro e wz ⟨rfl, hp⟩
              have HA3 := Lib.hid hp
              clear hp
              go_wp2_with fail
              go_roundw
              case rel => exact ⟨k + 1, _, L1, M, F', rfl, HK.out, by go_num, HA3, HS1⟩
              case measure => have := HK.out; simp [intOf]; omega
            | false =>
              have hmem : ¬ id ∈ M := of_decide_eq_false hm
              by_cases hf : mm ≤ (j : Int)
              · have HP : Hid (putD a0 id u1 L = (L, 8)) := Lib.hid (put_full (by rw [hhas, hm]) (by rw [HMM.out, hsl, HN.out]; exact hf))
                have HL1 : Hid (L.length = j) := Lib.hid (by rw [hsl, HN.out])
                have tnn : ((j : Int) != (j : Int)) = false := by simp
                have tge : decide (mm ≤ (j : Int)) = true := decide_eq_true hf
                clear hhas hsl hrise hmem hm hf
                go_wp2_with fail
                refine (put_r HA.out id u1 8 L 8 (by rw [HL1.out]; omega) HID.out.1 HID.out.2.1 HP.out rfl).mono ?_
                rintro e wy ⟨F', rfl, hp⟩
                have HA2 := Lib.hid hp
                clear hp
                go_wp2_with fail
                refine (len_r HA2.out j (by rw [HL1.out]; omega) (by rw [HL1.out])).mono ?_
                rintro e wz ⟨rfl, hp⟩
                have HA3 := Lib.hid hp
                clear hp
                go_wp2_with fail
                go_roundw
                case rel => exact ⟨k + 1, _, L, M, F', rfl, HK.out, by go_num, HA3, Lib.hid HSM.out.mono⟩
                case measure => have := HK.out; simp [intOf]; omega
              · obtain ⟨L1, hL1⟩ : ∃ X, X = insD ⟨id, u1⟩ (dropD id L) := ⟨_, rfl⟩
                have HP : Hid (putD a0 id u1 L = (L1, 0)) := Lib.hid (by rw [hL1]; exact put_fits (.inr (by rw [HMM.out, hsl, HN.out]; omega)))
                have hs1 := HSM.out.put (id := id) hrise HID.out.2.2 (.inr (by rw [HMM.out, HN.out]; omega))
                rw [if_neg hmem, ← hL1] at hs1
                have HS1 := Lib.hid hs1
                have HL1 : Hid (L1.length = j + 1 ∧ L.length = j) := Lib.hid ⟨by rw [hs1.len]; simp [HN.out], by rw [hsl, HN.out]⟩
                have tge : decide (mm ≤ (j : Int)) = false := decide_eq_false hf
                obtain ⟨j2, hj2⟩ : ∃ j2 : Nat, j + 1 = j2 := ⟨_, rfl⟩
                have HJ2 := Lib.hid hj2
                have tnn : ((j2 : Int) != (j2 : Int)) = false := by simp
                have tsum : (j : Int) + 1 = (j2 : Int) := by omega
                clear hL1 hs1 hhas hsl hrise hmem hm hf hj2
                go_wp2_with fail
                refine (put_r HA.out id u1 0 L1 0 (by rw [HL1.out.2]; omega) HID.out.1 HID.out.2.1 HP.out rfl).mono ?_
                rintro e wy ⟨F', rfl, hp⟩
                have HA2 := Lib.hid hp
                have HSZ : Hid (w.heap.size ≤ wy.heap.size) := Lib.hid hp.low.size
                clear hp
                go_wp2_with (at_builtin; refine wpList_appG rfl (.tmp 78) (.tmp 80) 35 29 .u64 8 Try.underlying35 infoU (by decide) rfl w.heap.size _ M id _ rfl (HA2.out.row.below (below_alloc _ _)) wy.heap.size 1 rfl (heap_alloc_new wy _) (by have := HN.out; omega) (by have := HSZ.out; simp; omega) ?_; intro v5 w5 hA hG; have HA5 := Lib.hid (OR.turn (HA2.out.below (below_alloc wy _)) hA hG); obtain ⟨a5, c5, hv5, _⟩ := hA.at; have hml : (M ++ [id]).length = j2 := (by rw [List.length_append, HN.out, ← HJ2.out]; rfl); rw [hml] at hv5; clear hml; subst hv5; clear hA hG)
                refine (len_r HA5.out j2 (by rw [HL1.out.1]; omega) (by rw [HL1.out.1, HJ2.out])).mono ?_
                rintro e wz ⟨rfl, hp⟩
                have HA3 := Lib.hid hp
                clear hp
                go_wp2_with fail
                go_roundw
                case rel => exact ⟨k + 1, _, L1, M ++ [id], F', rfl, HK.out, by go_num, HA3, HS1⟩
                case measure => have := HK.out; simp [intOf]; omega
      · have h41 : decide ((k : Int) < 40) = false := by simp; omega
        clear hlt h40 HZ
        obtain ⟨au, cu, hu, hru⟩ := HA.out.at
        obtain ⟨n, hn⟩ : ∃ n, M.length = n := ⟨_, rfl⟩
        rw [hn] at hu
        subst hu
        have hln : L.length = n := by rw [HSM.out.len, hn]
        have hdu := due_all (now := 300) (L := L) (fun x hx => by have := HSM.out.small x hx; omega)
        have HD := Lib.hid hdu
        obtain ⟨ks, hks⟩ : ∃ ks, L.map On.id = ks := ⟨_, rfl⟩
        have HKS := Lib.hid hks
        have hkl : ks.length = n := by rw [← hks, List.length_map, hln]
        have HKL := Lib.hid hkl
        have HLN := Lib.hid (show L.length ≤ 1000 by have := HSM.out.few; omega)
        have tnn : ((n : Int) == (n : Int)) = true := by simp
        clear hn hln hdu hks hkl hru hk
        go_wp2_with fail
        refine (due_r HA.out 300 [] ks HLN.out ⟨by decide, by decide⟩ HD.out.2 (by rw [HD.out.1, HKS.out])).mono ?_
        rintro e wy ⟨F', a', c', rfl, hr', hp, -⟩
        rw [HKL.out]
        have HA2 := Lib.hid hp
        have hlen := hr'.len
        rw [HKL.out] at hlen
        clear hp hr'
        go_wp2_with fail
        refine (len_r HA2.out 0 (by simp) rfl).mono ?_
        rintro e wz ⟨rfl, hp⟩
        have HA3 := Lib.hid hp
        clear hp
        go_wp2_with fail
        refine (fixed_any _).mono ?_
        rintro e wq ⟨rfl, hb⟩
        have HA4 := Lib.hid (HA3.out.below hb)
        clear hb
        go_wp2_with fail
        go_ret
        exact ⟨rfl, HA4.out.low⟩
    · have hlt1 : decide (k < len1) = false := by simpa using hlt
      clear hlt HZ
      obtain ⟨au, cu, hu, hru⟩ := HA.out.at
      obtain ⟨n, hn⟩ : ∃ n, M.length = n := ⟨_, rfl⟩
      rw [hn] at hu
      subst hu
      have hln : L.length = n := by rw [HSM.out.len, hn]
      have hdu := due_all (now := 300) (L := L) (fun x hx => by have := HSM.out.small x hx; omega)
      have HD := Lib.hid hdu
      obtain ⟨ks, hks⟩ : ∃ ks, L.map On.id = ks := ⟨_, rfl⟩
      have HKS := Lib.hid hks
      have hkl : ks.length = n := by rw [← hks, List.length_map, hln]
      have HKL := Lib.hid hkl
      have HLN := Lib.hid (show L.length ≤ 1000 by have := HSM.out.few; omega)
      have tnn : ((n : Int) == (n : Int)) = true := by simp
      clear hn hln hdu hks hkl hru hk
      go_wp2_with fail
      refine (due_r HA.out 300 [] ks HLN.out ⟨by decide, by decide⟩ HD.out.2 (by rw [HD.out.1, HKS.out])).mono ?_
      rintro e wy ⟨F', a', c', rfl, hr', hp, -⟩
      rw [HKL.out]
      have HA2 := Lib.hid hp
      have hlen := hr'.len
      rw [HKL.out] at hlen
      clear hp hr'
      go_wp2_with fail
      refine (len_r HA2.out 0 (by simp) rfl).mono ?_
      rintro e wz ⟨rfl, hp⟩
      have HA3 := Lib.hid hp
      clear hp
      go_wp2_with fail
      refine (fixed_any _).mono ?_
      rintro e wq ⟨rfl, hb⟩
      have HA4 := Lib.hid (HA3.out.below hb)
      clear hb
      go_wp2_with fail
      go_ret
      exact ⟨rfl, HA4.out.low⟩

set_option maxRecDepth 100000 in
theorem lifted (os : Os) (started : os.Started) (H : Type) (enc : TypeId × Value → H) :
    ReturnsInHanded {} Try.checked os 6 .any (Rows.alarmRoomSpec.pre6 enc Try.prog Try.f6 Rows.alarmRoomRow.domain false) (Rows.alarmRoomSpec.post enc Try.prog Try.f6 false true false false) := by
  refine returnsInHanded_of_change (C := Try.checked) own started (by kernel_rfl) Try.func6
    (ChangeSpec.witness6 (enc := enc) (C := Try.checked) false ⟨#[], #[.int .i64 0, .slice none 0 0], []⟩ 8 (by kernel_rfl) (by kernel_rfl) (by kernel_rfl) (by kernel_rfl)) ?_
  intro W base args ds gs before hval0 hW hcnd _
  have hval : ∀ (j : Nat) t v, Try.f6.params[j]? = some t → args[j]? = some v → Value.okWide Try.prog W .any base t v := hval0
  have hW' := hW
  obtain ⟨p, q, hA0, hV, rfl, hfz, hnd⟩ := hW
  have hA : DataW.TrodAll enc Try.prog W 0 (fun _ => true) true Try.f6.params.toList args.toList ds p := hA0
  rw [Try.params6] at hA hval
  obtain ⟨v0, vs0, d0, ds0, p0, q0, hargs, rfl, rfl, h0, r0⟩ := trodAll_cons hA
  obtain ⟨v1, vs1, d1, ds1, p1, q1, rfl, rfl, rfl, h1, r1⟩ := trodAll_cons r0
  obtain ⟨rfl, rfl, rfl⟩ := trodAll_nil r1
  obtain rfl : args = #[v0, v1] := by cases args; simp_all
  obtain ⟨rfl, rfl⟩ := trodVars_none hV
  obtain ⟨a0, rfl, rfl, rfl, w0⟩ := open_int Try.underlying3 (hval 0 3 v0 rfl rfl) h0
  obtain ⟨a1, len1, cap1, rfl⟩ := okWide_slice Try.underlying42 (hval 1 42 v1 rfl rfl)
  have k1 := h1
  have lt1 : ∀ x ∈ p1, x.block < W.heap.size := by obtain ⟨m, hm⟩ := k1; exact DataW.trod_lt m _ _ _ hm
  obtain ⟨Z1, w1⟩ : ∃ Z, Arrs .u8 2 W a1 len1 cap1 Z := by
    obtain ⟨fuel, hf⟩ := h1
    exact open_arrs Try.underlying42 Try.underlying43 Try.underlying5 (by kernel_rfl) (by kernel_rfl) (by omega) (by simpa [Value.cells] using hf)
  clear hA0 hval0
  refine (walk a0 a1 len1 cap1 Z1 W w0 w1).mono fun e W' ⟨he, bel⟩ => ?_
  subst he
  exact ⟨_, rfl, _, _, _, [], _, [], hW', trodAll_mk1 (shut_bool Try.underlying4 _), (trodAll_cons_mk (shut_int Try.underlying3 w0) (trodAll_cons_mk (Below.trod laidOut (by kernel_rfl) (of_decide_eq_true (by kernel_rfl)) k1 bel lt1) trodAll_mk0)), rfl, bel.frame _, fun h => by cases h⟩

theorem over : Rows.alarmRoomRow.holds Try.pinned (OpenSpec.ofChange Rows.alarmRoomSpec) :=
  OpenClaim.holds_of_wide 6 Try.f6 rfl rfl rfl rfl rfl rfl rfl ⟨rfl, rfl, rfl, rfl, rfl⟩ rfl rfl rfl rfl rfl (by kernel_rfl) Try.func6 (by kernel_rfl)
    (of_decide_eq_true (by kernel_rfl)) (by unfold Func.isWrapper; first | (rw [if_pos (by decide +kernel)]; kernel_rfl) | (rw [if_neg (by decide +kernel)]; exact ⟨rfl, rfl⟩))
    (fun os started H enc _ => lifted os started H enc)

theorem proved : Rows.AlarmRoomSaid := over
#print axioms proved
end Go.Proofs.Ytcnfchjiiglijaa.alarmRoom
