/- The document's Make. -/
import Derived.Test.YtahlekcnleedhaaOffR2
namespace Go.Proofs.Ytahlekcnleedhaa
open Go.RowKit
set_option linter.unusedVariables false
set_option linter.unusedSimpArgs false
set_option maxRecDepth 100000

/-- A version, behind those above it, once it came. -/
def withM (V : Nat → Bool) (m : Nat) (c : Bool) : List UInt8 := fallTo V (255 - m) ++ if c = true then [UInt8.ofNat m] else []
theorem withM_next (V : Nat → Bool) {m p : Nat} (hp : m = p + 1) (hm : m ≤ 255) : withM V m (V m) = fallTo V (255 - p) := by
  have e : 255 - p = (255 - m) + 1 := by omega
  have e2 : 255 - (255 - m) = m := by omega
  rw [e, fallTo, e2]; rfl
theorem withM_has (V : Nat → Bool) {m : Nat} (hm : m ≤ 255) (c : Bool) : hasI (withM V m c) (m : Int) = c := by
  rw [hasI_inB, Bool.eq_iff_iff, inB_iff]
  constructor
  · rintro ⟨x, hx, e⟩
    rcases List.mem_append.1 hx with q | q
    · have := (mem_fallTo V x (255 - m) (by omega)).1 q
      omega
    · cases c
      · simp at q
      · rfl
  · intro h
    rw [h]
    exact ⟨UInt8.ofNat m, List.mem_append_right _ (by simp), toNat_ofNat (by omega)⟩
theorem withM_len (V : Nat → Bool) (m : Nat) (c : Bool) : (withM V m c).length ≤ 256 := by
  have := fallTo_len V (255 - m)
  unfold withM
  rw [List.length_append]
  split <;> simp <;> omega
theorem vers_take {zs : List Int} {k : Nat} (h : k < zs.length) (m : Nat) : vers (zs.take (k + 1)) m = (vers (zs.take k) m || decide ((m : Int) = zs.getD k 0)) := by
  rw [take_getD h, vers_snoc]

set_option maxHeartbeats 4000000 in
theorem rmake_any (a : Option Addr) (n cap : Nat) (zs : List Int) (w : World) (hn : n = zs.length) (h : RowAt .i64 w a cap zs) (hwf : ∀ x, x ∈ zs → (Lit.int .i64 x).wf = true) (t : ByteArray) (er : Int) (ht : Hid (t.data.toList = makeS zs)) (he : Hid (makeE zs = er)) :
    Calls Try.prog 10 #[.slice a n cap] w fun e w' => e = .returned (.tuple #[.string t, .int .i64 er]) ∧ Below w.heap.size w w' := by
  have HR := Lib.hid h
  have HN := Lib.hid hn
  have HW := Lib.hid hwf
  have hlen := h.len
  rw [← hn] at hlen
  clear h hn hwf
  go_enter Try.func10, Try.ntmps10
  go_wp2
  go_loopw [4, 5] (fun s v wr => ∃ (m : Nat) (u : ByteArray), m ≤ 255 ∧ v = .int .i64 m ∧ s = .string u ∧ Hid (u.data.toList = fallTo (vers zs) (255 - m)) ∧ Hid (Below w.heap.size w wr)) (fun _ v _ => (intOf v).toNat)
  case atStart => exact ⟨255, ⟨#[]⟩, Nat.le_refl _, rfl, rfl, Lib.hid rfl, Lib.hid (Below.refl _ _)⟩
  case round =>
    obtain ⟨m, u, hm, rfl, rfl, HU, HB⟩ := hrel
    by_cases hz : m = 0
    · subst hz
      have hu : u.data.toList = fall (vers zs) := HU.out
      have hl : u.size ≤ 255 := by rw [← text_size, hu]; exact fall_len _
      have HU2 := Lib.hid hu
      clear hu HU
      go_wp2
      go_loop [7] (fun i => ∃ k : Nat, k ≤ n ∧ i = .int .i64 k ∧ Hid (okV (zs.take k) = true)) (fun i => n - (intOf i).toNat)
      case atStart => exact ⟨0, Nat.zero_le _, rfl, Lib.hid rfl⟩
      case round =>
        obtain ⟨k, hk, rfl, HO⟩ := hrel
        by_cases hlt : k < n
        · have hlt' : (k : Int) < (n : Int) := by omega
          obtain ⟨q1, q2, bk, off, q3⟩ := HR.out
          obtain ⟨rfl, hc⟩ := q3 k (by rw [← HN.out]; exact hlt)
          have hmem := getD_mem (ks := zs) (k := k) (by rw [← HN.out]; exact hlt)
          have htk := take_getD (ks := zs) (k := k) (by rw [← HN.out]; exact hlt)
          have hwz := HW.out _ hmem
          obtain ⟨b1, b2⟩ := bounds_i64 hwz
          have hc2 : wr.cell? ⟨bk, off + k, none⟩ = some (.int .i64 (zs.getD k 0)) := (HB.out.cell (block_lt_of_cell hc)).trans hc
          generalize zs.getD k 0 = z at hmem htk b1 b2 hc2
          clear hc q1 q2 q3 hwz
          have HTK := Lib.hid htk
          clear htk
          have hbad : ¬ (1 ≤ z ∧ z ≤ 255) → Hid (t = ⟨#[]⟩ ∧ er = 1) := fun hz => by
            have hok : okV zs = false := by
              rw [Bool.eq_false_iff]; intro q
              exact hz (okV_iff.1 q z hmem)
            exact Lib.hid ⟨text_ext (by rw [ht.out, makeS, makeB_bad hok]; rfl), by rw [← he.out, makeE, makeB_bad hok]; rfl⟩
          have HBAD := Lib.hid hbad
          clear hbad
          by_cases h1 : z < 1
          · have HE := HBAD.out (by omega)
            clear HBAD hmem
            go_wp2
            go_ret2
            exact ⟨retST HE.out.1.symm HE.out.2.symm, HB.out⟩
          · by_cases h2 : 255 < z
            · have HE := HBAD.out (by omega)
              have h1' : decide (z < 1) = false := by simp; omega
              clear HBAD hmem h1
              go_wp2
              go_ret2
              exact ⟨retST HE.out.1.symm HE.out.2.symm, HB.out⟩
            · clear HBAD hmem
              have h1' : decide (z < 1) = false := by simp; omega
              have h2' : decide ((255 : Int) < z) = false := by simp; omega
              have HOK : Hid (okV (zs.take (k + 1)) = true) := Lib.hid (by
                rw [HTK.out, okV_snoc, HO.out]
                simp; omega)
              clear h1 h2
              go_wp2
              go_round
              case rel => exact ⟨k + 1, by omega, by go_num, HOK⟩
              case measure => simp [intOf]; omega
        · obtain rfl : k = n := by omega
          have e : zs.take k = zs := List.take_of_length_le (by rw [← HN.out]; exact Nat.le_refl _)
          rw [e] at HO
          clear e hlt hk
          have hr := right_fall (vers zs)
          rw [← HU2.out, text_size] at hr
          by_cases h0 : u.size = 0
          · have h0' : ((u.size : Int) == 0) = true := by simp [h0]
            have HE : Hid (t = ⟨#[]⟩ ∧ er = 1) := Lib.hid (by
              have hb : makeB zs = false := by rw [makeB, ← HU2.out, hr, h0]; simp
              exact ⟨text_ext (by rw [ht.out, makeS, hb]; rfl), by rw [← he.out, makeE, hb]; rfl⟩)
            clear h0 hr
            go_wp2
            go_ret2
            exact ⟨retST HE.out.1.symm HE.out.2.symm, HB.out⟩
          · have h0' : ((u.size : Int) == 0) = false := by simp [h0]
            by_cases h8 : 8 < u.size
            · have h8' : (8 : Int) < u.size := by omega
              have HE : Hid (t = ⟨#[]⟩ ∧ er = 1) := Lib.hid (by
                have hb : makeB zs = false := by
                  rw [makeB, ← HU2.out, hr]
                  have : decide (u.size ≤ 8) = false := by simp; omega
                  rw [this]; simp
                exact ⟨text_ext (by rw [ht.out, makeS, hb]; rfl), by rw [← he.out, makeE, hb]; rfl⟩)
              clear h0 hr h8
              go_wp2
              go_ret2
              exact ⟨retST HE.out.1.symm HE.out.2.symm, HB.out⟩
            · have h8' : decide ((8 : Int) < u.size) = false := by simp; omega
              have HE : Hid (t = u ∧ er = 0) := Lib.hid (by
                have hb : makeB zs = true := by
                  rw [makeB, HO.out, ← HU2.out, hr]
                  simp; omega
                exact ⟨text_ext (by rw [ht.out, makeS, hb, HU2.out]; rfl), by rw [← he.out, makeE, hb]; rfl⟩)
              clear h0 hr h8
              go_wp2
              go_ret2
              exact ⟨retST HE.out.1.symm HE.out.2.symm, HB.out⟩
    · have hm1 : (1 : Int) ≤ m := by omega
      obtain ⟨p, hp⟩ : ∃ p, m = p + 1 := ⟨m - 1, by omega⟩
      have hsub : (m : Int) - 1 = (p : Int) := by omega
      have hm2 : (m : Int) < 256 := by omega
      have HP := Lib.hid hp
      clear hp hz
      have hcv := fun (w : World) => conv_one w (m : Int) (by omega) (by omega)
      obtain ⟨wo, rfl⟩ : ∃ wo : World, wo = wr := ⟨_, rfl⟩
      go_wp2
      go_loopw [4, 6] (fun s i wr => ∃ (k : Nat) (u : ByteArray), k ≤ n ∧ i = .int .i64 k ∧ s = .string u ∧ Hid (u.data.toList = withM (vers zs) m (vers (zs.take k) m)) ∧ Hid (Below w.heap.size w wr)) (fun _ i _ => n - (intOf i).toNat)
      case atStart => exact ⟨0, u, Nat.zero_le _, rfl, rfl, Lib.hid (by rw [HU.out]; simp [withM, vers]), HB⟩
      case round =>
        clear HU HB
        obtain ⟨k, u, hk, rfl, rfl, HU, HB⟩ := hrel
        by_cases hlt : k < n
        · have hlt' : (k : Int) < (n : Int) := by omega
          obtain ⟨q1, q2, bk, off, q3⟩ := HR.out
          obtain ⟨rfl, hc⟩ := q3 k (by rw [← HN.out]; exact hlt)
          have htk := vers_take (zs := zs) (k := k) (by rw [← HN.out]; exact hlt) m
          have hc2 : wr.cell? ⟨bk, off + k, none⟩ = some (.int .i64 (zs.getD k 0)) := (HB.out.cell (block_lt_of_cell hc)).trans hc
          generalize zs.getD k 0 = z at htk hc2
          clear hc q1 q2 q3
          have HTK := Lib.hid htk
          clear htk
          by_cases hzm : z = (m : Int)
          · have he1 : (z == (m : Int)) = true := by simpa using hzm
            have HS : Hid (vers (zs.take (k + 1)) m = true) := Lib.hid (by rw [HTK.out, hzm]; simp)
            have hul : u.size ≤ 256 := by rw [← text_size, HU.out]; exact withM_len _ _ _
            have HUL : Hid (u.size ≤ maxLen) := Lib.hid (by unfold maxLen; omega)
            have hh := withM_has (vers zs) hm (vers (zs.take k) m)
            rw [← HU.out] at hh
            obtain ⟨c, hcv2⟩ : ∃ c, vers (zs.take k) m = c := ⟨_, rfl⟩
            rw [hcv2] at hh
            have HC := Lib.hid hcv2
            have HH := Lib.hid hh
            clear hh hcv2 hzm
            cases hcc : c
            · subst hcc
              have HNEW : Hid ((u ++ ⟨#[UInt8.ofNat m]⟩).data.toList = withM (vers zs) m (vers (zs.take (k + 1)) m)) := Lib.hid (by
                rw [HS.out, ByteArray.data_append, Array.toList_append, HU.out, HC.out]
                simp [withM])
              go_wp2_with fail
              refine (has_any u _ _ HUL.out _ HH).mono ?_
              rintro e w3 ⟨rfl, rfl⟩
              go_wp2_with fail
              go_roundw
              case rel => exact ⟨k + 1, _, by omega, by go_num, rfl, HNEW, Lib.hid (HB.out.alloc HB.out.size _)⟩
              case measure => simp [intOf]; omega
            · subst hcc
              have HNEW : Hid (u.data.toList = withM (vers zs) m (vers (zs.take (k + 1)) m)) := Lib.hid (by
                rw [HS.out, HU.out, HC.out])
              go_wp2_with fail
              refine (has_any u _ _ HUL.out _ HH).mono ?_
              rintro e w3 ⟨rfl, rfl⟩
              go_wp2_with fail
              go_roundw
              case rel => exact ⟨k + 1, _, by omega, by go_num, rfl, HNEW, HB⟩
              case measure => simp [intOf]; omega
          · have he1 : (z == (m : Int)) = false := by simpa using hzm
            have HNEW : Hid (u.data.toList = withM (vers zs) m (vers (zs.take (k + 1)) m)) := Lib.hid (by
              have : decide ((m : Int) = z) = false := by simpa using fun h => hzm h.symm
              rw [HTK.out, this, Bool.or_false]; exact HU.out)
            clear hzm
            go_wp2
            go_roundw
            case rel => exact ⟨k + 1, _, by omega, by go_num, rfl, HNEW, HB⟩
            case measure => simp [intOf]; omega
        · obtain rfl : k = n := by omega
          have e : zs.take k = zs := List.take_of_length_le (by rw [← HN.out]; exact Nat.le_refl _)
          have HNEW : Hid (u.data.toList = fallTo (vers zs) (255 - p)) := Lib.hid (by
            rw [HU.out, e, withM_next _ HP.out hm])
          clear e hlt hk
          go_wp2
          go_roundw
          case rel => exact ⟨p, u, by have := HP.out; omega, rfl, rfl, HNEW, HB⟩
          case measure => have := HP.out; simp [intOf]; omega
end Go.Proofs.Ytahlekcnleedhaa
