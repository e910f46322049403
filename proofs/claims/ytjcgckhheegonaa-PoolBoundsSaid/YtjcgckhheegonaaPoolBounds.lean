/- PoolBounds: never are more messages held than there are slots, nor more bytes than there is room, whatever comes; with an error nothing more is held. No condition. -/
import Derived.Test.YtjcgckhheegonaaRows
import Derived.Test.YtjcgckhheegonaaPoolX
import Derived.WalkKit
import Derived.ProofKit
import Derived.OpenShut
import Derived.ShutString
import Derived.ChangeOld
import Derived.Below
import Derived.Test.YtjcgckhheegonaaPoolB
import Derived.Test.YtjcgckhheegonaaArrs
namespace Go.Proofs.Ytjcgckhheegonaa.poolBounds
open Go.ChangeShapes Go.WideShapes Go.ChangeAt Go.RowKit
open Go.ChangeMaps (open_string shut_string)
open Go.Proofs.Ytjcgckhheegonaa
set_option linter.unusedVariables false
set_option linter.unusedSimpArgs false
set_option maxRecDepth 20000

theorem own : ownKnob Try.prog.godebug = none := by kernel_rfl
theorem laidOut : laidOutB Try.prog = true := by kernel_rfl

/-- A row of integers that came in, or nil. -/
def IsRow (k : IntKind) (w : World) (a : Option Addr) (len cap : Nat) (zs : List Int) : Prop :=
  (a = none ∧ len = 0 ∧ cap = 0 ∧ zs = []) ∨
  ∃ x, a = some x ∧ len ≤ cap ∧ cap ≤ maxLen ∧ zs.length = cap ∧ (∀ i, i < zs.length → w.cell? (x.add i) = some (.int k (zs.getD i 0))) ∧ ∀ n ∈ zs, (Lit.int k n).wf = true
theorem ints_plain {w : World} {a : Option Addr} {len cap : Nat} {zs : List Int} (h : IsRow .u16 w a len cap zs) : len ≤ cap ∧ cap ≤ maxLen ∧ ∃ b off, ∀ i, i < len → a = some ⟨b, off, none⟩ ∧ w.cell? ⟨b, off + i, none⟩ = some (.int .u16 (zs.getD i 0)) ∧ (Lit.int .u16 (zs.getD i 0)).wf = true := by
  rcases h with ⟨rfl, rfl, rfl, rfl⟩ | ⟨x, rfl, hl, hm, hz, hc, hw⟩
  · exact ⟨Nat.le_refl _, Nat.zero_le _, 0, 0, fun i hi => absurd hi (Nat.not_lt_zero _)⟩
  · by_cases hp : 0 < zs.length
    · obtain ⟨b, off, spot⟩ := x
      have hspot : spot = none := by simpa [Addr.add] using World.cell?_spot (hc 0 hp)
      subst hspot
      refine ⟨hl, hm, b, off, fun i hi => ⟨rfl, ?_, ?_⟩⟩
      · have := hc i (by omega)
        have hadd : (⟨b, off, none⟩ : Addr).add i = ⟨b, off + i, none⟩ := by
          unfold Addr.add
          split
          · rename_i h; subst h; rfl
          · rfl
        rw [hadd] at this
        exact this
      · refine hw _ ?_
        rw [List.getD_eq_getElem?_getD, List.getElem?_eq_getElem (by omega : i < zs.length)]
        exact List.getElem_mem _
    · exact ⟨hl, hm, 0, 0, fun i hi => by omega⟩
theorem addP_same (f : Fr) (now : Int) (P : Pl) : (addP f now P).1.slots = P.slots ∧ (addP f now P).1.bytes = P.bytes := by
  unfold addP
  split
  · exact ⟨rfl, rfl⟩
  · split <;> exact ⟨rfl, rfl⟩
theorem drewN_belowA {B : Nat} {w : World} (h : B ≤ w.heap.size) (n : Nat) : Below B w (w.drewN n) := ⟨rfl, rfl, rfl, Nat.le_refl _, fun _ _ => rfl⟩
theorem u8_mod {x : Int} (h : 0 ≤ x ∧ x ≤ 255) : 0 ≤ x.tmod 16 ∧ x.tmod 16 ≤ 15 := by
  rw [Int.tmod_eq_emod_of_nonneg h.1]; omega
theorem i64_of {x : Int} (h : -9223372036854775808 ≤ x) (k : x ≤ 9223372036854775807) : IntKind.i64.wrap x = x := by simp [IntKind.wrap, IntKind.signed, IntKind.bits]; omega
def RowF4 (b o : Nat) (f : Fr) (w : World) : Prop := w.cell? ⟨b, o, none⟩ = some (.int .u64 f.id) ∧ w.cell? ⟨b, o + 1, none⟩ = some (.int .i64 f.ix) ∧ w.cell? ⟨b, o + 2, none⟩ = some (.int .i64 f.ct) ∧ w.cell? ⟨b, o + 3, none⟩ = some (.string f.s)
theorem RowF4.of {b o : Nat} {f : Fr} {w w' : World} (h : RowF4 b o f w) (hb : Below w.heap.size w w') (hl : b < w.heap.size) : RowF4 b o f w' := by
  have c := hb.block b hl
  have e : ∀ o, w'.cell? ⟨b, o, none⟩ = w.cell? ⟨b, o, none⟩ := fun o => by simp [World.cell?, c]
  exact ⟨by rw [e]; exact h.1, by rw [e]; exact h.2.1, by rw [e]; exact h.2.2.1, by rw [e]; exact h.2.2.2⟩
theorem cut_facts {id ix ct : Int} {s : ByteArray} (h : (⟨id, ix, ct, s⟩ : Fr).Wf) : s.size ≤ maxLen ∧ min (s.size : Int) 1100 = (s.extract 0 (min s.size 1100)).size ∧ (s.extract 0 (min s.size 1100)).size ≤ s.size ∧ s.extract 0 (s.extract 0 (min s.size 1100)).size = s.extract 0 (min s.size 1100) ∧ (s.extract 0 (min s.size 1100)).size ≤ 1000000 ∧ (⟨id, ix, ct, s.extract 0 (min s.size 1100)⟩ : Fr).Wf := by
  have hs : s.size ≤ maxLen := h.4
  have e : (s.extract 0 (min s.size 1100)).size = min s.size 1100 := by rw [ByteArray.size_extract]; omega
  refine ⟨hs, by rw [e]; omega, by rw [e]; omega, by rw [e], by rw [e]; omega, ⟨h.1, h.2, h.3, by rw [e]; omega⟩⟩
set_option maxHeartbeats 2000000 in
set_option maxRecDepth 100000 in
theorem walk (x0 x1 : Int) (a1 : Option Addr) (len1 cap1 : Nat) (T1 : List Fr) (a2 : Option Addr) (len2 cap2 : Nat) (z2l : List Int) (w : World) (w0 : (Lit.int .u8 x0).wf = true) (w0' : (Lit.int .u8 x1).wf = true) (l1 : len1 = T1.length) (r1f : RowF w a1 cap1 T1) (w1 : ∀ f, f ∈ T1 → f.Wf) (w2 : IsRow .u16 w a2 len2 cap2 z2l) :
    Calls Try.prog 4 #[.agg #[.int .u8 x0, .int .u8 x1], .slice a1 len1 cap1, .slice a2 len2 cap2] w fun e w' => e = .returned (.bool true) ∧ Below w.heap.size w w' := by
  obtain ⟨nl, nc, nb, no, hnow⟩ := ints_plain w2
  have HNOW := Lib.hid hnow
  obtain ⟨fl, fc, fb, fo, hfr⟩ := r1f
  have HFR := Lib.hid hfr
  have HFW := Lib.hid w1
  have HL1 := Lib.hid l1
  rw [← l1] at fl
  have nl64 : len2 ≤ 9223372036854775807 := by unfold maxLen at nc; omega
  have fl64 : len1 ≤ 9223372036854775807 := by unfold maxLen at fc; omega
  have y0 := Go.bounds_u8 w0
  have y1 := Go.bounds_u8 w0'
  obtain ⟨r, hr⟩ : ∃ r, x0.tmod 16 = r := ⟨_, rfl⟩
  obtain ⟨hr0, hr1⟩ : 0 ≤ r ∧ r ≤ 15 := by rw [← hr]; exact u8_mod y0
  obtain ⟨S, hS⟩ : ∃ S, 1 + r = S := ⟨_, rfl⟩
  obtain ⟨B, hB⟩ : ∃ B, 1 + x1 = B := ⟨_, rfl⟩
  obtain ⟨y00, y01⟩ := y0
  obtain ⟨y10, y11⟩ := y1
  have i1 : IntKind.i64.wrap x0 = x0 := i64_of (by omega) (by omega)
  have i2 : IntKind.i64.wrap x1 = x1 := i64_of (by omega) (by omega)
  have i3 : IntKind.i64.wrap r = r := i64_of (by omega) (by omega)
  have i4 : wrap64 r = r := by unfold wrap64; omega
  have i5 : IntKind.i64.wrap S = S := i64_of (by omega) (by omega)
  have i6 : wrap64 S = S := by unfold wrap64; omega
  have i7 : IntKind.i64.wrap B = B := i64_of (by omega) (by omega)
  have i8 : wrap64 B = B := by unfold wrap64; omega
  have HSB : Hid (1 ≤ S ∧ S ≤ 16 ∧ 1 ≤ B ∧ B ≤ 65536) := Lib.hid ⟨by omega, by omega, by omega, by omega⟩
  obtain ⟨u, hu⟩ : ∃ u, u = w.alloc (.cells #[.int .u8 x0, .int .u8 x1] 46) := ⟨_, rfl⟩
  have hbu : Below w.heap.size w u := by rw [hu]; exact below_alloc _ _
  have hbox : u.heap[w.heap.size]? = some (.cells #[.int .u8 x0, .int .u8 x1] 46 (0, 0)) := by rw [hu]; exact heap_alloc_new w _
  have k0 : u.cell? ⟨w.heap.size, 0, none⟩ = some (.int .u8 x0) := by simp [World.cell?, hbox]
  have k1 : u.cell? ⟨w.heap.size, 1, none⟩ = some (.int .u8 x1) := by simp [World.cell?, hbox]
  clear hbox
  have HBU := Lib.hid hbu
  clear w2 hnow hfr w1 l1 w0 w0' hbu
  go_enter Try.func4, Try.ntmps4
  go_wp2_with fail
  rw [← hu]
  clear hu
  go_quiet (fail)
  go_wp2_with fail
  refine (new_s S B w _ (HBU.out.trans (drewN_belowA HBU.out.size nq)) HSB.out).mono ?_
  rintro e wp ⟨p, F, rfl, ha, hn, hb⟩
  have HA0 := Lib.hid ha
  clear ha hn hb k0 k1 hr hS hB
  go_wp2_with fail
  go_loopw [11] (fun i wr => ∃ (k : Nat) (F : Nat → Prop) (P : Pl), k ≤ 60 ∧ i = .int .i64 (k : Nat) ∧ Hid (PlS w F wr p P) ∧ Hid (P.slots = S ∧ P.bytes = B)) (fun i _ => 60 - (intOf i).toNat)
  case atStart => exact ⟨0, F, _, Nat.zero_le _, rfl, HA0, Lib.hid ⟨rfl, rfl⟩⟩
  case round =>
    clear HA0 F
    obtain ⟨k, F, P, hk, rfl, HA, HPB⟩ := hrel
    by_cases hlt : k < len1
    · have hlt1 : (k : Int) < (len1 : Int) := by omega
      by_cases h60 : k < 60
      · have h61 : (k : Int) < 60 := by omega
        obtain ⟨rfl, z0, z1, z2, z3⟩ := HFR.out k (by rw [← HL1.out]; exact hlt)
        have hfw := HFW.out (T1.getD k zeroF) (by rw [List.getD_eq_getElem?_getD, List.getElem?_eq_getElem (by rw [← HL1.out]; exact hlt)]; exact List.getElem_mem _)
        have hbw : fb < w.heap.size := block_lt_of_cell z0
        obtain ⟨⟨fid, fix, fct, fs⟩, hff⟩ : ∃ f, T1.getD k zeroF = f := ⟨_, rfl⟩
        rw [hff] at z0 z1 z2 z3 hfw
        have HRF := Lib.hid (show RowF4 fb (fo + k * 4) ⟨fid, fix, fct, fs⟩ w from ⟨z0, z1, z2, z3⟩)
        have HBW := Lib.hid hbw
        have HK : Hid (k < 60) := Lib.hid h60
        obtain ⟨hsz, hm0, hu0, hx0, hps, hpw⟩ := cut_facts hfw
        obtain ⟨ps, hpse⟩ : ∃ ps, fs.extract 0 (min fs.size 1100) = ps := ⟨_, rfl⟩
        rw [hpse] at hm0 hu0 hx0 hps hpw
        have HSZ : Hid (fs.size ≤ maxLen ∧ min (fs.size : Int) 1100 = ps.size ∧ ps.size ≤ fs.size ∧ fs.extract 0 ps.size = ps ∧ ps.size ≤ 1000000 ∧ (⟨fid, fix, fct, ps⟩ : Fr).Wf) := Lib.hid ⟨hsz, hm0, hu0, hx0, hps, hpw⟩
        obtain ⟨was, hwas⟩ : ∃ was : Int, (P.l.length : Int) = was := ⟨_, rfl⟩
        obtain ⟨were, hwere⟩ : ∃ were : Int, (heldM P.l : Int) = were := ⟨_, rfl⟩
        clear z0 z1 z2 z3 hff hfw hbw hk h60 hlt hsz hm0 hu0 hx0 hps hpw hpse
        by_cases hnk : k < len2
        · have hnk1 : (k : Int) < (len2 : Int) := by omega
          obtain ⟨rfl, hc, hwf⟩ := HNOW.out k hnk
          obtain ⟨T, hT⟩ : ∃ T, z2l.getD k 0 = T := ⟨_, rfl⟩
          rw [hT] at hc hwf
          have hTb := Go.bounds_u16 hwf
          have hcr := (HA.out.low.cell (block_lt_of_cell hc)).trans hc
          have iT : IntKind.u64.wrap T = T := wrap_u64 hTb.1 (by omega)
          have hTU : U64 T := ⟨hTb.1, by omega⟩
          clear hnk hc hwf hT hTb
          have HTU : Hid (U64 T) := Lib.hid hTU
          clear hTU
          go_wp2_with fail
          refine (held_s HA.out was were hwas hwere).mono ?_
          rintro e wa ⟨rfl, hb⟩
          have HA1 := Lib.hid (HA.out.below hb)
          have HWA := Lib.hid (And.intro hwas hwere)
          clear hb hwas hwere
          obtain ⟨q0, q1, q2, q3⟩ := RowF4.of HRF.out HA1.out.low HBW.out
          go_wp2_with fail
          clear q0 q1 q2 q3
          refine (lcut_f fid fix fct fs ps _ HSZ.out.1 HSZ.out.2.1 HSZ.out.2.2.1 HSZ.out.2.2.2.1).mono ?_
          rintro e wb ⟨rfl, hb⟩
          have HA2 := Lib.hid (HA1.out.below hb)
          clear hb
          obtain ⟨P', t, bb, E, hadd⟩ : ∃ P' t bb E, addP ⟨fid, fix, fct, ps⟩ T P = (P', t, bb, E) := ⟨_, _, _, _, rfl⟩
          have HADD := Lib.hid hadd
          have htl := addP_tells ⟨fid, fix, fct, ps⟩ T P
          have hsm := addP_same ⟨fid, fix, fct, ps⟩ T P
          have hok := HA2.out.al.ok.addP ⟨fid, fix, fct, ps⟩ T
          rw [hadd] at htl hsm hok
          have HTL := Lib.hid htl
          have HSM := Lib.hid hsm
          have HOK := Lib.hid hok
          obtain ⟨er, her⟩ : ∃ er : Int, (E : Int) = er := ⟨_, rfl⟩
          have HER := Lib.hid her
          clear hadd htl hsm hok her
          go_wp2_with fail
          refine (add_s HA2.out ⟨fid, fix, fct, ps⟩ T _ P' t bb E er HSZ.out.2.2.2.2.1 HSZ.out.2.2.2.2.2 HTU.out rfl HADD.out HER.out).mono ?_
          rintro e wc ⟨F2, rfl, ha, _, _⟩
          have HA3 := Lib.hid ha
          clear ha
          obtain ⟨many, hmany⟩ : ∃ many : Int, (P'.l.length : Int) = many := ⟨_, rfl⟩
          obtain ⟨held, hheld⟩ : ∃ held : Int, (heldM P'.l : Int) = held := ⟨_, rfl⟩
          have HMH := Lib.hid (And.intro hmany hheld)
          clear hmany hheld
          go_wp2_with fail
          refine (held_s HA3.out many held HMH.out.1 HMH.out.2).mono ?_
          rintro e wd ⟨rfl, hb⟩
          have HA4 := Lib.hid (HA3.out.below hb)
          clear hb
          have hm := HOK.out.many
          have hh := HOK.out.held
          rw [HSM.out.1, HPB.out.1, HMH.out.1] at hm
          rw [HSM.out.2, HPB.out.2, HMH.out.2] at hh
          have t1 : decide (many < 0) = false := decide_eq_false (by have := HMH.out.1; omega)
          have t2 : decide (S < many) = false := decide_eq_false (by omega)
          have t3 : decide (held < 0) = false := decide_eq_false (by have := HMH.out.2; omega)
          have t4 : decide (B < held) = false := decide_eq_false (by omega)
          clear hm hh
          by_cases hE : E = 0
          · have he0 : er = 0 := by rw [← HER.out, hE]; rfl
            subst he0
            cases bb with
            | true =>
              have hy := (HTL.out.yes rfl).2
              have hne : t ≠ ⟨#[]⟩ := fun e => by
                rw [e] at hy
                exact absurd hy (by decide)
              have s0 : t.toList ≠ [] := fun e => by
                have h2 := ByteArray.toList_eq t
                rw [e] at h2
                have h3 : t.data.toList.length = t.size := by simp
                rw [← h2] at h3
                simp at h3
                omega
              have s1 : t.toList.isEmpty = false := by
                cases hq : t.toList with
                | nil => exact absurd hq s0
                | cons a r => rfl
              have s2 : (t.toList != []) = true := by simpa using s0
              clear hE hy hne s0
              go_wp2_with fail
              go_roundw
              case rel => exact ⟨k + 1, F2, P', HK.out, by go_num, HA4, Lib.hid ⟨by rw [HSM.out.1]; exact HPB.out.1, by rw [HSM.out.2]; exact HPB.out.2⟩⟩
              case measure => have := HK.out; simp [intOf]; omega
            | false =>
              have hy := HTL.out.no rfl
              subst hy
              clear hE
              go_wp2_with fail
              go_roundw
              case rel => exact ⟨k + 1, F2, P', HK.out, by go_num, HA4, Lib.hid ⟨by rw [HSM.out.1]; exact HPB.out.1, by rw [HSM.out.2]; exact HPB.out.2⟩⟩
              case measure => have := HK.out; simp [intOf]; omega
          · have hbb : bb = false := by
              cases hb : bb with
              | false => rfl
              | true => exact absurd (HTL.out.yes hb).1 hE
            subst hbb
            have hle := HTL.out.err hE
            have ht0 := HTL.out.no rfl
            subst ht0
            have u1 : (er == 0) = false := by simp; have := HER.out; omega
            have u2 : (er != 0) = true := by simp; have := HER.out; omega
            have u3 : decide (was < many) = false := decide_eq_false (by have := HWA.out.1; have := HMH.out.1; omega)
            have u4 : decide (were < held) = false := decide_eq_false (by have := HWA.out.2; have := HMH.out.2; omega)
            clear hE hle
            go_wp2_with fail
            go_roundw
            case rel => exact ⟨k + 1, F2, P', HK.out, by go_num, HA4, Lib.hid ⟨by rw [HSM.out.1]; exact HPB.out.1, by rw [HSM.out.2]; exact HPB.out.2⟩⟩
            case measure => have := HK.out; simp [intOf]; omega
        · have hnk1 : decide (k < len2) = false := by simpa using hnk
          have hTU : U64 0 := ⟨by decide, by decide⟩
          clear hnk
          have HTU : Hid (U64 0) := Lib.hid hTU
          clear hTU
          go_wp2_with fail
          refine (held_s HA.out was were hwas hwere).mono ?_
          rintro e wa ⟨rfl, hb⟩
          have HA1 := Lib.hid (HA.out.below hb)
          have HWA := Lib.hid (And.intro hwas hwere)
          clear hb hwas hwere
          obtain ⟨q0, q1, q2, q3⟩ := RowF4.of HRF.out HA1.out.low HBW.out
          go_wp2_with fail
          clear q0 q1 q2 q3
          refine (lcut_f fid fix fct fs ps _ HSZ.out.1 HSZ.out.2.1 HSZ.out.2.2.1 HSZ.out.2.2.2.1).mono ?_
          rintro e wb ⟨rfl, hb⟩
          have HA2 := Lib.hid (HA1.out.below hb)
          clear hb
          obtain ⟨P', t, bb, E, hadd⟩ : ∃ P' t bb E, addP ⟨fid, fix, fct, ps⟩ 0 P = (P', t, bb, E) := ⟨_, _, _, _, rfl⟩
          have HADD := Lib.hid hadd
          have htl := addP_tells ⟨fid, fix, fct, ps⟩ 0 P
          have hsm := addP_same ⟨fid, fix, fct, ps⟩ 0 P
          have hok := HA2.out.al.ok.addP ⟨fid, fix, fct, ps⟩ 0
          rw [hadd] at htl hsm hok
          have HTL := Lib.hid htl
          have HSM := Lib.hid hsm
          have HOK := Lib.hid hok
          obtain ⟨er, her⟩ : ∃ er : Int, (E : Int) = er := ⟨_, rfl⟩
          have HER := Lib.hid her
          clear hadd htl hsm hok her
          go_wp2_with fail
          refine (add_s HA2.out ⟨fid, fix, fct, ps⟩ 0 _ P' t bb E er HSZ.out.2.2.2.2.1 HSZ.out.2.2.2.2.2 HTU.out rfl HADD.out HER.out).mono ?_
          rintro e wc ⟨F2, rfl, ha, _, _⟩
          have HA3 := Lib.hid ha
          clear ha
          obtain ⟨many, hmany⟩ : ∃ many : Int, (P'.l.length : Int) = many := ⟨_, rfl⟩
          obtain ⟨held, hheld⟩ : ∃ held : Int, (heldM P'.l : Int) = held := ⟨_, rfl⟩
          have HMH := Lib.hid (And.intro hmany hheld)
          clear hmany hheld
          go_wp2_with fail
          refine (held_s HA3.out many held HMH.out.1 HMH.out.2).mono ?_
          rintro e wd ⟨rfl, hb⟩
          have HA4 := Lib.hid (HA3.out.below hb)
          clear hb
          have hm := HOK.out.many
          have hh := HOK.out.held
          rw [HSM.out.1, HPB.out.1, HMH.out.1] at hm
          rw [HSM.out.2, HPB.out.2, HMH.out.2] at hh
          have t1 : decide (many < 0) = false := decide_eq_false (by have := HMH.out.1; omega)
          have t2 : decide (S < many) = false := decide_eq_false (by omega)
          have t3 : decide (held < 0) = false := decide_eq_false (by have := HMH.out.2; omega)
          have t4 : decide (B < held) = false := decide_eq_false (by omega)
          clear hm hh
          by_cases hE : E = 0
          · have he0 : er = 0 := by rw [← HER.out, hE]; rfl
            subst he0
            cases bb with
            | true =>
              have hy := (HTL.out.yes rfl).2
              have hne : t ≠ ⟨#[]⟩ := fun e => by
                rw [e] at hy
                exact absurd hy (by decide)
              have s0 : t.toList ≠ [] := fun e => by
                have h2 := ByteArray.toList_eq t
                rw [e] at h2
                have h3 : t.data.toList.length = t.size := by simp
                rw [← h2] at h3
                simp at h3
                omega
              have s1 : t.toList.isEmpty = false := by
                cases hq : t.toList with
                | nil => exact absurd hq s0
                | cons a r => rfl
              have s2 : (t.toList != []) = true := by simpa using s0
              clear hE hy hne s0
              go_wp2_with fail
              go_roundw
              case rel => exact ⟨k + 1, F2, P', HK.out, by go_num, HA4, Lib.hid ⟨by rw [HSM.out.1]; exact HPB.out.1, by rw [HSM.out.2]; exact HPB.out.2⟩⟩
              case measure => have := HK.out; simp [intOf]; omega
            | false =>
              have hy := HTL.out.no rfl
              subst hy
              clear hE
              go_wp2_with fail
              go_roundw
              case rel => exact ⟨k + 1, F2, P', HK.out, by go_num, HA4, Lib.hid ⟨by rw [HSM.out.1]; exact HPB.out.1, by rw [HSM.out.2]; exact HPB.out.2⟩⟩
              case measure => have := HK.out; simp [intOf]; omega
          · have hbb : bb = false := by
              cases hb : bb with
              | false => rfl
              | true => exact absurd (HTL.out.yes hb).1 hE
            subst hbb
            have hle := HTL.out.err hE
            have ht0 := HTL.out.no rfl
            subst ht0
            have u1 : (er == 0) = false := by simp; have := HER.out; omega
            have u2 : (er != 0) = true := by simp; have := HER.out; omega
            have u3 : decide (was < many) = false := decide_eq_false (by have := HWA.out.1; have := HMH.out.1; omega)
            have u4 : decide (were < held) = false := decide_eq_false (by have := HWA.out.2; have := HMH.out.2; omega)
            clear hE hle
            go_wp2_with fail
            go_roundw
            case rel => exact ⟨k + 1, F2, P', HK.out, by go_num, HA4, Lib.hid ⟨by rw [HSM.out.1]; exact HPB.out.1, by rw [HSM.out.2]; exact HPB.out.2⟩⟩
            case measure => have := HK.out; simp [intOf]; omega
      · have h61 : decide ((k : Int) < 60) = false := by simp; omega
        clear hlt h60
        go_wp2_with fail
        refine (fixed_any _).mono ?_
        rintro e wz ⟨rfl, hb⟩
        have HZ := Lib.hid (HA.out.below hb)
        clear hb
        go_wp2_with fail
        go_ret
        exact ⟨rfl, HZ.out.low⟩
    · have hlt1 : decide (k < len1) = false := by simpa using hlt
      clear hlt
      go_wp2_with fail
      refine (fixed_any _).mono ?_
      rintro e wz ⟨rfl, hb⟩
      have HZ := Lib.hid (HA.out.below hb)
      clear hb
      go_wp2_with fail
      go_ret
      exact ⟨rfl, HZ.out.low⟩

set_option maxRecDepth 100000 in
theorem lifted (os : Os) (started : os.Started) (H : Type) (enc : TypeId × Value → H) :
    ReturnsInHanded {} Try.checked os 4 .any (Rows.poolBoundsSpec.pre6 enc Try.prog Try.f4 Rows.poolBoundsRow.domain false) (Rows.poolBoundsSpec.post enc Try.prog Try.f4 false true false false) := by
  refine returnsInHanded_of_change (C := Try.checked) own started (by kernel_rfl) Try.func4
    (ChangeSpec.witness6 (enc := enc) (C := Try.checked) false ⟨#[], #[.agg #[.int .u8 0, .int .u8 0], .slice none 0 0, .slice none 0 0], []⟩ 8 (by kernel_rfl) (by kernel_rfl) (by kernel_rfl) (by kernel_rfl)) ?_
  intro W base args ds gs before hval0 hW hcnd _
  have hval : ∀ (j : Nat) t v, Try.f4.params[j]? = some t → args[j]? = some v → Value.okWide Try.prog W .any base t v := hval0
  have hW' := hW
  obtain ⟨p, q, hA0, hV, rfl, hfz, hnd⟩ := hW
  have hA : DataW.TrodAll enc Try.prog W 0 (fun _ => true) true Try.f4.params.toList args.toList ds p := hA0
  rw [Try.params4] at hA hval
  obtain ⟨v0, vs0, d0, ds0, p0, q0, hargs, rfl, rfl, h0, r0⟩ := trodAll_cons hA
  obtain ⟨v1, vs1, d1, ds1, p1, q1, rfl, rfl, rfl, h1, r1⟩ := trodAll_cons r0
  obtain ⟨v2, vs2, d2, ds2, p2, q2, rfl, rfl, rfl, h2, r2⟩ := trodAll_cons r1
  obtain ⟨rfl, rfl, rfl⟩ := trodAll_nil r2
  obtain rfl : args = #[v0, v1, v2] := by cases args; simp_all
  obtain ⟨rfl, rfl⟩ := trodVars_none hV
  obtain ⟨cs0, rfl, hsz0⟩ : ∃ cs, v0 = .agg cs ∧ cs.size = Try.prog.cellsOf 46 := by
    have h := hval 0 46 v0 rfl rfl
    simp only [Value.okWide, Try.underlying46] at h
    obtain ⟨cs, e1, e2, _⟩ := h
    exact ⟨cs, e1, e2⟩
  have k0 := h0
  have lt0 : ∀ x ∈ p0, x.block < W.heap.size := by obtain ⟨m, hm⟩ := k0; exact DataW.trod_lt m _ _ _ hm
  obtain ⟨Z0, rfl, w0⟩ : ∃ Z : Nat → Int, cs0 = ((List.range 2).map fun j => Value.int .u8 (Z j)).toArray ∧ ∀ j, j < 2 → (Lit.int .u8 (Z j)).wf = true := by
    obtain ⟨fuel, hf⟩ := h0
    exact open_arrV Try.underlying46 Try.underlying5 (by kernel_rfl) (by kernel_rfl) hf
  obtain ⟨a1, len1, cap1, rfl⟩ := okWide_slice Try.underlying23 (hval 1 23 v1 rfl rfl)
  have k1 := h1
  have lt1 : ∀ x ∈ p1, x.block < W.heap.size := by obtain ⟨m, hm⟩ := k1; exact DataW.trod_lt m _ _ _ hm
  obtain ⟨T1, l1, r1f, w1⟩ : ∃ fs : List Fr, len1 = fs.length ∧ RowF W a1 cap1 fs ∧ ∀ f, f ∈ fs → f.Wf := by
    obtain ⟨fuel, hf⟩ := h1
    exact open_frags (by simpa [Value.cells] using hf)
  obtain ⟨a2, len2, cap2, rfl⟩ := okWide_slice Try.underlying47 (hval 2 47 v2 rfl rfl)
  have k2 := h2
  have lt2 : ∀ x ∈ p2, x.block < W.heap.size := by obtain ⟨m, hm⟩ := k2; exact DataW.trod_lt m _ _ _ hm
  obtain ⟨z2, w2⟩ : ∃ zs, IsRow .u16 W a2 len2 cap2 zs := by
    obtain ⟨fuel, hf⟩ := h2
    rcases open_ints Try.underlying47 Try.underlying48 (by kernel_rfl) hf with ⟨hcs, _⟩ | ⟨x, l, c, zs, hcs, _, hl, hm, hz, _, hcell, hwz⟩
    · simp [Value.cells] at hcs
      obtain ⟨rfl, rfl, rfl⟩ := hcs
      exact ⟨[], .inl ⟨rfl, rfl, rfl, rfl⟩⟩
    · simp [Value.cells] at hcs
      obtain ⟨rfl, rfl, rfl⟩ := hcs
      exact ⟨zs, .inr ⟨_, rfl, hl, hm, by simpa using hz, hcell, hwz⟩⟩
  clear hA0 hval0
  refine (walk (Z0 0) (Z0 1) a1 len1 cap1 T1 a2 len2 cap2 z2 W (w0 0 (by omega)) (w0 1 (by omega)) l1 r1f w1 w2).mono fun e W' ⟨he, bel⟩ => ?_
  subst he
  exact ⟨_, rfl, _, _, _, [], _, [], hW', trodAll_mk1 (shut_bool Try.underlying4 _), (trodAll_cons_mk (Below.trod laidOut (by kernel_rfl) (of_decide_eq_true (by kernel_rfl)) k0 bel lt0) (trodAll_cons_mk (Below.trod laidOut (by kernel_rfl) (of_decide_eq_true (by kernel_rfl)) k1 bel lt1) (trodAll_cons_mk (Below.trod laidOut (by kernel_rfl) (of_decide_eq_true (by kernel_rfl)) k2 bel lt2) trodAll_mk0))), rfl, bel.frame _, fun h => by cases h⟩

theorem over : Rows.poolBoundsRow.holds Try.pinned (OpenSpec.ofChange Rows.poolBoundsSpec) :=
  OpenClaim.holds_of_wide 4 Try.f4 rfl rfl rfl rfl rfl rfl rfl ⟨rfl, rfl, rfl, rfl, rfl⟩ rfl rfl rfl rfl rfl (by kernel_rfl) Try.func4 (by kernel_rfl)
    (of_decide_eq_true (by kernel_rfl)) (by unfold Func.isWrapper; first | (rw [if_pos (by decide +kernel)]; kernel_rfl) | (rw [if_neg (by decide +kernel)]; exact ⟨rfl, rfl⟩))
    (fun os started H enc _ => lifted os started H enc)

theorem proved : Rows.PoolBoundsSaid := over
#print axioms proved
end Go.Proofs.Ytjcgckhheegonaa.poolBounds
