/- PoolDoes: the program's pool and the document's, made of any room, answer alike to any parts at any times. No condition. -/
import Derived.Test.YtjcgckhheegonaaRows
import Derived.Test.YtjcgckhheegonaaPoolGf
import Derived.WalkKit
import Derived.ProofKit
import Derived.OpenShut
import Derived.ShutString
import Derived.ChangeOld
import Derived.Below
import Derived.Test.YtjcgckhheegonaaPoolB
import Derived.Test.YtjcgckhheegonaaArrs
namespace Go.Proofs.Ytjcgckhheegonaa.poolDoes
open Go.ChangeShapes Go.WideShapes Go.ChangeAt Go.RowKit
open Go.ChangeMaps (open_string shut_string)
open Go.Proofs.Ytjcgckhheegonaa
set_option linter.unusedVariables false
set_option linter.unusedSimpArgs false
set_option maxRecDepth 20000

theorem own : ownKnob Try.prog.godebug = none := by kernel_rfl
theorem laidOut : laidOutB Try.prog = true := by kernel_rfl

/-- A row of integers that came in, or nil. -/
def IsRow (k : IntKind) (w : World) (a : Option Addr) (len cap : Nat) (zs : List Int) : Prop :=
  (a = none ∧ len = 0 ∧ cap = 0 ∧ zs = []) ∨
  ∃ x, a = some x ∧ len ≤ cap ∧ cap ≤ maxLen ∧ zs.length = cap ∧ (∀ i, i < zs.length → w.cell? (x.add i) = some (.int k (zs.getD i 0))) ∧ ∀ n ∈ zs, (Lit.int k n).wf = true
theorem ints_plain {w : World} {a : Option Addr} {len cap : Nat} {zs : List Int} (h : IsRow .u64 w a len cap zs) : len ≤ cap ∧ cap ≤ maxLen ∧ ∃ b off, ∀ i, i < len → a = some ⟨b, off, none⟩ ∧ w.cell? ⟨b, off + i, none⟩ = some (.int .u64 (zs.getD i 0)) ∧ (Lit.int .u64 (zs.getD i 0)).wf = true := by
  rcases h with ⟨rfl, rfl, rfl, rfl⟩ | ⟨x, rfl, hl, hm, hz, hc, hw⟩
  · exact ⟨Nat.le_refl _, Nat.zero_le _, 0, 0, fun i hi => absurd hi (Nat.not_lt_zero _)⟩
  · by_cases hp : 0 < zs.length
    · obtain ⟨b, off, spot⟩ := x
      have hspot : spot = none := by simpa [Addr.add] using World.cell?_spot (hc 0 hp)
      subst hspot
      refine ⟨hl, hm, b, off, fun i hi => ⟨rfl, ?_, ?_⟩⟩
      · have := hc i (by omega)
        have hadd : (⟨b, off, none⟩ : Addr).add i = ⟨b, off + i, none⟩ := by
          unfold Addr.add
          split
          · rename_i h; subst h; rfl
          · rfl
        rw [hadd] at this
        exact this
      · refine hw _ ?_
        rw [List.getD_eq_getElem?_getD, List.getElem?_eq_getElem (by omega : i < zs.length)]
        exact List.getElem_mem _
    · exact ⟨hl, hm, 0, 0, fun i hi => by omega⟩
theorem drewN_belowA {B : Nat} {w : World} (h : B ≤ w.heap.size) (n : Nat) : Below B w (w.drewN n) := ⟨rfl, rfl, rfl, Nat.le_refl _, fun _ _ => rfl⟩
theorem i64_of {x : Int} (h : -9223372036854775808 ≤ x) (k : x ≤ 9223372036854775807) : IntKind.i64.wrap x = x := by simp [IntKind.wrap, IntKind.signed, IntKind.bits]; omega
def RowF4 (b o : Nat) (f : Fr) (w : World) : Prop := w.cell? ⟨b, o, none⟩ = some (.int .u64 f.id) ∧ w.cell? ⟨b, o + 1, none⟩ = some (.int .i64 f.ix) ∧ w.cell? ⟨b, o + 2, none⟩ = some (.int .i64 f.ct) ∧ w.cell? ⟨b, o + 3, none⟩ = some (.string f.s)
theorem RowF4.of {b o : Nat} {f : Fr} {w w' : World} (h : RowF4 b o f w) (hb : Below w.heap.size w w') (hl : b < w.heap.size) : RowF4 b o f w' := by
  have c := hb.block b hl
  have e : ∀ o, w'.cell? ⟨b, o, none⟩ = w.cell? ⟨b, o, none⟩ := fun o => by simp [World.cell?, c]
  exact ⟨by rw [e]; exact h.1, by rw [e]; exact h.2.1, by rw [e]; exact h.2.2.1, by rw [e]; exact h.2.2.2⟩
theorem cut_facts {id ix ct : Int} {s : ByteArray} (h : (⟨id, ix, ct, s⟩ : Fr).Wf) : s.size ≤ maxLen ∧ min (s.size : Int) 1100 = (s.extract 0 (min s.size 1100)).size ∧ (s.extract 0 (min s.size 1100)).size ≤ s.size ∧ s.extract 0 (s.extract 0 (min s.size 1100)).size = s.extract 0 (min s.size 1100) ∧ (s.extract 0 (min s.size 1100)).size ≤ 1000000 ∧ (⟨id, ix, ct, s.extract 0 (min s.size 1100)⟩ : Fr).Wf := by
  have hs : s.size ≤ maxLen := h.4
  have e : (s.extract 0 (min s.size 1100)).size = min s.size 1100 := by rw [ByteArray.size_extract]; omega
  refine ⟨hs, by rw [e]; omega, by rw [e]; omega, by rw [e], by rw [e]; omega, ⟨h.1, h.2, h.3, by rw [e]; omega⟩⟩
set_option maxHeartbeats 4000000 in
set_option maxRecDepth 100000 in
theorem walk (x0 x1 : Int) (a1 : Option Addr) (len1 cap1 : Nat) (T1 : List Fr) (a2 : Option Addr) (len2 cap2 : Nat) (z2l : List Int) (w : World) (w0 : (Lit.int .i64 x0).wf = true) (w0' : (Lit.int .i64 x1).wf = true) (l1 : len1 = T1.length) (r1f : RowF w a1 cap1 T1) (w1 : ∀ f, f ∈ T1 → f.Wf) (w2 : IsRow .u64 w a2 len2 cap2 z2l) :
    Calls Try.prog 3 #[.agg #[.int .i64 x0, .int .i64 x1], .slice a1 len1 cap1, .slice a2 len2 cap2] w fun e w' => e = .returned (.bool true) ∧ Below w.heap.size w w' := by
  obtain ⟨nl, nc, nb, no, hnow⟩ := ints_plain w2
  have HNOW := Lib.hid hnow
  obtain ⟨fl, fc, fb, fo, hfr⟩ := r1f
  have HFR := Lib.hid hfr
  have HFW := Lib.hid w1
  have HL1 := Lib.hid l1
  rw [← l1] at fl
  have nl64 : len2 ≤ 9223372036854775807 := by unfold maxLen at nc; omega
  have fl64 : len1 ≤ 9223372036854775807 := by unfold maxLen at fc; omega
  obtain ⟨u, hu⟩ : ∃ u, u = w.alloc (.cells #[.int .i64 x0, .int .i64 x1] 22) := ⟨_, rfl⟩
  have hbu : Below w.heap.size w u := by rw [hu]; exact below_alloc _ _
  have hbox : u.heap[w.heap.size]? = some (.cells #[.int .i64 x0, .int .i64 x1] 22 (0, 0)) := by rw [hu]; exact heap_alloc_new w _
  have k0 : u.cell? ⟨w.heap.size, 0, none⟩ = some (.int .i64 x0) := by simp [World.cell?, hbox]
  have k1 : u.cell? ⟨w.heap.size, 1, none⟩ = some (.int .i64 x1) := by simp [World.cell?, hbox]
  clear hbox
  have HBU := Lib.hid hbu
  have HC0 := Lib.hid k0
  have HC1 := Lib.hid k1
  clear w2 hnow hfr w1 l1 w0 w0' hbu
  go_enter Try.func3, Try.ntmps3
  go_wp2_with fail
  rw [← hu]
  clear hu
  clear k0 k1
  by_cases hsl : 1 ≤ x0 ∧ x0 ≤ 16 ∧ 1 ≤ x1 ∧ x1 ≤ 65536
  · have HSB := Lib.hid hsl
    clear hsl
    refine (new_s x0 x1 w _ HBU.out HSB.out).mono ?_
    rintro e wp ⟨p, F, rfl, ha, hn, hb⟩
    have HA0 := Lib.hid ha
    have k0 := (hb.cell (block_lt_of_cell HC0.out)).trans HC0.out
    have k1 := (hb.cell (block_lt_of_cell HC1.out)).trans HC1.out
    clear ha hn hb
    go_wp2_with fail
    clear k0 k1
    refine (newB HA0.out HSB.out).mono ?_
    rintro e wr0 ⟨q, rfl, ht⟩
    have HT0 := Lib.hid ht
    clear ht HA0
    go_wp2_with fail
    go_loopw [11] (fun i wr => ∃ (k : Nat) (F : Nat → Prop) (P : Pl) (v : Value) (xs : List Mv), k ≤ 40 ∧ i = .int .i64 (k : Nat) ∧ Hid (Two w F wr p q P P v xs)) (fun i _ => 40 - (intOf i).toNat)
    case atStart => exact ⟨0, F, _, _, _, Nat.zero_le _, rfl, HT0⟩
    case round =>
      clear HT0 F
      obtain ⟨k, F, P, v, xs, hk, rfl, HA⟩ := hrel
      by_cases hlt : k < len1
      · have hlt1 : (k : Int) < (len1 : Int) := by omega
        by_cases h40 : k < 40
        · have h41 : (k : Int) < 40 := by omega
          obtain ⟨rfl, z0, z1, z2, z3⟩ := HFR.out k (by rw [← HL1.out]; exact hlt)
          have hfw := HFW.out (T1.getD k zeroF) (by rw [List.getD_eq_getElem?_getD, List.getElem?_eq_getElem (by rw [← HL1.out]; exact hlt)]; exact List.getElem_mem _)
          have hbw : fb < w.heap.size := block_lt_of_cell z0
          obtain ⟨⟨fid, fix, fct, fs⟩, hff⟩ : ∃ f, T1.getD k zeroF = f := ⟨_, rfl⟩
          rw [hff] at z0 z1 z2 z3 hfw
          have HRF := Lib.hid (show RowF4 fb (fo + k * 4) ⟨fid, fix, fct, fs⟩ w from ⟨z0, z1, z2, z3⟩)
          have HBW := Lib.hid hbw
          have HK : Hid (k < 40) := Lib.hid h40
          obtain ⟨hsz, hm0, hu0, hx0, hps, hpw⟩ := cut_facts hfw
          obtain ⟨ps, hpse⟩ : ∃ ps, fs.extract 0 (min fs.size 1100) = ps := ⟨_, rfl⟩
          rw [hpse] at hm0 hu0 hx0 hps hpw
          have HSZ : Hid (fs.size ≤ maxLen ∧ min (fs.size : Int) 1100 = ps.size ∧ ps.size ≤ fs.size ∧ fs.extract 0 ps.size = ps ∧ ps.size ≤ 1000000 ∧ (⟨fid, fix, fct, ps⟩ : Fr).Wf) := Lib.hid ⟨hsz, hm0, hu0, hx0, hps, hpw⟩
          have iK : IntKind.u64.wrap (k : Int) = (k : Int) := wrap_u64 (by omega) (by omega)
          clear z0 z1 z2 z3 hff hfw hbw hk h40 hlt hsz hm0 hu0 hx0 hps hpw hpse
          by_cases hnk : k < len2
          · have hnk1 : (k : Int) < (len2 : Int) := by omega
            obtain ⟨rfl, hc, hwf⟩ := HNOW.out k hnk
            obtain ⟨T, hT⟩ : ∃ T, z2l.getD k 0 = T := ⟨_, rfl⟩
            rw [hT] at hc hwf
            have hTU : U64 T := Go.bounds_u64 hwf
            have hcr := (HA.out.al.low.cell (block_lt_of_cell hc)).trans hc
            clear hnk hc hwf hT
            have HTU : Hid (U64 T) := Lib.hid hTU
            clear hTU
            obtain ⟨r, hr⟩ : ∃ r, (k : Int).tmod 7 = r := ⟨_, rfl⟩
            have hrb : 0 ≤ r ∧ r ≤ 6 := by rw [← hr, Int.tmod_eq_emod_of_nonneg (by omega)]; omega
            have i3 : IntKind.i64.wrap r = r := i64_of (by omega) (by omega)
            have i4 : wrap64 r = r := by unfold wrap64; omega
            clear hrb
            by_cases h6 : r = 6
            · have e6 : (r == 6) = true := by rw [h6]; rfl
              clear h6
              obtain ⟨P1, N, hE⟩ : ∃ P1 N, expP T P = (P1, N) := ⟨_, _, rfl⟩
              have HE := Lib.hid hE
              obtain ⟨n, hn⟩ : ∃ n : Int, (N : Int) = n := ⟨_, rfl⟩
              have HN := Lib.hid hn
              clear hE hn
              go_wp2_with fail
              refine (expA HA.out T P1 n N HTU.out HE.out HN.out).mono ?_
              rintro e wa ⟨F1, rfl, ht⟩
              have HA1 := Lib.hid ht
              clear ht
              go_wp2_with fail
              refine (expB HA1.out T P1 n N HTU.out HE.out HN.out).mono ?_
              rintro e wb ⟨v1, xs1, rfl, ht⟩
              have HA2 := Lib.hid ht
              clear ht
              obtain ⟨q0, q1, q2, q3⟩ := RowF4.of HRF.out HA2.out.al.low HBW.out
              go_wp2_with fail
              clear q0 q1 q2 q3
              refine (lcut_f fid fix fct fs ps _ HSZ.out.1 HSZ.out.2.1 HSZ.out.2.2.1 HSZ.out.2.2.2.1).mono ?_
              rintro e wl ⟨rfl, hb⟩
              have HA3 := Lib.hid (HA2.out.below hb)
              clear hb
              obtain ⟨P', t, bb, E, hadd⟩ : ∃ P' t bb E, addP ⟨fid, fix, fct, ps⟩ T P1 = (P', t, bb, E) := ⟨_, _, _, _, rfl⟩
              have HADD := Lib.hid hadd
              obtain ⟨er, her⟩ : ∃ er : Int, (E : Int) = er := ⟨_, rfl⟩
              have HER := Lib.hid her
              clear hadd her
              go_wp2_with fail
              refine (addA (HA3.out.below (below_alloc wl _)) ⟨fid, fix, fct, ps⟩ T _ P' t bb E er HSZ.out.2.2.2.2.1 HSZ.out.2.2.2.2.2 HTU.out rfl HADD.out HER.out).mono ?_
              rintro e wc ⟨F2, rfl, ht, hk⟩
              have HA4 := Lib.hid ht
              obtain ⟨q0, q1, q2, q3⟩ := bx4 (hk _ _ _ (heap_alloc_new wl (.cells #[.int .u64 fid, .int .i64 fix, .int .i64 fct, .string ps] 35 : Obj)))
              clear ht hk
              go_wp2_with fail
              clear q0 q1 q2 q3
              refine (one_f fid fix fct ps _).mono ?_
              rintro e wd ⟨rfl, hb⟩
              have HA5 := Lib.hid (HA4.out.below hb)
              clear hb
              go_wp2_with fail
              refine (addB HA5.out ⟨fid, fix, fct, ps⟩ T _ P' t bb E er HSZ.out.2.2.2.2.1 HTU.out rfl HADD.out HER.out).mono ?_
              rintro e we ⟨v2, xs2, rfl, ht⟩
              have HA6 := Lib.hid ht
              clear ht
              obtain ⟨many, hmany⟩ : ∃ many : Int, (P'.l.length : Int) = many := ⟨_, rfl⟩
              obtain ⟨held, hheld⟩ : ∃ held : Int, (heldM P'.l : Int) = held := ⟨_, rfl⟩
              have HMH := Lib.hid (And.intro hmany hheld)
              clear hmany hheld
              go_wp2_with fail
              refine (heldA HA6.out many held HMH.out.1 HMH.out.2).mono ?_
              rintro e wf ⟨rfl, ht⟩
              have HA7 := Lib.hid ht
              clear ht
              go_wp2_with fail
              refine (heldB HA7.out many held HMH.out.1 HMH.out.2).mono ?_
              rintro e wg ⟨rfl, ht⟩
              have HA8 := Lib.hid ht
              clear ht
              go_wp2_with fail
              go_roundw
              case rel => exact ⟨k + 1, F2, P', v2, xs2, HK.out, by go_num, HA8⟩
              case measure => have := HK.out; simp [intOf]; omega
            · have e6 : (r == 6) = false := by simpa using h6
              clear h6
              obtain ⟨q0, q1, q2, q3⟩ := RowF4.of HRF.out HA.out.al.low HBW.out
              go_wp2_with fail
              clear q0 q1 q2 q3
              refine (lcut_f fid fix fct fs ps _ HSZ.out.1 HSZ.out.2.1 HSZ.out.2.2.1 HSZ.out.2.2.2.1).mono ?_
              rintro e wl ⟨rfl, hb⟩
              have HA3 := Lib.hid (HA.out.below hb)
              clear hb
              obtain ⟨P', t, bb, E, hadd⟩ : ∃ P' t bb E, addP ⟨fid, fix, fct, ps⟩ T P = (P', t, bb, E) := ⟨_, _, _, _, rfl⟩
              have HADD := Lib.hid hadd
              obtain ⟨er, her⟩ : ∃ er : Int, (E : Int) = er := ⟨_, rfl⟩
              have HER := Lib.hid her
              clear hadd her
              go_wp2_with fail
              refine (addA (HA3.out.below (below_alloc wl _)) ⟨fid, fix, fct, ps⟩ T _ P' t bb E er HSZ.out.2.2.2.2.1 HSZ.out.2.2.2.2.2 HTU.out rfl HADD.out HER.out).mono ?_
              rintro e wc ⟨F2, rfl, ht, hk⟩
              have HA4 := Lib.hid ht
              obtain ⟨q0, q1, q2, q3⟩ := bx4 (hk _ _ _ (heap_alloc_new wl (.cells #[.int .u64 fid, .int .i64 fix, .int .i64 fct, .string ps] 35 : Obj)))
              clear ht hk
              go_wp2_with fail
              clear q0 q1 q2 q3
              refine (one_f fid fix fct ps _).mono ?_
              rintro e wd ⟨rfl, hb⟩
              have HA5 := Lib.hid (HA4.out.below hb)
              clear hb
              go_wp2_with fail
              refine (addB HA5.out ⟨fid, fix, fct, ps⟩ T _ P' t bb E er HSZ.out.2.2.2.2.1 HTU.out rfl HADD.out HER.out).mono ?_
              rintro e we ⟨v2, xs2, rfl, ht⟩
              have HA6 := Lib.hid ht
              clear ht
              obtain ⟨many, hmany⟩ : ∃ many : Int, (P'.l.length : Int) = many := ⟨_, rfl⟩
              obtain ⟨held, hheld⟩ : ∃ held : Int, (heldM P'.l : Int) = held := ⟨_, rfl⟩
              have HMH := Lib.hid (And.intro hmany hheld)
              clear hmany hheld
              go_wp2_with fail
              refine (heldA HA6.out many held HMH.out.1 HMH.out.2).mono ?_
              rintro e wf ⟨rfl, ht⟩
              have HA7 := Lib.hid ht
              clear ht
              go_wp2_with fail
              refine (heldB HA7.out many held HMH.out.1 HMH.out.2).mono ?_
              rintro e wg ⟨rfl, ht⟩
              have HA8 := Lib.hid ht
              clear ht
              go_wp2_with fail
              go_roundw
              case rel => exact ⟨k + 1, F2, P', v2, xs2, HK.out, by go_num, HA8⟩
              case measure => have := HK.out; simp [intOf]; omega
          · have hnk1 : decide (k < len2) = false := by simpa using hnk
            have hTU : U64 (k : Int) := ⟨by omega, by omega⟩
            clear hnk
            have HTU : Hid (U64 (k : Int)) := Lib.hid hTU
            clear hTU
            obtain ⟨r, hr⟩ : ∃ r, (k : Int).tmod 7 = r := ⟨_, rfl⟩
            have hrb : 0 ≤ r ∧ r ≤ 6 := by rw [← hr, Int.tmod_eq_emod_of_nonneg (by omega)]; omega
            have i3 : IntKind.i64.wrap r = r := i64_of (by omega) (by omega)
            have i4 : wrap64 r = r := by unfold wrap64; omega
            clear hrb
            by_cases h6 : r = 6
            · have e6 : (r == 6) = true := by rw [h6]; rfl
              clear h6
              obtain ⟨P1, N, hE⟩ : ∃ P1 N, expP (k : Int) P = (P1, N) := ⟨_, _, rfl⟩
              have HE := Lib.hid hE
              obtain ⟨n, hn⟩ : ∃ n : Int, (N : Int) = n := ⟨_, rfl⟩
              have HN := Lib.hid hn
              clear hE hn
              go_wp2_with fail
              refine (expA HA.out (k : Int) P1 n N HTU.out HE.out HN.out).mono ?_
              rintro e wa ⟨F1, rfl, ht⟩
              have HA1 := Lib.hid ht
              clear ht
              go_wp2_with fail
              refine (expB HA1.out (k : Int) P1 n N HTU.out HE.out HN.out).mono ?_
              rintro e wb ⟨v1, xs1, rfl, ht⟩
              have HA2 := Lib.hid ht
              clear ht
              obtain ⟨q0, q1, q2, q3⟩ := RowF4.of HRF.out HA2.out.al.low HBW.out
              go_wp2_with fail
              clear q0 q1 q2 q3
              refine (lcut_f fid fix fct fs ps _ HSZ.out.1 HSZ.out.2.1 HSZ.out.2.2.1 HSZ.out.2.2.2.1).mono ?_
              rintro e wl ⟨rfl, hb⟩
              have HA3 := Lib.hid (HA2.out.below hb)
              clear hb
              obtain ⟨P', t, bb, E, hadd⟩ : ∃ P' t bb E, addP ⟨fid, fix, fct, ps⟩ (k : Int) P1 = (P', t, bb, E) := ⟨_, _, _, _, rfl⟩
              have HADD := Lib.hid hadd
              obtain ⟨er, her⟩ : ∃ er : Int, (E : Int) = er := ⟨_, rfl⟩
              have HER := Lib.hid her
              clear hadd her
              go_wp2_with fail
              refine (addA (HA3.out.below (below_alloc wl _)) ⟨fid, fix, fct, ps⟩ (k : Int) _ P' t bb E er HSZ.out.2.2.2.2.1 HSZ.out.2.2.2.2.2 HTU.out rfl HADD.out HER.out).mono ?_
              rintro e wc ⟨F2, rfl, ht, hk⟩
              have HA4 := Lib.hid ht
              obtain ⟨q0, q1, q2, q3⟩ := bx4 (hk _ _ _ (heap_alloc_new wl (.cells #[.int .u64 fid, .int .i64 fix, .int .i64 fct, .string ps] 35 : Obj)))
              clear ht hk
              go_wp2_with fail
              clear q0 q1 q2 q3
              refine (one_f fid fix fct ps _).mono ?_
              rintro e wd ⟨rfl, hb⟩
              have HA5 := Lib.hid (HA4.out.below hb)
              clear hb
              go_wp2_with fail
              refine (addB HA5.out ⟨fid, fix, fct, ps⟩ (k : Int) _ P' t bb E er HSZ.out.2.2.2.2.1 HTU.out rfl HADD.out HER.out).mono ?_
              rintro e we ⟨v2, xs2, rfl, ht⟩
              have HA6 := Lib.hid ht
              clear ht
              obtain ⟨many, hmany⟩ : ∃ many : Int, (P'.l.length : Int) = many := ⟨_, rfl⟩
              obtain ⟨held, hheld⟩ : ∃ held : Int, (heldM P'.l : Int) = held := ⟨_, rfl⟩
              have HMH := Lib.hid (And.intro hmany hheld)
              clear hmany hheld
              go_wp2_with fail
              refine (heldA HA6.out many held HMH.out.1 HMH.out.2).mono ?_
              rintro e wf ⟨rfl, ht⟩
              have HA7 := Lib.hid ht
              clear ht
              go_wp2_with fail
              refine (heldB HA7.out many held HMH.out.1 HMH.out.2).mono ?_
              rintro e wg ⟨rfl, ht⟩
              have HA8 := Lib.hid ht
              clear ht
              go_wp2_with fail
              go_roundw
              case rel => exact ⟨k + 1, F2, P', v2, xs2, HK.out, by go_num, HA8⟩
              case measure => have := HK.out; simp [intOf]; omega
            · have e6 : (r == 6) = false := by simpa using h6
              clear h6
              obtain ⟨q0, q1, q2, q3⟩ := RowF4.of HRF.out HA.out.al.low HBW.out
              go_wp2_with fail
              clear q0 q1 q2 q3
              refine (lcut_f fid fix fct fs ps _ HSZ.out.1 HSZ.out.2.1 HSZ.out.2.2.1 HSZ.out.2.2.2.1).mono ?_
              rintro e wl ⟨rfl, hb⟩
              have HA3 := Lib.hid (HA.out.below hb)
              clear hb
              obtain ⟨P', t, bb, E, hadd⟩ : ∃ P' t bb E, addP ⟨fid, fix, fct, ps⟩ (k : Int) P = (P', t, bb, E) := ⟨_, _, _, _, rfl⟩
              have HADD := Lib.hid hadd
              obtain ⟨er, her⟩ : ∃ er : Int, (E : Int) = er := ⟨_, rfl⟩
              have HER := Lib.hid her
              clear hadd her
              go_wp2_with fail
              refine (addA (HA3.out.below (below_alloc wl _)) ⟨fid, fix, fct, ps⟩ (k : Int) _ P' t bb E er HSZ.out.2.2.2.2.1 HSZ.out.2.2.2.2.2 HTU.out rfl HADD.out HER.out).mono ?_
              rintro e wc ⟨F2, rfl, ht, hk⟩
              have HA4 := Lib.hid ht
              obtain ⟨q0, q1, q2, q3⟩ := bx4 (hk _ _ _ (heap_alloc_new wl (.cells #[.int .u64 fid, .int .i64 fix, .int .i64 fct, .string ps] 35 : Obj)))
              clear ht hk
              go_wp2_with fail
              clear q0 q1 q2 q3
              refine (one_f fid fix fct ps _).mono ?_
              rintro e wd ⟨rfl, hb⟩
              have HA5 := Lib.hid (HA4.out.below hb)
              clear hb
              go_wp2_with fail
              refine (addB HA5.out ⟨fid, fix, fct, ps⟩ (k : Int) _ P' t bb E er HSZ.out.2.2.2.2.1 HTU.out rfl HADD.out HER.out).mono ?_
              rintro e we ⟨v2, xs2, rfl, ht⟩
              have HA6 := Lib.hid ht
              clear ht
              obtain ⟨many, hmany⟩ : ∃ many : Int, (P'.l.length : Int) = many := ⟨_, rfl⟩
              obtain ⟨held, hheld⟩ : ∃ held : Int, (heldM P'.l : Int) = held := ⟨_, rfl⟩
              have HMH := Lib.hid (And.intro hmany hheld)
              clear hmany hheld
              go_wp2_with fail
              refine (heldA HA6.out many held HMH.out.1 HMH.out.2).mono ?_
              rintro e wf ⟨rfl, ht⟩
              have HA7 := Lib.hid ht
              clear ht
              go_wp2_with fail
              refine (heldB HA7.out many held HMH.out.1 HMH.out.2).mono ?_
              rintro e wg ⟨rfl, ht⟩
              have HA8 := Lib.hid ht
              clear ht
              go_wp2_with fail
              go_roundw
              case rel => exact ⟨k + 1, F2, P', v2, xs2, HK.out, by go_num, HA8⟩
              case measure => have := HK.out; simp [intOf]; omega
        · have h41 : decide ((k : Int) < 40) = false := by simp; omega
          clear hlt h40
          go_wp2_with fail
          refine (fixed_any _).mono ?_
          rintro e wz ⟨rfl, hb⟩
          have HZ := Lib.hid (HA.out.below hb)
          clear hb
          go_wp2_with fail
          go_ret
          exact ⟨rfl, HZ.out.al.low⟩
      · have hlt1 : decide (k < len1) = false := by simpa using hlt
        clear hlt
        go_wp2_with fail
        refine (fixed_any _).mono ?_
        rintro e wz ⟨rfl, hb⟩
        have HZ := Lib.hid (HA.out.below hb)
        clear hb
        go_wp2_with fail
        go_ret
        exact ⟨rfl, HZ.out.al.low⟩
  · have HSB := Lib.hid hsl
    clear hsl
    refine (new_no x0 x1 _ HSB.out).mono ?_
    rintro e wp ⟨rfl, hb⟩
    have k0 := (hb.cell (block_lt_of_cell HC0.out)).trans HC0.out
    have k1 := (hb.cell (block_lt_of_cell HC1.out)).trans HC1.out
    have HB1 := Lib.hid (HBU.out.trans (hb.mono HBU.out.size))
    clear hb
    go_wp2_with fail
    clear k0 k1
    refine (rnew_no x0 x1 _ HSB.out).mono ?_
    rintro e wr0 ⟨rfl, hb⟩
    have HB2 := Lib.hid (HB1.out.trans (hb.mono HB1.out.size))
    clear hb
    go_wp2_with fail
    go_loopw [11] (fun i wr => i = .int .i64 0 ∧ Hid (Below w.heap.size w wr)) (fun i _ => 0)
    case atStart => exact ⟨rfl, HB2⟩
    case round =>
      obtain ⟨rfl, HB3⟩ := hrel
      go_wp2_with fail
      refine (fixed_any _).mono ?_
      rintro e wz ⟨rfl, hb⟩
      have HZ := Lib.hid (HB3.out.trans (hb.mono HB3.out.size))
      clear hb
      go_wp2_with fail
      go_ret
      exact ⟨rfl, HZ.out⟩

set_option maxRecDepth 100000 in
theorem lifted (os : Os) (started : os.Started) (H : Type) (enc : TypeId × Value → H) :
    ReturnsInHanded {} Try.checked os 3 .any (Rows.poolDoesSpec.pre6 enc Try.prog Try.f3 Rows.poolDoesRow.domain false) (Rows.poolDoesSpec.post enc Try.prog Try.f3 false true false false) := by
  refine returnsInHanded_of_change (C := Try.checked) own started (by kernel_rfl) Try.func3
    (ChangeSpec.witness6 (enc := enc) (C := Try.checked) false ⟨#[], #[.agg #[.int .i64 0, .int .i64 0], .slice none 0 0, .slice none 0 0], []⟩ 8 (by kernel_rfl) (by kernel_rfl) (by kernel_rfl) (by kernel_rfl)) ?_
  intro W base args ds gs before hval0 hW hcnd _
  have hval : ∀ (j : Nat) t v, Try.f3.params[j]? = some t → args[j]? = some v → Value.okWide Try.prog W .any base t v := hval0
  have hW' := hW
  obtain ⟨p, q, hA0, hV, rfl, hfz, hnd⟩ := hW
  have hA : DataW.TrodAll enc Try.prog W 0 (fun _ => true) true Try.f3.params.toList args.toList ds p := hA0
  rw [Try.params3] at hA hval
  obtain ⟨v0, vs0, d0, ds0, p0, q0, hargs, rfl, rfl, h0, r0⟩ := trodAll_cons hA
  obtain ⟨v1, vs1, d1, ds1, p1, q1, rfl, rfl, rfl, h1, r1⟩ := trodAll_cons r0
  obtain ⟨v2, vs2, d2, ds2, p2, q2, rfl, rfl, rfl, h2, r2⟩ := trodAll_cons r1
  obtain ⟨rfl, rfl, rfl⟩ := trodAll_nil r2
  obtain rfl : args = #[v0, v1, v2] := by cases args; simp_all
  obtain ⟨rfl, rfl⟩ := trodVars_none hV
  obtain ⟨cs0, rfl, hsz0⟩ : ∃ cs, v0 = .agg cs ∧ cs.size = Try.prog.cellsOf 22 := by
    have h := hval 0 22 v0 rfl rfl
    simp only [Value.okWide, Try.underlying22] at h
    obtain ⟨cs, e1, e2, _⟩ := h
    exact ⟨cs, e1, e2⟩
  have k0 := h0
  have lt0 : ∀ x ∈ p0, x.block < W.heap.size := by obtain ⟨m, hm⟩ := k0; exact DataW.trod_lt m _ _ _ hm
  obtain ⟨Z0, rfl, w0⟩ : ∃ Z : Nat → Int, cs0 = ((List.range 2).map fun j => Value.int .i64 (Z j)).toArray ∧ ∀ j, j < 2 → (Lit.int .i64 (Z j)).wf = true := by
    obtain ⟨fuel, hf⟩ := h0
    exact open_arrV Try.underlying22 Try.underlying3 (by kernel_rfl) (by kernel_rfl) hf
  obtain ⟨a1, len1, cap1, rfl⟩ := okWide_slice Try.underlying23 (hval 1 23 v1 rfl rfl)
  have k1 := h1
  have lt1 : ∀ x ∈ p1, x.block < W.heap.size := by obtain ⟨m, hm⟩ := k1; exact DataW.trod_lt m _ _ _ hm
  obtain ⟨T1, l1, r1f, w1⟩ : ∃ fs : List Fr, len1 = fs.length ∧ RowF W a1 cap1 fs ∧ ∀ f, f ∈ fs → f.Wf := by
    obtain ⟨fuel, hf⟩ := h1
    exact open_frags (by simpa [Value.cells] using hf)
  obtain ⟨a2, len2, cap2, rfl⟩ := okWide_slice Try.underlying24 (hval 2 24 v2 rfl rfl)
  have k2 := h2
  have lt2 : ∀ x ∈ p2, x.block < W.heap.size := by obtain ⟨m, hm⟩ := k2; exact DataW.trod_lt m _ _ _ hm
  obtain ⟨z2, w2⟩ : ∃ zs, IsRow .u64 W a2 len2 cap2 zs := by
    obtain ⟨fuel, hf⟩ := h2
    rcases open_ints Try.underlying24 Try.underlying32 (by kernel_rfl) hf with ⟨hcs, _⟩ | ⟨x, l, c, zs, hcs, _, hl, hm, hz, _, hcell, hwz⟩
    · simp [Value.cells] at hcs
      obtain ⟨rfl, rfl, rfl⟩ := hcs
      exact ⟨[], .inl ⟨rfl, rfl, rfl, rfl⟩⟩
    · simp [Value.cells] at hcs
      obtain ⟨rfl, rfl, rfl⟩ := hcs
      exact ⟨zs, .inr ⟨_, rfl, hl, hm, by simpa using hz, hcell, hwz⟩⟩
  clear hA0 hval0
  refine (walk (Z0 0) (Z0 1) a1 len1 cap1 T1 a2 len2 cap2 z2 W (w0 0 (by omega)) (w0 1 (by omega)) l1 r1f w1 w2).mono fun e W' ⟨he, bel⟩ => ?_
  subst he
  exact ⟨_, rfl, _, _, _, [], _, [], hW', trodAll_mk1 (shut_bool Try.underlying4 _), (trodAll_cons_mk (Below.trod laidOut (by kernel_rfl) (of_decide_eq_true (by kernel_rfl)) k0 bel lt0) (trodAll_cons_mk (Below.trod laidOut (by kernel_rfl) (of_decide_eq_true (by kernel_rfl)) k1 bel lt1) (trodAll_cons_mk (Below.trod laidOut (by kernel_rfl) (of_decide_eq_true (by kernel_rfl)) k2 bel lt2) trodAll_mk0))), rfl, bel.frame _, fun h => by cases h⟩

theorem over : Rows.poolDoesRow.holds Try.pinned (OpenSpec.ofChange Rows.poolDoesSpec) :=
  OpenClaim.holds_of_wide 3 Try.f3 rfl rfl rfl rfl rfl rfl rfl ⟨rfl, rfl, rfl, rfl, rfl⟩ rfl rfl rfl rfl rfl (by kernel_rfl) Try.func3 (by kernel_rfl)
    (of_decide_eq_true (by kernel_rfl)) (by unfold Func.isWrapper; first | (rw [if_pos (by decide +kernel)]; kernel_rfl) | (rw [if_neg (by decide +kernel)]; exact ⟨rfl, rfl⟩))
    (fun os started H enc _ => lifted os started H enc)

theorem proved : Rows.PoolDoesSaid := over
#print axioms proved
end Go.Proofs.Ytjcgckhheegonaa.poolDoes
