/- KnowWraps: for every row of terms, of what is known, and a number: who knows a wrapping key and a box alone can make the secret in it just if that is broken. -/
import Derived.Test.YtdhfnbajmjmlbaaRows
import Derived.Test.YtdhfnbajmjmlbaaKnowH
import Derived.WalkKit
import Derived.ProofKit
import Derived.OpenShut
import Derived.ShutString
import Derived.ChangeOld
import Derived.Below
import Derived.Test.YtdhfnbajmjmlbaaOpens
namespace Go.Proofs.Ytdhfnbajmjmlbaa.knowWraps
open Go.ChangeShapes Go.WideShapes Go.ChangeAt Go.RowKit
open Go.ChangeMaps (open_string shut_string)
open Go.Proofs.Ytdhfnbajmjmlbaa
set_option linter.unusedVariables false
set_option linter.unusedSimpArgs false
set_option maxRecDepth 20000

theorem own : ownKnob Try.prog.godebug = none := by kernel_rfl
theorem laidOut : laidOutB Try.prog = true := by kernel_rfl

/-- A row of integers that came in, or nil. -/
def IsRow (k : IntKind) (w : World) (a : Option Addr) (len cap : Nat) (zs : List Int) : Prop :=
  (a = none ∧ len = 0 ∧ cap = 0 ∧ zs = []) ∨
  ∃ x, a = some x ∧ len ≤ cap ∧ cap ≤ maxLen ∧ zs.length = cap ∧ (∀ i, i < zs.length → w.cell? (x.add i) = some (.int k (zs.getD i 0))) ∧ ∀ n ∈ zs, (Lit.int k n).wf = true

theorem IsRow.plain {k : IntKind} {w : World} {a : Option Addr} {len cap : Nat} {zs : List Int} (h : IsRow k w a len cap zs) : len ≤ cap ∧ cap ≤ maxLen ∧ zs.length = cap ∧ ∃ b off, ∀ i, i < len → a = some ⟨b, off, none⟩ ∧ w.cell? ⟨b, off + i, none⟩ = some (.int k (zs.getD i 0)) ∧ (Lit.int k (zs.getD i 0)).wf = true := by
  rcases h with ⟨rfl, rfl, rfl, rfl⟩ | ⟨x, rfl, hl, hm, hz, hc, hw⟩
  · exact ⟨Nat.le_refl _, Nat.zero_le _, rfl, 0, 0, fun i hi => absurd hi (Nat.not_lt_zero _)⟩
  · by_cases hp : 0 < zs.length
    · obtain ⟨b, off, rfl, hcell⟩ := ints_at hc hp
      exact ⟨hl, hm, hz, b, off, fun i hi => ⟨rfl, hcell i (by omega), hw _ (getD_mem (by omega))⟩⟩
    · exact ⟨hl, hm, hz, 0, 0, fun i hi => by omega⟩

set_option maxHeartbeats 8000000 in
set_option maxRecDepth 100000 in
theorem walk (a0 : Option Addr) (len0 cap0 : Nat) (T0 : Nat → Tm) (a1 : Option Addr) (len1 cap1 : Nat) (z1 : List Int) (x2 : Int) (w : World) (w0 : Terms w a0 len0 cap0 T0) (w1 : IsRow .u8 w a1 len1 cap1 z1) (h2 : (Lit.int .u8 x2).wf = true) :
    Calls Try.prog 10 #[.slice a0 len0 cap0, .slice a1 len1 cap1, .int .u8 x2] w fun e w' => e = .returned (.bool true) ∧ Below w.heap.size w w' := by
  have HT := Lib.hid w0
  obtain ⟨hl1, hm1, hz1, bk, ok, hc1⟩ := w1.plain
  have HC1 := Lib.hid hc1
  unfold maxLen at hm1
  obtain ⟨dh, hd0⟩ : ∃ dh : Bool, (bits BinOp.and IntKind.u8 x2 1 == 1) = dh := ⟨_, rfl⟩
  obtain ⟨kem, hke⟩ : ∃ kem : Bool, (bits BinOp.and IntKind.u8 x2 2 == 2) = kem := ⟨_, rfl⟩
  clear w0 w1 hc1 hz1
  go_enter Try.func10, Try.ntmps10
  go_wp2_with fail
  refine (stores_fine 20 a0 len0 cap0 T0 _ (by omega) HT.out).mono ?_
  rintro e ws ⟨g1, g2, L, rfl, hL, hfine, hp⟩
  have HK : Hid (Known ws g1 L) := Lib.hid (hp.known hfine)
  have HB : Hid (Below w.heap.size w ws) := Lib.hid hp.belowW
  have HP := Lib.hid hp
  have HFN := Lib.hid hfine
  have hLn : L.length ≤ 20 := hL
  clear hp hL HT hfine
  by_cases hn : L.length = 0
  · have hl0 : ((L.length : Int) == 0) = true := by simp [hn]
    clear hn
    go_wp2_with fail
    refine (HK.out.st.len (Below.refl _ _)).mono ?_
    rintro e w2 ⟨rfl, rfl⟩
    go_wp2_with fail
    refine (fixed_any _).mono ?_
    rintro e w3 ⟨rfl, hb3⟩
    go_wp2
    go_ret
    exact ⟨rfl, HB.out.trans (hb3.mono HB.out.size)⟩
  · have hl0 : ((L.length : Int) == 0) = false := by simpa using hn
    have hn1 : (0 : Int) < L.length := by omega
    have hn2 : (L.length : Int) ≤ 20 := by omega
    have hn3 : 0 < L.length := by omega
    have hL0 : ¬ L = [] := fun e => by rw [e] at hn3; simp at hn3
    clear hn
    go_wp2_with fail
    refine (HK.out.st.len (Below.refl _ _)).mono ?_
    rintro e w2 ⟨rfl, rfl⟩
    go_wp2_with fail
    have gR := RSq.good w.heap.size g2 1000
    obtain ⟨k, x, p, a, b, L1, L2, L3, L5, e1, e2, e3, e5, F5, l5, ix, iy, hlast⟩ := wraps_math HFN.out HK.out.fit hn3 hLn
    have E1 := Lib.hid e1
    have E2 := Lib.hid e2
    have E3 := Lib.hid e3
    have E5 := Lib.hid e5
    have HF5 := Lib.hid F5
    have HI1 := Lib.hid ix
    have HI2 := Lib.hid iy
    have HLAST := Lib.hid hlast
    clear e1 e2 e3 e5 F5 ix iy hlast
    refine (HK.out.st.len (Below.refl _ _)).mono ?_
    rintro e w2 ⟨rfl, rfl⟩
    go_wp2_with fail
    refine (HP.out.putP gR ⟨2, ⟨#[]⟩, 8796093022208, 0, 0, 0⟩ (wf_nonce (by decide)) E1.out).mono ?_
    rintro e w3 ⟨rfl, hp, _⟩
    have HP3 := Lib.hid hp
    clear hp HP
    go_wp2_with fail
    refine (HP3.out.putP gR ⟨2, ⟨#[]⟩, 17592186044416, 0, 0, 0⟩ (wf_nonce (by decide)) E2.out).mono ?_
    rintro e w4 ⟨rfl, hp, _⟩
    have HP4 := Lib.hid hp
    clear hp HP3
    go_wp2_with fail
    refine (HP4.out.kpublicP gR HI1.out E3.out).mono ?_
    rintro e w5 ⟨rfl, hp, _⟩
    have HP5 := Lib.hid hp
    clear hp HP4
    go_wp2_with fail
    refine (HP5.out.wrapP gR HI2.out E5.out).mono ?_
    rintro e ws2 ⟨rfl, hp, _⟩
    have HK2 : Hid (Known ws2 g1 L5) := Lib.hid (hp.known HF5.out)
    have HB2 : Hid (Below w.heap.size w ws2) := Lib.hid hp.belowW
    clear hp HP5 HFN
    go_wp2_with fail
    refine (HK2.out.st.len (Below.refl _ _)).mono ?_
    rintro e w2 ⟨rfl, rfl⟩
    by_cases h3 : L5.length = L.length + 5
    · have t1 : ((L5.length : Int) != (L.length : Int) + 5) = false := by simp; omega
      obtain ⟨ink, inx, inp, ina, inb, hup, hconc⟩ := HLAST.out h3
      have HNK := Lib.hid ink
      have HNX := Lib.hid inx
      have HNP := Lib.hid inp
      have HNA := Lib.hid ina
      have HNB := Lib.hid inb
      have HUP := Lib.hid hup
      have HCONC := Lib.hid hconc
      clear ink inx inp ina inb hup hconc h3 HLAST
      go_wp2_with fail
      obtain ⟨hd, hhd⟩ : ∃ hd, hd = p := ⟨_, rfl⟩
      rw [← hhd] at HNP HCONC ⊢
      clear hhd
      obtain ⟨i0, hi0, hz0, hz1, hz2⟩ := info_parts info3
      go_loopw [19, 20] (fun s9 s10 wr => ∃ (i ga ca : Nat) (xs : List Int), i ≤ 5 ∧ i ≤ len1 ∧ s10 = .int .i64 i ∧ s9 = .slice (some ⟨ga, 0, none⟩) (i + 1) ca ∧ Hid (xs.length = i) ∧ Hid (∀ x, x ∈ xs → InL L x) ∧ Hid (OwnI ws2.heap.size (.slice (some ⟨ga, 0, none⟩) (i + 1) ca) (hd :: xs) wr) ∧ Hid (Below ws2.heap.size ws2 wr)) (fun _ s10 _ => 5 - (intOf s10).toNat)
      case atStart => exact ⟨0, ws2.heap.size, 1, [], by omega, by omega, rfl, rfl, Lib.hid rfl, Lib.hid (by simp), Lib.hid (lit_own ws2 [hd] (by simp [maxLen])), Lib.hid (below_alloc _ _)⟩
      case round =>
        obtain ⟨i, ga, ca, xs, hi, hi2, rfl, rfl, HX, HXI, HO, HBW⟩ := hrel
        by_cases hlt : i < len1 ∧ i < 5
        · obtain ⟨hlt1, hlt2⟩ := hlt
          obtain ⟨rfl, q0, hwfy⟩ := HC1.out i hlt1
          obtain ⟨y, hy⟩ : ∃ y, y = z1.getD i 0 := ⟨_, rfl⟩
          rw [← hy] at q0 hwfy
          have HBall : Hid (Below w.heap.size w wr) := Lib.hid (HB2.out.trans (HBW.out.mono HB2.out.size))
          have hbl0 := block_lt_of_cell q0
          have qy : wr.cell? ⟨bk, ok + i, none⟩ = some (.int .u8 y) := (HBall.out.cell hbl0).trans q0
          obtain ⟨p, hp⟩ : ∃ p, wrap64 (1 + (wrap64 y).tmod (L.length : Int)) = p := ⟨_, rfl⟩
          have HPI : Hid (InL L p) := Lib.hid (by rw [← hp]; exact pick_InL hwfy hn3 (by omega))
          have hp2 : IntKind.i64.wrap (1 + (IntKind.i64.wrap y).tmod (L.length : Int)) = p := by rw [IntWalk.i64_left, IntWalk.i64_left]; exact hp
          have hxl := HX.out
          have HRow : Hid (wr.ownsRow ws2.heap.size 3 1 (.slice (some ⟨ga, 0, none⟩) (i + 1) ca) (i + 1) (intsR (hd :: xs))) := Lib.hid (by
            have h7 : wr.ownsRow ws2.heap.size 3 1 (.slice (some ⟨ga, 0, none⟩) (i + 1) ca) (hd :: xs).length (intsR (hd :: xs)) := HO.out
            rw [show (hd :: xs).length = i + 1 by simp; omega] at h7
            exact h7)
          have HNW : Hid ((wr.alloc (.cells #[.int .i64 p] 3)).heap[wr.heap.size]? = some (.cells #[.int .i64 p] 3 (0, 0))) := Lib.hid (heap_alloc_new wr _)
          have B1 : Hid (i + 1 + 1 ≤ maxLen) := Lib.hid (by unfold maxLen; omega)
          have B2 : Hid ((i + 1 + 1) * 8 ≤ 140737488355328) := Lib.hid (by omega)
          have B4 : Hid ((wr.alloc (.cells #[.int .i64 p] 3)).heap.size = wr.heap.size + 1) := Lib.hid (by simp)
          have B3 : Hid (ws2.heap.size ≤ (wr.alloc (.cells #[.int .i64 p] 3)).heap.size) := Lib.hid (by have := B4.out; have := HBW.out.size; omega)
          have e1 : decide (i < len1) = true := by simpa using hlt1
          have e2 : decide (i < 5) = true := by simpa using hlt2
          have e3 : decide ((i : Int) < 5) = true := decide_eq_true (by omega)
          have hi3 : (i : Int) < (len1 : Int) := by omega
          have HI := Lib.hid (And.intro hlt1 hlt2)
          clear hy q0 hlt1 hlt2 hi hi2 hbl0 hwfy hxl
          go_wp2_with (at_builtin; refine wpList_append_lies _ rfl _ _ 23 rfl ws2.heap.size 3 i0 (.int .i64 0) 1 8 Try.underlying23 hi0 hz0 hz1 hz2 rfl (by decide) _ _ _ rfl (HRow.out.alloc _) ⟨wr.heap.size, 0, none⟩ 1 1 [.int .i64 p] rfl rfl (World.news_of_block (cs := #[.int .i64 p]) (t := 3) (fr := (0, 0)) HNW.out) (by simp [Value.oneCell']) (by omega) B1.out B2.out B3.out (wr.heap.size + 1) B4.out ?_; intro g3 cap4 w6 hown6 hgrow6 hat6 hlt6; have P1 := Lib.hid hown6; have P2 := Lib.hid hgrow6; clear hown6 hgrow6 hat6)
          have C6 : Chg (fun k => some k = some ga) wr w6 := (Chg.alloc wr _ _).trans (Chg.grown P2.out)
          have HO6 : Hid (OwnI ws2.heap.size (.slice (some ⟨g3, 0, none⟩) (i + 1 + 1) cap4) (hd :: (xs ++ [p])) w6) := Lib.hid (by
            have hl : (hd :: xs).length = i + 1 := by have := HX.out; simp; omega
            have h8 := OwnI.app (M := hd :: xs) (x := p) (g := g3) (cap := cap4) (base := ws2.heap.size) (w' := w6) (by rw [hl]; exact P1.out)
            rw [hl] at h8
            exact h8)
          go_roundw
          case rel => exact ⟨i + 1, g3, cap4, xs ++ [p], by have := HI.out; omega, by have := HI.out; omega, by go_num, rfl, Lib.hid (by have := HX.out; simp; omega), Lib.hid (fun x hx => by
            rcases List.mem_append.1 hx with q | q
            · exact HXI.out x q
            · rw [List.mem_singleton.1 q]; exact HPI.out), HO6, Lib.hid (HBW.out.trans (C6.below (fun k e => by injection e with e; subst e; exact (World.ownsRow.lt HO.out k rfl).1) HBW.out.size))⟩
          case measure => have := HI.out; simp [intOf]; omega
        · have e12 : decide (i < len1) = false ∨ (decide (i < len1) = true ∧ decide ((i : Int) < 5) = false) := by
            simp only [decide_eq_false_iff_not, decide_eq_true_eq]
            omega
          have hi3 : (i : Int) ≤ 5 := by omega
          have hi4 : i ≤ 5 := hi
          have HLN : Hid (i + 1 = (hd :: xs).length) := Lib.hid (by have := HX.out; simp; omega)
          clear hlt hi hi2
          rcases e12 with e1 | ⟨e1, e2⟩
          all_goals
            go_wp2_with fail
            have HIN1 : Hid (∀ z, z ∈ hd :: xs → InL L5 z) := Lib.hid (fun z hz => by
              rcases List.mem_cons.1 hz with r | r
              · rw [r]; exact HNP.out
              · exact HUP.out z (HXI.out z r))
            have HAPP : Hid (∀ (l : List Int) (v : Int), (∀ z, z ∈ l → InL L5 z) → InL L5 v → ∀ z, z ∈ l ++ [v] → InL L5 z) := Lib.hid (fun l v h1 h2 z hz => by
              rcases List.mem_append.1 hz with r | r
              · exact h1 z r
              · rw [List.mem_singleton.1 r]; exact h2)
            have HIN2 : Hid (∀ z, z ∈ hd :: xs ++ [x] → InL L5 z) := Lib.hid (HAPP.out _ _ HIN1.out HNX.out)
            have HIN3 : Hid (∀ z, z ∈ hd :: xs ++ [a] → InL L5 z) := Lib.hid (HAPP.out _ _ HIN1.out HNA.out)
            have HIN4 : Hid (∀ z, z ∈ hd :: xs ++ [a] ++ [k] → InL L5 z) := Lib.hid (HAPP.out _ _ HIN3.out HNK.out)
            obtain ⟨C1, hC1⟩ := least_is HK2.out.fit HIN1.out dh kem
            obtain ⟨C2, hC2⟩ := least_is HK2.out.fit HIN2.out false false
            obtain ⟨C3, hC3⟩ := least_is HK2.out.fit HIN3.out dh kem
            obtain ⟨C4, hC4⟩ := least_is HK2.out.fit HIN4.out false false
            have HC1' := Lib.hid hC1
            have HC2 := Lib.hid hC2
            have HC3 := Lib.hid hC3
            have HC4 := Lib.hid hC4
            have R1 : Hid (C1 b = false) := Lib.hid ((HCONC.out xs HXI.out dh kem).1 C1 hC1)
            have R2 : Hid (C2 b = true) := Lib.hid ((HCONC.out xs HXI.out dh kem).2.1 C2 hC2)
            have R3 : Hid (C3 b = kem) := Lib.hid ((HCONC.out xs HXI.out dh kem).2.2.1 C3 hC3)
            have R4 : Hid (C4 b = true) := Lib.hid ((HCONC.out xs HXI.out dh kem).2.2.2 C4 hC4)
            clear hC1 hC2 hC3 hC4 HCONC
            have f : ∀ j, (wr.alloc (.cells #[.bool dh, .bool kem] 30)).cell? ⟨wr.heap.size, j, none⟩ = #[Value.bool dh, .bool kem][j]? := fun j => cell_of_row _ _ j _ _ _ (heap_alloc_new wr _)
            have f0 : (wr.alloc (.cells #[.bool dh, .bool kem] 30)).cell? ⟨wr.heap.size, 0, none⟩ = some (.bool dh) := f 0
            have f1 : (wr.alloc (.cells #[.bool dh, .bool kem] 30)).cell? ⟨wr.heap.size, 1, none⟩ = some (.bool kem) := f 1
            have hbA := below_alloc wr (.cells #[.bool dh, .bool kem] 30)
            replace HBW : Hid (Below ws2.heap.size ws2 (wr.alloc (.cells #[.bool dh, .bool kem] 30))) := Lib.hid (HBW.out.trans (hbA.mono HBW.out.size))
            have hgq : ga < wr.heap.size := (World.ownsRow.lt HO.out ga rfl).2
            replace HO := Lib.hid (HO.out.below hbA)
            obtain ⟨fb, hfb⟩ : ∃ fb, fb = wr.heap.size := ⟨_, rfl⟩
            rw [← hfb] at f0 f1 hgq
            try rw [← hfb]
            have HGF : Hid (fb ≠ ga) := Lib.hid (by omega)
            clear f hbA hfb hgq
            generalize wr.alloc (.cells #[.bool dh, .bool kem] 30) = w3 at HBW HO f0 f1 ⊢
            have HK3 : Hid (Known w3 g1 L5) := Lib.hid (HK2.out.below HBW.out)
            refine (can_least HK3.out HC1'.out HIN1.out HNB.out (some ⟨ga, 0, none⟩) ca (i + 1) HLN.out HO.out.ints.2).mono ?_
            rintro e w5 ⟨rfl, hb⟩
            rw [R1.out]
            replace HBW : Hid (Below ws2.heap.size ws2 w5) := Lib.hid (HBW.out.trans (hb.mono HBW.out.size))
            replace HO := Lib.hid (HO.out.below hb)
            replace f0 := (hb.cell (block_lt_of_cell f0)).trans f0
            replace f1 := (hb.cell (block_lt_of_cell f1)).trans f1
            obtain ⟨cga, hcga⟩ : ∃ cga, cga = ca := ⟨_, rfl⟩
            rw [← hcga] at HO ⊢
            have HF0 := Lib.hid f0
            have HF1 := Lib.hid f1
            have HGL : Hid (fb < w5.heap.size) := Lib.hid (block_lt_of_cell f0)
            clear hb HK3 hcga f0 f1
            have HRow5 : Hid (w5.ownsRow ws2.heap.size 3 1 (.slice (some ⟨ga, 0, none⟩) (i + 1) cga) (i + 1) (intsR (hd :: xs))) := Lib.hid (by
              have h7 : w5.ownsRow ws2.heap.size 3 1 (.slice (some ⟨ga, 0, none⟩) (i + 1) cga) (hd :: xs).length (intsR (hd :: xs)) := HO.out
              rw [← HLN.out] at h7
              exact h7)
            have HNW5 : Hid ((w5.alloc (.cells #[.int .i64 x] 3)).heap[w5.heap.size]? = some (.cells #[.int .i64 x] 3 (0, 0))) := Lib.hid (heap_alloc_new w5 _)
            have A15 : Hid ((i + 1) + 1 ≤ maxLen) := Lib.hid (by unfold maxLen; omega)
            have A25 : Hid (((i + 1) + 1) * 8 ≤ 140737488355328) := Lib.hid (by omega)
            have A45 : Hid ((w5.alloc (.cells #[.int .i64 x] 3)).heap.size = w5.heap.size + 1) := Lib.hid (by simp)
            have A35 : Hid (ws2.heap.size ≤ (w5.alloc (.cells #[.int .i64 x] 3)).heap.size) := Lib.hid (by have := A45.out; have := HBW.out.size; omega)
            go_wp2_with (at_builtin; refine wpList_append_lies _ rfl _ _ 23 rfl ws2.heap.size 3 i0 (.int .i64 0) 1 8 Try.underlying23 hi0 hz0 hz1 hz2 rfl (by decide) _ _ _ rfl (HRow5.out.alloc _) ⟨w5.heap.size, 0, none⟩ 1 1 [.int .i64 x] rfl rfl (World.news_of_block (cs := #[.int .i64 x]) (t := 3) (fr := (0, 0)) HNW5.out) (by simp [Value.oneCell']) (by omega) A15.out A25.out A35.out (w5.heap.size + 1) A45.out ?_; intro gn5 cgn5 w6 hown3 hgrow3 hat3 hlt3; have f0 := farc HGL.out hgrow3 (fun e => HGF.out (by injection e with e; exact e.symm)) HF0.out; have f1 := farc HGL.out hgrow3 (fun e => HGF.out (by injection e with e; exact e.symm)) HF1.out; have P1 := Lib.hid hown3; have HAT := Lib.hid hat3; have P2 := Lib.hid hgrow3; clear hown3 hgrow3 hat3)
            have CH5 : Hid (Chg (fun k => some k = some ga) w5 w6) := Lib.hid ((Chg.alloc w5 _ _).trans (Chg.grown P2.out))
            replace HBW : Hid (Below ws2.heap.size ws2 w6) := Lib.hid (HBW.out.trans (CH5.out.below (fun k e => by injection e with e; subst e; exact (World.ownsRow.lt HO.out k rfl).1) HBW.out.size))
            replace HO : Hid (OwnI ws2.heap.size (.slice (some ⟨gn5, 0, none⟩) ((i + 1) + 1) cgn5) (hd :: xs ++ [x]) w6) := Lib.hid (by
              have h8 := OwnI.app (M := hd :: xs) (x := x) (g := gn5) (cap := cgn5) (base := ws2.heap.size) (w' := w6) (by rw [← HLN.out]; exact P1.out)
              rw [← HLN.out] at h8
              exact h8)
            have HLN5 : Hid ((i + 1) + 1 = (hd :: xs ++ [x]).length) := Lib.hid (by have := HLN.out; rw [List.length_append]; simp only [List.length_singleton]; omega)
            clear P1 P2 HRow5 HNW5 A15 A25 A35 A45 CH5
            have HGF6 : Hid (fb ≠ gn5) := Lib.hid (by
              have hg := HGL.out
              rcases HAT.out with r | r
              · have r2 : ga = gn5 := by injection r
                rw [← r2]; exact HGF.out
              · omega)
            have HK3 : Hid (Known w6 g1 L5) := Lib.hid (HK2.out.below HBW.out)
            refine (can_least HK3.out HC2.out HIN2.out HNB.out (some ⟨gn5, 0, none⟩) cgn5 (i + 1 + 1) HLN5.out HO.out.ints.2).mono ?_
            rintro e w7 ⟨rfl, hb⟩
            rw [R2.out]
            replace HBW : Hid (Below ws2.heap.size ws2 w7) := Lib.hid (HBW.out.trans (hb.mono HBW.out.size))
            replace HO := Lib.hid (HO.out.below hb)
            replace f0 := (hb.cell (block_lt_of_cell f0)).trans f0
            replace f1 := (hb.cell (block_lt_of_cell f1)).trans f1
            have hx1 : (hd :: xs).length = i + 1 := by have := HX.out; simp; omega
            obtain ⟨d0, d1⟩ := HO.out.lastAt
            rw [hx1] at d0 d1
            have HO7 : Hid (OwnI ws2.heap.size (.slice (some ⟨gn5, 0, none⟩) (i + 1 + 1) cgn5) (hd :: xs ++ [a]) (w7.setCell ⟨gn5, i + 1, none⟩ (.int .i64 a))) := Lib.hid (by have := HO.out.setLast a; rw [hx1] at this; exact this)
            have HB7 : Hid (Below ws2.heap.size ws2 (w7.setCell ⟨gn5, i + 1, none⟩ (.int .i64 a))) := Lib.hid (HBW.out.trans ((Chg.setCell w7 gn5 (i + 1) (.int .i64 a)).below (fun k e => by rw [e]; exact (World.ownsRow.lt HO.out gn5 rfl).1) HBW.out.size))
            have v0 : Hid ((w7.setCell ⟨gn5, i + 1, none⟩ (.int .i64 a)).cell? ⟨fb, 0, none⟩ = some (.bool dh)) := Lib.hid (by rw [World.cell?_of_block (a := ⟨fb, 0, none⟩) ((Chg.setCell w7 gn5 (i + 1) (.int .i64 a)).block fb (block_lt_of_cell f0) (fun e => HGF6.out e))]; exact f0)
            have v1 : Hid ((w7.setCell ⟨gn5, i + 1, none⟩ (.int .i64 a)).cell? ⟨fb, 1, none⟩ = some (.bool kem)) := Lib.hid (by rw [World.cell?_of_block (a := ⟨fb, 1, none⟩) ((Chg.setCell w7 gn5 (i + 1) (.int .i64 a)).block fb (block_lt_of_cell f1) (fun e => HGF6.out e))]; exact f1)
            have HLA : Hid (i + 1 + 1 = (hd :: xs ++ [a]).length) := Lib.hid (by rw [List.length_append, hx1]; rfl)
            have hii : (i : Int) + 1 < (i : Int) + 1 + 1 := by omega
            have hii0 : (0 : Int) ≤ (i : Int) + 1 := by omega
            have g0 := v0.out
            have g1f := v1.out
            clear hb HK3 hx1 HO HBW HLN HLN5 f0 f1
            go_wp2_with fail
            clear d0 d1 v0 v1
            generalize w7.setCell ⟨gn5, i + 1, none⟩ (.int .i64 a) = w8 at HO7 HB7 g0 g1f ⊢
            have HK3 : Hid (Known w8 g1 L5) := Lib.hid (HK2.out.below HB7.out)
            refine (can_least HK3.out HC3.out HIN3.out HNB.out (some ⟨gn5, 0, none⟩) cgn5 (i + 1 + 1) HLA.out HO7.out.ints.2).mono ?_
            rintro e w9 ⟨rfl, hb⟩
            rw [R3.out]
            have HBW : Hid (Below ws2.heap.size ws2 w9) := Lib.hid (HB7.out.trans (hb.mono HB7.out.size))
            have HO : Hid (OwnI ws2.heap.size (.slice (some ⟨gn5, 0, none⟩) (i + 1 + 1) cgn5) (hd :: xs ++ [a]) w9) := Lib.hid (HO7.out.below hb)
            replace g0 := (hb.cell (block_lt_of_cell g0)).trans g0
            replace g1f := (hb.cell (block_lt_of_cell g1f)).trans g1f
            replace HF0 := Lib.hid g0
            replace HF1 := Lib.hid g1f
            replace HGL : Hid (fb < w9.heap.size) := Lib.hid (block_lt_of_cell g0)
            clear hb HK3 g0 g1f HAT
            have HRow9 : Hid (w9.ownsRow ws2.heap.size 3 1 (.slice (some ⟨gn5, 0, none⟩) (i + 1 + 1) cgn5) (i + 1 + 1) (intsR (hd :: xs ++ [a]))) := Lib.hid (by
              have h7 : w9.ownsRow ws2.heap.size 3 1 (.slice (some ⟨gn5, 0, none⟩) (i + 1 + 1) cgn5) (hd :: xs ++ [a]).length (intsR (hd :: xs ++ [a])) := HO.out
              rw [← HLA.out] at h7
              exact h7)
            have HNW9 : Hid ((w9.alloc (.cells #[.int .i64 k] 3)).heap[w9.heap.size]? = some (.cells #[.int .i64 k] 3 (0, 0))) := Lib.hid (heap_alloc_new w9 _)
            have A19 : Hid ((i + 1 + 1) + 1 ≤ maxLen) := Lib.hid (by unfold maxLen; omega)
            have A29 : Hid (((i + 1 + 1) + 1) * 8 ≤ 140737488355328) := Lib.hid (by omega)
            have A49 : Hid ((w9.alloc (.cells #[.int .i64 k] 3)).heap.size = w9.heap.size + 1) := Lib.hid (by simp)
            have A39 : Hid (ws2.heap.size ≤ (w9.alloc (.cells #[.int .i64 k] 3)).heap.size) := Lib.hid (by have := A49.out; have := HBW.out.size; omega)
            go_wp2_with (at_builtin; refine wpList_append_lies _ rfl _ _ 23 rfl ws2.heap.size 3 i0 (.int .i64 0) 1 8 Try.underlying23 hi0 hz0 hz1 hz2 rfl (by decide) _ _ _ rfl (HRow9.out.alloc _) ⟨w9.heap.size, 0, none⟩ 1 1 [.int .i64 k] rfl rfl (World.news_of_block (cs := #[.int .i64 k]) (t := 3) (fr := (0, 0)) HNW9.out) (by simp [Value.oneCell']) (by omega) A19.out A29.out A39.out (w9.heap.size + 1) A49.out ?_; intro gn9 cgn9 w10 hown3 hgrow3 hat3 hlt3; have f0 := farc HGL.out hgrow3 (fun e => HGF6.out (by injection e with e; exact e.symm)) HF0.out; have f1 := farc HGL.out hgrow3 (fun e => HGF6.out (by injection e with e; exact e.symm)) HF1.out; have P1 := Lib.hid hown3; have HAT := Lib.hid hat3; have P2 := Lib.hid hgrow3; clear hown3 hgrow3 hat3)
            have CH9 : Hid (Chg (fun k => some k = some gn5) w9 w10) := Lib.hid ((Chg.alloc w9 _ _).trans (Chg.grown P2.out))
            replace HBW : Hid (Below ws2.heap.size ws2 w10) := Lib.hid (HBW.out.trans (CH9.out.below (fun k e => by injection e with e; subst e; exact (World.ownsRow.lt HO.out k rfl).1) HBW.out.size))
            replace HO : Hid (OwnI ws2.heap.size (.slice (some ⟨gn9, 0, none⟩) ((i + 1 + 1) + 1) cgn9) (hd :: xs ++ [a] ++ [k]) w10) := Lib.hid (by
              have h8 := OwnI.app (M := hd :: xs ++ [a]) (x := k) (g := gn9) (cap := cgn9) (base := ws2.heap.size) (w' := w10) (by rw [← HLA.out]; exact P1.out)
              rw [← HLA.out] at h8
              exact h8)
            have HLN9 : Hid ((i + 1 + 1) + 1 = (hd :: xs ++ [a] ++ [k]).length) := Lib.hid (by have := HLA.out; rw [List.length_append]; simp only [List.length_singleton]; omega)
            clear P1 P2 HRow9 HNW9 A19 A29 A39 A49 CH9
            have HK3 : Hid (Known w10 g1 L5) := Lib.hid (HK2.out.below HBW.out)
            refine (can_least HK3.out HC4.out HIN4.out HNB.out (some ⟨gn9, 0, none⟩) cgn9 (i + 1 + 1 + 1) HLN9.out HO.out.ints.2).mono ?_
            rintro e w11 ⟨rfl, hb⟩
            rw [R4.out]
            replace f0 := (hb.cell (block_lt_of_cell f0)).trans f0
            replace f1 := (hb.cell (block_lt_of_cell f1)).trans f1
            have t9 : (kem == kem) = true := by simp
            have HBw : Hid (Below w.heap.size w w11) := Lib.hid ((HB2.out.trans (HBW.out.mono HB2.out.size)).trans (hb.mono (by have := HB2.out.size; have := HBW.out.size; omega)))
            clear hb
            go_wp2_with fail
            refine (fixed_any _).mono ?_
            rintro e wz ⟨rfl, hb⟩
            go_wp2_with fail
            go_ret
            exact ⟨rfl, HBw.out.trans (hb.mono HBw.out.size)⟩
    · have t1 : ((L5.length : Int) != (L.length : Int) + 5) = true := by simp; omega
      clear h3
      go_wp2_with fail
      refine (fixed_any _).mono ?_
      rintro e wz ⟨rfl, hb⟩
      go_wp2_with fail
      go_ret
      exact ⟨rfl, HB2.out.trans (hb.mono HB2.out.size)⟩
set_option maxRecDepth 100000 in
theorem lifted (os : Os) (started : os.Started) (H : Type) (enc : TypeId × Value → H) :
    ReturnsInHanded {} Try.checked os 10 .any (Rows.knowWrapsSpec.pre6 enc Try.prog Try.f10 Rows.knowWrapsRow.domain false) (Rows.knowWrapsSpec.post enc Try.prog Try.f10 false true false false) := by
  refine returnsInHanded_of_change (C := Try.checked) own started (by kernel_rfl) Try.func10
    (ChangeSpec.witness6 (enc := enc) (C := Try.checked) false ⟨#[], #[.slice none 0 0, .slice none 0 0, .int .u8 0], []⟩ 8 (by kernel_rfl) (by kernel_rfl) (by kernel_rfl) (by kernel_rfl)) ?_
  intro W base args ds gs before hval0 hW hcnd _
  have hval : ∀ (j : Nat) t v, Try.f10.params[j]? = some t → args[j]? = some v → Value.okWide Try.prog W .any base t v := hval0
  have hW' := hW
  obtain ⟨p, q, hA0, hV, rfl, hfz, hnd⟩ := hW
  have hA : DataW.TrodAll enc Try.prog W 0 (fun _ => true) true Try.f10.params.toList args.toList ds p := hA0
  rw [Try.params10] at hA hval
  obtain ⟨v0, vs0, d0, ds0, p0, q0, hargs, rfl, rfl, h0, r0⟩ := trodAll_cons hA
  obtain ⟨v1, vs1, d1, ds1, p1, q1, rfl, rfl, rfl, h1, r1⟩ := trodAll_cons r0
  obtain ⟨v2, vs2, d2, ds2, p2, q2, rfl, rfl, rfl, h2, r2⟩ := trodAll_cons r1
  obtain ⟨rfl, rfl, rfl⟩ := trodAll_nil r2
  obtain rfl : args = #[v0, v1, v2] := by cases args; simp_all
  obtain ⟨rfl, rfl⟩ := trodVars_none hV
  obtain ⟨a0, len0, cap0, rfl⟩ := okWide_slice Try.underlying22 (hval 0 22 v0 rfl rfl)
  have k0 := h0
  have lt0 : ∀ x ∈ p0, x.block < W.heap.size := by obtain ⟨m, hm⟩ := k0; exact DataW.trod_lt m _ _ _ hm
  obtain ⟨T0, w0⟩ : ∃ T, Terms W a0 len0 cap0 T := by
    obtain ⟨fuel, hf⟩ := h0
    exact open_terms (by simpa [Value.cells] using hf)
  obtain ⟨a1, len1, cap1, rfl⟩ := okWide_slice Try.underlying41 (hval 1 41 v1 rfl rfl)
  have k1 := h1
  have lt1 : ∀ x ∈ p1, x.block < W.heap.size := by obtain ⟨m, hm⟩ := k1; exact DataW.trod_lt m _ _ _ hm
  obtain ⟨z1, w1⟩ : ∃ zs, IsRow .u8 W a1 len1 cap1 zs := by
    obtain ⟨fuel, hf⟩ := h1
    rcases open_ints Try.underlying41 Try.underlying5 (by kernel_rfl) hf with ⟨hcs, _⟩ | ⟨x, l, c, zs, hcs, _, hl, hm, hz, _, hcell, hwz⟩
    · simp [Value.cells] at hcs
      obtain ⟨rfl, rfl, rfl⟩ := hcs
      exact ⟨[], .inl ⟨rfl, rfl, rfl, rfl⟩⟩
    · simp [Value.cells] at hcs
      obtain ⟨rfl, rfl, rfl⟩ := hcs
      exact ⟨zs, .inr ⟨_, rfl, hl, hm, by simpa using hz, hcell, hwz⟩⟩
  obtain ⟨a2, rfl, rfl, rfl, w2⟩ := open_int Try.underlying5 (hval 2 5 v2 rfl rfl) h2
  clear hA0 hval0
  refine (walk a0 len0 cap0 T0 a1 len1 cap1 z1 a2 W w0 w1 w2).mono fun e W' ⟨he, bel⟩ => ?_
  subst he
  exact ⟨_, rfl, _, _, _, [], _, [], hW', trodAll_mk1 (shut_bool Try.underlying4 _), (trodAll_cons_mk (Below.trod laidOut (by kernel_rfl) (of_decide_eq_true (by kernel_rfl)) k0 bel lt0) (trodAll_cons_mk (Below.trod laidOut (by kernel_rfl) (of_decide_eq_true (by kernel_rfl)) k1 bel lt1) (trodAll_cons_mk (shut_int Try.underlying5 w2) trodAll_mk0))), rfl, bel.frame _, fun h => by cases h⟩

theorem over : Rows.knowWrapsRow.holds Try.pinned (OpenSpec.ofChange Rows.knowWrapsSpec) :=
  OpenClaim.holds_of_wide 10 Try.f10 rfl rfl rfl rfl rfl rfl rfl ⟨rfl, rfl, rfl, rfl, rfl⟩ rfl rfl rfl rfl rfl (by kernel_rfl) Try.func10 (by kernel_rfl)
    (of_decide_eq_true (by kernel_rfl)) (by unfold Func.isWrapper; first | (rw [if_pos (by decide +kernel)]; kernel_rfl) | (rw [if_neg (by decide +kernel)]; exact ⟨rfl, rfl⟩))
    (fun os started H enc _ => lifted os started H enc)

theorem proved : Rows.KnowWrapsSaid := over
#print axioms proved
end Go.Proofs.Ytdhfnbajmjmlbaa.knowWraps
