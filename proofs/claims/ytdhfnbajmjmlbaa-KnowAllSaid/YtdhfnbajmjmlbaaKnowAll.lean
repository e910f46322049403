/- KnowAll: for every row of terms, what is known, and two numbers, both sides answer one. -/
import Derived.Test.YtdhfnbajmjmlbaaRows
import Derived.Test.YtdhfnbajmjmlbaaKnowD
import Derived.WalkKit
import Derived.ProofKit
import Derived.OpenShut
import Derived.ShutString
import Derived.ChangeOld
import Derived.Below
import Derived.Test.YtdhfnbajmjmlbaaOpens
namespace Go.Proofs.Ytdhfnbajmjmlbaa.knowAll
open Go.ChangeShapes Go.WideShapes Go.ChangeAt Go.RowKit
open Go.ChangeMaps (open_string shut_string)
open Go.Proofs.Ytdhfnbajmjmlbaa
set_option linter.unusedVariables false
set_option linter.unusedSimpArgs false
set_option maxRecDepth 20000

theorem own : ownKnob Try.prog.godebug = none := by kernel_rfl
theorem laidOut : laidOutB Try.prog = true := by kernel_rfl

/-- A row of integers that came in, or nil. -/
def IsRow (k : IntKind) (w : World) (a : Option Addr) (len cap : Nat) (zs : List Int) : Prop :=
  (a = none ∧ len = 0 ∧ cap = 0 ∧ zs = []) ∨
  ∃ x, a = some x ∧ len ≤ cap ∧ cap ≤ maxLen ∧ zs.length = cap ∧ (∀ i, i < zs.length → w.cell? (x.add i) = some (.int k (zs.getD i 0))) ∧ ∀ n ∈ zs, (Lit.int k n).wf = true

theorem IsRow.plain {k : IntKind} {w : World} {a : Option Addr} {len cap : Nat} {zs : List Int} (h : IsRow k w a len cap zs) : len ≤ cap ∧ cap ≤ maxLen ∧ zs.length = cap ∧ ∃ b off, ∀ i, i < len → a = some ⟨b, off, none⟩ ∧ w.cell? ⟨b, off + i, none⟩ = some (.int k (zs.getD i 0)) ∧ (Lit.int k (zs.getD i 0)).wf = true := by
  rcases h with ⟨rfl, rfl, rfl, rfl⟩ | ⟨x, rfl, hl, hm, hz, hc, hw⟩
  · exact ⟨Nat.le_refl _, Nat.zero_le _, rfl, 0, 0, fun i hi => absurd hi (Nat.not_lt_zero _)⟩
  · by_cases hp : 0 < zs.length
    · obtain ⟨b, off, rfl, hcell⟩ := ints_at hc hp
      exact ⟨hl, hm, hz, b, off, fun i hi => ⟨rfl, hcell i (by omega), hw _ (getD_mem (by omega))⟩⟩
    · exact ⟨hl, hm, hz, 0, 0, fun i hi => by omega⟩

theorem bits_wf (x : Int) : True := trivial
set_option maxHeartbeats 4000000 in
set_option maxRecDepth 100000 in
theorem walk (a0 : Option Addr) (len0 cap0 : Nat) (T0 : Nat → Tm) (a1 : Option Addr) (len1 cap1 : Nat) (z1 : List Int) (x0 x1 : Int) (w : World) (w0 : Terms w a0 len0 cap0 T0) (w1 : IsRow .i64 w a1 len1 cap1 z1) (h0 : (Lit.int .i64 x0).wf = true) (h1 : (Lit.int .i64 x1).wf = true) :
    Calls Try.prog 3 #[.slice a0 len0 cap0, .slice a1 len1 cap1, .agg #[.int .i64 x0, .int .i64 x1]] w fun e w' => e = .returned (.bool true) ∧ Below w.heap.size w w' := by
  have hB0 : Below w.heap.size w (w.alloc (.cells #[.int .i64 x0, .int .i64 x1] 24)) := (Below.refl _ _).alloc (Nat.le_refl _) _
  have HT := Lib.hid (w0.below hB0)
  have HB0 := Lib.hid hB0
  obtain ⟨hl1, hm1, hz1, bk, ok, hc1⟩ := w1.plain
  obtain ⟨m, hm⟩ : ∃ m : Nat, m = min len1 10 := ⟨_, rfl⟩
  have hmin : min (len1 : Int) 10 = (m : Int) := by rw [hm]; omega
  have hm10 : m ≤ 10 := by omega
  have hml : m ≤ len1 := by omega
  obtain ⟨ks, hks⟩ : ∃ ks, ks = z1.take m := ⟨_, rfl⟩
  have hkl : ks.length = m := by rw [hks, List.length_take]; omega
  have HKI : Hid (IntsAt w a1 cap1 ks) := Lib.hid ⟨by omega, hm1, bk, ok, fun i hi => by
    have hi2 : i < m := by omega
    have q := hc1 i (by omega)
    refine ⟨q.1, ?_⟩
    rw [q.2.1, hks]
    congr 2
    simp [List.getD, List.getElem?_take_of_lt hi2]⟩
  have HKL : Hid (m = ks.length) := Lib.hid hkl.symm
  have hmc : m ≤ cap1 := by omega
  unfold maxLen at hm1
  obtain ⟨dh, hd⟩ : ∃ dh : Bool, (bits BinOp.and IntKind.i64 x0 1 == 1) = dh := ⟨_, rfl⟩
  obtain ⟨kem, hke⟩ : ∃ kem : Bool, (bits BinOp.and IntKind.i64 x0 2 == 2) = kem := ⟨_, rfl⟩
  clear w0 w1 hB0 h0 h1 hc1 hkl hks hm
  go_enter Try.func3, Try.ntmps3
  go_wp2_with fail
  refine (stores_fine 40 a0 len0 cap0 T0 _ (by omega) HT.out).mono ?_
  rintro e w2 ⟨g1, g2, L, rfl, hL, hfine, hp⟩
  have HK : Hid (Known w2 g1 L) := Lib.hid (hp.known hfine)
  have HR : Hid (KnownR w2 g2 L) := Lib.hid ⟨hp.swap.atR, hp.facts.1, hfine.sound, hfine.uniq⟩
  have HB2 : Hid (Below w.heap.size w w2) := Lib.hid (HB0.out.trans (hp.belowW.mono HB0.out.size))
  have hbl := hp.belowW
  have hlt : w.heap.size < (w.alloc (.cells #[.int .i64 x0, .int .i64 x1] 24)).heap.size := by simp
  have c : ∀ j, w2.cell? ⟨w.heap.size, j, none⟩ = #[Value.int .i64 x0, .int .i64 x1][j]? := fun j => by rw [hbl.cell (by exact hlt)]; exact cell_of_row _ _ j _ _ _ (heap_alloc_new w _)
  have c0 := c 0
  have c1 := c 1
  simp at c0 c1
  obtain ⟨ns, er, b, er2, hall, hcan⟩ := both_is L hp.facts.1 (by omega) ks dh kem x1
  have HALL := Lib.hid hall
  have HCAN := Lib.hid hcan
  clear c hbl hlt hp hL HT hfine hall hcan
  go_wp2_with fail
  have f : ∀ j, (w2.alloc (.cells #[.bool dh, .bool kem] 30)).cell? ⟨w2.heap.size, j, none⟩ = #[Value.bool dh, .bool kem][j]? := fun j => cell_of_row _ _ j _ _ _ (heap_alloc_new w2 _)
  have f0 : (w2.alloc (.cells #[.bool dh, .bool kem] 30)).cell? ⟨w2.heap.size, 0, none⟩ = some (.bool dh) := f 0
  have f1 : (w2.alloc (.cells #[.bool dh, .bool kem] 30)).cell? ⟨w2.heap.size, 1, none⟩ = some (.bool kem) := f 1
  have hbA := below_alloc w2 (.cells #[.bool dh, .bool kem] 30)
  replace HB2 : Hid (Below w.heap.size w (w2.alloc (.cells #[.bool dh, .bool kem] 30))) := Lib.hid (HB2.out.trans (hbA.mono HB2.out.size))
  replace HK : Hid (Known (w2.alloc (.cells #[.bool dh, .bool kem] 30)) g1 L) := Lib.hid (HK.out.below hbA)
  replace HR : Hid (KnownR (w2.alloc (.cells #[.bool dh, .bool kem] 30)) g2 L) := Lib.hid (HR.out.below hbA)
  replace c0 := (hbA.cell (block_lt_of_cell c0)).trans c0
  replace c1 := (hbA.cell (block_lt_of_cell c1)).trans c1
  obtain ⟨q, hq⟩ : ∃ q, q = w2.heap.size := ⟨_, rfl⟩
  rw [← hq] at f0 f1 ⊢
  clear f hbA hq
  generalize w2.alloc (.cells #[.bool dh, .bool kem] 30) = w3 at HB2 HK HR c0 c1 f0 f1 ⊢
  refine (HALL.out.2.1 _ g1 HK.out a1 cap1 m HKL.out (HKI.out.below HB2.out)).mono ?_
  rintro e w4 ⟨a5, n5, c5x, rfl, hn, hi, hb⟩
  replace HB2 : Hid (Below w.heap.size w w4) := Lib.hid (HB2.out.trans (hb.mono HB2.out.size))
  replace HK : Hid (Known w4 g1 L) := Lib.hid (HK.out.below hb)
  replace HR : Hid (KnownR w4 g2 L) := Lib.hid (HR.out.below hb)
  replace c0 := (hb.cell (block_lt_of_cell c0)).trans c0
  replace c1 := (hb.cell (block_lt_of_cell c1)).trans c1
  replace f0 := (hb.cell (block_lt_of_cell f0)).trans f0
  replace f1 := (hb.cell (block_lt_of_cell f1)).trans f1
  have HA5 := Lib.hid hi
  have HN5 := Lib.hid hn
  clear hi hn
  clear hb
  go_wp2_with fail
  refine (HALL.out.2.2 _ g2 HR.out a1 cap1 m HKL.out (HKI.out.below HB2.out)).mono ?_
  rintro e w5 ⟨a6, n6, c6x, rfl, hn, hi, hb⟩
  replace HB2 : Hid (Below w.heap.size w w5) := Lib.hid (HB2.out.trans (hb.mono HB2.out.size))
  replace HK : Hid (Known w5 g1 L) := Lib.hid (HK.out.below hb)
  replace HR : Hid (KnownR w5 g2 L) := Lib.hid (HR.out.below hb)
  replace c0 := (hb.cell (block_lt_of_cell c0)).trans c0
  replace c1 := (hb.cell (block_lt_of_cell c1)).trans c1
  replace f0 := (hb.cell (block_lt_of_cell f0)).trans f0
  replace f1 := (hb.cell (block_lt_of_cell f1)).trans f1
  replace HA5 := Lib.hid (HA5.out.below hb)
  have HA6 := Lib.hid hi
  have HN6 := Lib.hid hn
  clear hi hn
  clear hb
  go_wp2_with fail
  refine (HCAN.out.1 _ g1 HK.out a1 cap1 m HKL.out (HKI.out.below HB2.out)).mono ?_
  rintro e w6 ⟨rfl, hb⟩
  replace HB2 : Hid (Below w.heap.size w w6) := Lib.hid (HB2.out.trans (hb.mono HB2.out.size))
  replace HK : Hid (Known w6 g1 L) := Lib.hid (HK.out.below hb)
  replace HR : Hid (KnownR w6 g2 L) := Lib.hid (HR.out.below hb)
  replace c0 := (hb.cell (block_lt_of_cell c0)).trans c0
  replace c1 := (hb.cell (block_lt_of_cell c1)).trans c1
  replace f0 := (hb.cell (block_lt_of_cell f0)).trans f0
  replace f1 := (hb.cell (block_lt_of_cell f1)).trans f1
  replace HA5 := Lib.hid (HA5.out.below hb)
  replace HA6 := Lib.hid (HA6.out.below hb)
  clear hb
  go_wp2_with fail
  refine (HCAN.out.2 _ g2 HR.out a1 cap1 m HKL.out (HKI.out.below HB2.out)).mono ?_
  rintro e w7 ⟨rfl, hb⟩
  replace HB2 : Hid (Below w.heap.size w w7) := Lib.hid (HB2.out.trans (hb.mono HB2.out.size))
  replace HK : Hid (Known w7 g1 L) := Lib.hid (HK.out.below hb)
  replace HR : Hid (KnownR w7 g2 L) := Lib.hid (HR.out.below hb)
  replace c0 := (hb.cell (block_lt_of_cell c0)).trans c0
  replace c1 := (hb.cell (block_lt_of_cell c1)).trans c1
  replace f0 := (hb.cell (block_lt_of_cell f0)).trans f0
  replace f1 := (hb.cell (block_lt_of_cell f1)).trans f1
  replace HA5 := Lib.hid (HA5.out.below hb)
  replace HA6 := Lib.hid (HA6.out.below hb)
  clear hb
  go_wp2_with fail
  rw [HN5.out, HN6.out]
  refine (same_k a5 a6 c5x c6x ns ns w7 HA5.out HA6.out).mono ?_
  rintro e w8 ⟨rfl, q1, rfl⟩
  rw [show decide (ns = ns) = true from decide_eq_true rfl]
  have e1 : (er == er) = true := by simp
  have e2 : (b == b) = true := by simp
  have e3 : (er2 == er2) = true := by simp
  replace HB2 : Hid (Below w.heap.size w (w7.drewN q1)) := Lib.hid (HB2.out.trans ((drewN_below w7 q1).mono HB2.out.size))
  clear c0 c1 f0 f1 HK HR
  go_wp2_with fail
  refine (fixed_any _).mono ?_
  rintro e w9 ⟨rfl, hb⟩
  go_wp2_with fail
  go_ret
  exact ⟨rfl, HB2.out.trans (hb.mono HB2.out.size)⟩
set_option maxRecDepth 100000 in
theorem lifted (os : Os) (started : os.Started) (H : Type) (enc : TypeId × Value → H) :
    ReturnsInHanded {} Try.checked os 3 .any (Rows.knowAllSpec.pre6 enc Try.prog Try.f3 Rows.knowAllRow.domain false) (Rows.knowAllSpec.post enc Try.prog Try.f3 false true false false) := by
  refine returnsInHanded_of_change (C := Try.checked) own started (by kernel_rfl) Try.func3
    (ChangeSpec.witness6 (enc := enc) (C := Try.checked) false ⟨#[], #[.slice none 0 0, .slice none 0 0, .agg #[.int .i64 0, .int .i64 0]], []⟩ 8 (by kernel_rfl) (by kernel_rfl) (by kernel_rfl) (by kernel_rfl)) ?_
  intro W base args ds gs before hval0 hW hcnd _
  have hval : ∀ (j : Nat) t v, Try.f3.params[j]? = some t → args[j]? = some v → Value.okWide Try.prog W .any base t v := hval0
  have hW' := hW
  obtain ⟨p, q, hA0, hV, rfl, hfz, hnd⟩ := hW
  have hA : DataW.TrodAll enc Try.prog W 0 (fun _ => true) true Try.f3.params.toList args.toList ds p := hA0
  rw [Try.params3] at hA hval
  obtain ⟨v0, vs0, d0, ds0, p0, q0, hargs, rfl, rfl, h0, r0⟩ := trodAll_cons hA
  obtain ⟨v1, vs1, d1, ds1, p1, q1, rfl, rfl, rfl, h1, r1⟩ := trodAll_cons r0
  obtain ⟨v2, vs2, d2, ds2, p2, q2, rfl, rfl, rfl, h2, r2⟩ := trodAll_cons r1
  obtain ⟨rfl, rfl, rfl⟩ := trodAll_nil r2
  obtain rfl : args = #[v0, v1, v2] := by cases args; simp_all
  obtain ⟨rfl, rfl⟩ := trodVars_none hV
  obtain ⟨a0, len0, cap0, rfl⟩ := okWide_slice Try.underlying22 (hval 0 22 v0 rfl rfl)
  have k0 := h0
  have lt0 : ∀ x ∈ p0, x.block < W.heap.size := by obtain ⟨m, hm⟩ := k0; exact DataW.trod_lt m _ _ _ hm
  obtain ⟨T0, w0⟩ : ∃ T, Terms W a0 len0 cap0 T := by
    obtain ⟨fuel, hf⟩ := h0
    exact open_terms (by simpa [Value.cells] using hf)
  obtain ⟨a1, len1, cap1, rfl⟩ := okWide_slice Try.underlying23 (hval 1 23 v1 rfl rfl)
  have k1 := h1
  have lt1 : ∀ x ∈ p1, x.block < W.heap.size := by obtain ⟨m, hm⟩ := k1; exact DataW.trod_lt m _ _ _ hm
  obtain ⟨z1, w1⟩ : ∃ zs, IsRow .i64 W a1 len1 cap1 zs := by
    obtain ⟨fuel, hf⟩ := h1
    rcases open_ints Try.underlying23 Try.underlying3 (by kernel_rfl) hf with ⟨hcs, _⟩ | ⟨x, l, c, zs, hcs, _, hl, hm, hz, _, hcell, hwz⟩
    · simp [Value.cells] at hcs
      obtain ⟨rfl, rfl, rfl⟩ := hcs
      exact ⟨[], .inl ⟨rfl, rfl, rfl, rfl⟩⟩
    · simp [Value.cells] at hcs
      obtain ⟨rfl, rfl, rfl⟩ := hcs
      exact ⟨zs, .inr ⟨_, rfl, hl, hm, by simpa using hz, hcell, hwz⟩⟩
  obtain ⟨cs2, rfl, hsz2⟩ : ∃ cs, v2 = .agg cs ∧ cs.size = Try.prog.cellsOf 24 := by
    have h := hval 2 24 v2 rfl rfl
    simp only [Value.okWide, Try.underlying24] at h
    obtain ⟨cs, e1, e2, _⟩ := h
    exact ⟨cs, e1, e2⟩
  have k2 := h2
  have lt2 : ∀ x ∈ p2, x.block < W.heap.size := by obtain ⟨m, hm⟩ := k2; exact DataW.trod_lt m _ _ _ hm
  obtain ⟨Z2, rfl, w2⟩ : ∃ Z : Nat → Int, cs2 = ((List.range 2).map fun j => Value.int .i64 (Z j)).toArray ∧ ∀ j, j < 2 → (Lit.int .i64 (Z j)).wf = true := by
    obtain ⟨fuel, hf⟩ := h2
    exact open_arrV Try.underlying24 Try.underlying3 (by kernel_rfl) (by kernel_rfl) hf
  clear hA0 hval0
  refine (walk a0 len0 cap0 T0 a1 len1 cap1 z1 (Z2 0) (Z2 1) W w0 w1 (w2 0 (by omega)) (w2 1 (by omega))).mono fun e W' ⟨he, bel⟩ => ?_
  subst he
  exact ⟨_, rfl, _, _, _, [], _, [], hW', trodAll_mk1 (shut_bool Try.underlying4 _), (trodAll_cons_mk (Below.trod laidOut (by kernel_rfl) (of_decide_eq_true (by kernel_rfl)) k0 bel lt0) (trodAll_cons_mk (Below.trod laidOut (by kernel_rfl) (of_decide_eq_true (by kernel_rfl)) k1 bel lt1) (trodAll_cons_mk (Below.trod laidOut (by kernel_rfl) (of_decide_eq_true (by kernel_rfl)) k2 bel lt2) trodAll_mk0))), rfl, bel.frame _, fun h => by cases h⟩

theorem over : Rows.knowAllRow.holds Try.pinned (OpenSpec.ofChange Rows.knowAllSpec) :=
  OpenClaim.holds_of_wide 3 Try.f3 rfl rfl rfl rfl rfl rfl rfl ⟨rfl, rfl, rfl, rfl, rfl⟩ rfl rfl rfl rfl rfl (by kernel_rfl) Try.func3 (by kernel_rfl)
    (of_decide_eq_true (by kernel_rfl)) (by unfold Func.isWrapper; first | (rw [if_pos (by decide +kernel)]; kernel_rfl) | (rw [if_neg (by decide +kernel)]; exact ⟨rfl, rfl⟩))
    (fun os started H enc _ => lifted os started H enc)

theorem proved : Rows.KnowAllSaid := over
#print axioms proved
end Go.Proofs.Ytdhfnbajmjmlbaa.knowAll
