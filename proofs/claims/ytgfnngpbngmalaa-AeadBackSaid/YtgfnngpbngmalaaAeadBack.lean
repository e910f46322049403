/- AeadBack: for every row of terms, four numbers and every text, what is sealed is opened with the same key, number and what stands beside, and with no other ones. No condition. -/
import Derived.Test.YtgfnngpbngmalaaRows
import Derived.Test.YtgfnngpbngmalaaAeadF
import Derived.Test.YtgfnngpbngmalaaAeadM
import Derived.Test.YtgfnngpbngmalaaOpens
import Derived.WalkKit
import Derived.ProofKit
import Derived.OpenShut
import Derived.ShutString
import Derived.ChangeOld
import Derived.Below
namespace Go.Proofs.Ytgfnngpbngmalaa.aeadBack
open Go.ChangeShapes Go.WideShapes Go.ChangeAt Go.RowKit
open Go.ChangeMaps (open_string shut_string)
open Go.Proofs.Ytgfnngpbngmalaa
set_option linter.unusedVariables false
set_option linter.unusedSimpArgs false

theorem own : ownKnob Try.prog.godebug = none := by kernel_rfl
theorem laidOut : laidOutB Try.prog = true := by kernel_rfl

theorem math (L : List Tm) (k b o wn : Int) (p : ByteArray) (hL : L.length ≤ 20) (bk : 1 ≤ k ∧ k ≤ (L.length : Int)) (bb : 1 ≤ b ∧ b ≤ (L.length : Int)) (bo : 1 ≤ o ∧ o ≤ (L.length : Int)) (hp : p.size ≤ 1000) :
    ∃ c L1 S1 g S2 h, textF L 1000 k wn b p = (c, 0, L1) ∧ readF L1 k wn b c = (p, 0) ∧ readF L1 o wn b c = (S1, g) ∧ (g = 0 ↔ o = k) ∧ readF L1 k wn o c = (S2, h) ∧ (h = 0 ↔ o = b) ∧ readF L1 k (wn + 1) b c = (⟨#[]⟩, 9) := by
  obtain ⟨t, c, L1, e1, nt, nc, x1, l1⟩ := text_step (w := wn) (most := 1000) bk bb hp (by omega)
  have bk1 : 1 ≤ k ∧ k ≤ (L1.length : Int) := ⟨bk.1, x1.len bk.2⟩
  have bb1 : 1 ≤ b ∧ b ≤ (L1.length : Int) := ⟨bb.1, x1.len bb.2⟩
  have bo1 : 1 ≤ o ∧ o ≤ (L1.length : Int) := ⟨bo.1, x1.len bo.2⟩
  have r1 := read_at (w' := wn) nc nt bk1 bb1
  have r2 := read_at (w' := wn) nc nt bo1 bb1
  have r3 := read_at (w' := wn) nc nt bk1 bo1
  have r4 := read_at (w' := wn + 1) nc nt bk1 bb1
  rw [if_pos ⟨rfl, rfl, rfl⟩] at r1
  rw [if_neg (by omega)] at r4
  obtain ⟨⟨S1, g⟩, h2⟩ : ∃ y, readF L1 o wn b c = y := ⟨_, rfl⟩
  obtain ⟨⟨S2, h⟩, h3⟩ : ∃ y, readF L1 k wn o c = y := ⟨_, rfl⟩
  rw [h2] at r2
  rw [h3] at r3
  refine ⟨c, L1, S1, g, S2, h, e1, r1, h2, ?_, h3, ?_, r4⟩
  · split at r2 <;> rename_i h <;> injection r2 with q1 q2 <;> rw [q2] <;> simp <;> omega
  · split at r3 <;> rename_i h <;> injection r3 with q1 q2 <;> rw [q2] <;> simp <;> omega

set_option maxHeartbeats 2000000 in
set_option maxRecDepth 100000 in
theorem walk (a0 : Option Addr) (len0 cap0 : Nat) (T0 : Nat → Tm) (x0 x1 x2 x3 : Int) (text : ByteArray) (w : World) (w0 : Terms w a0 len0 cap0 T0) (h0 : (Lit.int .u8 x0).wf = true) (h1 : (Lit.int .u8 x1).wf = true) (h2 : (Lit.int .u8 x2).wf = true) (h3 : (Lit.int .u8 x3).wf = true) (ht : text.size ≤ maxLen) :
    Calls Try.prog 5 #[.slice a0 len0 cap0, .agg #[.int .u8 x0, .int .u8 x1, .int .u8 x2, .int .u8 x3], .string text] w fun e w' => e = .returned (.bool true) ∧ Below w.heap.size w w' := by
  have hB0 : Below w.heap.size w (w.alloc (.cells #[.int .u8 x0, .int .u8 x1, .int .u8 x2, .int .u8 x3] 43)) := (Below.refl _ _).alloc (Nat.le_refl _) _
  have HT := Lib.hid (w0.below hB0)
  have HB0 := Lib.hid hB0
  have H0 := Lib.hid h0
  have H1 := Lib.hid h1
  have H2 := Lib.hid h2
  have H3 := Lib.hid h3
  clear w0 hB0 h0 h1 h2 h3
  obtain ⟨p, m0, s0, s1, xt⟩ := slice_facts text 1000
  have m0 : min (text.size : Int) 1000 = p.size := m0
  have HTx : Hid (p.size ≤ maxLen) := Lib.hid (by unfold maxLen; omega)
  have HTs := Lib.hid s1
  have s2 : (p.size : Int) ≤ 1000 := by omega
  unfold maxLen at ht
  go_enter Try.func5, Try.ntmps5
  go_wp2_with fail
  refine (stores_any 20 a0 len0 cap0 T0 _ (by omega) HT.out).mono ?_
  rintro e w1 ⟨g1, g2, L, rfl, hL, hp⟩
  have HP0 := Lib.hid hp
  have HLn := Lib.hid hL
  have HFit := Lib.hid hp.facts.1
  have gR := RSq.good (w.alloc (.cells #[.int .u8 x0, .int .u8 x1, .int .u8 x2, .int .u8 x3] 43)).heap.size g2 1000
  have gP := PSq.good (w.alloc (.cells #[.int .u8 x0, .int .u8 x1, .int .u8 x2, .int .u8 x3] 43)).heap.size g1 1000
  have hbl := hp.belowW
  have hlt : w.heap.size < (w.alloc (.cells #[.int .u8 x0, .int .u8 x1, .int .u8 x2, .int .u8 x3] 43)).heap.size := by simp
  have c : ∀ j, w1.cell? ⟨w.heap.size, j, none⟩ = #[Value.int .u8 x0, .int .u8 x1, .int .u8 x2, .int .u8 x3][j]? := fun j => by rw [hbl.cell (by exact hlt)]; exact cell_of_row _ _ j _ _ _ (heap_alloc_new w _)
  have c0 := c 0
  have c1 := c 1
  have c2 := c 2
  have c3 := c 3
  simp at c0 c1 c2 c3
  clear c hbl hlt hp hL HT
  by_cases hn : L.length = 0
  · have hl0 : ((L.length : Int) == 0) = true := by simp [hn]
    clear hn
    go_wp2_with fail
    refine (HP0.out.lenP).mono ?_
    rintro e w2 ⟨rfl, rfl⟩
    go_wp2_with fail
    refine (fixed_any _).mono ?_
    rintro e w3 ⟨rfl, hb3⟩
    have hb4 := HB0.out.trans ((HP0.out.belowW.trans (hb3.mono HP0.out.base_le)).mono HB0.out.size)
    clear hb3 c0 c1 c2 c3
    go_wp2
    go_ret
    exact ⟨rfl, hb4⟩
  · have hl0 : ((L.length : Int) == 0) = false := by simpa using hn
    have hn1 : (0 : Int) < L.length := by omega
    have hn2 : (L.length : Int) ≤ 20 := by have := HLn.out; omega
    have HL : Hid (∀ n, Calls Try.prog 20 #[.pointer (some ⟨g1, 0, none⟩)] (w1.drewN n) fun e w' => e = .returned (.int .i64 L.length) ∧ ∃ m, w' = w1.drewN m) := Lib.hid (fun n => quiet_of ((HP0.out.below gP gR (drewN_below _ _)).lenP))
    clear hn
    go_wp2_with fail
    refine (HP0.out.lenP).mono ?_
    rintro e w2 ⟨rfl, rfl⟩
    go_wp2_with fail
    go_quiet (first | (go_at_call 20; exact HL.out _))
    obtain ⟨k, hk⟩ : ∃ k, k = wrap64 (1 + (wrap64 x0).tmod ↑L.length) := ⟨_, rfl⟩
    have bdk : 1 ≤ k ∧ k ≤ (L.length : Int) := by rw [hk]; exact pick_in x0 _ H0.out hn1 (by omega)
    obtain ⟨b, hb⟩ : ∃ b, b = wrap64 (1 + (wrap64 x1).tmod ↑L.length) := ⟨_, rfl⟩
    have bdb : 1 ≤ b ∧ b ≤ (L.length : Int) := by rw [hb]; exact pick_in x1 _ H1.out hn1 (by omega)
    obtain ⟨o, ho⟩ : ∃ o, o = wrap64 (1 + (wrap64 x2).tmod ↑L.length) := ⟨_, rfl⟩
    have bdo : 1 ≤ o ∧ o ≤ (L.length : Int) := by rw [ho]; exact pick_in x2 _ H2.out hn1 (by omega)
    rw [← hk, ← hb, ← ho]
    have HIk : Hid (I64 k) := Lib.hid (i64_small (by omega) (by omega))
    have Bk := Lib.hid bdk
    have HIb : Hid (I64 b) := Lib.hid (i64_small (by omega) (by omega))
    have Bb := Lib.hid bdb
    have HIo : Hid (I64 o) := Lib.hid (i64_small (by omega) (by omega))
    have Bo := Lib.hid bdo
    have HPA := Lib.hid (HP0.out.below gP gR (drewN_below w1 nq))
    clear hk bdk hb bdb ho bdo HP0 HL c0 c1 c2 hl0 hn1 hn2
    generalize w1.drewN nq = w2 at HPA ⊢
    have b3 := byte_in H3.out
    obtain ⟨wn, hwn⟩ : ∃ n, n = IntKind.u64.wrap x3 := ⟨_, rfl⟩
    rw [← hwn]
    rw [wrap_u64 b3.1 (by omega)] at hwn
    have hadd : IntKind.u64.wrap (wn + 1) = wn + 1 := wrap_u64 (by omega) (by omega)
    have HW : Hid (U64 wn) := Lib.hid (u64_small (by omega) (by omega))
    clear b3 hwn c3
    obtain ⟨c, L1, S1, g, S2, h, e1, e2, e3, b1, e4, b2, e5⟩ := math L k b o wn p HLn.out Bk.out Bb.out Bo.out HTs.out
    have E1 := Lib.hid e1
    have E2 := Lib.hid e2
    have E3 := Lib.hid e3
    have E4 := Lib.hid e4
    have E5 := Lib.hid e5
    obtain ⟨t1, f1, f2⟩ := beqs b1
    obtain ⟨t2, f3, f4⟩ := beqs b2
    have F1 := Lib.hid f1
    have F2 := Lib.hid f2
    have F3 := Lib.hid f3
    have F4 := Lib.hid f4
    clear e1 e2 e3 e4 e5 b1 b2 f1 f2 f3 f4
    go_wp2_with fail
    refine (HPA.out.textP gR HIk.out HW.out HIb.out HTx.out E1.out).mono ?_
    rintro e w3 ⟨rfl, hp, _⟩
    have HP3 := Lib.hid hp
    clear hp HPA
    go_wp2_with fail
    refine (HP3.out.readP gR E2.out).mono ?_
    rintro e w4 ⟨rfl, hp, _⟩
    have HP4 := Lib.hid hp
    clear hp HP3
    go_wp2_with fail
    refine (HP4.out.readP gR E3.out).mono ?_
    rintro e w5 ⟨rfl, hp, _⟩
    have HP5 := Lib.hid hp
    clear hp HP4
    go_wp2_with fail
    refine (HP5.out.readP gR E4.out).mono ?_
    rintro e w6 ⟨rfl, hp, _⟩
    have HP6 := Lib.hid hp
    clear hp HP5
    go_wp2_with fail
    refine (HP6.out.readP gR E5.out).mono ?_
    rintro e w7 ⟨rfl, hp, _⟩
    have HP7 := Lib.hid hp
    clear hp HP6
    have f1 := F1.out
    have f2 := F2.out
    have f3 := F3.out
    have f4 := F4.out
    have f5 : (p.toList == p.toList) = true := by simp
    have f6 : (t1 == t1) = true := by simp
    have f7 : (t2 == t2) = true := by simp
    go_wp2_with fail
    refine (fixed_any _).mono ?_
    rintro e w99 ⟨rfl, hb9⟩
    have hb := HB0.out.trans ((HP7.out.belowW.trans (hb9.mono HP7.out.base_le)).mono HB0.out.size)
    clear hb9
    go_wp2
    go_ret
    exact ⟨rfl, hb⟩

set_option maxRecDepth 100000 in
theorem lifted (os : Os) (started : os.Started) (H : Type) (enc : TypeId × Value → H) :
    ReturnsInHanded {} Try.checked os 5 .any (Rows.aeadBackSpec.pre6 enc Try.prog Try.f5 Rows.aeadBackRow.domain false) (Rows.aeadBackSpec.post enc Try.prog Try.f5 false true false false) := by
  refine returnsInHanded_of_change (C := Try.checked) own started (by kernel_rfl) Try.func5
    (ChangeSpec.witness6 (enc := enc) (C := Try.checked) false ⟨#[], #[.slice none 0 0, .agg #[.int .u8 0, .int .u8 0, .int .u8 0, .int .u8 0], .string ByteArray.empty], []⟩ 8 (by kernel_rfl) (by kernel_rfl) (by kernel_rfl) (by kernel_rfl)) ?_
  intro W base args ds gs before hval0 hW hcnd _
  have hval : ∀ (j : Nat) t v, Try.f5.params[j]? = some t → args[j]? = some v → Value.okWide Try.prog W .any base t v := hval0
  have hW' := hW
  obtain ⟨p, q, hA0, hV, rfl, hfz, hnd⟩ := hW
  have hA : DataW.TrodAll enc Try.prog W 0 (fun _ => true) true Try.f5.params.toList args.toList ds p := hA0
  rw [Try.params5] at hA hval
  obtain ⟨v0, vs0, d0, ds0, p0, q0, hargs, rfl, rfl, h0, r0⟩ := trodAll_cons hA
  obtain ⟨v1, vs1, d1, ds1, p1, q1, rfl, rfl, rfl, h1, r1⟩ := trodAll_cons r0
  obtain ⟨v2, vs2, d2, ds2, p2, q2, rfl, rfl, rfl, h2, r2⟩ := trodAll_cons r1
  obtain ⟨rfl, rfl, rfl⟩ := trodAll_nil r2
  obtain rfl : args = #[v0, v1, v2] := by cases args; simp_all
  obtain ⟨rfl, rfl⟩ := trodVars_none hV
  obtain ⟨a0, len0, cap0, rfl⟩ := okWide_slice Try.underlying22 (hval 0 22 v0 rfl rfl)
  have k0 := h0
  have lt0 : ∀ x ∈ p0, x.block < W.heap.size := by obtain ⟨m, hm⟩ := k0; exact DataW.trod_lt m _ _ _ hm
  obtain ⟨T0, w0⟩ : ∃ T, Terms W a0 len0 cap0 T := by
    obtain ⟨fuel, hf⟩ := h0
    exact open_terms (by simpa [Value.cells] using hf)
  obtain ⟨cs1, rfl, hsz1⟩ : ∃ cs, v1 = .agg cs ∧ cs.size = Try.prog.cellsOf 43 := by
    have h := hval 1 43 v1 rfl rfl
    simp only [Value.okWide, Try.underlying43] at h
    obtain ⟨cs, e1, e2, _⟩ := h
    exact ⟨cs, e1, e2⟩
  have k1 := h1
  have lt1 : ∀ x ∈ p1, x.block < W.heap.size := by obtain ⟨m, hm⟩ := k1; exact DataW.trod_lt m _ _ _ hm
  obtain ⟨Z1, rfl, w1⟩ : ∃ Z : Nat → Int, cs1 = ((List.range 4).map fun j => Value.int .u8 (Z j)).toArray ∧ ∀ j, j < 4 → (Lit.int .u8 (Z j)).wf = true := by
    obtain ⟨fuel, hf⟩ := h1
    exact open_arrV Try.underlying43 Try.underlying5 (by kernel_rfl) (by kernel_rfl) hf
  obtain ⟨a2, rfl, rfl, rfl, w2⟩ := open_string Try.underlying9 (hval 2 9 v2 rfl rfl) h2
  clear hA0 hval0
  refine (walk a0 len0 cap0 T0 (Z1 0) (Z1 1) (Z1 2) (Z1 3) a2 W w0 (w1 0 (by omega)) (w1 1 (by omega)) (w1 2 (by omega)) (w1 3 (by omega)) w2).mono fun e W' ⟨he, bel⟩ => ?_
  subst he
  exact ⟨_, rfl, _, _, _, [], _, [], hW', trodAll_mk1 (shut_bool Try.underlying4 _), (trodAll_cons_mk (Below.trod laidOut (by kernel_rfl) (of_decide_eq_true (by kernel_rfl)) k0 bel lt0) (trodAll_cons_mk (Below.trod laidOut (by kernel_rfl) (of_decide_eq_true (by kernel_rfl)) k1 bel lt1) (trodAll_cons_mk (shut_string Try.underlying9 w2) trodAll_mk0))), rfl, bel.frame _, fun h => by cases h⟩

theorem over : Rows.aeadBackRow.holds Try.pinned (OpenSpec.ofChange Rows.aeadBackSpec) :=
  OpenClaim.holds_of_wide 5 Try.f5 rfl rfl rfl rfl rfl rfl rfl ⟨rfl, rfl, rfl, rfl, rfl⟩ rfl rfl rfl rfl rfl (by kernel_rfl) Try.func5 (by kernel_rfl)
    (of_decide_eq_true (by kernel_rfl)) (by unfold Func.isWrapper; first | (rw [if_pos (by decide +kernel)]; kernel_rfl) | (rw [if_neg (by decide +kernel)]; exact ⟨rfl, rfl⟩))
    (fun os started H enc _ => lifted os started H enc)

theorem proved : Rows.AeadBackSaid := over
#print axioms proved
end Go.Proofs.Ytgfnngpbngmalaa.aeadBack
