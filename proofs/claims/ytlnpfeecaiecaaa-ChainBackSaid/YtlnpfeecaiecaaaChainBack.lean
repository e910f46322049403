/- ChainBack: who knows a later chain, whatever is broken, can make neither an earlier chain's key, nor an earlier epoch's; who knows a chain can make all later ones. No condition. (Ahead of it: chains from one Nonce: their terms, and what can be made of a later one.) -/
import Derived.Test.YtlnpfeecaiecaaaChnO
import Derived.Test.YtlnpfeecaiecaaaKnowC
import Derived.Test.YtlnpfeecaiecaaaRows
import Derived.WalkKit
import Derived.ProofKit
import Derived.OpenShut
import Derived.ShutString
import Derived.ChangeOld
import Derived.Below
namespace Go.Proofs.Ytlnpfeecaiecaaa
open Go.RowKit
set_option linter.unusedVariables false
set_option linter.unusedSimpArgs false
set_option maxRecDepth 20000
def fz7 : Tm := ⟨2, ⟨#[]⟩, 7, 0, 0, 0⟩
theorem wz7 : Wf fz7 := ⟨wf_emp, k2, by decide, k0, k0, k0⟩
theorem lz7 : putF [] 100 fz7 = (1, 0, [fz7]) := by simp [putF, Tm.may, May, below3, BadP, many, prt, nameOf, eqB, tl0, sz0, List.findIdx?_cons, zeroT, fz7, getT]
/-- The terms behind so many epochs. -/
def cL : Nat → List Tm
  | 0 => [fz7]
  | i + 1 => cL i ++ [keyT (2 * (i : Int) + 1) 1, keyT (2 * (i : Int) + 1) 2]
theorem cL_len : ∀ i, (cL i).length = 2 * i + 1
  | 0 => rfl
  | i + 1 => by simp [cL, cL_len i]; omega
theorem cL_mem : ∀ (i : Nat) (t : Tm), t ∈ cL i → t = fz7 ∨ ∃ (j : Nat) (l : Int), j < i ∧ t = keyT (2 * (j : Int) + 1) l
  | 0, t, h => .inl (by simpa [cL] using h)
  | i + 1, t, h => by
    simp only [cL, List.mem_append, List.mem_cons, List.not_mem_nil, or_false] at h
    rcases h with h | h | h
    · rcases cL_mem i t h with e | ⟨j, l, h1, h2⟩
      · exact .inl e
      · exact .inr ⟨j, l, by omega, h2⟩
    · exact .inr ⟨i, 1, by omega, h⟩
    · exact .inr ⟨i, 2, by omega, h⟩
theorem put_new {L : List Tm} {most : Int} {t : Tm} (hm : t.may L.length = true) (hr : (L.length : Int) < most) (hn : t ∉ L) : putF L most t = ((L.length : Int) + 1, 0, L ++ [t]) := by
  rcases putF_cases L most t with ⟨_, h⟩ | ⟨j, hj, hp, h, _⟩ | ⟨h, _⟩ | ⟨_, hp, _⟩
  · rw [hm] at h; cases h
  · exact absurd (by rw [← h]; simp [List.getD, hj]) hn
  · omega
  · exact hp
theorem cL_key {i : Nat} {l : Int} : keyT (2 * (i : Int) + 1) l ∉ cL i := fun h => by
  rcases cL_mem i _ h with e | ⟨j, m, h1, h2⟩
  · unfold keyT fz7 at e
    injection e with e1
    omega
  · rw [key_eq] at h2
    omega
theorem cL_seal {i : Nat} (hi : i ≤ 40) : putF (cL i) 100 (keyT (2 * (i : Int) + 1) 1) = (2 * (i : Int) + 2, 0, cL i ++ [keyT (2 * (i : Int) + 1) 1]) := by
  have hl := cL_len i
  rw [put_new (may_key (by rw [hl]; omega)) (by rw [hl]; omega) cL_key, hl]
  congr 1
  try (push_cast; omega)
theorem cL_next {i : Nat} (hi : i ≤ 40) : nextF (cL i ++ [keyT (2 * (i : Int) + 1) 1]) 100 ⟨2 * (i : Int) + 1, (i : Int)⟩ = (⟨2 * (i : Int) + 3, (i : Int) + 1⟩, 0, cL (i + 1)) := by
  have hl := cL_len i
  have h1 : (cL i ++ [keyT (2 * (i : Int) + 1) 1]).length = 2 * i + 2 := by simp [hl]
  have h2 : keyT (2 * (i : Int) + 1) 2 ∉ cL i ++ [keyT (2 * (i : Int) + 1) 1] := fun h => by
    rcases List.mem_append.1 h with q | q
    · exact cL_key q
    · have := List.mem_singleton.1 q
      rw [key_eq] at this
      omega
  have h3 := put_new (most := 100) (may_key (w := 2) (k := 2 * (i : Int) + 1) (by rw [h1]; omega)) (by rw [h1]; omega) h2
  rw [h1] at h3
  have h4 : cL i ++ [keyT (2 * (i : Int) + 1) 1] ++ [keyT (2 * (i : Int) + 1) 2] = cL (i + 1) := by simp [cL]
  rw [h4] at h3
  rw [next_yes (c := ⟨2 * (i : Int) + 1, (i : Int)⟩) (badE_ok (by show (0 : Int) ≤ (i : Int); omega) (by show (i : Int) ≤ 999; omega)) h3]
  congr 2
  try (push_cast; omega)
theorem cL_fine : ∀ i, i ≤ 40 → Fine (cL i)
  | 0, _ => Fine.nil.of wz7 lz7
  | i + 1, h => by
    have h1 := (cL_fine i (by omega)).of (key_wf (i64_small (by omega) (by omega)) u1) (cL_seal (by omega))
    exact h1.of (key_wf (i64_small (by omega) (by omega)) u2) (next_ok (cL_next (i := i) (by omega))).2.2
def chs (i : Nat) : List Int := List.map (fun (j : Nat) => 2 * (j : Int) + 1) (List.range i)
def kys (i : Nat) : List Int := List.map (fun (j : Nat) => 2 * (j : Int) + 2) (List.range i)
theorem chs_len (i : Nat) : (chs i).length = i := by simp [chs]
theorem kys_len (i : Nat) : (kys i).length = i := by simp [kys]
theorem chs_snoc (i : Nat) : chs i ++ [2 * (i : Int) + 1] = chs (i + 1) := by simp [chs, List.range_succ]
theorem kys_snoc (i : Nat) : kys i ++ [2 * (i : Int) + 2] = kys (i + 1) := by simp [kys, List.range_succ]
theorem chs_get {i j : Nat} (h : j < i) : (chs i).getD j 0 = 2 * (j : Int) + 1 := by simp [chs, List.getD, h]
theorem kys_get {i j : Nat} (h : j < i) : (kys i).getD j 0 = 2 * (j : Int) + 2 := by simp [kys, List.getD, h]
def lks (m k : Nat) : List Int := List.map (fun (j : Nat) => 2 * (k : Int) + 2 + (j : Int)) (List.range (2 * (m - k)))
def rng (m k : Nat) : List Int := List.map (fun (j : Nat) => 2 * (k : Int) + 1 + (j : Int)) (List.range (2 * (m - k) + 1))
set_option maxRecDepth 100000 in
theorem back_all : ∀ m : Fin 12, ∀ k : Fin 12, k.1 < m.1 → stepOk (cL m.1) true true (looks (cL m.1) true true [2 * (k.1 : Int) + 1] (lks m.1 k.1)) = true ∧ namesIn (cL m.1) (has (looks (cL m.1) true true [2 * (k.1 : Int) + 1] (lks m.1 k.1))) = rng m.1 k.1 := by decide +kernel
/-- What can be made of a later chain's key: all that lies behind it, and nothing ahead of it. -/
theorem back_names {m k : Nat} (hm : m ≤ 11) (hk : k < m) {C : Int → Bool} (hC : Least (cL m) [2 * (k : Int) + 1] true true C) : namesIn (cL m) C = rng m k := by
  obtain ⟨h1, h2⟩ := back_all ⟨m, by omega⟩ ⟨k, by omega⟩ hk
  refine names_are hC (lks m k) (fun x hx => ?_) h1 h2
  simp only [lks, List.mem_map, List.mem_range] at hx
  obtain ⟨j, hj, rfl⟩ := hx
  unfold InL
  rw [cL_len]
  omega
theorem rng_chain {m k i : Nat} (hi : i < m) (hk : k < m) : decide ((2 * (i : Int) + 1) ∈ rng m k) = decide (k ≤ i) := by
  rw [Bool.eq_iff_iff, decide_eq_true_eq, decide_eq_true_eq]
  simp only [rng, List.mem_map, List.mem_range]
  constructor
  · rintro ⟨j, h1, h2⟩; omega
  · intro h; exact ⟨2 * (i - k), by omega, by omega⟩
theorem rng_key {m k i : Nat} (hi : i < m) (hk : k < m) : decide ((2 * (i : Int) + 2) ∈ rng m k) = decide (k ≤ i) := by
  rw [Bool.eq_iff_iff, decide_eq_true_eq, decide_eq_true_eq]
  simp only [rng, List.mem_map, List.mem_range]
  constructor
  · rintro ⟨j, h1, h2⟩; omega
  · intro h; exact ⟨2 * (i - k) + 1, by omega, by omega⟩
end Go.Proofs.Ytlnpfeecaiecaaa

namespace Go.Proofs.Ytlnpfeecaiecaaa.chainBack
open Go.ChangeShapes Go.WideShapes Go.ChangeAt Go.RowKit
open Go.ChangeMaps (open_string shut_string)
open Go.Proofs.Ytlnpfeecaiecaaa
set_option linter.unusedVariables false
set_option linter.unusedSimpArgs false
set_option maxRecDepth 20000

theorem own : ownKnob Try.prog.godebug = none := by kernel_rfl
theorem laidOut : laidOutB Try.prog = true := by kernel_rfl
theorem lit_one (w : World) (x : Int) : IntsAt (w.alloc (.cells #[.int .i64 x] 3)) (some ⟨w.heap.size, 0, none⟩) 1 [x] := by
  refine ⟨by simp, by decide, w.heap.size, 0, fun k hk => ⟨rfl, ?_⟩⟩
  have hk0 : k = 0 := by simp at hk; omega
  subst hk0
  exact cell_of_row _ _ 0 _ _ _ (heap_alloc_new w (.cells #[.int .i64 x] 3))
theorem dis_cons {bs : List (Nat × Obj)} {k X : Nat} {O : Obj} (h : ¬ ∃ o', (k, o') ∈ bs) (hn : X ≠ k) : ¬ ∃ o', (k, o') ∈ (X, O) :: bs := fun ⟨o', e⟩ => by
  rcases List.mem_cons.1 e with q | q
  · injection q with q1 q2
    exact hn q1.symm
  · exact h ⟨o', q⟩
theorem chs_snoc' {i : Nat} {c : Int} (h : c = 2 * (i : Int) + 1) : chs i ++ [c] = chs (i + 1) := by rw [h]; exact chs_snoc i
theorem kys_snoc' {i : Nat} {c : Int} (h : c = 2 * (i : Int) + 2) : kys i ++ [c] = kys (i + 1) := by rw [h]; exact kys_snoc i
theorem app_one {base : Nat} {Q1 Q2 : (Nat → Prop) → List Tm → World → Prop} {L1 L2 : List Tm} {bs rs : List (Nat × Obj)} {w0 w w' : World} {v : Value} {xs ys : List Int} {n : Nat} (g1 : Good base Q1) (g2 : Good base Q2) (h : Cs base Q1 Q2 L1 L2 (rs ++ bs) w0 w) (hr : RowC base v xs rs) (hn : xs.length = n) {x : Int} (hy : xs ++ [x] = ys) (hd : ∀ k o, (k, o) ∈ rs → ¬ ∃ o', (k, o') ∈ bs) {g cap : Nat} {o : Obj}
    (hown : w'.ownsRow base 3 1 (.slice (some ⟨g, 0, none⟩) (n + 1) cap) (n + 1) (intsR xs ++ [.int .i64 x])) (hgrow : (w.alloc o).grownBy w' v.ownBlock) (hat : v.ownBlock = some g ∨ g = w.heap.size + 1) :
    ∃ rs', RowC base (.slice (some ⟨g, 0, none⟩) (n + 1) cap) ys rs' ∧ Cs base Q1 Q2 L1 L2 (rs' ++ bs) w0 w' ∧ ∀ k o, (k, o) ∈ rs' → ¬ ∃ o', (k, o') ∈ bs := by
  subst hn hy
  obtain ⟨rs', h1, h2, h3⟩ := h.app g1 g2 hr hd hown hgrow hat
  rw [show (xs ++ [x]).length = xs.length + 1 by simp] at h1
  exact ⟨rs', h1, h2, h3⟩
set_option maxHeartbeats 2000000 in
set_option maxRecDepth 100000 in
theorem walk (x0 x1 : Int) (w : World) (w0 : (Lit.int .u8 x0).wf = true) (w1 : (Lit.int .u8 x1).wf = true) :
    Calls Try.prog 5 #[.int .u8 x0, .int .u8 x1] w fun e w' => e = .returned (.bool true) ∧ Below w.heap.size w w' := by
  obtain ⟨y0, y1⟩ := Go.bounds_u8 w0
  obtain ⟨N, rfl⟩ := Int.eq_ofNat_of_zero_le y0
  obtain ⟨y2, y3⟩ := Go.bounds_u8 w1
  obtain ⟨A, rfl⟩ := Int.eq_ofNat_of_zero_le y2
  obtain ⟨R, hR⟩ : ∃ R, N % 10 = R := ⟨_, rfl⟩
  obtain ⟨m, hm⟩ : ∃ m, 2 + R = m := ⟨_, rfl⟩
  obtain ⟨kk, hkk⟩ : ∃ k, A % m = k := ⟨_, rfl⟩
  have e1 : (N : Int) % 10 = (R : Int) := by rw [← hR]; simp
  have e2 : (N : Int).tmod 10 = (R : Int) := by rw [Int.tmod_eq_emod_of_nonneg (by omega)]; exact e1
  have e3 : 2 + (R : Int) = (m : Int) := by omega
  have e4 : (A : Int) % (m : Int) = (kk : Int) := by rw [← hkk]; simp
  have e5 : (A : Int).tmod (m : Int) = (kk : Int) := by rw [Int.tmod_eq_emod_of_nonneg (by omega)]; exact e4
  have hkm : kk < m := by rw [← hkk]; exact Nat.mod_lt _ (by omega)
  have HM : Hid (2 ≤ m ∧ m ≤ 11 ∧ kk < m) := Lib.hid (by omega)
  have em0 : ((m : Int) == 0) = false := by simp; omega
  have em1 : ¬ (m : Int) = 0 := by omega
  have em2 : ¬ m = 0 := by omega
  have bm : (m : Int) ≤ 11 := by omega
  have bN : (N : Int) ≤ 255 := by omega
  have bA : (A : Int) ≤ 255 := by omega
  have bR : (R : Int) ≤ 9 := by omega
  have eN : IntKind.i64.wrap (N : Int) = (N : Int) := by simp [IntKind.wrap, IntKind.signed, IntKind.bits]; omega
  have eA : IntKind.i64.wrap (A : Int) = (A : Int) := by simp [IntKind.wrap, IntKind.signed, IntKind.bits]; omega
  have gN := NoS.good w.heap.size
  clear w0 w1 y0 y1 y2 y3 hR hm hkk hkm
  go_enter Try.func5, Try.ntmps5
  go_wp2_with fail
  refine (Pair.new1 (base := w.heap.size) (w0 := w) rfl (Below.refl _ _) (by omega) (by omega)).mono ?_
  rintro e w1 ⟨g, rfl, h1⟩
  have gP := PSq.good w.heap.size g 100
  have HC := Lib.hid (Cs.start h1)
  clear h1
  go_wp2_with fail
  refine (HC.out.pair.putP gN fz7 wz7 lz7).mono ?_
  rintro e w2 ⟨rfl, hp, hk⟩
  replace HC := Lib.hid (HC.out.step hp hk)
  clear hp hk
  have HBC : Hid (w.heap.size ≤ w2.heap.size) := Lib.hid HC.out.low.size
  replace HC := Lib.hid (HC.out.box gP gN #[.int .i64 1, .int .i64 0] 30)
  go_upto_region 6 with fail
  generalize hwb : w2.alloc (.cells #[.int .i64 1, .int .i64 0] 30 : Obj) = wb at HC ⊢
  generalize hxb : w2.heap.size = Bc at HC HBC ⊢
  clear hwb hxb
  obtain ⟨ra1, ra2, ra3⟩ := HC.out.newRow gP gN
  obtain ⟨rb1, rb2, rb3⟩ := ra2.newRow gP gN
  have HR0 : Hid (RowC w.heap.size (.slice (some ⟨wb.heap.size, 0, none⟩) 0 0) (chs 0) [(wb.heap.size, (.cells #[] 3 (0, 0) : Obj))] ∧ RowC w.heap.size (.slice (some ⟨wb.heap.size + 1, 0, none⟩) 0 0) (kys 0) [(wb.heap.size + 1, (.cells #[] 3 (0, 0) : Obj))] ∧ (∀ k o, (k, o) ∈ [(wb.heap.size, (.cells #[] 3 (0, 0) : Obj))] → ¬ ∃ o', (k, o') ∈ ([(wb.heap.size + 1, (.cells #[] 3 (0, 0) : Obj))] ++ [(Bc, (.cells #[.int .i64 1, .int .i64 ((0 : Nat) : Int)] 30 (0, 0) : Obj))])) ∧ (∀ k o, (k, o) ∈ [(wb.heap.size + 1, (.cells #[] 3 (0, 0) : Obj))] → ¬ ∃ o', (k, o') ∈ [(Bc, (.cells #[.int .i64 1, .int .i64 ((0 : Nat) : Int)] 30 (0, 0) : Obj))])) := Lib.hid (by
    have hl := HC.out.pair.klt Bc ⟨_, List.mem_singleton.2 rfl⟩
    refine ⟨ra1, by simpa [kys] using rb1, fun k o q e => ?_, fun k o q e => ?_⟩
    · obtain ⟨o', e⟩ := e
      simp at q e
      rcases e with ⟨e, _⟩ | ⟨e, _⟩ <;> omega
    · obtain ⟨o', e⟩ := e
      simp at q e
      omega)
  replace HC : Hid (Cs w.heap.size (PSq w.heap.size g 100) NoS (cL 0) [] ([(wb.heap.size, (.cells #[] 3 (0, 0) : Obj))] ++ ([(wb.heap.size + 1, (.cells #[] 3 (0, 0) : Obj))] ++ [(Bc, (.cells #[.int .i64 1, .int .i64 ((0 : Nat) : Int)] 30 (0, 0) : Obj))])) w ((wb.alloc (.cells #[] 3 : Obj)).alloc (.cells #[] 3 : Obj))) := Lib.hid (rb2.less (fun z hz => by simp at hz ⊢; rcases hz with q | q | q <;> simp [q]))
  clear ra1 ra2 ra3 rb1 rb2 rb3
  go_wp2_with fail
  go_loopg [10, 11, 13] m (fun gk s10 s11 s13 wr => ∃ (i : Nat) (ci : Int) (v1 v2 : Value) (rc rk : List (Nat × Obj)), i + gk = m ∧ v1 = s10 ∧ v2 = s11 ∧ s13 = .int .i64 (i : Nat) ∧ Hid (ci = 2 * (i : Int) + 1) ∧ Hid (RowC w.heap.size v1 (chs i) rc ∧ RowC w.heap.size v2 (kys i) rk) ∧ Hid ((∀ k o, (k, o) ∈ rc → ¬ ∃ o', (k, o') ∈ (rk ++ [(Bc, (.cells #[.int .i64 ci, .int .i64 (i : Int)] 30 (0, 0) : Obj))])) ∧ (∀ k o, (k, o) ∈ rk → ¬ ∃ o', (k, o') ∈ [(Bc, (.cells #[.int .i64 ci, .int .i64 (i : Int)] 30 (0, 0) : Obj))])) ∧ Hid (Cs w.heap.size (PSq w.heap.size g 100) NoS (cL i) [] (rc ++ (rk ++ [(Bc, (.cells #[.int .i64 ci, .int .i64 (i : Int)] 30 (0, 0) : Obj))])) w wr))
  case atStart => exact ⟨0, 1, _, _, _, _, by omega, rfl, rfl, rfl, Lib.hid rfl, Lib.hid ⟨HR0.out.1, HR0.out.2.1⟩, Lib.hid ⟨HR0.out.2.2.1, HR0.out.2.2.2⟩, HC⟩
  case round =>
    clear HC HR0
    obtain ⟨i, ci, v1, v2, rc, rk, hi, rfl, rfl, rfl, HCI, HRW, HDI, HC⟩ := hrel
    by_cases him : i < m
    · have i1 : (i : Int) < (m : Int) := by omega
      have i0' : (0 : Int) ≤ (i : Int) := by omega
      obtain ⟨i2, hi2⟩ : ∃ j, i + 1 = j := ⟨_, rfl⟩
      obtain ⟨ki, hki⟩ : ∃ z, ci + 1 = z := ⟨_, rfl⟩
      obtain ⟨cj, hcj⟩ : ∃ z, ci + 2 = z := ⟨_, rfl⟩
      have hcv := HCI.out
      have hmm := HM.out
      have HSE : Hid (putF (cL i) 100 (keyT ci 1) = (ki, 0, cL i ++ [keyT ci 1])) := Lib.hid (by rw [← hki, hcv]; have := cL_seal (i := i) (by omega); rw [this]; congr 1 <;> omega)
      have HNX : Hid (nextF (cL i ++ [keyT ci 1]) 100 ⟨ci, (i : Int)⟩ = (⟨cj, (i2 : Int)⟩, 0, cL (i + 1))) := Lib.hid (by rw [← hcj, ← hi2, hcv]; have := cL_next (i := i) (by omega); rw [this]; congr 2 <;> omega)
      have HI64 : Hid (I64 ci) := Lib.hid (i64_small (by omega) (by omega))
      have HE64 : Hid (I64 (i : Int)) := Lib.hid (i64_small (by omega) (by omega))
      have HI9 : Hid (i < m ∧ m ≤ 11 ∧ i + gk = m ∧ i + 1 = i2) := Lib.hid ⟨him, by omega, hi, hi2⟩
      have HKI : Hid (ki = 2 * (i : Int) + 2 ∧ cj = 2 * (i2 : Int) + 1) := Lib.hid (by omega)
      clear hi him hi2 hki hcj hcv hmm
      obtain ⟨cf0, cf1, cf2, cf3⟩ := cells2 (HC.out.kept (Bc) (.cells #[.int .i64 ci, .int .i64 (i : Int)] 30 (0, 0) : Obj) (by simp))
      go_wp2_with fail
      clear cf0 cf1 cf2 cf3
      refine (HC.out.pair.csealP gN HI64.out HSE.out).mono ?_
      rintro e w11 ⟨rfl, hp, hk⟩
      replace HC := Lib.hid (HC.out.step hp hk)
      clear hp hk
      obtain ⟨cf0, cf1, cf2, cf3⟩ := cells2 (HC.out.kept (Bc) (.cells #[.int .i64 ci, .int .i64 (i : Int)] 30 (0, 0) : Obj) (by simp))
      go_wp2_with fail
      clear cf0 cf1 cf2 cf3
      refine (HC.out.pair.cnextP gN HI64.out HE64.out HNX.out).mono ?_
      rintro e w12 ⟨rfl, hp, hk⟩
      replace HC := Lib.hid (HC.out.step hp hk)
      clear hp hk
      have hlt9 := HC.out.pair.klt Bc ⟨(.cells #[.int .i64 ci, .int .i64 (i : Int)] 30 (0, 0) : Obj), by simp⟩
      have HBX : Hid (w12.heap.size ≠ Bc) := Lib.hid (fun e => by omega)
      have HRX : Hid (∀ k o, (k, o) ∈ rc ++ rk → w12.heap.size ≠ k) := Lib.hid (fun k o q e => by have := HC.out.pair.klt k ⟨o, by rcases List.mem_append.1 q with a | a <;> simp [a]⟩; omega)
      clear hlt9
      replace HC := Lib.hid (HC.out.box gP gN #[.int .i64 cj, .int .i64 (i2 : Int)] 30)
      go_upto_region 15 with fail
      generalize hwd : w12.alloc (.cells #[.int .i64 cj, .int .i64 (i2 : Int)] 30 : Obj) = wd at HC ⊢
      generalize hxd : w12.heap.size = Xd at HC HBX HRX ⊢
      clear hwd hxd
      obtain ⟨i0, hi0, hz0, hz1, hz2⟩ := info_parts2
      have HSZ : Hid (w.heap.size ≤ wd.heap.size) := Lib.hid HC.out.low.size
      have HRow : Hid (wd.ownsRow w.heap.size 3 1 v1 i (intsR (chs i))) := Lib.hid (by
        have h9 := HRW.out.1.owns (u := wd) (fun k o q => HC.out.kept k o (by simp [q]))
        rwa [chs_len] at h9)
      obtain ⟨c0, c1, _, _⟩ := cells2 (HC.out.kept Bc (.cells #[.int .i64 ci, .int .i64 (i : Int)] 30 (0, 0) : Obj) (by simp))
      go_upto_region 16 with (at_builtin; refine wpList_append_lies _ rfl _ _ 41 rfl w.heap.size 3 i0 (.int .i64 0) 1 8 Try.underlying41 hi0 hz0 hz1 hz2 rfl (by decide) _ _ _ rfl (HRow.out.alloc _) ⟨_, 0, none⟩ 1 1 [.int .i64 ci] rfl rfl (World.news_of_block (cs := #[.int .i64 ci]) (t := 3) (fr := (0, 0)) (heap_alloc_new _ _)) (by simp [Value.oneCell']) (by omega) (by unfold maxLen; have := HI9.out; omega) (by have := HI9.out; omega) (by have := HSZ.out; simp; omega) _ (by simp; rfl) ?_; intro g3 cap3 w3 hown hgrow hat hlt3; have hx : ∃ rc', RowC w.heap.size (.slice (some ⟨g3, 0, none⟩) (i + 1) cap3) (chs (i + 1)) rc' ∧ Cs w.heap.size (PSq w.heap.size g 100) NoS (cL (i + 1)) [] (rc' ++ ((Xd, (.cells #[.int .i64 cj, .int .i64 (i2 : Int)] 30 (0, 0) : Obj)) :: (rk ++ [(Bc, (.cells #[.int .i64 ci, .int .i64 (i : Int)] 30 (0, 0) : Obj))]))) w w3 ∧ (∀ k o, (k, o) ∈ rc' → ¬ ∃ o', (k, o') ∈ ((Xd, (.cells #[.int .i64 cj, .int .i64 (i2 : Int)] 30 (0, 0) : Obj)) :: (rk ++ [(Bc, (.cells #[.int .i64 ci, .int .i64 (i : Int)] 30 (0, 0) : Obj))]))) := app_one gP gN (HC.out.less (fun z hz => by simp at hz ⊢; rcases hz with q | q | q | q <;> simp [q])) HRW.out.1 (chs_len i) (chs_snoc' HCI.out) (fun k o q e => dis_cons (HDI.out.1 k o q) (HRX.out k o (List.mem_append.2 (.inl q))) e) hown hgrow hat; obtain ⟨rc', hr', hc', hd'⟩ := hx; have HC3 := Lib.hid hc'; have HR3 := Lib.hid hr'; have HD3 := Lib.hid hd'; clear hown hgrow hat hlt3 hr' hc' hd')
      clear c0 c1 HC
      have HSZ3 : Hid (w.heap.size ≤ w3.heap.size) := Lib.hid HC3.out.low.size
      have HRow2 : Hid (w3.ownsRow w.heap.size 3 1 v2 i (intsR (kys i))) := Lib.hid (by
        have h9 := HRW.out.2.owns (u := w3) (fun k o q => HC3.out.kept k o (by simp [q]))
        rwa [kys_len] at h9)
      have HDK : Hid (∀ k o, (k, o) ∈ rk → ¬ ∃ o', (k, o') ∈ (rc' ++ [(Xd, (.cells #[.int .i64 cj, .int .i64 (i2 : Int)] 30 (0, 0) : Obj)), (Bc, (.cells #[.int .i64 ci, .int .i64 (i : Int)] 30 (0, 0) : Obj))])) := Lib.hid (fun k o q e => by
        obtain ⟨o', e⟩ := e
        rcases List.mem_append.1 e with a | a
        · exact HD3.out k o' a ⟨o, by simp [q]⟩
        · rcases List.mem_cons.1 a with a | a
          · injection a with a1 _
            exact HRX.out k o (List.mem_append.2 (.inr q)) a1.symm
          · exact HDI.out.2 k o q ⟨o', a⟩)
      go_wp2_with (at_builtin; refine wpList_append_lies _ rfl _ _ 41 rfl w.heap.size 3 i0 (.int .i64 0) 1 8 Try.underlying41 hi0 hz0 hz1 hz2 rfl (by decide) _ _ _ rfl (HRow2.out.alloc _) ⟨_, 0, none⟩ 1 1 [.int .i64 ki] rfl rfl (World.news_of_block (cs := #[.int .i64 ki]) (t := 3) (fr := (0, 0)) (heap_alloc_new _ _)) (by simp [Value.oneCell']) (by omega) (by unfold maxLen; have := HI9.out; omega) (by have := HI9.out; omega) (by have := HSZ3.out; simp; omega) _ (by simp; rfl) ?_; intro g4 cap4 w4 hown hgrow hat hlt3; have hx : ∃ rk', RowC w.heap.size (.slice (some ⟨g4, 0, none⟩) (i + 1) cap4) (kys (i + 1)) rk' ∧ Cs w.heap.size (PSq w.heap.size g 100) NoS (cL (i + 1)) [] (rk' ++ (rc' ++ [(Xd, (.cells #[.int .i64 cj, .int .i64 (i2 : Int)] 30 (0, 0) : Obj)), (Bc, (.cells #[.int .i64 ci, .int .i64 (i : Int)] 30 (0, 0) : Obj))])) w w4 ∧ (∀ k o, (k, o) ∈ rk' → ¬ ∃ o', (k, o') ∈ (rc' ++ [(Xd, (.cells #[.int .i64 cj, .int .i64 (i2 : Int)] 30 (0, 0) : Obj)), (Bc, (.cells #[.int .i64 ci, .int .i64 (i : Int)] 30 (0, 0) : Obj))])) := app_one gP gN (HC3.out.less (fun z hz => by simp at hz ⊢; rcases hz with q | q | q | q <;> simp [q])) HRW.out.2 (kys_len i) (kys_snoc' HKI.out.1) HDK.out hown hgrow hat; obtain ⟨rk', hr', hc', hd'⟩ := hx; have HC4 := Lib.hid hc'; have HR4 := Lib.hid hr'; have HD4 := Lib.hid hd'; obtain ⟨d0, d1, _, _⟩ := cells2 (HC4.out.kept Xd (.cells #[.int .i64 cj, .int .i64 (i2 : Int)] 30 (0, 0) : Obj) (by simp)); obtain ⟨c0, c1, c2, c3⟩ := cells2 (HC4.out.kept Bc (.cells #[.int .i64 ci, .int .i64 (i : Int)] 30 (0, 0) : Obj) (by simp)); clear hown hgrow hat hlt3 hr' hc' hd')
      have hii := HI9.out.2.2.2
      subst hii
      have HCN : Hid (Cs w.heap.size (PSq w.heap.size g 100) NoS (cL (i + 1)) [] (rc' ++ (rk' ++ [(Bc, (.cells #[.int .i64 cj, .int .i64 ((i + 1 : Nat) : Int)] 30 (0, 0) : Obj))])) w ((w4.setCell ⟨Bc, 0, none⟩ (.int .i64 cj)).setCell ⟨Bc, 1, none⟩ (.int .i64 ((i + 1 : Nat) : Int)))) := Lib.hid (HC4.out.fill gP gN (B := Bc) (x := .int .i64 ci) (y := .int .i64 (i : Int)) (T := 30) (by simp) HBC.out (.int .i64 cj) (.int .i64 ((i + 1 : Nat) : Int)) (fun z hz => by
        rcases List.mem_append.1 hz with e | e
        · exact .inr ⟨by simp [e], fun e2 => HD3.out z.1 z.2 e ⟨(.cells #[.int .i64 ci, .int .i64 (i : Int)] 30 (0, 0) : Obj), by rw [e2]; simp⟩⟩
        · rcases List.mem_append.1 e with e | e
          · exact .inr ⟨by simp [e], fun e2 => HD4.out z.1 z.2 e ⟨(.cells #[.int .i64 ci, .int .i64 (i : Int)] 30 (0, 0) : Obj), by rw [e2]; simp⟩⟩
          · exact .inl (List.mem_singleton.1 e)))
      have HDN : Hid ((∀ k o, (k, o) ∈ rc' → ¬ ∃ o', (k, o') ∈ (rk' ++ [(Bc, (.cells #[.int .i64 cj, .int .i64 ((i + 1 : Nat) : Int)] 30 (0, 0) : Obj))])) ∧ (∀ k o, (k, o) ∈ rk' → ¬ ∃ o', (k, o') ∈ [(Bc, (.cells #[.int .i64 cj, .int .i64 ((i + 1 : Nat) : Int)] 30 (0, 0) : Obj))])) := Lib.hid ⟨fun k o q e => by
        obtain ⟨o', e⟩ := e
        rcases List.mem_append.1 e with a | a
        · exact HD4.out k o' a ⟨o, by simp [q]⟩
        · have a2 := List.mem_singleton.1 a
          injection a2 with a3 _
          exact HD3.out k o q ⟨(.cells #[.int .i64 ci, .int .i64 (i : Int)] 30 (0, 0) : Obj), by rw [a3]; simp⟩, fun k o q e => by
        obtain ⟨o', e⟩ := e
        have a2 := List.mem_singleton.1 e
        injection a2 with a3 _
        exact HD4.out k o q ⟨(.cells #[.int .i64 ci, .int .i64 (i : Int)] 30 (0, 0) : Obj), by rw [a3]; simp⟩⟩
      go_roundg (gk - 1)
      case rel => exact ⟨i + 1, cj, _, _, rc', rk', by have := HI9.out; omega, rfl, rfl, by go_num, Lib.hid (by have := HKI.out.2; push_cast at this ⊢; omega), Lib.hid ⟨HR3.out, HR4.out⟩, HDN, by simpa using HCN⟩
      case measure => have := HI9.out; omega
    · obtain rfl : i = m := by omega
      have i1 : decide ((i : Int) < (i : Int)) = false := decide_eq_false (by omega)
      have hmm := HM.out
      obtain ⟨a1, p1, hv1, hs1⟩ := HRW.out.1.slice
      obtain ⟨a2, p2, hv2, hs2⟩ := HRW.out.2.slice
      rw [chs_len] at hv1
      rw [kys_len] at hv2
      subst hv1 hv2
      have HS1 := Lib.hid hs1
      have HS2 := Lib.hid hs2
      have hch := HS1.out wr (fun k o q => HC.out.kept k o (by simp [q]))
      obtain ⟨_, _, bk, ok, hcc⟩ := hch
      obtain ⟨ha1, hq⟩ := hcc kk (by rw [chs_len]; omega)
      rw [chs_get hmm.2.2] at hq
      obtain ⟨ck, hck⟩ : ∃ z : Int, 2 * (kk : Int) + 1 = z := ⟨_, rfl⟩
      rw [hck] at hq
      have HCK := Lib.hid hck.symm
      have ki : (kk : Int) < (i : Int) := by omega
      have k0' : (0 : Int) ≤ (kk : Int) := by omega
      subst ha1
      have hin : ∀ a, a ∈ [ck] → InL (cL i) a := fun a ha => by
        rw [List.mem_singleton.1 ha]
        unfold InL
        rw [cL_len]
        omega
      have HFA := Lib.hid HC.out.pair.facts.1
      obtain ⟨C, hC⟩ := least_is HFA.out hin true true
      have HLS := Lib.hid hC
      have HIN := Lib.hid hin
      have HNM : Hid (namesIn (cL i) C = rng i kk) := Lib.hid (back_names hmm.2.1 hmm.2.2 (by rw [hck]; exact hC))
      have HC1 := Lib.hid (HC.out.box gP gN #[.int .i64 ck] 3)
      have HKN : Hid (Known (wr.alloc (.cells #[.int .i64 ck] 3 : Obj)) g (cL i)) := Lib.hid (HC1.out.pair.known (cL_fine i (by omega)))
      clear hs1 hs2 hcc hck hin hC hmm hi him HC
      go_wp2_with fail
      refine (all_least HKN.out HLS.out HIN.out _ _ _ rfl (lit_one wr ck)).mono ?_
      rintro e wl ⟨al, nl, cl, rfl, hnl, hown, hb⟩
      replace HC1 := Lib.hid (HC1.out.below gP gN hb)
      rw [HNM.out] at hown hnl
      obtain ⟨al', cl', hvl, hil⟩ := IntsAt.own hown
      injection hvl with e11 e12 e13
      subst e11 e13
      have HIL := Lib.hid hil
      have HNL := Lib.hid hnl
      have HI1 := Lib.hid (HS1.out wl (fun k o q => HC1.out.kept k o (by simp [q])))
      have HI2 := Lib.hid (HS2.out wl (fun k o q => HC1.out.kept k o (by simp [q])))
      clear hb hown hnl hil e12 hq
      go_wp2_with fail
      go_loopg [21] i (fun gk s21 wx => ∃ j : Nat, j + gk = i ∧ s21 = .int .i64 (j : Nat) ∧ Hid (Below wl.heap.size wl wx))
      case atStart => exact ⟨0, by omega, rfl, Lib.hid (Below.refl _ _)⟩
      case round =>
        obtain ⟨j, hj, rfl, HB⟩ := hrel
        by_cases hji : j < i
        · have j1 : (j : Int) < (i : Int) := by omega
          have j0 : (0 : Int) ≤ (j : Int) := by omega
          obtain ⟨b, hbb⟩ : ∃ b, decide (kk ≤ j) = b := ⟨_, rfl⟩
          have g1 : decide ((kk : Int) ≤ (j : Int)) = b := by rw [← hbb]; exact decide_eq_decide.2 (by omega)
          have g2 : (b != b) = false := by simp
          have hx1 := HI1.out.below HB.out
          have hx2 := HI2.out.below HB.out
          obtain ⟨_, _, b3, o3, hx1⟩ := hx1
          obtain ⟨_, _, b4, o4, hx2⟩ := hx2
          obtain ⟨hab, hq1⟩ := hx1 j (by rw [chs_len]; exact hji)
          obtain ⟨hab2, hq2⟩ := hx2 j (by rw [kys_len]; exact hji)
          rw [chs_get hji] at hq1
          rw [kys_get hji] at hq2
          injection hab with hab
          injection hab with e1 e2 _
          subst e1 e2 hab2
          obtain ⟨z1, hz1⟩ : ∃ z : Int, 2 * (j : Int) + 1 = z := ⟨_, rfl⟩
          obtain ⟨z2, hz2⟩ : ∃ z : Int, 2 * (j : Int) + 2 = z := ⟨_, rfl⟩
          rw [hz1] at hq1
          rw [hz2] at hq2
          have HJ := Lib.hid (And.intro hj hji)
          have HH : Hid (∀ W x, (x = z1 ∨ x = z2) → Below wl.heap.size wl W → Calls Try.prog 24 #[.slice al nl cl, .int .i64 x] W fun e w' => e = .returned (.bool b) ∧ Below W.heap.size W w') := Lib.hid (fun W x hx hW => (has_k al cl nl (rng i kk) x HNL.out.symm W (HIL.out.below hW)).mono fun e w' h => ⟨h.1.trans (by
            rw [← hbb]
            rcases hx with e | e
            · rw [e, ← hz1, rng_chain hji HM.out.2.2]
            · rw [e, ← hz2, rng_key hji HM.out.2.2]), h.2⟩)
          have HQ2 := Lib.hid hq2
          clear hx1 hx2 hz1 hz2 hj hji hq2
          go_wp2_with fail
          refine (HH.out _ z1 (.inl rfl) HB.out).mono ?_
          rintro e wm ⟨rfl, hb⟩
          have hq2 : wm.cell? ⟨b4, o4 + j, none⟩ = some (.int .i64 z2) := (hb.cell (block_lt_of_cell HQ2.out)).trans HQ2.out
          replace HB := Lib.hid (HB.out.trans (hb.mono HB.out.size))
          clear hb hq1
          go_wp2_with fail
          refine (HH.out _ z2 (.inr rfl) HB.out).mono ?_
          rintro e wn ⟨rfl, hb⟩
          replace HB := Lib.hid (HB.out.trans (hb.mono HB.out.size))
          clear hb hq2
          go_wp2_with fail
          go_roundg (i - (j + 1))
          case rel => exact ⟨j + 1, by have := HJ.out; omega, by go_num, HB⟩
          case measure => have := HJ.out; omega
        · obtain rfl : j = i := by omega
          have j1 : decide ((j : Int) < (j : Int)) = false := decide_eq_false (by omega)
          clear hj hji
          go_wp2_with fail
          refine (fixed_any _).mono ?_
          rintro e w99 ⟨rfl, hb⟩
          have HZ := Lib.hid (HC1.out.low.trans ((HB.out.trans (hb.mono HB.out.size)).mono HC1.out.low.size))
          clear hb
          go_wp2_with fail
          go_ret
          exact ⟨rfl, HZ.out⟩
set_option maxRecDepth 100000 in
theorem lifted (os : Os) (started : os.Started) (H : Type) (enc : TypeId × Value → H) :
    ReturnsInHanded {} Try.checked os 5 .any (Rows.chainBackSpec.pre6 enc Try.prog Try.f5 Rows.chainBackRow.domain false) (Rows.chainBackSpec.post enc Try.prog Try.f5 false true false false) := by
  refine returnsInHanded_of_change (C := Try.checked) own started (by kernel_rfl) Try.func5
    (ChangeSpec.witness6 (enc := enc) (C := Try.checked) false ⟨#[], #[.int .u8 0, .int .u8 0], []⟩ 8 (by kernel_rfl) (by kernel_rfl) (by kernel_rfl) (by kernel_rfl)) ?_
  intro W base args ds gs before hval0 hW hcnd _
  have hval : ∀ (j : Nat) t v, Try.f5.params[j]? = some t → args[j]? = some v → Value.okWide Try.prog W .any base t v := hval0
  have hW' := hW
  obtain ⟨p, q, hA0, hV, rfl, hfz, hnd⟩ := hW
  have hA : DataW.TrodAll enc Try.prog W 0 (fun _ => true) true Try.f5.params.toList args.toList ds p := hA0
  rw [Try.params5] at hA hval
  obtain ⟨v0, vs0, d0, ds0, p0, q0, hargs, rfl, rfl, h0, r0⟩ := trodAll_cons hA
  obtain ⟨v1, vs1, d1, ds1, p1, q1, rfl, rfl, rfl, h1, r1⟩ := trodAll_cons r0
  obtain ⟨rfl, rfl, rfl⟩ := trodAll_nil r1
  obtain rfl : args = #[v0, v1] := by cases args; simp_all
  obtain ⟨rfl, rfl⟩ := trodVars_none hV
  obtain ⟨a0, rfl, rfl, rfl, w0⟩ := open_int Try.underlying5 (hval 0 5 v0 rfl rfl) h0
  obtain ⟨a1, rfl, rfl, rfl, w1⟩ := open_int Try.underlying5 (hval 1 5 v1 rfl rfl) h1
  clear hA0 hval0
  refine (walk a0 a1 W w0 w1).mono fun e W' ⟨he, bel⟩ => ?_
  subst he
  exact ⟨_, rfl, _, _, _, [], _, [], hW', trodAll_mk1 (shut_bool Try.underlying4 _), (trodAll_cons_mk (shut_int Try.underlying5 w0) (trodAll_cons_mk (shut_int Try.underlying5 w1) trodAll_mk0)), rfl, bel.frame _, fun h => by cases h⟩

theorem over : Rows.chainBackRow.holds Try.pinned (OpenSpec.ofChange Rows.chainBackSpec) :=
  OpenClaim.holds_of_wide 5 Try.f5 rfl rfl rfl rfl rfl rfl rfl ⟨rfl, rfl, rfl, rfl, rfl⟩ rfl rfl rfl rfl rfl (by kernel_rfl) Try.func5 (by kernel_rfl)
    (of_decide_eq_true (by kernel_rfl)) (by unfold Func.isWrapper; first | (rw [if_pos (by decide +kernel)]; kernel_rfl) | (rw [if_neg (by decide +kernel)]; exact ⟨rfl, rfl⟩))
    (fun os started H enc _ => lifted os started H enc)

theorem proved : Rows.ChainBackSaid := over
#print axioms proved
end Go.Proofs.Ytlnpfeecaiecaaa.chainBack
