/- ChainApart: chains of unlike keys have unlike keys in each epoch, and no epoch's key is a chain's. No condition. -/
import Derived.Test.YtlnpfeecaiecaaaRows
import Derived.Test.YtlnpfeecaiecaaaChnA
import Derived.WalkKit
import Derived.ProofKit
import Derived.OpenShut
import Derived.ShutString
import Derived.ChangeOld
import Derived.Below
import Derived.Test.YtlnpfeecaiecaaaChnO
namespace Go.Proofs.Ytlnpfeecaiecaaa.chainApart
open Go.ChangeShapes Go.WideShapes Go.ChangeAt Go.RowKit
open Go.ChangeMaps (open_string shut_string)
open Go.Proofs.Ytlnpfeecaiecaaa
set_option linter.unusedVariables false
set_option linter.unusedSimpArgs false
set_option maxRecDepth 20000

theorem own : ownKnob Try.prog.godebug = none := by kernel_rfl
theorem laidOut : laidOutB Try.prog = true := by kernel_rfl
theorem Link.in {L : List Tm} {n : Int} : ∀ {m : Nat} {k a : Int}, Link L n m k a → (1 ≤ k ∧ k ≤ (L.length : Int)) → 1 ≤ a ∧ a ≤ (L.length : Int)
  | 0, _, _, h, hk => by
    have e : _ = _ := h
    rw [e]; exact hk
  | m + 1, _, _, ⟨y, h1, h2⟩, _ => Link.in h2 h1.in
theorem start_math (O T : Int) : ∃ x y L1 L2, putF [] 200 (nonT O) = (x, 0, L1) ∧ putF L1 200 (nonT T) = (y, 0, L2) ∧ Named L2 x (nonT O) ∧ Named L2 y (nonT T) ∧ Fit L2 ∧ (L2.length : Int) ≤ 2 ∧ (1 ≤ x ∧ 1 ≤ y) := by
  obtain ⟨x, L1, h1, h2, h3, h4⟩ := put_named [] 200 (nonT O) may_non (by decide)
  have f1 := (put_fit (L := []) (fun k hk => absurd hk (by simp)) (by decide) h1).1
  obtain ⟨y, L2, g1, g2, g3, g4⟩ := put_named L1 200 (nonT T) may_non (by simp at h4; omega)
  have f2 := (put_fit f1 (by simp at h4; omega) g1).1
  exact ⟨x, y, L1, L2, h1, g1, h2.ext g3, g2, f2, by simp at h4; omega, (h2.in).1, (g2.in).1⟩
theorem round_math {O T x y ci di : Int} {M : List Tm} {i : Nat} {ks cs : List Int} (h1 : Named M x (nonT O)) (h2 : Named M y (nonT T)) (h3 : Link M 2 i x ci) (h4 : Link M 2 i y di) (h5 : ∀ z, z ∈ cs → AtC M x y i z) (h6 : ∀ z, z ∈ ks → AtK M x y i z) (h7 : Fit M) (h8 : (M.length : Int) ≤ 2 + 4 * (i : Int)) (h9 : i ≤ 12) :
    ∃ a b cu cv M1 M2 M3 M4, putF M 200 (keyT ci 1) = (a, 0, M1) ∧ putF M1 200 (keyT di 1) = (b, 0, M2) ∧ nextF M2 200 ⟨ci, (i : Int)⟩ = (⟨cu, (i : Int) + 1⟩, 0, M3) ∧ nextF M3 200 ⟨di, (i : Int)⟩ = (⟨cv, (i : Int) + 1⟩, 0, M4) ∧
      (Named M4 x (nonT O) ∧ Named M4 y (nonT T) ∧ Link M4 2 (i + 1) x cu ∧ Link M4 2 (i + 1) y cv ∧ (∀ z, z ∈ cs ++ [cu, cv] → AtC M4 x y (i + 1) z) ∧ (∀ z, z ∈ ks ++ [a, b] → AtK M4 x y (i + 1) z) ∧ Fit M4 ∧ (M4.length : Int) ≤ 2 + 4 * ((i + 1 : Nat) : Int)) ∧
      (a ∉ ks ∧ b ∉ ks ∧ a ∉ cs ∧ b ∉ cs ∧ cu ∉ cs ∧ cu ∉ ks ∧ cv ∉ ks) ∧ (a == b) = (O == T) ∧ (cu == cv) = (O == T) ∧ ((a == cu) = false ∧ (b == cv) = false ∧ (a == cv) = false ∧ (b == cu) = false) := by
  have c1 := Link.in h3 h1.in
  have c2 := Link.in h4 h2.in
  obtain ⟨a, M1, p1, n1, x1, l1, f1⟩ := key_step (most := 200) 1 h7 c1 (by omega)
  obtain ⟨b, M2, p2, n2, x2, l2, f2⟩ := key_step (most := 200) 1 f1 (x1.in c2) (by omega)
  obtain ⟨cu, M3, p3, n3, x3, l3, f3⟩ := key_step (most := 200) 2 f2 ((x1.trans x2).in c1) (by omega)
  obtain ⟨cv, M4, p4, n4, x4, l4, f4⟩ := key_step (most := 200) 2 f3 ((x1.trans (x2.trans x3)).in c2) (by omega)
  have e4 : Ext M M4 := x1.trans (x2.trans (x3.trans x4))
  have nx := h1.ext e4
  have ny := h2.ext e4
  have lx := h3.ext e4
  have ly := h4.ext e4
  have na := n1.ext (x2.trans (x3.trans x4))
  have nb := n2.ext (x3.trans x4)
  have nu := n3.ext x4
  have lu := Link.snoc lx nu
  have lv := Link.snoc ly n4
  have hbi : badE (i : Int) = false := badE_ok (by omega) (by omega)
  have same : ∀ {p q : Int} {l : Int}, Named M4 p (keyT ci l) → Named M4 q (keyT di l) → (p == q) = (O == T) := fun {p q l} hp hq => by
    have e : p = q ↔ O = T := by
      rw [hp.inj hq, key_eq]
      constructor
      · intro h; exact (link_eq nx ny lx ly).1 h.1
      · intro h; exact ⟨(link_eq nx ny lx ly).2 h, rfl⟩
    rw [Bool.eq_iff_iff, beq_iff_eq, beq_iff_eq]
    exact e
  refine ⟨a, b, cu, cv, M1, M2, M3, M4, p1, p2, next_yes hbi p3, next_yes hbi p4, ⟨nx, ny, lu, lv, ?_, ?_, f4, by push_cast; omega⟩, ⟨?_, ?_, ?_, ?_, ?_, ?_, ?_⟩, same na nb, same nu n4, ?_, ?_, ?_, ?_⟩
  · intro z hz
    rcases List.mem_append.1 hz with q | q
    · exact (h5 z q).ext e4 (by omega)
    · simp only [List.mem_cons, List.not_mem_nil, or_false] at q
      rcases q with e | e
      · rw [e]; exact ⟨i + 1, Nat.le_refl _, .inl lu⟩
      · rw [e]; exact ⟨i + 1, Nat.le_refl _, .inr lv⟩
  · intro z hz
    rcases List.mem_append.1 hz with q | q
    · exact (h6 z q).ext e4 (by omega)
    · simp only [List.mem_cons, List.not_mem_nil, or_false] at q
      rcases q with e | e
      · rw [e]; exact ⟨i, ci, by omega, .inl lx, na⟩
      · rw [e]; exact ⟨i, di, by omega, .inr ly, nb⟩
  · exact fun q => key_noK nx ny (.inl lx) na ((h6 a q).ext e4 (Nat.le_refl _))
  · exact fun q => key_noK nx ny (.inr ly) nb ((h6 b q).ext e4 (Nat.le_refl _))
  · exact fun q => key_noC nx ny na ((h5 a q).ext e4 (Nat.le_refl _))
  · exact fun q => key_noC nx ny nb ((h5 b q).ext e4 (Nat.le_refl _))
  · exact fun q => next_noC nx ny (.inl lu) ((h5 cu q).ext e4 (Nat.le_refl _))
  · exact fun q => next_noK nu ((h6 cu q).ext e4 (Nat.le_refl _))
  · exact fun q => next_noK n4 ((h6 cv q).ext e4 (Nat.le_refl _))
  · exact beq_eq_false_iff_ne.2 (key_ne na nu)
  · exact beq_eq_false_iff_ne.2 (key_ne nb n4)
  · exact beq_eq_false_iff_ne.2 (key_ne na n4)
  · exact beq_eq_false_iff_ne.2 (key_ne nb nu)
theorem app_two {base : Nat} {Q1 Q2 : (Nat → Prop) → List Tm → World → Prop} {L1 L2 : List Tm} {bs rs : List (Nat × Obj)} {w0 w w' : World} {v : Value} {xs : List Int} {n : Nat} (g1 : Good base Q1) (g2 : Good base Q2) (h : Cs base Q1 Q2 L1 L2 (rs ++ bs) w0 w) (hr : RowC base v xs rs) (hn : xs.length = n) {x y : Int} (hd : ∀ k o, (k, o) ∈ rs → ¬ ∃ o', (k, o') ∈ bs) {g cap : Nat} {o : Obj}
    (hown : w'.ownsRow base 3 1 (.slice (some ⟨g, 0, none⟩) (n + 2) cap) (n + 2) (intsR xs ++ [.int .i64 x, .int .i64 y])) (hgrow : (w.alloc o).grownBy w' v.ownBlock) (hat : v.ownBlock = some g ∨ g = w.heap.size + 1) :
    ∃ rs', RowC base (.slice (some ⟨g, 0, none⟩) (n + 2) cap) (xs ++ [x, y]) rs' ∧ Cs base Q1 Q2 L1 L2 (rs' ++ bs) w0 w' ∧ ∀ k o, (k, o) ∈ rs' → ¬ ∃ o', (k, o') ∈ bs := by
  subst hn
  obtain ⟨rs', h1, h2, h3⟩ := h.apps g1 g2 hr hd (zs := [x, y]) rfl hown hgrow hat
  rw [show (xs ++ [x, y]).length = xs.length + 2 by simp] at h1
  exact ⟨rs', h1, h2, h3⟩
set_option maxHeartbeats 4000000 in
set_option maxRecDepth 100000 in
theorem walk (x0 x1 x2 : Int) (w : World) (w0 : (Lit.int .u8 x0).wf = true) (w1 : (Lit.int .u8 x1).wf = true) (w2 : (Lit.int .u8 x2).wf = true) :
    Calls Try.prog 7 #[.int .u8 x0, .int .u8 x1, .int .u8 x2] w fun e w' => e = .returned (.bool true) ∧ Below w.heap.size w w' := by
  obtain ⟨y0, y1⟩ := Go.bounds_u8 w0
  obtain ⟨O, rfl⟩ := Int.eq_ofNat_of_zero_le y0
  obtain ⟨y2, y3⟩ := Go.bounds_u8 w1
  obtain ⟨T, rfl⟩ := Int.eq_ofNat_of_zero_le y2
  obtain ⟨y4, y5⟩ := Go.bounds_u8 w2
  obtain ⟨N, rfl⟩ := Int.eq_ofNat_of_zero_le y4
  obtain ⟨R, hR⟩ : ∃ R, N % 12 = R := ⟨_, rfl⟩
  obtain ⟨m, hm⟩ : ∃ m, 1 + R = m := ⟨_, rfl⟩
  have e1 : (N : Int) % 12 = (R : Int) := by rw [← hR]; simp
  have e2 : (N : Int).tmod 12 = (R : Int) := by rw [Int.tmod_eq_emod_of_nonneg (by omega)]; exact e1
  have e3 : 1 + (R : Int) = (m : Int) := by omega
  have HM : Hid (1 ≤ m ∧ m ≤ 12) := Lib.hid (by omega)
  have bm : (m : Int) ≤ 12 := by omega
  have bN : (N : Int) ≤ 255 := by omega
  have bR : (R : Int) ≤ 11 := by omega
  have eN : IntKind.i64.wrap (N : Int) = (N : Int) := by simp [IntKind.wrap, IntKind.signed, IntKind.bits]; omega
  have eO : IntKind.u64.wrap (O : Int) = (O : Int) := wrap_u64 (by omega) (by omega)
  have eT : IntKind.u64.wrap (T : Int) = (T : Int) := wrap_u64 (by omega) (by omega)
  have HU : Hid (U64 (O : Int) ∧ U64 (T : Int)) := Lib.hid ⟨u64_small (by omega) (by omega), u64_small (by omega) (by omega)⟩
  have gN := NoS.good w.heap.size
  clear w0 w1 w2 y0 y1 y2 y3 y4 y5 hR hm
  obtain ⟨x, y, LN, LM, hpx, hpy, hn1, hn2, hft, hlm, hi64⟩ := start_math (O : Int) (T : Int)
  have HPX := Lib.hid hpx
  have HPY := Lib.hid hpy
  have HMA := Lib.hid (And.intro hn1 (And.intro hn2 (And.intro hft (And.intro hlm hi64))))
  clear hpx hpy hn1 hn2 hft hlm hi64
  go_enter Try.func7, Try.ntmps7
  go_wp2_with fail
  refine (Pair.new1 (base := w.heap.size) (w0 := w) rfl (Below.refl _ _) (by omega) (by omega)).mono ?_
  rintro e w1 ⟨g, rfl, h1⟩
  have gP := PSq.good w.heap.size g 200
  have HC := Lib.hid (Cs.start h1)
  clear h1
  go_wp2_with fail
  refine (HC.out.pair.putP gN (nonT (O : Int)) (non_wf HU.out.1) HPX.out).mono ?_
  rintro e w2 ⟨rfl, hp, hk⟩
  replace HC := Lib.hid (HC.out.step hp hk)
  clear hp hk
  go_wp2_with fail
  refine (HC.out.pair.putP gN (nonT (T : Int)) (non_wf HU.out.2) HPY.out).mono ?_
  rintro e w3 ⟨rfl, hp, hk⟩
  replace HC := Lib.hid (HC.out.step hp hk)
  clear hp hk
  have HB3 : Hid (w.heap.size ≤ w3.heap.size) := Lib.hid HC.out.low.size
  go_upto_region 8 with fail
  replace HC := Lib.hid (HC.out.box gP gN #[.int .i64 x, .int .i64 0] 30)
  replace HC := Lib.hid (HC.out.box gP gN #[.int .i64 y, .int .i64 0] 30)
  go_upto_region 9 with fail
  generalize hwb : (w3.alloc (.cells #[.int .i64 x, .int .i64 0] 30 : Obj)).alloc (.cells #[.int .i64 y, .int .i64 0] 30 : Obj) = wb at HC ⊢
  obtain ⟨Bc, hBc⟩ : ∃ Bc, Bc = w3.heap.size := ⟨_, rfl⟩
  obtain ⟨Bd, hBd⟩ : ∃ Bd, Bd = w3.heap.size + 1 := ⟨_, rfl⟩
  have HBC : Hid (w.heap.size ≤ Bc ∧ w.heap.size ≤ Bd ∧ Bd ≠ Bc) := Lib.hid (by have := HB3.out; omega)
  rw [World.size_alloc, ← hBd, ← hBc] at HC
  rw [← hBd, ← hBc]
  clear hwb hBc hBd
  obtain ⟨ra1, ra2, ra3⟩ := HC.out.newRow gP gN
  have hcb := ra2.box gP gN #[.int .i64 x, .int .i64 y] 3
  have HR0 : Hid (RowC w.heap.size (.slice (some ⟨wb.heap.size, 0, none⟩) 0 0) [] [(wb.heap.size, (.cells #[] 3 (0, 0) : Obj))] ∧ RowC w.heap.size (.slice (some ⟨wb.heap.size + 1, 0, none⟩) 2 2) [x, y] [(wb.heap.size + 1, (.cells #[.int .i64 x, .int .i64 y] 3 (0, 0) : Obj))] ∧ (∀ k o, (k, o) ∈ [(wb.heap.size + 1, (.cells #[.int .i64 x, .int .i64 y] 3 (0, 0) : Obj))] → ¬ ∃ o', (k, o') ∈ ([(wb.heap.size, (.cells #[] 3 (0, 0) : Obj))] ++ [(Bd, (.cells #[.int .i64 y, .int .i64 ((0 : Nat) : Int)] 30 (0, 0) : Obj)), (Bc, (.cells #[.int .i64 x, .int .i64 ((0 : Nat) : Int)] 30 (0, 0) : Obj))])) ∧ (∀ k o, (k, o) ∈ [(wb.heap.size, (.cells #[] 3 (0, 0) : Obj))] → ¬ ∃ o', (k, o') ∈ [(Bd, (.cells #[.int .i64 y, .int .i64 ((0 : Nat) : Int)] 30 (0, 0) : Obj)), (Bc, (.cells #[.int .i64 x, .int .i64 ((0 : Nat) : Int)] 30 (0, 0) : Obj))])) := Lib.hid (by
    have hl := HC.out.pair.klt Bc ⟨(.cells #[.int .i64 x, .int .i64 ((0 : Nat) : Int)] 30 (0, 0) : Obj), by simp⟩
    have hl2 := HC.out.pair.klt Bd ⟨(.cells #[.int .i64 y, .int .i64 ((0 : Nat) : Int)] 30 (0, 0) : Obj), by simp⟩
    have hl3 := HC.out.pair.base_le
    refine ⟨ra1, .inr ⟨wb.heap.size + 1, 2, _, rfl, rfl, by omega, Nat.le_refl _, by decide, rfl, rfl⟩, fun k o q e => ?_, fun k o q e => ?_⟩
    · obtain ⟨o', e⟩ := e
      simp at q e
      rcases e with ⟨e, _⟩ | ⟨e, _⟩ | ⟨e, _⟩ <;> omega
    · obtain ⟨o', e⟩ := e
      simp at q e
      rcases e with ⟨e, _⟩ | ⟨e, _⟩ <;> omega)
  replace HC : Hid (Cs w.heap.size (PSq w.heap.size g 200) NoS LM [] ([(wb.heap.size + 1, (.cells #[.int .i64 x, .int .i64 y] 3 (0, 0) : Obj))] ++ ([(wb.heap.size, (.cells #[] 3 (0, 0) : Obj))] ++ [(Bd, (.cells #[.int .i64 y, .int .i64 ((0 : Nat) : Int)] 30 (0, 0) : Obj)), (Bc, (.cells #[.int .i64 x, .int .i64 ((0 : Nat) : Int)] 30 (0, 0) : Obj))])) w ((wb.alloc (.cells #[] 3 : Obj)).alloc (.cells #[.int .i64 x, .int .i64 y] 3 : Obj))) := Lib.hid (hcb.less (fun z hz => by simp at hz ⊢; rcases hz with q | q | q | q <;> simp [q]))
  have HIN0 : Hid (Named LM x (nonT O) ∧ Named LM y (nonT T) ∧ Link LM 2 0 x x ∧ Link LM 2 0 y y ∧ (∀ z, z ∈ [x, y] → AtC LM x y 0 z) ∧ (∀ z, z ∈ ([] : List Int) → AtK LM x y 0 z) ∧ Fit LM ∧ (LM.length : Int) ≤ 2 + 4 * ((0 : Nat) : Int) ∧ [x, y].length = 2 + 2 * 0 ∧ ([] : List Int).length = 2 * 0) := Lib.hid ⟨HMA.out.1, HMA.out.2.1, rfl, rfl, fun z hz => by
    simp only [List.mem_cons, List.not_mem_nil, or_false] at hz
    rcases hz with e | e
    · exact ⟨0, Nat.le_refl _, .inl e⟩
    · exact ⟨0, Nat.le_refl _, .inr e⟩, fun z hz => by simp at hz, HMA.out.2.2.1, by have := HMA.out.2.2.2.1; omega, rfl, rfl⟩
  clear ra1 ra2 ra3 hcb
  go_wp2_with fail
  go_loopg [15, 16, 17] m (fun gk s15 s16 s17 wr => ∃ (i : Nat) (ci di : Int) (v1 v2 : Value) (ks cs : List Int) (rc rk : List (Nat × Obj)) (M : List Tm), i + gk = m ∧ v1 = s15 ∧ v2 = s16 ∧ s17 = .int .i64 (i : Nat) ∧ Hid (Named M x (nonT O) ∧ Named M y (nonT T) ∧ Link M 2 i x ci ∧ Link M 2 i y di ∧ (∀ z, z ∈ cs → AtC M x y i z) ∧ (∀ z, z ∈ ks → AtK M x y i z) ∧ Fit M ∧ (M.length : Int) ≤ 2 + 4 * (i : Int) ∧ cs.length = 2 + 2 * i ∧ ks.length = 2 * i) ∧ Hid (RowC w.heap.size v1 ks rk ∧ RowC w.heap.size v2 cs rc) ∧ Hid ((∀ k o, (k, o) ∈ rc → ¬ ∃ o', (k, o') ∈ (rk ++ [(Bd, (.cells #[.int .i64 di, .int .i64 (i : Int)] 30 (0, 0) : Obj)), (Bc, (.cells #[.int .i64 ci, .int .i64 (i : Int)] 30 (0, 0) : Obj))])) ∧ (∀ k o, (k, o) ∈ rk → ¬ ∃ o', (k, o') ∈ [(Bd, (.cells #[.int .i64 di, .int .i64 (i : Int)] 30 (0, 0) : Obj)), (Bc, (.cells #[.int .i64 ci, .int .i64 (i : Int)] 30 (0, 0) : Obj))])) ∧ Hid (Cs w.heap.size (PSq w.heap.size g 200) NoS M [] (rc ++ (rk ++ [(Bd, (.cells #[.int .i64 di, .int .i64 (i : Int)] 30 (0, 0) : Obj)), (Bc, (.cells #[.int .i64 ci, .int .i64 (i : Int)] 30 (0, 0) : Obj))])) w wr))
  case atStart => exact ⟨0, x, y, _, _, [], [x, y], _, _, LM, by omega, rfl, rfl, rfl, HIN0, Lib.hid ⟨HR0.out.1, HR0.out.2.1⟩, Lib.hid ⟨HR0.out.2.2.1, HR0.out.2.2.2⟩, HC⟩
  case round =>
    clear HC HR0 HIN0
    obtain ⟨i, ci, di, v1, v2, ks, cs, rc, rk, M, hi, rfl, rfl, rfl, HIN, HRW, HDI, HC⟩ := hrel
    by_cases him : i < m
    · have i1 : (i : Int) < (m : Int) := by omega
      have i0' : (0 : Int) ≤ (i : Int) := by omega
      obtain ⟨i2, hi2⟩ : ∃ j, i + 1 = j := ⟨_, rfl⟩
      have hmm := HM.out
      obtain ⟨a, b, cu, cv, M1, M2, M3, M4, hsa, hsb, hnc, hnd, hinv, hno, hab, huv, hne⟩ := round_math (O := O) (T := T) (x := x) (y := y) (M := M) (ci := ci) (di := di) (i := i) (ks := ks) (cs := cs) HIN.out.1 HIN.out.2.1 HIN.out.2.2.1 HIN.out.2.2.2.1 HIN.out.2.2.2.2.1 HIN.out.2.2.2.2.2.1 HIN.out.2.2.2.2.2.2.1 HIN.out.2.2.2.2.2.2.2.1 (by omega)
      have HSA := Lib.hid hsa
      have HSB := Lib.hid hsb
      have HNC : Hid (nextF M2 200 ⟨ci, (i : Int)⟩ = (⟨cu, (i2 : Int)⟩, 0, M3)) := Lib.hid (by rw [hnc, ← hi2]; rfl)
      have HND : Hid (nextF M3 200 ⟨di, (i : Int)⟩ = (⟨cv, (i2 : Int)⟩, 0, M4)) := Lib.hid (by rw [hnd, ← hi2]; rfl)
      have HIN4 : Hid (Named M4 x (nonT O) ∧ Named M4 y (nonT T) ∧ Link M4 2 (i + 1) x cu ∧ Link M4 2 (i + 1) y cv ∧ (∀ z, z ∈ cs ++ [cu, cv] → AtC M4 x y (i + 1) z) ∧ (∀ z, z ∈ ks ++ [a, b] → AtK M4 x y (i + 1) z) ∧ Fit M4 ∧ (M4.length : Int) ≤ 2 + 4 * ((i + 1 : Nat) : Int) ∧ (cs ++ [cu, cv]).length = 2 + 2 * (i + 1) ∧ (ks ++ [a, b]).length = 2 * (i + 1)) := Lib.hid (by
        have h1 := HIN.out.2.2.2.2.2.2.2.2
        refine ⟨hinv.1, hinv.2.1, hinv.2.2.1, hinv.2.2.2.1, hinv.2.2.2.2.1, hinv.2.2.2.2.2.1, hinv.2.2.2.2.2.2.1, hinv.2.2.2.2.2.2.2, ?_, ?_⟩
        · simp [h1.1]; omega
        · simp [h1.2]; omega)
      have HNO := Lib.hid hno
      have HLE : Hid (ks.length ≤ 100 ∧ cs.length ≤ 100) := Lib.hid (by have := HIN.out.2.2.2.2.2.2.2.2; omega)
      have HX64 : Hid (I64 ci ∧ I64 di) := Lib.hid (by
        have hl := HIN.out.2.2.2.2.2.2.2.1
        have h1 := Link.in HIN.out.2.2.1 HIN.out.1.in
        have h2 := Link.in HIN.out.2.2.2.1 HIN.out.2.1.in
        exact ⟨i64_small (by omega) (by omega), i64_small (by omega) (by omega)⟩)
      have HE64 : Hid (I64 (i : Int)) := Lib.hid (i64_small (by omega) (by omega))
      have HI9 : Hid (i < m ∧ m ≤ 12 ∧ i + gk = m ∧ i + 1 = i2) := Lib.hid ⟨him, by omega, hi, hi2⟩
      obtain ⟨bb, hbb⟩ : ∃ bb, ((O : Int) == (T : Int)) = bb := ⟨_, rfl⟩
      have g1 : (a == b) = bb := by rw [hab, hbb]
      have g3 : (cu == cv) = bb := by rw [huv, hbb]
      have g4 : (bb != bb) = false := by simp
      have g5 : ((i2 : Int) != (i : Int) + 1) = false := by rw [← hi2]; simp
      have g6 : (a == cu) = false := hne.1
      have g7 : (b == cv) = false := hne.2.1
      have g8 : (a == cv) = false := hne.2.2.1
      have g9 : (b == cu) = false := hne.2.2.2
      have HDI2 : Hid ((∀ k o, (k, o) ∈ rk → ¬ ∃ o', (k, o') ∈ (rc ++ [])) ∧ True) := Lib.hid ⟨fun k o q e => by obtain ⟨o', e⟩ := e; exact HDI.out.1 k o' (by simpa using e) ⟨o, by simp [q]⟩, trivial⟩
      clear hi him hi2 hmm hsa hsb hnc hnd hinv hno hab huv hne
      obtain ⟨cf0, cf1, cf2, cf3⟩ := cells2 (HC.out.kept (Bc) (.cells #[.int .i64 ci, .int .i64 (i : Int)] 30 (0, 0) : Obj) (by simp))
      go_wp2_with fail
      clear cf0 cf1 cf2 cf3
      refine (HC.out.pair.csealP gN HX64.out.1 HSA.out).mono ?_
      rintro e w11 ⟨rfl, hp, hk⟩
      replace HC := Lib.hid (HC.out.step hp hk)
      clear hp hk
      obtain ⟨df0, df1, df2, df3⟩ := cells2 (HC.out.kept (Bd) (.cells #[.int .i64 di, .int .i64 (i : Int)] 30 (0, 0) : Obj) (by simp))
      go_wp2_with fail
      clear df0 df1 df2 df3
      refine (HC.out.pair.csealP gN HX64.out.2 HSB.out).mono ?_
      rintro e w12 ⟨rfl, hp, hk⟩
      replace HC := Lib.hid (HC.out.step hp hk)
      clear hp hk
      obtain ⟨cf0, cf1, cf2, cf3⟩ := cells2 (HC.out.kept (Bc) (.cells #[.int .i64 ci, .int .i64 (i : Int)] 30 (0, 0) : Obj) (by simp))
      go_wp2_with fail
      clear cf0 cf1 cf2 cf3
      refine (HC.out.pair.cnextP gN HX64.out.1 HE64.out HNC.out).mono ?_
      rintro e w13 ⟨rfl, hp, hk⟩
      replace HC := Lib.hid (HC.out.step hp hk)
      clear hp hk
      have hlt9 : ∀ k o, (k, o) ∈ rc ++ (rk ++ [(Bd, (.cells #[.int .i64 di, .int .i64 (i : Int)] 30 (0, 0) : Obj)), (Bc, (.cells #[.int .i64 ci, .int .i64 (i : Int)] 30 (0, 0) : Obj))]) → w13.heap.size ≠ k := fun k o q e => by have := HC.out.pair.klt k ⟨o, by first | exact q | exact List.mem_cons.2 (.inr q)⟩; omega
      have HNXu := Lib.hid hlt9
      clear hlt9
      replace HC := Lib.hid (HC.out.box gP gN #[.int .i64 cu, .int .i64 (i2 : Int)] 30)
      go_upto_region 16 with fail
      generalize hwd : w13.alloc (.cells #[.int .i64 cu, .int .i64 (i2 : Int)] 30 : Obj) = wu at HC ⊢
      generalize hxd : w13.heap.size = Xu at HC HNXu ⊢
      clear hwd hxd
      obtain ⟨df0, df1, df2, df3⟩ := cells2 (HC.out.kept (Bd) (.cells #[.int .i64 di, .int .i64 (i : Int)] 30 (0, 0) : Obj) (by simp))
      go_wp2_with fail
      clear df0 df1 df2 df3
      refine (HC.out.pair.cnextP gN HX64.out.2 HE64.out HND.out).mono ?_
      rintro e w14 ⟨rfl, hp, hk⟩
      replace HC := Lib.hid (HC.out.step hp hk)
      clear hp hk
      have hlt9 : ∀ k o, (k, o) ∈ (Xu, (.cells #[.int .i64 cu, .int .i64 (i2 : Int)] 30 (0, 0) : Obj)) :: (rc ++ (rk ++ [(Bd, (.cells #[.int .i64 di, .int .i64 (i : Int)] 30 (0, 0) : Obj)), (Bc, (.cells #[.int .i64 ci, .int .i64 (i : Int)] 30 (0, 0) : Obj))])) → w14.heap.size ≠ k := fun k o q e => by have := HC.out.pair.klt k ⟨o, q⟩; omega
      have HNXv := Lib.hid hlt9
      clear hlt9
      replace HC := Lib.hid (HC.out.box gP gN #[.int .i64 cv, .int .i64 (i2 : Int)] 30)
      obtain ⟨uf0, uf1, uf2, uf3⟩ := cells2 (HC.out.kept (Xu) (.cells #[.int .i64 cu, .int .i64 (i2 : Int)] 30 (0, 0) : Obj) (by simp))
      obtain ⟨vf0, vf1, vf2, vf3⟩ := cells2 (HC.out.kept (w14.heap.size) (.cells #[.int .i64 cv, .int .i64 (i2 : Int)] 30 (0, 0) : Obj) (by simp))
      go_wp2_with fail
      clear uf0 uf1 uf2 uf3 vf0 vf1 vf2 vf3
      generalize hwd : w14.alloc (.cells #[.int .i64 cv, .int .i64 (i2 : Int)] 30 : Obj) = wv at HC ⊢
      generalize hxd : w14.heap.size = Xv at HC HNXv ⊢
      clear hwd hxd
      replace HDI2 : Hid ((∀ k o, (k, o) ∈ rk → ¬ ∃ o', (k, o') ∈ (rc ++ [(Xv, (.cells #[.int .i64 cv, .int .i64 (i2 : Int)] 30 (0, 0) : Obj)), (Xu, (.cells #[.int .i64 cu, .int .i64 (i2 : Int)] 30 (0, 0) : Obj)), (Bd, (.cells #[.int .i64 di, .int .i64 (i : Int)] 30 (0, 0) : Obj)), (Bc, (.cells #[.int .i64 ci, .int .i64 (i : Int)] 30 (0, 0) : Obj))])) ∧ (∀ k o, (k, o) ∈ rc → ¬ ∃ o', (k, o') ∈ [(Xv, (.cells #[.int .i64 cv, .int .i64 (i2 : Int)] 30 (0, 0) : Obj)), (Xu, (.cells #[.int .i64 cu, .int .i64 (i2 : Int)] 30 (0, 0) : Obj)), (Bd, (.cells #[.int .i64 di, .int .i64 (i : Int)] 30 (0, 0) : Obj)), (Bc, (.cells #[.int .i64 ci, .int .i64 (i : Int)] 30 (0, 0) : Obj))])) := Lib.hid ⟨fun k o q e => by
        obtain ⟨o', e⟩ := e
        rcases List.mem_append.1 e with h | h
        · exact HDI.out.1 k o' h ⟨o, by simp [q]⟩
        · simp only [List.mem_cons, List.not_mem_nil, or_false, Prod.mk.injEq] at h
          rcases h with ⟨h, _⟩ | ⟨h, _⟩ | ⟨h, _⟩ | ⟨h, _⟩
          · exact HNXv.out k o (by simp [q]) h.symm
          · exact HNXu.out k o (by simp [q]) h.symm
          · exact HDI.out.2 k o q ⟨(.cells #[.int .i64 di, .int .i64 (i : Int)] 30 (0, 0) : Obj), by rw [h]; simp⟩
          · exact HDI.out.2 k o q ⟨(.cells #[.int .i64 ci, .int .i64 (i : Int)] 30 (0, 0) : Obj), by rw [h]; simp⟩, fun k o q e => by
        obtain ⟨o', h⟩ := e
        simp only [List.mem_cons, List.not_mem_nil, or_false, Prod.mk.injEq] at h
        rcases h with ⟨h, _⟩ | ⟨h, _⟩ | ⟨h, _⟩ | ⟨h, _⟩
        · exact HNXv.out k o (by simp [q]) h.symm
        · exact HNXu.out k o (by simp [q]) h.symm
        · exact HDI.out.1 k o q ⟨(.cells #[.int .i64 di, .int .i64 (i : Int)] 30 (0, 0) : Obj), by rw [h]; simp⟩
        · exact HDI.out.1 k o q ⟨(.cells #[.int .i64 ci, .int .i64 (i : Int)] 30 (0, 0) : Obj), by rw [h]; simp⟩⟩
      obtain ⟨a1, p1, hv1, hs1⟩ := HRW.out.1.slice
      obtain ⟨a2, p2, hv2, hs2⟩ := HRW.out.2.slice
      obtain ⟨nk, hnk⟩ : ∃ n, ks.length = n := ⟨_, rfl⟩
      obtain ⟨nc, hnc⟩ : ∃ n, cs.length = n := ⟨_, rfl⟩
      rw [hnk] at hv1
      rw [hnc] at hv2
      have HHK : Hid (∀ W z, z ∉ ks → Below wv.heap.size wv W → Calls Try.prog 24 #[.slice a1 nk p1, .int .i64 z] W fun e w' => e = .returned (.bool false) ∧ Below W.heap.size W w') := Lib.hid (fun W z hz hW => (has_k a1 p1 nk ks z hnk W ((hs1 wv (fun k o q => HC.out.kept k o (by simp [q]))).below hW)).mono fun e w' h => ⟨h.1.trans (by rw [decide_eq_false hz]), h.2⟩)
      have HHC : Hid (∀ W z, z ∉ cs → Below wv.heap.size wv W → Calls Try.prog 24 #[.slice a2 nc p2, .int .i64 z] W fun e w' => e = .returned (.bool false) ∧ Below W.heap.size W w') := Lib.hid (fun W z hz hW => (has_k a2 p2 nc cs z hnc W ((hs2 wv (fun k o q => HC.out.kept k o (by simp [q]))).below hW)).mono fun e w' h => ⟨h.1.trans (by rw [decide_eq_false hz]), h.2⟩)
      have HVV := Lib.hid (And.intro hv1 hv2)
      have HNN := Lib.hid (And.intro hnk hnc)
      have HBV : Hid (Below wv.heap.size wv wv) := Lib.hid (Below.refl _ _)
      have HC0 := HC
      subst hv1 hv2
      clear hs1 hs2 hnk hnc
      refine (HHK.out _ a HNO.out.1 HBV.out).mono ?_
      rintro e wh0 ⟨rfl, hb⟩
      have HBW0 := Lib.hid (HBV.out.trans (hb.mono HBV.out.size))
      replace HC := Lib.hid (HC.out.below gP gN hb)
      clear hb
      obtain ⟨uf0, uf1, _, _⟩ := cells2 (HC.out.kept Xu (.cells #[.int .i64 cu, .int .i64 (i2 : Int)] 30 (0, 0) : Obj) (by simp))
      obtain ⟨vf0, vf1, _, _⟩ := cells2 (HC.out.kept Xv (.cells #[.int .i64 cv, .int .i64 (i2 : Int)] 30 (0, 0) : Obj) (by simp))
      go_wp2_with fail
      clear uf0 uf1 vf0 vf1
      refine (HHK.out _ b HNO.out.2.1 HBW0.out).mono ?_
      rintro e wh1 ⟨rfl, hb⟩
      have HBW1 := Lib.hid (HBW0.out.trans (hb.mono HBW0.out.size))
      replace HC := Lib.hid (HC.out.below gP gN hb)
      clear hb
      obtain ⟨uf0, uf1, _, _⟩ := cells2 (HC.out.kept Xu (.cells #[.int .i64 cu, .int .i64 (i2 : Int)] 30 (0, 0) : Obj) (by simp))
      obtain ⟨vf0, vf1, _, _⟩ := cells2 (HC.out.kept Xv (.cells #[.int .i64 cv, .int .i64 (i2 : Int)] 30 (0, 0) : Obj) (by simp))
      go_wp2_with fail
      clear uf0 uf1 vf0 vf1
      refine (HHC.out _ a HNO.out.2.2.1 HBW1.out).mono ?_
      rintro e wh2 ⟨rfl, hb⟩
      have HBW2 := Lib.hid (HBW1.out.trans (hb.mono HBW1.out.size))
      replace HC := Lib.hid (HC.out.below gP gN hb)
      clear hb
      obtain ⟨uf0, uf1, _, _⟩ := cells2 (HC.out.kept Xu (.cells #[.int .i64 cu, .int .i64 (i2 : Int)] 30 (0, 0) : Obj) (by simp))
      obtain ⟨vf0, vf1, _, _⟩ := cells2 (HC.out.kept Xv (.cells #[.int .i64 cv, .int .i64 (i2 : Int)] 30 (0, 0) : Obj) (by simp))
      go_wp2_with fail
      clear uf0 uf1 vf0 vf1
      refine (HHC.out _ b HNO.out.2.2.2.1 HBW2.out).mono ?_
      rintro e wh3 ⟨rfl, hb⟩
      have HBW3 := Lib.hid (HBW2.out.trans (hb.mono HBW2.out.size))
      replace HC := Lib.hid (HC.out.below gP gN hb)
      clear hb
      obtain ⟨uf0, uf1, _, _⟩ := cells2 (HC.out.kept Xu (.cells #[.int .i64 cu, .int .i64 (i2 : Int)] 30 (0, 0) : Obj) (by simp))
      obtain ⟨vf0, vf1, _, _⟩ := cells2 (HC.out.kept Xv (.cells #[.int .i64 cv, .int .i64 (i2 : Int)] 30 (0, 0) : Obj) (by simp))
      go_wp2_with fail
      clear uf0 uf1 vf0 vf1
      refine (HHC.out _ cu HNO.out.2.2.2.2.1 HBW3.out).mono ?_
      rintro e wh4 ⟨rfl, hb⟩
      have HBW4 := Lib.hid (HBW3.out.trans (hb.mono HBW3.out.size))
      replace HC := Lib.hid (HC.out.below gP gN hb)
      clear hb
      obtain ⟨uf0, uf1, _, _⟩ := cells2 (HC.out.kept Xu (.cells #[.int .i64 cu, .int .i64 (i2 : Int)] 30 (0, 0) : Obj) (by simp))
      obtain ⟨vf0, vf1, _, _⟩ := cells2 (HC.out.kept Xv (.cells #[.int .i64 cv, .int .i64 (i2 : Int)] 30 (0, 0) : Obj) (by simp))
      go_wp2_with fail
      clear uf0 uf1 vf0 vf1
      refine (HHK.out _ cu HNO.out.2.2.2.2.2.1 HBW4.out).mono ?_
      rintro e wh5 ⟨rfl, hb⟩
      have HBW5 := Lib.hid (HBW4.out.trans (hb.mono HBW4.out.size))
      replace HC := Lib.hid (HC.out.below gP gN hb)
      clear hb
      obtain ⟨uf0, uf1, _, _⟩ := cells2 (HC.out.kept Xu (.cells #[.int .i64 cu, .int .i64 (i2 : Int)] 30 (0, 0) : Obj) (by simp))
      obtain ⟨vf0, vf1, _, _⟩ := cells2 (HC.out.kept Xv (.cells #[.int .i64 cv, .int .i64 (i2 : Int)] 30 (0, 0) : Obj) (by simp))
      go_wp2_with fail
      clear uf0 uf1 vf0 vf1
      refine (HHK.out _ cv HNO.out.2.2.2.2.2.2 HBW5.out).mono ?_
      rintro e wh6 ⟨rfl, hb⟩
      have HBW6 := Lib.hid (HBW5.out.trans (hb.mono HBW5.out.size))
      replace HC := Lib.hid (HC.out.below gP gN hb)
      clear hb
      obtain ⟨uf0, uf1, _, _⟩ := cells2 (HC.out.kept Xu (.cells #[.int .i64 cu, .int .i64 (i2 : Int)] 30 (0, 0) : Obj) (by simp))
      obtain ⟨vf0, vf1, _, _⟩ := cells2 (HC.out.kept Xv (.cells #[.int .i64 cv, .int .i64 (i2 : Int)] 30 (0, 0) : Obj) (by simp))
      have HNL : Hid (nk ≤ 100 ∧ nc ≤ 100) := Lib.hid (by have h1 := HNN.out; have h2 := HLE.out; omega)
      have HSZ : Hid (w.heap.size ≤ wh6.heap.size) := Lib.hid HC.out.low.size
      have HRow : Hid (wh6.ownsRow w.heap.size 3 1 (.slice a1 nk p1) nk (intsR ks)) := Lib.hid (by
        have h9 := HRW.out.1.owns (u := wh6) (fun k o q => HC.out.kept k o (by simp [q]))
        rwa [HNN.out.1] at h9)
      obtain ⟨i0, hi0, hz0, hz1, hz2⟩ := info_parts2
      go_upto_region 20 with (at_builtin; refine wpList_append_lies _ rfl _ _ 41 rfl w.heap.size 3 i0 (.int .i64 0) 1 8 Try.underlying41 hi0 hz0 hz1 hz2 rfl (by decide) _ _ _ rfl (HRow.out.alloc _) ⟨_, 0, none⟩ 2 2 [.int .i64 a, .int .i64 b] rfl rfl (World.news_of_block (cs := #[.int .i64 a, .int .i64 b]) (t := 3) (fr := (0, 0)) (heap_alloc_new _ _)) (by simp [Value.oneCell']) (by omega) (by unfold maxLen; have := HNL.out; omega) (by have := HNL.out; omega) (by have := HSZ.out; simp; omega) _ (by simp; rfl) ?_; intro g3 cap3 w3 hown hgrow hat hlt3; have hx : ∃ rk', RowC w.heap.size (.slice (some ⟨g3, 0, none⟩) (nk + 2) cap3) (ks ++ [a, b]) rk' ∧ Cs w.heap.size (PSq w.heap.size g 200) NoS M4 [] (rk' ++ (rc ++ [(Xv, (.cells #[.int .i64 cv, .int .i64 (i2 : Int)] 30 (0, 0) : Obj)), (Xu, (.cells #[.int .i64 cu, .int .i64 (i2 : Int)] 30 (0, 0) : Obj)), (Bd, (.cells #[.int .i64 di, .int .i64 (i : Int)] 30 (0, 0) : Obj)), (Bc, (.cells #[.int .i64 ci, .int .i64 (i : Int)] 30 (0, 0) : Obj))])) w w3 ∧ (∀ k o, (k, o) ∈ rk' → ¬ ∃ o', (k, o') ∈ (rc ++ [(Xv, (.cells #[.int .i64 cv, .int .i64 (i2 : Int)] 30 (0, 0) : Obj)), (Xu, (.cells #[.int .i64 cu, .int .i64 (i2 : Int)] 30 (0, 0) : Obj)), (Bd, (.cells #[.int .i64 di, .int .i64 (i : Int)] 30 (0, 0) : Obj)), (Bc, (.cells #[.int .i64 ci, .int .i64 (i : Int)] 30 (0, 0) : Obj))])) := app_two gP gN (HC.out.less (fun z hz => by simp at hz ⊢; rcases hz with q | q | q | q | q | q <;> simp [q])) HRW.out.1 HNN.out.1 HDI2.out.1 hown hgrow hat; obtain ⟨rk', hr', hc', hd'⟩ := hx; have HC3 := Lib.hid hc'; have HR3 := Lib.hid hr'; have HD3 := Lib.hid hd'; clear hown hgrow hat hlt3 hr' hc' hd')
      clear uf0 uf1 vf0 vf1
      have HSZ3 : Hid (w.heap.size ≤ w3.heap.size) := Lib.hid HC3.out.low.size
      have HRow2 : Hid (w3.ownsRow w.heap.size 3 1 (.slice a2 nc p2) nc (intsR cs)) := Lib.hid (by
        have h9 := HRW.out.2.owns (u := w3) (fun k o q => HC3.out.kept k o (by simp [q]))
        rwa [HNN.out.2] at h9)
      have HDK : Hid (∀ k o, (k, o) ∈ rc → ¬ ∃ o', (k, o') ∈ (rk' ++ [(Xv, (.cells #[.int .i64 cv, .int .i64 (i2 : Int)] 30 (0, 0) : Obj)), (Xu, (.cells #[.int .i64 cu, .int .i64 (i2 : Int)] 30 (0, 0) : Obj)), (Bd, (.cells #[.int .i64 di, .int .i64 (i : Int)] 30 (0, 0) : Obj)), (Bc, (.cells #[.int .i64 ci, .int .i64 (i : Int)] 30 (0, 0) : Obj))])) := Lib.hid (fun k o q e => by
        obtain ⟨o', e⟩ := e
        rcases List.mem_append.1 e with a | a
        · exact HD3.out k o' a ⟨o, by simp [q]⟩
        · exact HDI2.out.2 k o q ⟨o', a⟩)
      obtain ⟨uf0, uf1, _, _⟩ := cells2 (HC3.out.kept Xu (.cells #[.int .i64 cu, .int .i64 (i2 : Int)] 30 (0, 0) : Obj) (by simp))
      obtain ⟨vf0, vf1, _, _⟩ := cells2 (HC3.out.kept Xv (.cells #[.int .i64 cv, .int .i64 (i2 : Int)] 30 (0, 0) : Obj) (by simp))
      go_upto_region 21 with (at_builtin; refine wpList_append_lies _ rfl _ _ 41 rfl w.heap.size 3 i0 (.int .i64 0) 1 8 Try.underlying41 hi0 hz0 hz1 hz2 rfl (by decide) _ _ _ rfl (HRow2.out.alloc _) ⟨_, 0, none⟩ 2 2 [.int .i64 cu, .int .i64 cv] rfl rfl (World.news_of_block (cs := #[.int .i64 cu, .int .i64 cv]) (t := 3) (fr := (0, 0)) (heap_alloc_new _ _)) (by simp [Value.oneCell']) (by omega) (by unfold maxLen; have := HNL.out; omega) (by have := HNL.out; omega) (by have := HSZ3.out; simp; omega) _ (by simp; rfl) ?_; intro g4 cap4 w4 hown hgrow hat hlt3; have hx : ∃ rc', RowC w.heap.size (.slice (some ⟨g4, 0, none⟩) (nc + 2) cap4) (cs ++ [cu, cv]) rc' ∧ Cs w.heap.size (PSq w.heap.size g 200) NoS M4 [] (rc' ++ (rk' ++ [(Xv, (.cells #[.int .i64 cv, .int .i64 (i2 : Int)] 30 (0, 0) : Obj)), (Xu, (.cells #[.int .i64 cu, .int .i64 (i2 : Int)] 30 (0, 0) : Obj)), (Bd, (.cells #[.int .i64 di, .int .i64 (i : Int)] 30 (0, 0) : Obj)), (Bc, (.cells #[.int .i64 ci, .int .i64 (i : Int)] 30 (0, 0) : Obj))])) w w4 ∧ (∀ k o, (k, o) ∈ rc' → ¬ ∃ o', (k, o') ∈ (rk' ++ [(Xv, (.cells #[.int .i64 cv, .int .i64 (i2 : Int)] 30 (0, 0) : Obj)), (Xu, (.cells #[.int .i64 cu, .int .i64 (i2 : Int)] 30 (0, 0) : Obj)), (Bd, (.cells #[.int .i64 di, .int .i64 (i : Int)] 30 (0, 0) : Obj)), (Bc, (.cells #[.int .i64 ci, .int .i64 (i : Int)] 30 (0, 0) : Obj))])) := app_two gP gN (HC3.out.less (fun z hz => by simp at hz ⊢; rcases hz with q | q | q | q | q | q <;> simp [q])) HRW.out.2 HNN.out.2 HDK.out hown hgrow hat; obtain ⟨rc', hr', hc', hd'⟩ := hx; have HC4 := Lib.hid hc'; have HR4 := Lib.hid hr'; have HD4 := Lib.hid hd'; clear hown hgrow hat hlt3 hr' hc' hd')
      clear uf0 uf1 vf0 vf1 HC HC3
      obtain ⟨uf0, uf1, _, _⟩ := cells2 (HC4.out.kept Xu (.cells #[.int .i64 cu, .int .i64 (i2 : Int)] 30 (0, 0) : Obj) (by simp))
      obtain ⟨cf0, cf1, cf2, cf3⟩ := cells2 (HC4.out.kept Bc (.cells #[.int .i64 ci, .int .i64 (i : Int)] 30 (0, 0) : Obj) (by simp))
      go_upto_region 22 with fail
      have HC5 : Hid (Cs w.heap.size (PSq w.heap.size g 200) NoS M4 [] (rc' ++ (rk' ++ [(Xv, (.cells #[.int .i64 cv, .int .i64 (i2 : Int)] 30 (0, 0) : Obj)), (Bd, (.cells #[.int .i64 di, .int .i64 (i : Int)] 30 (0, 0) : Obj)), (Bc, (.cells #[.int .i64 cu, .int .i64 (i2 : Int)] 30 (0, 0) : Obj))])) w ((w4.setCell ⟨Bc, 0, none⟩ (.int .i64 cu)).setCell ⟨Bc, 1, none⟩ (.int .i64 (i2 : Int)))) := Lib.hid (HC4.out.fill gP gN (B := Bc) (x := .int .i64 ci) (y := .int .i64 (i : Int)) (T := 30) (by simp) HBC.out.1 (.int .i64 cu) (.int .i64 (i2 : Int)) (fun z hz => by
        rcases List.mem_append.1 hz with e | e
        · exact .inr ⟨by simp [e], fun e2 => HD4.out z.1 z.2 e ⟨(.cells #[.int .i64 ci, .int .i64 (i : Int)] 30 (0, 0) : Obj), by rw [e2]; simp⟩⟩
        · rcases List.mem_append.1 e with e | e
          · exact .inr ⟨by simp [e], fun e2 => HD3.out z.1 z.2 e ⟨(.cells #[.int .i64 ci, .int .i64 (i : Int)] 30 (0, 0) : Obj), by rw [e2]; simp⟩⟩
          · simp only [List.mem_cons, List.not_mem_nil, or_false] at e
            rcases e with e | e | e
            · subst e
              exact .inr ⟨by simp, fun e2 => HNXv.out Bc (.cells #[.int .i64 ci, .int .i64 (i : Int)] 30 (0, 0) : Obj) (by simp) e2⟩
            · subst e
              exact .inr ⟨by simp, HBC.out.2.2⟩
            · exact .inl e))
      clear uf0 uf1 cf0 cf1 cf2 cf3
      generalize hwd : ((w4.setCell ⟨Bc, 0, none⟩ (.int .i64 cu)).setCell ⟨Bc, 1, none⟩ (.int .i64 (i2 : Int))) = w5 at HC5 ⊢
      clear hwd
      obtain ⟨vf0, vf1, _, _⟩ := cells2 (HC5.out.kept Xv (.cells #[.int .i64 cv, .int .i64 (i2 : Int)] 30 (0, 0) : Obj) (by simp))
      obtain ⟨df0, df1, df2, df3⟩ := cells2 (HC5.out.kept Bd (.cells #[.int .i64 di, .int .i64 (i : Int)] 30 (0, 0) : Obj) (by simp))
      go_wp2_with fail
      have hii := HI9.out.2.2.2
      subst hii
      have HC6 : Hid (Cs w.heap.size (PSq w.heap.size g 200) NoS M4 [] (rc' ++ (rk' ++ [(Bd, (.cells #[.int .i64 cv, .int .i64 ((i + 1 : Nat) : Int)] 30 (0, 0) : Obj)), (Bc, (.cells #[.int .i64 cu, .int .i64 ((i + 1 : Nat) : Int)] 30 (0, 0) : Obj))])) w ((w5.setCell ⟨Bd, 0, none⟩ (.int .i64 cv)).setCell ⟨Bd, 1, none⟩ (.int .i64 ((i + 1 : Nat) : Int)))) := Lib.hid (HC5.out.fill gP gN (B := Bd) (x := .int .i64 di) (y := .int .i64 (i : Int)) (T := 30) (by simp) HBC.out.2.1 (.int .i64 cv) (.int .i64 ((i + 1 : Nat) : Int)) (fun z hz => by
        rcases List.mem_append.1 hz with e | e
        · exact .inr ⟨by simp [e], fun e2 => HD4.out z.1 z.2 e ⟨(.cells #[.int .i64 di, .int .i64 (i : Int)] 30 (0, 0) : Obj), by rw [e2]; simp⟩⟩
        · rcases List.mem_append.1 e with e | e
          · exact .inr ⟨by simp [e], fun e2 => HD3.out z.1 z.2 e ⟨(.cells #[.int .i64 di, .int .i64 (i : Int)] 30 (0, 0) : Obj), by rw [e2]; simp⟩⟩
          · simp only [List.mem_cons, List.not_mem_nil, or_false] at e
            rcases e with e | e
            · exact .inl e
            · subst e
              exact .inr ⟨by simp, fun e2 => HBC.out.2.2 e2.symm⟩))
      have HDN : Hid ((∀ k o, (k, o) ∈ rc' → ¬ ∃ o', (k, o') ∈ (rk' ++ [(Bd, (.cells #[.int .i64 cv, .int .i64 ((i + 1 : Nat) : Int)] 30 (0, 0) : Obj)), (Bc, (.cells #[.int .i64 cu, .int .i64 ((i + 1 : Nat) : Int)] 30 (0, 0) : Obj))])) ∧ (∀ k o, (k, o) ∈ rk' → ¬ ∃ o', (k, o') ∈ [(Bd, (.cells #[.int .i64 cv, .int .i64 ((i + 1 : Nat) : Int)] 30 (0, 0) : Obj)), (Bc, (.cells #[.int .i64 cu, .int .i64 ((i + 1 : Nat) : Int)] 30 (0, 0) : Obj))])) := Lib.hid ⟨fun k o q e => by
        obtain ⟨o', e⟩ := e
        rcases List.mem_append.1 e with a | a
        · exact HD4.out k o q ⟨o', by simp [a]⟩
        · simp only [List.mem_cons, List.not_mem_nil, or_false, Prod.mk.injEq] at a
          rcases a with ⟨a, _⟩ | ⟨a, _⟩
          · exact HD4.out k o q ⟨(.cells #[.int .i64 di, .int .i64 (i : Int)] 30 (0, 0) : Obj), by rw [a]; simp⟩
          · exact HD4.out k o q ⟨(.cells #[.int .i64 ci, .int .i64 (i : Int)] 30 (0, 0) : Obj), by rw [a]; simp⟩, fun k o q e => by
        obtain ⟨o', e⟩ := e
        simp only [List.mem_cons, List.not_mem_nil, or_false, Prod.mk.injEq] at e
        rcases e with ⟨a, _⟩ | ⟨a, _⟩
        · exact HD3.out k o q ⟨(.cells #[.int .i64 di, .int .i64 (i : Int)] 30 (0, 0) : Obj), by rw [a]; simp⟩
        · exact HD3.out k o q ⟨(.cells #[.int .i64 ci, .int .i64 (i : Int)] 30 (0, 0) : Obj), by rw [a]; simp⟩⟩
      go_roundg (gk - 1)
      case rel => exact ⟨i + 1, cu, cv, _, _, _, _, rc', rk', M4, by have := HI9.out; omega, rfl, rfl, by go_num, HIN4, Lib.hid ⟨HR3.out, HR4.out⟩, HDN, by simpa using HC6⟩
      case measure => have := HI9.out; omega
    · obtain rfl : i = m := by omega
      have i1 : decide ((i : Int) < (i : Int)) = false := decide_eq_false (by omega)
      clear hi him
      go_wp2_with fail
      refine (fixed_any _).mono ?_
      rintro e w99 ⟨rfl, hb⟩
      have HZ := Lib.hid (HC.out.low.trans (hb.mono HC.out.low.size))
      clear hb
      go_wp2_with fail
      go_ret
      exact ⟨rfl, HZ.out⟩
set_option maxRecDepth 100000 in
theorem lifted (os : Os) (started : os.Started) (H : Type) (enc : TypeId × Value → H) :
    ReturnsInHanded {} Try.checked os 7 .any (Rows.chainApartSpec.pre6 enc Try.prog Try.f7 Rows.chainApartRow.domain false) (Rows.chainApartSpec.post enc Try.prog Try.f7 false true false false) := by
  refine returnsInHanded_of_change (C := Try.checked) own started (by kernel_rfl) Try.func7
    (ChangeSpec.witness6 (enc := enc) (C := Try.checked) false ⟨#[], #[.int .u8 0, .int .u8 0, .int .u8 0], []⟩ 8 (by kernel_rfl) (by kernel_rfl) (by kernel_rfl) (by kernel_rfl)) ?_
  intro W base args ds gs before hval0 hW hcnd _
  have hval : ∀ (j : Nat) t v, Try.f7.params[j]? = some t → args[j]? = some v → Value.okWide Try.prog W .any base t v := hval0
  have hW' := hW
  obtain ⟨p, q, hA0, hV, rfl, hfz, hnd⟩ := hW
  have hA : DataW.TrodAll enc Try.prog W 0 (fun _ => true) true Try.f7.params.toList args.toList ds p := hA0
  rw [Try.params7] at hA hval
  obtain ⟨v0, vs0, d0, ds0, p0, q0, hargs, rfl, rfl, h0, r0⟩ := trodAll_cons hA
  obtain ⟨v1, vs1, d1, ds1, p1, q1, rfl, rfl, rfl, h1, r1⟩ := trodAll_cons r0
  obtain ⟨v2, vs2, d2, ds2, p2, q2, rfl, rfl, rfl, h2, r2⟩ := trodAll_cons r1
  obtain ⟨rfl, rfl, rfl⟩ := trodAll_nil r2
  obtain rfl : args = #[v0, v1, v2] := by cases args; simp_all
  obtain ⟨rfl, rfl⟩ := trodVars_none hV
  obtain ⟨a0, rfl, rfl, rfl, w0⟩ := open_int Try.underlying5 (hval 0 5 v0 rfl rfl) h0
  obtain ⟨a1, rfl, rfl, rfl, w1⟩ := open_int Try.underlying5 (hval 1 5 v1 rfl rfl) h1
  obtain ⟨a2, rfl, rfl, rfl, w2⟩ := open_int Try.underlying5 (hval 2 5 v2 rfl rfl) h2
  clear hA0 hval0
  refine (walk a0 a1 a2 W w0 w1 w2).mono fun e W' ⟨he, bel⟩ => ?_
  subst he
  exact ⟨_, rfl, _, _, _, [], _, [], hW', trodAll_mk1 (shut_bool Try.underlying4 _), (trodAll_cons_mk (shut_int Try.underlying5 w0) (trodAll_cons_mk (shut_int Try.underlying5 w1) (trodAll_cons_mk (shut_int Try.underlying5 w2) trodAll_mk0))), rfl, bel.frame _, fun h => by cases h⟩

theorem over : Rows.chainApartRow.holds Try.pinned (OpenSpec.ofChange Rows.chainApartSpec) :=
  OpenClaim.holds_of_wide 7 Try.f7 rfl rfl rfl rfl rfl rfl rfl ⟨rfl, rfl, rfl, rfl, rfl⟩ rfl rfl rfl rfl rfl (by kernel_rfl) Try.func7 (by kernel_rfl)
    (of_decide_eq_true (by kernel_rfl)) (by unfold Func.isWrapper; first | (rw [if_pos (by decide +kernel)]; kernel_rfl) | (rw [if_neg (by decide +kernel)]; exact ⟨rfl, rfl⟩))
    (fun os started H enc _ => lifted os started H enc)

theorem proved : Rows.ChainApartSaid := over
#print axioms proved
end Go.Proofs.Ytlnpfeecaiecaaa.chainApart
