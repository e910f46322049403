/- The fixed calls of stage 16: that they answer true, and nothing that was there turns. -/
import Derived.Test.YtpbcndbmmphngaaEnB
import Derived.Test.YtpbcndbmmphngaaGoes
namespace Go.Proofs.Ytpbcndbmmphngaa
open Go.RowKit
set_option linter.unusedVariables false
set_option linter.unusedSimpArgs false
set_option maxRecDepth 20000
/-- What came up so far is a row of these numbers. -/
def RowO (w : World) (o : Option Value) (L : List Int) : Prop := ∀ v, o = some v → ∃ a n cap, v = .slice a n cap ∧ n = L.length ∧ RowAt .i64 w a cap L
theorem RowO.none (w : World) (L : List Int) : RowO w none L := fun u h => by cases h
theorem RowO.below {w w' : World} {o : Option Value} {L : List Int} (h : RowO w o L) (hb : Below w.heap.size w w') : RowO w' o L := fun v e => by
  obtain ⟨a, n, cap, h1, h2, h3⟩ := h v e
  exact ⟨a, n, cap, h1, h2, h3.below hb⟩
theorem RowO.some {w : World} {a : Option Addr} {n cap : Nat} {L : List Int} (h2 : n = L.length) (h3 : RowAt .i64 w a cap L) : RowO w (some (.slice a n cap)) L := fun v e => by
  cases e; exact ⟨a, n, cap, rfl, h2, h3⟩
/-- What came up so far is a cache of these entries. -/
def CaO (w : World) (o : Option Value) (es : List En) : Prop := ∀ v, o = some v → ∃ a n cap, v = .agg #[.slice a n cap] ∧ n = es.length ∧ RowE w a cap es
theorem CaO.none (w : World) (es : List En) : CaO w none es := fun u h => by cases h
theorem CaO.below {w w' : World} {o : Option Value} {es : List En} (h : CaO w o es) (hb : Below w.heap.size w w') : CaO w' o es := fun v e => by
  obtain ⟨a, n, cap, h1, h2, h3⟩ := h v e
  exact ⟨a, n, cap, h1, h2, h3.below hb⟩
theorem CaO.some {w : World} {a : Option Addr} {n cap : Nat} {es : List En} (h2 : n = es.length) (h3 : RowE w a cap es) : CaO w (some (.agg #[.slice a n cap])) es := fun v e => by
  cases e; exact ⟨a, n, cap, rfl, h2, h3⟩
theorem keys_s {a : Option Addr} {n cap : Nat} {fs : List En} {w : World} (hn : n = fs.length) (hr : RowE w a cap fs) (hok : OkE fs) : Calls Try.prog 18 #[.agg #[.slice a n cap]] w fun e w' => ∃ a' c', e = .returned (.slice a' n c') ∧ RowAt .i64 w' a' c' (keysE fs) ∧ Below w.heap.size w w' :=
  (pkeys_e a n cap fs w hn hr hok).mono fun e w' ⟨v, he, hN, hb⟩ => by
    obtain ⟨a', c', hv, h⟩ := hN.at
    exact ⟨a', c', by rw [he, hv, hn]; simp [keysE], h, hb⟩
theorem drop_s {a : Option Addr} {n cap m : Nat} {fs gs : List En} {K : Int} {w : World} (hn : n = fs.length) (hr : RowE w a cap fs) (hok : OkE fs) (hp : dropE fs K = gs) (hm : gs.length = m) : Calls Try.prog 8 #[.agg #[.slice a n cap], .int .i64 K] w fun e w' => ∃ a' c', e = .returned (.agg #[.slice a' m c']) ∧ RowE w' a' c' gs ∧ Below w.heap.size w w' :=
  (pdrop_e a n cap fs K w hn hr hok).mono fun e w' ⟨v, he, hN, hb⟩ => by
    rw [hp] at hN
    obtain ⟨a', c', hv, h⟩ := hN.at
    exact ⟨a', c', by rw [he, hv, hm], h, hb⟩
def fxE (i : Nat) : Int := [5, 1, 3, 2].getD i 0
def fxL : Nat → List En
  | 0 => []
  | i + 1 => (putE (fxL i) ⟨fxE i, 10 + fxE i, 0, 0⟩).1
theorem fx_ok : ∀ i, OkE (fxL i)
  | 0 => OkE.nil
  | i + 1 => (fx_ok i).put _
theorem fx_step {i : Nat} (h : i < 4) : putE (fxL i) ⟨fxE i, 10 + fxE i, 0, 0⟩ = (fxL (i + 1), ⟨0, 0, 0, 0⟩, false) := by
  have : i = 0 ∨ i = 1 ∨ i = 2 ∨ i = 3 := by omega
  rcases this with e | e | e | e <;> subst e <;> decide
theorem fx_cell {i : Nat} (h : i < 4) : (#[.int .i64 5, .int .i64 1, .int .i64 3, .int .i64 2] : Array Value)[i]? = some (.int .i64 (fxE i)) ∧ 0 ≤ fxE i ∧ fxE i ≤ 9 := by
  have : i = 0 ∨ i = 1 ∨ i = 2 ∨ i = 3 := by omega
  rcases this with e | e | e | e <;> subst e <;> exact ⟨rfl, by decide, by decide⟩
set_option maxHeartbeats 8000000 in
set_option maxRecDepth 100000 in
theorem fixed_any (w : World) : Calls Try.prog 20 #[] w fun e w' => e = .returned (.bool true) ∧ Below w.heap.size w w' := by
  have hz0 := fun u => (show (binOp .neq 33 (.agg #[.int .i64 0, .int .i64 0, .int .u64 0, .int .u64 0]) (.agg #[.int .i64 0, .int .i64 0, .int .u64 0, .int .u64 0])).run Try.prog u = .ok (.bool false) u by have := neqE ⟨0, 0, 0, 0⟩ ⟨0, 0, 0, 0⟩ u; rw [eqE_self] at this; exact this)
  have hz1 := fun u => (show (binOp .eql 33 (.agg #[.int .i64 1, .int .i64 11, .int .u64 0, .int .u64 0]) (.agg #[.int .i64 1, .int .i64 11, .int .u64 0, .int .u64 0])).run Try.prog u = .ok (.bool true) u by have := eqlE ⟨1, 11, 0, 0⟩ ⟨1, 11, 0, 0⟩ u; rw [eqE_self] at this; exact this)
  have hz2 := fun u => (show (binOp .eql 33 (.agg #[.int .i64 4, .int .i64 14, .int .u64 0, .int .u64 0]) (.agg #[.int .i64 4, .int .i64 14, .int .u64 0, .int .u64 0])).run Try.prog u = .ok (.bool true) u by have := eqlE ⟨4, 14, 0, 0⟩ ⟨4, 14, 0, 0⟩ u; rw [eqE_self] at this; exact this)
  have hg := guardE
  have HC := Lib.hid (((Bx.start w).box #[.slice none 0 0] 26).box #[.int .i64 0, .int .i64 0, .int .u64 0, .int .u64 0] 33)
  go_enter Try.func20, Try.ntmps20
  go_upto_region 2 with fail
  rw [World.size_alloc] at HC
  have HB12 : Hid (w.heap.size < w.heap.size + 1) := Lib.hid (by omega)
  have HB1 : Hid (w.heap.size ≤ w.heap.size) := Lib.hid (Nat.le_refl _)
  have HB22 : Hid (w.heap.size ≤ w.heap.size + 1) := Lib.hid (by omega)
  generalize hwd : ((w.alloc (.cells #[.slice none 0 0] 26 : Obj)).alloc (.cells #[.int .i64 0, .int .i64 0, .int .u64 0, .int .u64 0] 33 : Obj)) = wa at HC ⊢
  obtain ⟨B2, hB2⟩ : ∃ B, w.heap.size + 1 = B := ⟨_, rfl⟩
  obtain ⟨B1, hB1⟩ : ∃ B, w.heap.size = B := ⟨_, rfl⟩
  rw [hB2] at HC HB12 HB22 ⊢
  have HC : Hid (Bx w ([] ++ [(B2, (.cells #[.int .i64 0, .int .i64 0, .int .u64 0, .int .u64 0] 33 (0, 0) : Obj)), (B1, (.cells #[.slice none 0 0] 26 (0, 0) : Obj))]) wa) := Lib.hid (by have := HC.out; rw [hB1] at this; exact this)
  replace HB12 : Hid (B1 < B2) := Lib.hid (by have := HB12.out; omega)
  replace HB1 : Hid (w.heap.size ≤ B1) := Lib.hid (by omega)
  rw [show w.heap.size = B1 from hB1]
  clear hwd hB2
  go_wp2_with fail
  go_loopg [4] 4 (fun gk s4 wr => ∃ (i : Nat) (a : Option Addr) (n cap : Nat) (rs : List (Nat × Obj)), i + gk = 4 ∧ s4 = .int .i64 (i : Nat) ∧ Hid (n = (fxL i).length) ∧ Hid (Bx w (rs ++ [(B2, (.cells #[.int .i64 0, .int .i64 0, .int .u64 0, .int .u64 0] 33 (0, 0) : Obj)), (B1, (.cells #[.slice a n cap] 26 (0, 0) : Obj))]) wr) ∧ Hid (∀ k o, (k, o) ∈ rs → k ≠ B1 ∧ k ≠ B2) ∧ Hid (∀ u : World, (∀ k o, (k, o) ∈ rs → u.heap[k]? = some o) → RowE u a cap (fxL i)))
  case atStart => exact ⟨0, none, 0, 0, [], rfl, rfl, Lib.hid rfl, HC, Lib.hid (fun k o q => by simp at q), Lib.hid (fun u _ => RowE.none u)⟩
  case round =>
    clear HC
    obtain ⟨i, a, n, cap, rs0, hi, rfl, HN, HC, HDX, HR0⟩ := hrel
    by_cases h4 : i < 4
    · have i1 : (i : Int) < 4 := by omega
      have i0 : (0 : Int) ≤ (i : Int) := by omega
      obtain ⟨E, hE⟩ : ∃ E, fxE i = E := ⟨_, rfl⟩
      obtain ⟨F, hF⟩ : ∃ F, 10 + E = F := ⟨_, rfl⟩
      obtain ⟨m, hm⟩ : ∃ m, (fxL (i + 1)).length = m := ⟨_, rfl⟩
      have hfc := fx_cell h4
      rw [hE] at hfc
      have he0 := hfc.2.1
      have he9 := hfc.2.2
      have HE : Hid ((#[.int .i64 5, .int .i64 1, .int .i64 3, .int .i64 2] : Array Value)[i]? = some (.int .i64 E) ∧ putE (fxL i) ⟨E, F, 0, 0⟩ = (fxL (i + 1), ⟨0, 0, 0, 0⟩, false) ∧ (fxL (i + 1)).length = m) := Lib.hid ⟨hfc.1, by have := fx_step h4; rw [hE, hF] at this; exact this, hm⟩
      have HE3 : Hid (m = (fxL (i + 1)).length) := Lib.hid hm.symm
      have HI9 : Hid (i < 4 ∧ i + gk = 4) := Lib.hid ⟨h4, hi⟩
      clear hi h4 hfc hE hm
      replace HC := Lib.hid (HC.out.box #[.int .i64 5, .int .i64 1, .int .i64 3, .int .i64 2] 3)
      have cE : (wr.alloc (.cells #[.int .i64 5, .int .i64 1, .int .i64 3, .int .i64 2] 3 : Obj)).cell? ⟨wr.heap.size, i, none⟩ = some (.int .i64 E) := by rw [cell_of_row _ _ i _ _ _ (HC.out.kept wr.heap.size (.cells #[.int .i64 5, .int .i64 1, .int .i64 3, .int .i64 2] 3 (0, 0) : Obj) (by simp))]; exact HE.out.1
      go_upto_region 6 with fail
      clear cE
      have HBW : Hid (B1 < B2 ∧ B2 < (wr.alloc (.cells #[.int .i64 5, .int .i64 1, .int .i64 3, .int .i64 2] 3 : Obj)).heap.size) := Lib.hid ⟨HB12.out, HC.out.klt (k := B2) (o := (.cells #[.int .i64 0, .int .i64 0, .int .u64 0, .int .u64 0] 33 (0, 0) : Obj)) (by simp)⟩
      generalize hwd : (wr.alloc (.cells #[.int .i64 5, .int .i64 1, .int .i64 3, .int .i64 2] 3 : Obj)) = wl at HC HBW ⊢
      clear hwd
      obtain ⟨cf0, cf1⟩ := cell1 (HC.out.kept (B1) (.cells #[.slice a n cap] 26 (0, 0) : Obj) (by simp))
      go_wp2_with fail
      clear cf0 cf1
      refine (HC.out.pput (fs := fxL i) HN.out (HR0.out _ (fun k o q => HC.out.kept k o (by simp [q]))) (fx_ok i) HE.out.2.1 (m := m) HE.out.2.2).mono ?_
      rintro e w2 ⟨rs1, a1, c1, rfl, hc, hr, hd, hz⟩
      have HZ1 : Hid (wl.heap.size ≤ w2.heap.size) := Lib.hid hz
      have HR1 := Lib.hid hr
      have HD1 := Lib.hid hd
      replace HC := Lib.hid hc
      clear hc hr hd hz
      replace HC := Lib.hid (HC.out.box #[.slice a1 m c1] 26)
      replace HC := Lib.hid (HC.out.box #[.int .i64 0, .int .i64 0, .int .u64 0, .int .u64 0] 33)
      obtain ⟨cf0, cf1⟩ := cell1 (HC.out.kept (B1) (.cells #[.slice a n cap] 26 (0, 0) : Obj) (by simp))
      obtain ⟨df0, df1⟩ := cell1 (HC.out.kept (w2.heap.size) (.cells #[.slice a1 m c1] 26 (0, 0) : Obj) (by simp))
      go_upto_region 8 with fail
      clear cf0 cf1 df0 df1
      have HB2W : Hid (wl.heap.size ≤ w2.heap.size) := HZ1
      replace HC : Hid (Bx w (rs1 ++ [(w2.heap.size + 1, (.cells #[.int .i64 0, .int .i64 0, .int .u64 0, .int .u64 0] 33 (0, 0) : Obj)), (B2, (.cells #[.int .i64 0, .int .i64 0, .int .u64 0, .int .u64 0] 33 (0, 0) : Obj)), (B1, (.cells #[.slice a1 m c1] 26 (0, 0) : Obj))]) (((w2.alloc (.cells #[.slice a1 m c1] 26 : Obj)).alloc (.cells #[.int .i64 0, .int .i64 0, .int .u64 0, .int .u64 0] 33 : Obj)).setCell ⟨B1, 0, none⟩ (.slice a1 m c1))) := Lib.hid (HC.out.set1 (B := B1) (x := .slice a n cap) (T := 26) (by simp) HB1.out (.slice a1 m c1) (fun z hz => by
        rcases List.mem_append.1 hz with e | e
        · exact .inr ⟨by simp [e], fun e2 => by have := HD1.out z.1 z.2 e; have := HBW.out; omega⟩
        · simp only [List.mem_cons, List.not_mem_nil, or_false] at e
          rcases e with e | e | e
          · subst e; exact .inr ⟨by simp, fun e2 => by have := HB2W.out; have := HBW.out; simp only at e2; omega⟩
          · subst e; exact .inr ⟨by simp, fun e2 => by have := HBW.out; simp only at e2; omega⟩
          · exact .inl e))
      generalize hwd : ((((w2.alloc (.cells #[.slice a1 m c1] 26 : Obj)).alloc (.cells #[.int .i64 0, .int .i64 0, .int .u64 0, .int .u64 0] 33 : Obj))).setCell ⟨B1, 0, none⟩ (.slice a1 m c1)) = w5 at HC ⊢
      generalize hxd : w2.heap.size + 1 = X at HC ⊢
      clear hwd hxd
      obtain ⟨xf0, xf1, xf2, xf3, _, _, _, _⟩ := cells4 (HC.out.kept X (.cells #[.int .i64 0, .int .i64 0, .int .u64 0, .int .u64 0] 33 (0, 0) : Obj) (by simp))
      obtain ⟨gf0, gf1, gf2, gf3, _, _, _, _⟩ := cells4 (HC.out.kept B2 (.cells #[.int .i64 0, .int .i64 0, .int .u64 0, .int .u64 0] 33 (0, 0) : Obj) (by simp))
      go_wp2_with fail
      clear xf0 xf1 xf2 xf3 gf0 gf1 gf2 gf3
      go_roundg (gk - 1)
      case rel => exact ⟨i + 1, a1, m, c1, rs1, by have := HI9.out; omega, by go_num, HE3, Lib.hid (HC.out.less (fun z hz => by simp at hz ⊢; rcases hz with q | q | q <;> simp [q])), Lib.hid (fun k oo q => by have := HD1.out k oo q; have := HBW.out; omega), Lib.hid HR1.out⟩
      case measure => have := HI9.out; omega
    · obtain rfl : i = 4 := by omega
      obtain rfl : n = 4 := by have := HN.out; rw [this]; decide
      have HR0 : Hid (∀ u : World, (∀ k o, (k, o) ∈ rs0 → u.heap[k]? = some o) → RowE u a cap [⟨1, 11, 0, 0⟩, ⟨2, 12, 0, 0⟩, ⟨3, 13, 0, 0⟩, ⟨5, 15, 0, 0⟩]) := HR0
      have HWR : Hid (B2 < wr.heap.size) := Lib.hid (HC.out.klt (k := B2) (o := (.cells #[.int .i64 0, .int .i64 0, .int .u64 0, .int .u64 0] 33 (0, 0) : Obj)) (by simp))
      clear hi h4 HN
      obtain ⟨cf0, cf1⟩ := cell1 (HC.out.kept (B1) (.cells #[.slice a 4 cap] 26 (0, 0) : Obj) (by simp))
      go_wp2_with fail
      clear cf0 cf1
      refine (HC.out.pput (fs := [⟨1, 11, 0, 0⟩, ⟨2, 12, 0, 0⟩, ⟨3, 13, 0, 0⟩, ⟨5, 15, 0, 0⟩]) rfl (HR0.out _ (fun k o q => HC.out.kept k o (by simp [q]))) ⟨by unfold RiseE; decide, by decide⟩ (gs := [⟨2, 12, 0, 0⟩, ⟨3, 13, 0, 0⟩, ⟨4, 14, 0, 0⟩, ⟨5, 15, 0, 0⟩]) (ep := 4) (key := 14) (nx := 0) (bt := 0) (gp := 1) (gk := 11) (gn := 0) (gb := 0) (is := true) rfl (m := 4) rfl).mono ?_
      rintro e w11 ⟨rs1, a1, c1, rfl, hc, hr, hd, hz⟩
      have HZ1 : Hid (wr.heap.size ≤ w11.heap.size) := Lib.hid hz
      have HR1 := Lib.hid hr
      have HD1 := Lib.hid hd
      replace HC := Lib.hid hc
      clear hc hr hd hz
      replace HC := Lib.hid (HC.out.box #[.slice a1 4 c1] 26)
      obtain ⟨gf0, gf1, gf2, gf3, gf4, gf5, gf6, gf7⟩ := cells4 (HC.out.kept (B2) (.cells #[.int .i64 0, .int .i64 0, .int .u64 0, .int .u64 0] 33 (0, 0) : Obj) (by simp))
      go_upto_region 11 with fail
      clear gf0 gf1 gf2 gf3 gf4 gf5 gf6 gf7
      replace HC : Hid (Bx w ((w11.heap.size, (.cells #[.slice a1 4 c1] 26 (0, 0) : Obj)) :: (rs1 ++ (rs0 ++ [(B2, (.cells #[.int .i64 1, .int .i64 11, .int .u64 0, .int .u64 0] 33 (0, 0) : Obj)), (B1, (.cells #[.slice a 4 cap] 26 (0, 0) : Obj))]))) ((((((w11.alloc (.cells #[.slice a1 4 c1] 26 : Obj)).setCell ⟨B2, 0, none⟩ (.int .i64 1)).setCell ⟨B2, 1, none⟩ (.int .i64 11)).setCell ⟨B2, 2, none⟩ (.int .u64 0)).setCell ⟨B2, 3, none⟩ (.int .u64 0)))) := Lib.hid (HC.out.set4 (B := B2) (x := .int .i64 0) (y := .int .i64 0) (z := .int .u64 0) (q := .int .u64 0) (T := 33) (by simp) HB22.out (.int .i64 1) (.int .i64 11) (.int .u64 0) (.int .u64 0) (fun z hz => by
        rcases List.mem_cons.1 hz with e | e
        · subst e; exact .inr ⟨by simp, fun e2 => by have := HZ1.out; have := HWR.out; simp only at e2; omega⟩
        · rcases List.mem_append.1 e with e | e
          · exact .inr ⟨by simp [e], fun e2 => by have := HD1.out z.1 z.2 e; have := HWR.out; omega⟩
          · rcases List.mem_append.1 e with e | e
            · exact .inr ⟨by simp [e], fun e2 => (HDX.out z.1 z.2 e).2 e2⟩
            · simp only [List.mem_cons, List.not_mem_nil, or_false] at e
              rcases e with e | e
              · exact .inl e
              · subst e; exact .inr ⟨by simp, fun e2 => by have := HB12.out; simp only at e2; omega⟩))
      generalize hwd : ((((((w11.alloc (.cells #[.slice a1 4 c1] 26 : Obj)).setCell ⟨B2, 0, none⟩ (.int .i64 1)).setCell ⟨B2, 1, none⟩ (.int .i64 11)).setCell ⟨B2, 2, none⟩ (.int .u64 0)).setCell ⟨B2, 3, none⟩ (.int .u64 0))) = wg at HC ⊢
      generalize hxd : w11.heap.size = Xd at HC ⊢
      clear hwd hxd HZ1
      obtain ⟨df0, df1⟩ := cell1 (HC.out.kept (Xd) (.cells #[.slice a1 4 c1] 26 (0, 0) : Obj) (by simp))
      go_wp2_with fail
      clear df0 df1
      refine (HC.out.pget (fs := [⟨2, 12, 0, 0⟩, ⟨3, 13, 0, 0⟩, ⟨4, 14, 0, 0⟩, ⟨5, 15, 0, 0⟩]) rfl (HR1.out _ (fun k o q => HC.out.kept k o (by simp [q]))) ⟨by unfold RiseE; decide, by decide⟩ (gp := 4) (gk := 14) (gn := 0) (gb := 0) (is := true) rfl).mono ?_
      rintro e w12 ⟨rfl, hc, hz⟩
      replace HC := Lib.hid hc
      clear hc hz
      replace HC := Lib.hid (HC.out.box #[.int .i64 4, .int .i64 14, .int .u64 0, .int .u64 0] 33)
      go_upto_region 12 with fail
      generalize hwd : (w12.alloc (.cells #[.int .i64 4, .int .i64 14, .int .u64 0, .int .u64 0] 33 : Obj)) = wh at HC ⊢
      generalize hxXe : w12.heap.size = Xe at HC ⊢
      clear hwd hxXe
      obtain ⟨df0, df1⟩ := cell1 (HC.out.kept (Xd) (.cells #[.slice a1 4 c1] 26 (0, 0) : Obj) (by simp))
      go_wp2_with fail
      clear df0 df1
      refine (HC.out.pget (fs := [⟨2, 12, 0, 0⟩, ⟨3, 13, 0, 0⟩, ⟨4, 14, 0, 0⟩, ⟨5, 15, 0, 0⟩]) rfl (HR1.out _ (fun k o q => HC.out.kept k o (by simp [q]))) ⟨by unfold RiseE; decide, by decide⟩ (gp := 0) (gk := 0) (gn := 0) (gb := 0) (is := false) rfl).mono ?_
      rintro e w13 ⟨rfl, hc, hz⟩
      replace HC := Lib.hid hc
      clear hc hz
      replace HC := Lib.hid (HC.out.box #[.int .i64 0, .int .i64 0, .int .u64 0, .int .u64 0] 33)
      go_upto_region 13 with fail
      generalize hwd : (w13.alloc (.cells #[.int .i64 0, .int .i64 0, .int .u64 0, .int .u64 0] 33 : Obj)) = wi at HC ⊢
      generalize hxXn : w13.heap.size = Xn at HC ⊢
      clear hwd hxXn
      obtain ⟨df0, df1⟩ := cell1 (HC.out.kept (Xd) (.cells #[.slice a1 4 c1] 26 (0, 0) : Obj) (by simp))
      go_wp2_with fail
      clear df0 df1
      refine (HC.out.pput (fs := [⟨2, 12, 0, 0⟩, ⟨3, 13, 0, 0⟩, ⟨4, 14, 0, 0⟩, ⟨5, 15, 0, 0⟩]) rfl (HR1.out _ (fun k o q => HC.out.kept k o (by simp [q]))) ⟨by unfold RiseE; decide, by decide⟩ (gs := [⟨2, 12, 0, 0⟩, ⟨3, 33, 0, 0⟩, ⟨4, 14, 0, 0⟩, ⟨5, 15, 0, 0⟩]) (ep := 3) (key := 33) (nx := 0) (bt := 0) (gp := 0) (gk := 0) (gn := 0) (gb := 0) (is := false) rfl (m := 4) rfl).mono ?_
      rintro e w14 ⟨rs2, a2, c2, rfl, hc, hr, hd, hz⟩
      have HZ2 : Hid (wi.heap.size ≤ w14.heap.size) := Lib.hid hz
      have HR2 := Lib.hid hr
      have HD2 := Lib.hid hd
      replace HC := Lib.hid hc
      clear hc hr hd hz
      replace HC := Lib.hid (HC.out.box #[.slice a2 4 c2] 26)
      replace HC := Lib.hid (HC.out.box #[.int .i64 0, .int .i64 0, .int .u64 0, .int .u64 0] 33)
      go_upto_region 14 with fail
      rw [World.size_alloc] at HC
      generalize hwd : ((w14.alloc (.cells #[.slice a2 4 c2] 26 : Obj)).alloc (.cells #[.int .i64 0, .int .i64 0, .int .u64 0, .int .u64 0] 33 : Obj)) = wj at HC ⊢
      generalize hxXy : w14.heap.size + 1 = Xy at HC ⊢
      generalize hxXf : w14.heap.size = Xf at HC ⊢
      clear hwd hxXy hxXf
      obtain ⟨df0, df1⟩ := cell1 (HC.out.kept (Xd) (.cells #[.slice a1 4 c1] 26 (0, 0) : Obj) (by simp))
      go_wp2_with fail
      clear df0 df1
      refine (HC.out.pput (fs := [⟨2, 12, 0, 0⟩, ⟨3, 13, 0, 0⟩, ⟨4, 14, 0, 0⟩, ⟨5, 15, 0, 0⟩]) rfl (HR1.out _ (fun k o q => HC.out.kept k o (by simp [q]))) ⟨by unfold RiseE; decide, by decide⟩ (gs := [⟨2, 12, 0, 0⟩, ⟨3, 13, 0, 0⟩, ⟨4, 14, 0, 0⟩, ⟨5, 15, 0, 0⟩]) (ep := 0) (key := 9) (nx := 0) (bt := 0) (gp := 0) (gk := 9) (gn := 0) (gb := 0) (is := true) rfl (m := 4) rfl).mono ?_
      rintro e w15 ⟨rs3, a3, c3, rfl, hc, hr, hd, hz⟩
      have HZ3 : Hid (wj.heap.size ≤ w15.heap.size) := Lib.hid hz
      have HR3 := Lib.hid hr
      have HD3 := Lib.hid hd
      replace HC := Lib.hid hc
      clear hc hr hd hz
      replace HC := Lib.hid (HC.out.box #[.slice a3 4 c3] 26)
      replace HC := Lib.hid (HC.out.box #[.int .i64 0, .int .i64 9, .int .u64 0, .int .u64 0] 33)
      rw [World.size_alloc] at HC
      go_upto_region 15 with fail
      generalize hwd : ((w15.alloc (.cells #[.slice a3 4 c3] 26 : Obj)).alloc (.cells #[.int .i64 0, .int .i64 9, .int .u64 0, .int .u64 0] 33 : Obj)) = wk at HC ⊢
      generalize hxXl : w15.heap.size + 1 = Xl at HC ⊢
      generalize hxXh : w15.heap.size = Xh at HC ⊢
      clear hwd hxXl hxXh
      try dsimp only [List.append]
      obtain ⟨BS, hM, hB⟩ : ∃ BS, (((B1, (.cells #[.slice a 4 cap] 26 (0, 0) : Obj)) : Nat × Obj) ∈ BS ∧ ((Xd, (.cells #[.slice a1 4 c1] 26 (0, 0) : Obj)) : Nat × Obj) ∈ BS ∧ ((B2, (.cells #[.int .i64 1, .int .i64 11, .int .u64 0, .int .u64 0] 33 (0, 0) : Obj)) : Nat × Obj) ∈ BS ∧ ((Xe, (.cells #[.int .i64 4, .int .i64 14, .int .u64 0, .int .u64 0] 33 (0, 0) : Obj)) : Nat × Obj) ∈ BS ∧ ((Xf, (.cells #[.slice a2 4 c2] 26 (0, 0) : Obj)) : Nat × Obj) ∈ BS ∧ ((Xh, (.cells #[.slice a3 4 c3] 26 (0, 0) : Obj)) : Nat × Obj) ∈ BS ∧ ((Xl, (.cells #[.int .i64 0, .int .i64 9, .int .u64 0, .int .u64 0] 33 (0, 0) : Obj)) : Nat × Obj) ∈ BS ∧ (∀ k o, (k, o) ∈ rs0 → (k, o) ∈ BS) ∧ (∀ k o, (k, o) ∈ rs1 → (k, o) ∈ BS) ∧ (∀ k o, (k, o) ∈ rs2 → (k, o) ∈ BS) ∧ (∀ k o, (k, o) ∈ rs3 → (k, o) ∈ BS)) ∧ Bx w BS wk := ⟨_, ⟨by simp, by simp, by simp, by simp, by simp, by simp, by simp, fun k o q => by simp [q], fun k o q => by simp [q], fun k o q => by simp [q], fun k o q => by simp [q]⟩, HC.out⟩
      have HM := Lib.hid hM
      have HCK := Lib.hid hB
      clear hM hB HC
      refine wp_region_held_drew (S := Bx w BS) (by kernel_rfl) (HCK.out.below (drew_b wk)) (fun hHeld => ?_)
      refine wpAnyH_take (i := 0) (oi := ?o1) (v := ?v1) ?i1 (by kernel_rfl) (by kernel_rfl) (by kernel_rfl) ?q1 (Or.inl ⟨?w1, ?y1⟩) (by assumption) ?r1
      case' i1 => simp only [List.getElem?_toArray, List.getElem?_cons_succ, List.getElem?_cons_zero]
      case i1 => rfl
      case q1 => exact fun _ _ _ h => h
      case w1 => kernel_rfl
      case y1 => (intro W hSw; obtain ⟨z0, z1⟩ := cell1 (hSw.kept _ _ HM.out.1); go_simp) <;> with_reducible rfl
      try simp only [Act.put, List.setIfInBounds_toArray, List.set_cons_zero, List.set_cons_succ]
      refine wpAnyH_two (i := 1) (j := 2) (oi := ?oi2) (oj := ?oj2) (fun x y W => RowO W x [11, 12, 13, 15] ∧ RowO W y [11, 12, 13, 15]) ?hi2 ?hj2 ?h02 (by kernel_rfl) (by kernel_rfl) (by kernel_rfl) rfl ?pi2 ?pj2 ?gi2 ?gj2 hHeld ⟨RowO.none _ _, RowO.none _ _⟩ ?h2
      case' hi2 => simp only [List.getElem?_toArray, List.getElem?_cons_succ, List.getElem?_cons_zero]
      case hi2 => rfl
      case' hj2 => simp only [List.getElem?_toArray, List.getElem?_cons_succ, List.getElem?_cons_zero]
      case hj2 => rfl
      case h02 => rfl
      case pi2 => intros; rfl
      case pj2 => intros; rfl
      case gi2 =>
        intro X1 X2 W hS hI K' hK
        have hI2 := Lib.hid hI.2
        try simp only [Act.put, List.setIfInBounds_toArray, List.set_cons_zero, List.set_cons_succ]
        go_simp
        go_at_call 18
        refine (keys_s rfl (HR0.out _ (fun k o q => hS.kept k o (HM.out.2.2.2.2.2.2.2.1 k o q))) ⟨by unfold RiseE; decide, by decide⟩ (fs := [⟨1, 11, 0, 0⟩, ⟨2, 12, 0, 0⟩, ⟨3, 13, 0, 0⟩, ⟨5, 15, 0, 0⟩])).mono ?_
        rintro ee W2 ⟨a', c', rfl, hr, hb⟩
        go_wp2_with fail
        exact hK.out _ _ (hS.below hb) ⟨RowO.some rfl hr, hI2.out.below hb⟩
      case gj2 =>
        intro X1 X2 W hS hI K' hK
        have hI2 := Lib.hid hI.1
        try simp only [Act.put, List.setIfInBounds_toArray, List.set_cons_zero, List.set_cons_succ]
        have hb := below_alloc W (.cells #[.int .i64 11, .int .i64 12, .int .i64 13, .int .i64 15] 3)
        go_simp
        exact hK.out _ _ (hS.below hb) ⟨hI2.out.below hb, RowO.some rfl (lit_row .i64 3 W [11, 12, 13, 15] (by decide))⟩
      intro X1 X2 W2 hHeld ⟨hx, hy⟩
      obtain ⟨ax, nx1, cx, rfl, hn1, hr1⟩ := hx _ rfl
      obtain ⟨ay, ny1, cy, rfl, hn2, hr2⟩ := hy _ rfl
      try simp only [Act.put, List.setIfInBounds_toArray, List.set_cons_zero, List.set_cons_succ]
      have HN1 := Lib.hid (And.intro hn1 hn2)
      have HQ1 := Lib.hid (And.intro hr1 hr2)
      clear hx hy hn1 hn2 hr1 hr2
      refine wpAnyH_ready (rs := [3]) (by kernel_rfl) (by simp) ?_
      refine AllReadyH.cons (o := ?o3) ?i3 (fun K' hK => ?_) AllReadyH.nil
      case' i3 => simp only [List.getElem?_toArray, List.getElem?_cons_succ, List.getElem?_cons_zero]
      case i3 => rfl
      go_simp
      go_at_call 17
      refine (same_i HN1.out.1 HN1.out.2 HQ1.out.1 HQ1.out.2 (r := true) (by decide)).mono ?_
      rintro ee W2 ⟨rfl, hb⟩
      have hhb := Lib.hid hb
      clear hb
      go_wp2_with fail
      refine hK.out _ _ (hHeld.below hhb.out) (fun hHeld => ?_)
      clear hK K'
      try simp only [Act.put, List.setIfInBounds_toArray, List.set_cons_zero, List.set_cons_succ]
      clear HN1 HQ1
      refine wpAnyH_take (i := 4) (oi := ?o4) (v := ?v4) ?i4 (by kernel_rfl) (by kernel_rfl) (by kernel_rfl) ?q4 (Or.inl ⟨?w4, ?y4⟩) (by assumption) ?r4
      case' i4 => simp only [List.getElem?_toArray, List.getElem?_cons_succ, List.getElem?_cons_zero]
      case i4 => rfl
      case q4 => exact fun _ _ _ h => h
      case w4 => kernel_rfl
      case y4 => (intro W hSw; go_simp) <;> with_reducible rfl
      try simp only [Act.put, List.setIfInBounds_toArray, List.set_cons_zero, List.set_cons_succ]
      refine wpAnyH_take (i := 5) (oi := ?o5) (v := ?v5) ?i5 (by kernel_rfl) (by kernel_rfl) (by kernel_rfl) ?q5 (Or.inl ⟨?w5, ?y5⟩) (by assumption) ?r5
      case' i5 => simp only [List.getElem?_toArray, List.getElem?_cons_succ, List.getElem?_cons_zero]
      case i5 => rfl
      case q5 => exact fun _ _ _ h => h
      case w5 => kernel_rfl
      case y5 => (intro W hSw; obtain ⟨z0, z1⟩ := cell1 (hSw.kept _ _ HM.out.2.1); go_simp) <;> with_reducible rfl
      try simp only [Act.put, List.setIfInBounds_toArray, List.set_cons_zero, List.set_cons_succ]
      refine wpAnyH_two (i := 6) (j := 7) (oi := ?oi6) (oj := ?oj6) (fun x y W => RowO W x [12, 13, 14, 15] ∧ RowO W y [12, 13, 14, 15]) ?hi6 ?hj6 ?h06 (by kernel_rfl) (by kernel_rfl) (by kernel_rfl) rfl ?pi6 ?pj6 ?gi6 ?gj6 hHeld ⟨RowO.none _ _, RowO.none _ _⟩ ?h6
      case' hi6 => simp only [List.getElem?_toArray, List.getElem?_cons_succ, List.getElem?_cons_zero]
      case hi6 => rfl
      case' hj6 => simp only [List.getElem?_toArray, List.getElem?_cons_succ, List.getElem?_cons_zero]
      case hj6 => rfl
      case h06 => rfl
      case pi6 => intros; rfl
      case pj6 => intros; rfl
      case gi6 =>
        intro X1 X2 W hS hI K' hK
        have hI2 := Lib.hid hI.2
        try simp only [Act.put, List.setIfInBounds_toArray, List.set_cons_zero, List.set_cons_succ]
        go_simp
        go_at_call 18
        refine (keys_s rfl (HR1.out _ (fun k o q => hS.kept k o (HM.out.2.2.2.2.2.2.2.2.1 k o q))) ⟨by unfold RiseE; decide, by decide⟩ (fs := [⟨2, 12, 0, 0⟩, ⟨3, 13, 0, 0⟩, ⟨4, 14, 0, 0⟩, ⟨5, 15, 0, 0⟩])).mono ?_
        rintro ee W2 ⟨a', c', rfl, hr, hb⟩
        go_wp2_with fail
        exact hK.out _ _ (hS.below hb) ⟨RowO.some rfl hr, hI2.out.below hb⟩
      case gj6 =>
        intro X1 X2 W hS hI K' hK
        have hI2 := Lib.hid hI.1
        try simp only [Act.put, List.setIfInBounds_toArray, List.set_cons_zero, List.set_cons_succ]
        have hb := below_alloc W (.cells #[.int .i64 12, .int .i64 13, .int .i64 14, .int .i64 15] 3)
        go_simp
        exact hK.out _ _ (hS.below hb) ⟨hI2.out.below hb, RowO.some rfl (lit_row .i64 3 W [12, 13, 14, 15] (by decide))⟩
      intro X1 X2 W6 hHeld ⟨hx, hy⟩
      obtain ⟨ax, nx1, cx, rfl, hn1, hr1⟩ := hx _ rfl
      obtain ⟨ay, ny1, cy, rfl, hn2, hr2⟩ := hy _ rfl
      try simp only [Act.put, List.setIfInBounds_toArray, List.set_cons_zero, List.set_cons_succ]
      have HN1 := Lib.hid (And.intro hn1 hn2)
      have HQ1 := Lib.hid (And.intro hr1 hr2)
      clear hx hy hn1 hn2 hr1 hr2
      refine wpAnyH_ready (rs := [8]) (by kernel_rfl) (by simp) ?_
      refine AllReadyH.cons (o := ?o7) ?i7 (fun K' hK => ?_) AllReadyH.nil
      case' i7 => simp only [List.getElem?_toArray, List.getElem?_cons_succ, List.getElem?_cons_zero]
      case i7 => rfl
      go_simp
      go_at_call 17
      refine (same_i HN1.out.1 HN1.out.2 HQ1.out.1 HQ1.out.2 (r := true) (by decide)).mono ?_
      rintro ee W2 ⟨rfl, hb⟩
      have hhb := Lib.hid hb
      clear hb
      go_wp2_with fail
      refine hK.out _ _ (hHeld.below hhb.out) (fun hHeld => ?_)
      clear hK K'
      try simp only [Act.put, List.setIfInBounds_toArray, List.set_cons_zero, List.set_cons_succ]
      clear HN1 HQ1
      refine wpAnyH_take (i := 9) (oi := ?o8) (v := ?v8) ?i8 (by kernel_rfl) (by kernel_rfl) (by kernel_rfl) ?q8 (Or.inl ⟨?w8, ?y8⟩) (by assumption) ?r8
      case' i8 => simp only [List.getElem?_toArray, List.getElem?_cons_succ, List.getElem?_cons_zero]
      case i8 => rfl
      case q8 => exact fun _ _ _ h => h
      case w8 => kernel_rfl
      case y8 => (intro W hSw; go_simp) <;> with_reducible rfl
      try simp only [Act.put, List.setIfInBounds_toArray, List.set_cons_zero, List.set_cons_succ]
      refine wpAnyH_take (i := 10) (oi := ?o9) (v := ?v9) ?i9 (by kernel_rfl) (by kernel_rfl) (by kernel_rfl) ?q9 (Or.inl ⟨?w9, ?y9⟩) (by assumption) ?r9
      case' i9 => simp only [List.getElem?_toArray, List.getElem?_cons_succ, List.getElem?_cons_zero]
      case i9 => rfl
      case q9 => exact fun _ _ _ h => h
      case w9 => kernel_rfl
      case y9 => (intro W hSw; go_simp) <;> with_reducible rfl
      try simp only [Act.put, List.setIfInBounds_toArray, List.set_cons_zero, List.set_cons_succ]
      refine wpAnyH_take (i := 11) (oi := ?o10) (v := ?v10) ?i10 (by kernel_rfl) (by kernel_rfl) (by kernel_rfl) ?q10 (Or.inl ⟨?w10, ?y10⟩) (by assumption) ?r10
      case' i10 => simp only [List.getElem?_toArray, List.getElem?_cons_succ, List.getElem?_cons_zero]
      case i10 => rfl
      case q10 => exact fun _ _ _ h => h
      case w10 => kernel_rfl
      case y10 => (intro W hSw; obtain ⟨z0, z1, z2, z3, z4, z5, z6, z7⟩ := cells4 (hSw.kept _ _ HM.out.2.2.1); go_simp) <;> with_reducible rfl
      try simp only [Act.put, List.setIfInBounds_toArray, List.set_cons_zero, List.set_cons_succ]
      refine wpAnyH_take (i := 12) (oi := ?o11) (v := ?v11) ?i11 (by kernel_rfl) (by kernel_rfl) (by kernel_rfl) ?q11 (Or.inl ⟨?w11, ?y11⟩) (by assumption) ?r11
      case' i11 => simp only [List.getElem?_toArray, List.getElem?_cons_succ, List.getElem?_cons_zero]
      case i11 => rfl
      case q11 => exact fun _ _ _ h => h
      case w11 => kernel_rfl
      case y11 => (intro W hSw; go_simp) <;> with_reducible rfl
      try simp only [Act.put, List.setIfInBounds_toArray, List.set_cons_zero, List.set_cons_succ]
      refine wpAnyH_take (i := 13) (oi := ?o12) (v := ?v12) ?i12 (by kernel_rfl) (by kernel_rfl) (by kernel_rfl) ?q12 (Or.inl ⟨?w12, ?y12⟩) (by assumption) ?r12
      case' i12 => simp only [List.getElem?_toArray, List.getElem?_cons_succ, List.getElem?_cons_zero]
      case i12 => rfl
      case q12 => exact fun _ _ _ h => h
      case w12 => kernel_rfl
      case y12 => (intro W hSw; go_simp) <;> with_reducible rfl
      try simp only [Act.put, List.setIfInBounds_toArray, List.set_cons_zero, List.set_cons_succ]
      refine wpAnyH_take (i := 14) (oi := ?o13) (v := ?v13) ?i13 (by kernel_rfl) (by kernel_rfl) (by kernel_rfl) ?q13 (Or.inl ⟨?w13, ?y13⟩) (by assumption) ?r13
      case' i13 => simp only [List.getElem?_toArray, List.getElem?_cons_succ, List.getElem?_cons_zero]
      case i13 => rfl
      case q13 => exact fun _ _ _ h => h
      case w13 => kernel_rfl
      case y13 => (intro W hSw; go_simp) <;> with_reducible rfl
      try simp only [Act.put, List.setIfInBounds_toArray, List.set_cons_zero, List.set_cons_succ]
      refine wpAnyH_take (i := 15) (oi := ?o14) (v := ?v14) ?i14 (by kernel_rfl) (by kernel_rfl) (by kernel_rfl) ?q14 (Or.inl ⟨?w14, ?y14⟩) (by assumption) ?r14
      case' i14 => simp only [List.getElem?_toArray, List.getElem?_cons_succ, List.getElem?_cons_zero]
      case i14 => rfl
      case q14 => exact fun _ _ _ h => h
      case w14 => kernel_rfl
      case y14 => (intro W hSw; go_simp) <;> with_reducible rfl
      try simp only [Act.put, List.setIfInBounds_toArray, List.set_cons_zero, List.set_cons_succ]
      refine wpAnyH_take (i := 16) (oi := ?o15) (v := ?v15) ?i15 (by kernel_rfl) (by kernel_rfl) (by kernel_rfl) ?q15 (Or.inl ⟨?w15, ?y15⟩) (by assumption) ?r15
      case' i15 => simp only [List.getElem?_toArray, List.getElem?_cons_succ, List.getElem?_cons_zero]
      case i15 => rfl
      case q15 => exact fun _ _ _ h => h
      case w15 => kernel_rfl
      case y15 => (intro W hSw; go_simp) <;> with_reducible rfl
      try simp only [Act.put, List.setIfInBounds_toArray, List.set_cons_zero, List.set_cons_succ]
      refine wpAnyH_take (i := 17) (oi := ?o16) (v := ?v16) ?i16 (by kernel_rfl) (by kernel_rfl) (by kernel_rfl) ?q16 (Or.inl ⟨?w16, ?y16⟩) (by assumption) ?r16
      case' i16 => simp only [List.getElem?_toArray, List.getElem?_cons_succ, List.getElem?_cons_zero]
      case i16 => rfl
      case q16 => exact fun _ _ _ h => h
      case w16 => kernel_rfl
      case y16 => (intro W hSw; go_simp) <;> with_reducible rfl
      try simp only [Act.put, List.setIfInBounds_toArray, List.set_cons_zero, List.set_cons_succ]
      refine wpAnyH_take (i := 18) (oi := ?o17) (v := ?v17) ?i17 (by kernel_rfl) (by kernel_rfl) (by kernel_rfl) ?q17 (Or.inl ⟨?w17, ?y17⟩) (by assumption) ?r17
      case' i17 => simp only [List.getElem?_toArray, List.getElem?_cons_succ, List.getElem?_cons_zero]
      case i17 => rfl
      case q17 => exact fun _ _ _ h => h
      case w17 => kernel_rfl
      case y17 => (intro W hSw; go_simp) <;> with_reducible rfl
      try simp only [Act.put, List.setIfInBounds_toArray, List.set_cons_zero, List.set_cons_succ]
      refine wpAnyH_take (i := 19) (oi := ?o18) (v := ?v18) ?i18 (by kernel_rfl) (by kernel_rfl) (by kernel_rfl) ?q18 (Or.inl ⟨?w18, ?y18⟩) (by assumption) ?r18
      case' i18 => simp only [List.getElem?_toArray, List.getElem?_cons_succ, List.getElem?_cons_zero]
      case i18 => rfl
      case q18 => exact fun _ _ _ h => h
      case w18 => kernel_rfl
      case y18 => (intro W hSw; obtain ⟨z0, z1, z2, z3, z4, z5, z6, z7⟩ := cells4 (hSw.kept _ _ HM.out.2.2.2.1); go_simp) <;> with_reducible rfl
      try simp only [Act.put, List.setIfInBounds_toArray, List.set_cons_zero, List.set_cons_succ]
      refine wpAnyH_take (i := 20) (oi := ?o19) (v := ?v19) ?i19 (by kernel_rfl) (by kernel_rfl) (by kernel_rfl) ?q19 (Or.inl ⟨?w19, ?y19⟩) (by assumption) ?r19
      case' i19 => simp only [List.getElem?_toArray, List.getElem?_cons_succ, List.getElem?_cons_zero]
      case i19 => rfl
      case q19 => exact fun _ _ _ h => h
      case w19 => kernel_rfl
      case y19 => (intro W hSw; go_simp) <;> with_reducible rfl
      try simp only [Act.put, List.setIfInBounds_toArray, List.set_cons_zero, List.set_cons_succ]
      refine wpAnyH_take (i := 21) (oi := ?o20) (v := ?v20) ?i20 (by kernel_rfl) (by kernel_rfl) (by kernel_rfl) ?q20 (Or.inl ⟨?w20, ?y20⟩) (by assumption) ?r20
      case' i20 => simp only [List.getElem?_toArray, List.getElem?_cons_succ, List.getElem?_cons_zero]
      case i20 => rfl
      case q20 => exact fun _ _ _ h => h
      case w20 => kernel_rfl
      case y20 => (intro W hSw; go_simp) <;> with_reducible rfl
      try simp only [Act.put, List.setIfInBounds_toArray, List.set_cons_zero, List.set_cons_succ]
      refine wpAnyH_take (i := 22) (oi := ?o21) (v := ?v21) ?i21 (by kernel_rfl) (by kernel_rfl) (by kernel_rfl) ?q21 (Or.inl ⟨?w21, ?y21⟩) (by assumption) ?r21
      case' i21 => simp only [List.getElem?_toArray, List.getElem?_cons_succ, List.getElem?_cons_zero]
      case i21 => rfl
      case q21 => exact fun _ _ _ h => h
      case w21 => kernel_rfl
      case y21 => (intro W hSw; go_simp) <;> with_reducible rfl
      try simp only [Act.put, List.setIfInBounds_toArray, List.set_cons_zero, List.set_cons_succ]
      refine wpAnyH_take (i := 23) (oi := ?o22) (v := ?v22) ?i22 (by kernel_rfl) (by kernel_rfl) (by kernel_rfl) ?q22 (Or.inl ⟨?w22, ?y22⟩) (by assumption) ?r22
      case' i22 => simp only [List.getElem?_toArray, List.getElem?_cons_succ, List.getElem?_cons_zero]
      case i22 => rfl
      case q22 => exact fun _ _ _ h => h
      case w22 => kernel_rfl
      case y22 => (intro W hSw; go_simp) <;> with_reducible rfl
      try simp only [Act.put, List.setIfInBounds_toArray, List.set_cons_zero, List.set_cons_succ]
      refine wpAnyH_take (i := 24) (oi := ?o23) (v := ?v23) ?i23 (by kernel_rfl) (by kernel_rfl) (by kernel_rfl) ?q23 (Or.inl ⟨?w23, ?y23⟩) (by assumption) ?r23
      case' i23 => simp only [List.getElem?_toArray, List.getElem?_cons_succ, List.getElem?_cons_zero]
      case i23 => rfl
      case q23 => exact fun _ _ _ h => h
      case w23 => kernel_rfl
      case y23 => (intro W hSw; go_simp) <;> with_reducible rfl
      try simp only [Act.put, List.setIfInBounds_toArray, List.set_cons_zero, List.set_cons_succ]
      refine wpAnyH_take (i := 25) (oi := ?o24) (v := ?v24) ?i24 (by kernel_rfl) (by kernel_rfl) (by kernel_rfl) ?q24 (Or.inl ⟨?w24, ?y24⟩) (by assumption) ?r24
      case' i24 => simp only [List.getElem?_toArray, List.getElem?_cons_succ, List.getElem?_cons_zero]
      case i24 => rfl
      case q24 => exact fun _ _ _ h => h
      case w24 => kernel_rfl
      case y24 => (intro W hSw; go_simp) <;> with_reducible rfl
      try simp only [Act.put, List.setIfInBounds_toArray, List.set_cons_zero, List.set_cons_succ]
      refine wpAnyH_take (i := 26) (oi := ?o25) (v := ?v25) ?i25 (by kernel_rfl) (by kernel_rfl) (by kernel_rfl) ?q25 (Or.inl ⟨?w25, ?y25⟩) (by assumption) ?r25
      case' i25 => simp only [List.getElem?_toArray, List.getElem?_cons_succ, List.getElem?_cons_zero]
      case i25 => rfl
      case q25 => exact fun _ _ _ h => h
      case w25 => kernel_rfl
      case y25 => (intro W hSw; go_simp) <;> with_reducible rfl
      try simp only [Act.put, List.setIfInBounds_toArray, List.set_cons_zero, List.set_cons_succ]
      refine wpAnyH_take (i := 27) (oi := ?o26) (v := ?v26) ?i26 (by kernel_rfl) (by kernel_rfl) (by kernel_rfl) ?q26 (Or.inl ⟨?w26, ?y26⟩) (by assumption) ?r26
      case' i26 => simp only [List.getElem?_toArray, List.getElem?_cons_succ, List.getElem?_cons_zero]
      case i26 => rfl
      case q26 => exact fun _ _ _ h => h
      case w26 => kernel_rfl
      case y26 => (intro W hSw; go_simp) <;> with_reducible rfl
      try simp only [Act.put, List.setIfInBounds_toArray, List.set_cons_zero, List.set_cons_succ]
      refine wpAnyH_take (i := 28) (oi := ?o27) (v := ?v27) ?i27 (by kernel_rfl) (by kernel_rfl) (by kernel_rfl) ?q27 (Or.inl ⟨?w27, ?y27⟩) (by assumption) ?r27
      case' i27 => simp only [List.getElem?_toArray, List.getElem?_cons_succ, List.getElem?_cons_zero]
      case i27 => rfl
      case q27 => exact fun _ _ _ h => h
      case w27 => kernel_rfl
      case y27 => (intro W hSw; go_simp) <;> with_reducible rfl
      try simp only [Act.put, List.setIfInBounds_toArray, List.set_cons_zero, List.set_cons_succ]
      refine wpAnyH_take (i := 29) (oi := ?o28) (v := ?v28) ?i28 (by kernel_rfl) (by kernel_rfl) (by kernel_rfl) ?q28 (Or.inl ⟨?w28, ?y28⟩) (by assumption) ?r28
      case' i28 => simp only [List.getElem?_toArray, List.getElem?_cons_succ, List.getElem?_cons_zero]
      case i28 => rfl
      case q28 => exact fun _ _ _ h => h
      case w28 => kernel_rfl
      case y28 => (intro W hSw; go_simp) <;> with_reducible rfl
      try simp only [Act.put, List.setIfInBounds_toArray, List.set_cons_zero, List.set_cons_succ]
      refine wpAnyH_take (i := 30) (oi := ?o29) (v := ?v29) ?i29 (by kernel_rfl) (by kernel_rfl) (by kernel_rfl) ?q29 (Or.inl ⟨?w29, ?y29⟩) (by assumption) ?r29
      case' i29 => simp only [List.getElem?_toArray, List.getElem?_cons_succ, List.getElem?_cons_zero]
      case i29 => rfl
      case q29 => exact fun _ _ _ h => h
      case w29 => kernel_rfl
      case y29 => (intro W hSw; go_simp) <;> with_reducible rfl
      try simp only [Act.put, List.setIfInBounds_toArray, List.set_cons_zero, List.set_cons_succ]
      refine wpAnyH_take (i := 31) (oi := ?o30) (v := ?v30) ?i30 (by kernel_rfl) (by kernel_rfl) (by kernel_rfl) ?q30 (Or.inl ⟨?w30, ?y30⟩) (by assumption) ?r30
      case' i30 => simp only [List.getElem?_toArray, List.getElem?_cons_succ, List.getElem?_cons_zero]
      case i30 => rfl
      case q30 => exact fun _ _ _ h => h
      case w30 => kernel_rfl
      case y30 => (intro W hSw; obtain ⟨z0, z1⟩ := cell1 (hSw.kept _ _ HM.out.2.2.2.2.1); go_simp) <;> with_reducible rfl
      try simp only [Act.put, List.setIfInBounds_toArray, List.set_cons_zero, List.set_cons_succ]
      refine wpAnyH_two (i := 32) (j := 33) (oi := ?oi31) (oj := ?oj31) (fun x y W => RowO W x [12, 33, 14, 15] ∧ RowO W y [12, 33, 14, 15]) ?hi31 ?hj31 ?h031 (by kernel_rfl) (by kernel_rfl) (by kernel_rfl) rfl ?pi31 ?pj31 ?gi31 ?gj31 hHeld ⟨RowO.none _ _, RowO.none _ _⟩ ?h31
      case' hi31 => simp only [List.getElem?_toArray, List.getElem?_cons_succ, List.getElem?_cons_zero]
      case hi31 => rfl
      case' hj31 => simp only [List.getElem?_toArray, List.getElem?_cons_succ, List.getElem?_cons_zero]
      case hj31 => rfl
      case h031 => rfl
      case pi31 => intros; rfl
      case pj31 => intros; rfl
      case gi31 =>
        intro X1 X2 W hS hI K' hK
        have hI2 := Lib.hid hI.2
        try simp only [Act.put, List.setIfInBounds_toArray, List.set_cons_zero, List.set_cons_succ]
        go_simp
        go_at_call 18
        refine (keys_s rfl (HR2.out _ (fun k o q => hS.kept k o (HM.out.2.2.2.2.2.2.2.2.2.1 k o q))) ⟨by unfold RiseE; decide, by decide⟩ (fs := [⟨2, 12, 0, 0⟩, ⟨3, 33, 0, 0⟩, ⟨4, 14, 0, 0⟩, ⟨5, 15, 0, 0⟩])).mono ?_
        rintro ee W2 ⟨a', c', rfl, hr, hb⟩
        go_wp2_with fail
        exact hK.out _ _ (hS.below hb) ⟨RowO.some rfl hr, hI2.out.below hb⟩
      case gj31 =>
        intro X1 X2 W hS hI K' hK
        have hI2 := Lib.hid hI.1
        try simp only [Act.put, List.setIfInBounds_toArray, List.set_cons_zero, List.set_cons_succ]
        have hb := below_alloc W (.cells #[.int .i64 12, .int .i64 33, .int .i64 14, .int .i64 15] 3)
        go_simp
        exact hK.out _ _ (hS.below hb) ⟨hI2.out.below hb, RowO.some rfl (lit_row .i64 3 W [12, 33, 14, 15] (by decide))⟩
      intro X1 X2 W31 hHeld ⟨hx, hy⟩
      obtain ⟨ax, nx1, cx, rfl, hn1, hr1⟩ := hx _ rfl
      obtain ⟨ay, ny1, cy, rfl, hn2, hr2⟩ := hy _ rfl
      try simp only [Act.put, List.setIfInBounds_toArray, List.set_cons_zero, List.set_cons_succ]
      have HN1 := Lib.hid (And.intro hn1 hn2)
      have HQ1 := Lib.hid (And.intro hr1 hr2)
      clear hx hy hn1 hn2 hr1 hr2
      refine wpAnyH_ready (rs := [34]) (by kernel_rfl) (by simp) ?_
      refine AllReadyH.cons (o := ?o32) ?i32 (fun K' hK => ?_) AllReadyH.nil
      case' i32 => simp only [List.getElem?_toArray, List.getElem?_cons_succ, List.getElem?_cons_zero]
      case i32 => rfl
      go_simp
      go_at_call 17
      refine (same_i HN1.out.1 HN1.out.2 HQ1.out.1 HQ1.out.2 (r := true) (by decide)).mono ?_
      rintro ee W2 ⟨rfl, hb⟩
      have hhb := Lib.hid hb
      clear hb
      go_wp2_with fail
      refine hK.out _ _ (hHeld.below hhb.out) (fun hHeld => ?_)
      clear hK K'
      try simp only [Act.put, List.setIfInBounds_toArray, List.set_cons_zero, List.set_cons_succ]
      clear HN1 HQ1
      refine wpAnyH_take (i := 35) (oi := ?o33) (v := ?v33) ?i33 (by kernel_rfl) (by kernel_rfl) (by kernel_rfl) ?q33 (Or.inl ⟨?w33, ?y33⟩) (by assumption) ?r33
      case' i33 => simp only [List.getElem?_toArray, List.getElem?_cons_succ, List.getElem?_cons_zero]
      case i33 => rfl
      case q33 => exact fun _ _ _ h => h
      case w33 => kernel_rfl
      case y33 => (intro W hSw; go_simp) <;> with_reducible rfl
      try simp only [Act.put, List.setIfInBounds_toArray, List.set_cons_zero, List.set_cons_succ]
      refine wpAnyH_take (i := 36) (oi := ?o34) (v := ?v34) ?i34 (by kernel_rfl) (by kernel_rfl) (by kernel_rfl) ?q34 (Or.inl ⟨?w34, ?y34⟩) (by assumption) ?r34
      case' i34 => simp only [List.getElem?_toArray, List.getElem?_cons_succ, List.getElem?_cons_zero]
      case i34 => rfl
      case q34 => exact fun _ _ _ h => h
      case w34 => kernel_rfl
      case y34 => (intro W hSw; go_simp) <;> with_reducible rfl
      try simp only [Act.put, List.setIfInBounds_toArray, List.set_cons_zero, List.set_cons_succ]
      refine wpAnyH_take (i := 37) (oi := ?o35) (v := ?v35) ?i35 (by kernel_rfl) (by kernel_rfl) (by kernel_rfl) ?q35 (Or.inl ⟨?w35, ?y35⟩) (by assumption) ?r35
      case' i35 => simp only [List.getElem?_toArray, List.getElem?_cons_succ, List.getElem?_cons_zero]
      case i35 => rfl
      case q35 => exact fun _ _ _ h => h
      case w35 => kernel_rfl
      case y35 => (intro W hSw; obtain ⟨z0, z1⟩ := cell1 (hSw.kept _ _ HM.out.2.1); go_simp) <;> with_reducible rfl
      try simp only [Act.put, List.setIfInBounds_toArray, List.set_cons_zero, List.set_cons_succ]
      refine wpAnyH_threeL (i := 40) (j := 38) (k := 39) (oi := ?oi36) (oj := ?oj36) (ok := ?ok36) (fun x y z W => RowO W x [12, 14, 15] ∧ CaO W y [⟨2, 12, 0, 0⟩, ⟨4, 14, 0, 0⟩, ⟨5, 15, 0, 0⟩] ∧ RowO W z [12, 14, 15]) ?hi36 ?hj36 ?hk36 ?h036 (by kernel_rfl) (by kernel_rfl) (by kernel_rfl) (by kernel_rfl) (by kernel_rfl) rfl rfl ?pi36 ?pj36 ?pk36 ?gi36 ?gj36 ?gk36 hHeld ⟨RowO.none _ _, CaO.none _ _, RowO.none _ _⟩ ?h36
      case' hi36 => simp only [List.getElem?_toArray, List.getElem?_cons_succ, List.getElem?_cons_zero]
      case hi36 => rfl
      case' hj36 => simp only [List.getElem?_toArray, List.getElem?_cons_succ, List.getElem?_cons_zero]
      case hj36 => rfl
      case' hk36 => simp only [List.getElem?_toArray, List.getElem?_cons_succ, List.getElem?_cons_zero]
      case hk36 => rfl
      case h036 => rfl
      case pi36 => intros; rfl
      case pj36 => intros; rfl
      case pk36 => intros; rfl
      case gi36 =>
        intro X1 X2 X3 X4 W hS hI K' hK
        have hI2 := Lib.hid hI.2
        try simp only [Act.put, List.setIfInBounds_toArray, List.set_cons_zero, List.set_cons_succ]
        have hb := below_alloc W (.cells #[.int .i64 12, .int .i64 14, .int .i64 15] 3)
        go_simp
        exact hK.out _ _ (hS.below hb) ⟨RowO.some rfl (lit_row .i64 3 W [12, 14, 15] (by decide)), hI2.out.1.below hb, hI2.out.2.below hb⟩
      case gj36 =>
        intro X1 X2 W hS hI K' hK
        have hI2 := Lib.hid hI
        try simp only [Act.put, List.setIfInBounds_toArray, List.set_cons_zero, List.set_cons_succ]
        go_simp
        go_at_call 8
        refine (drop_s rfl (HR1.out _ (fun k o q => hS.kept k o (HM.out.2.2.2.2.2.2.2.2.1 k o q))) ⟨by unfold RiseE; decide, by decide⟩ (fs := [⟨2, 12, 0, 0⟩, ⟨3, 13, 0, 0⟩, ⟨4, 14, 0, 0⟩, ⟨5, 15, 0, 0⟩]) (gs := [⟨2, 12, 0, 0⟩, ⟨4, 14, 0, 0⟩, ⟨5, 15, 0, 0⟩]) rfl (m := 3) rfl).mono ?_
        rintro ee W2 ⟨a', c', rfl, hr, hb⟩
        go_wp2_with fail
        exact hK.out _ _ (hS.below hb) ⟨hI2.out.1.below hb, CaO.some rfl hr, RowO.none _ _⟩
      case gk36 =>
        intro X1 X2 X3 W hS hI K' hK
        obtain ⟨hI1, hI3, _⟩ := hI
        obtain ⟨a3x, n3x, c3x, rfl, hn3, hr3⟩ := hI3 _ rfl
        have hI2 := Lib.hid (And.intro hI1 (And.intro hn3 hr3))
        clear hI1 hI3 hn3 hr3
        try simp only [Act.put, List.setIfInBounds_toArray, List.set_cons_zero, List.set_cons_succ]
        go_simp
        go_at_call 18
        refine (keys_s hI2.out.2.1 hI2.out.2.2 ⟨by unfold RiseE; decide, by decide⟩ (fs := [⟨2, 12, 0, 0⟩, ⟨4, 14, 0, 0⟩, ⟨5, 15, 0, 0⟩])).mono ?_
        rintro ee W2 ⟨a', c', rfl, hr, hb⟩
        go_wp2_with fail
        exact hK.out _ _ (hS.below hb) ⟨hI2.out.1.below hb, CaO.some hI2.out.2.1 (hI2.out.2.2.below hb), RowO.some (by rw [hI2.out.2.1]; rfl) hr⟩
      intro X1 X2 X3 W36 hHeld ⟨hx, _, hz⟩
      obtain ⟨ay, ny1, cy, rfl, hn2, hr2⟩ := hx _ rfl
      obtain ⟨ax, nx1, cx, rfl, hn1, hr1⟩ := hz _ rfl
      try simp only [Act.put, List.setIfInBounds_toArray, List.set_cons_zero, List.set_cons_succ]
      have HN1 := Lib.hid (And.intro hn1 hn2)
      have HQ1 := Lib.hid (And.intro hr1 hr2)
      clear hx hz hn1 hn2 hr1 hr2
      refine wpAnyH_ready (rs := [41]) (by kernel_rfl) (by simp) ?_
      refine AllReadyH.cons (o := ?o37) ?i37 (fun K' hK => ?_) AllReadyH.nil
      case' i37 => simp only [List.getElem?_toArray, List.getElem?_cons_succ, List.getElem?_cons_zero]
      case i37 => rfl
      go_simp
      go_at_call 17
      refine (same_i HN1.out.1 HN1.out.2 HQ1.out.1 HQ1.out.2 (r := true) (by decide)).mono ?_
      rintro ee W2 ⟨rfl, hb⟩
      have hhb := Lib.hid hb
      clear hb
      go_wp2_with fail
      refine hK.out _ _ (hHeld.below hhb.out) (fun hHeld => ?_)
      clear hK K'
      try simp only [Act.put, List.setIfInBounds_toArray, List.set_cons_zero, List.set_cons_succ]
      clear HN1 HQ1
      refine wpAnyH_take (i := 42) (oi := ?o38) (v := ?v38) ?i38 (by kernel_rfl) (by kernel_rfl) (by kernel_rfl) ?q38 (Or.inl ⟨?w38, ?y38⟩) (by assumption) ?r38
      case' i38 => simp only [List.getElem?_toArray, List.getElem?_cons_succ, List.getElem?_cons_zero]
      case i38 => rfl
      case q38 => exact fun _ _ _ h => h
      case w38 => kernel_rfl
      case y38 => (intro W hSw; go_simp) <;> with_reducible rfl
      try simp only [Act.put, List.setIfInBounds_toArray, List.set_cons_zero, List.set_cons_succ]
      refine wpAnyH_take (i := 43) (oi := ?o39) (v := ?v39) ?i39 (by kernel_rfl) (by kernel_rfl) (by kernel_rfl) ?q39 (Or.inl ⟨?w39, ?y39⟩) (by assumption) ?r39
      case' i39 => simp only [List.getElem?_toArray, List.getElem?_cons_succ, List.getElem?_cons_zero]
      case i39 => rfl
      case q39 => exact fun _ _ _ h => h
      case w39 => kernel_rfl
      case y39 => (intro W hSw; go_simp) <;> with_reducible rfl
      try simp only [Act.put, List.setIfInBounds_toArray, List.set_cons_zero, List.set_cons_succ]
      refine wpAnyH_take (i := 44) (oi := ?o40) (v := ?v40) ?i40 (by kernel_rfl) (by kernel_rfl) (by kernel_rfl) ?q40 (Or.inl ⟨?w40, ?y40⟩) (by assumption) ?r40
      case' i40 => simp only [List.getElem?_toArray, List.getElem?_cons_succ, List.getElem?_cons_zero]
      case i40 => rfl
      case q40 => exact fun _ _ _ h => h
      case w40 => kernel_rfl
      case y40 => (intro W hSw; obtain ⟨z0, z1⟩ := cell1 (hSw.kept _ _ HM.out.2.1); go_simp) <;> with_reducible rfl
      try simp only [Act.put, List.setIfInBounds_toArray, List.set_cons_zero, List.set_cons_succ]
      refine wpAnyH_take (i := 47) (oi := ?o41) (v := ?v41) ?i41 (by kernel_rfl) (by kernel_rfl) (by kernel_rfl) ?q41 (Or.inl ⟨?w41, ?y41⟩) (by assumption) ?r41
      case' i41 => simp only [List.getElem?_toArray, List.getElem?_cons_succ, List.getElem?_cons_zero]
      case i41 => rfl
      case q41 => exact fun _ _ _ h => h
      case w41 => kernel_rfl
      case y41 => (intro W hSw; obtain ⟨z0, z1⟩ := cell1 (hSw.kept _ _ HM.out.2.1); go_simp) <;> with_reducible rfl
      try simp only [Act.put, List.setIfInBounds_toArray, List.set_cons_zero, List.set_cons_succ]
      refine wpAnyH_ready (rs := [45]) (by kernel_rfl) (by simp) ?_
      refine AllReadyH.cons (o := ?o42) ?i42 (fun K' hK => ?_) AllReadyH.nil
      case' i42 => simp only [List.getElem?_toArray, List.getElem?_cons_succ, List.getElem?_cons_zero]
      case i42 => rfl
      go_simp
      go_at_call 8
      refine (drop_s rfl (HR1.out _ (fun k o q => hHeld.kept k o (HM.out.2.2.2.2.2.2.2.2.1 k o q))) ⟨by unfold RiseE; decide, by decide⟩ (fs := [⟨2, 12, 0, 0⟩, ⟨3, 13, 0, 0⟩, ⟨4, 14, 0, 0⟩, ⟨5, 15, 0, 0⟩]) (gs := [⟨2, 12, 0, 0⟩, ⟨3, 13, 0, 0⟩, ⟨4, 14, 0, 0⟩, ⟨5, 15, 0, 0⟩]) rfl (m := 4) rfl).mono ?_
      rintro ee W2 ⟨aD, cD, rfl, hr, hb⟩
      have hhb := Lib.hid hb
      have HDr := Lib.hid hr
      clear hr hb
      go_wp2_with fail
      refine hK.out _ _ (hHeld.below hhb.out) (fun hHeld => ?_)
      clear hK K'
      try simp only [Act.put, List.setIfInBounds_toArray, List.set_cons_zero, List.set_cons_succ]
      refine wpAnyH_ready (rs := [46]) (by kernel_rfl) (by simp) ?_
      refine AllReadyH.cons (o := ?o43) ?i43 (fun K' hK => ?_) AllReadyH.nil
      case' i43 => simp only [List.getElem?_toArray, List.getElem?_cons_succ, List.getElem?_cons_zero]
      case i43 => rfl
      go_simp
      go_at_call 18
      refine (keys_s rfl HDr.out ⟨by unfold RiseE; decide, by decide⟩ (fs := [⟨2, 12, 0, 0⟩, ⟨3, 13, 0, 0⟩, ⟨4, 14, 0, 0⟩, ⟨5, 15, 0, 0⟩])).mono ?_
      rintro ee W2 ⟨aK1, cK1, rfl, hr, hb⟩
      have hhb := Lib.hid hb
      have HK1 := Lib.hid hr
      clear hr hb
      go_wp2_with fail
      refine hK.out _ _ (hHeld.below hhb.out) (fun hHeld => ?_)
      clear hK K'
      try simp only [Act.put, List.setIfInBounds_toArray, List.set_cons_zero, List.set_cons_succ]
      refine wpAnyH_ready (rs := [48]) (by kernel_rfl) (by simp) ?_
      refine AllReadyH.cons (o := ?o44) ?i44 (fun K' hK => ?_) AllReadyH.nil
      case' i44 => simp only [List.getElem?_toArray, List.getElem?_cons_succ, List.getElem?_cons_zero]
      case i44 => rfl
      go_simp
      go_at_call 18
      refine (keys_s rfl (HR1.out _ (fun k o q => hHeld.kept k o (HM.out.2.2.2.2.2.2.2.2.1 k o q))) ⟨by unfold RiseE; decide, by decide⟩ (fs := [⟨2, 12, 0, 0⟩, ⟨3, 13, 0, 0⟩, ⟨4, 14, 0, 0⟩, ⟨5, 15, 0, 0⟩])).mono ?_
      rintro ee W2 ⟨aK2, cK2, rfl, hr, hb⟩
      have hhb := Lib.hid hb
      have HK2 := Lib.hid hr
      clear hr hb
      go_wp2_with fail
      refine hK.out _ _ (hHeld.below hhb.out) (fun hHeld => ?_)
      clear hK K'
      try simp only [Act.put, List.setIfInBounds_toArray, List.set_cons_zero, List.set_cons_succ]
      refine wpAnyH_ready (rs := [49]) (by kernel_rfl) (by simp) ?_
      refine AllReadyH.cons (o := ?o45) ?i45 (fun K' hK => ?_) AllReadyH.nil
      case' i45 => simp only [List.getElem?_toArray, List.getElem?_cons_succ, List.getElem?_cons_zero]
      case i45 => rfl
      go_simp
      go_at_call 17
      refine (same_i (ks := keysE [⟨2, 12, 0, 0⟩, ⟨3, 13, 0, 0⟩, ⟨4, 14, 0, 0⟩, ⟨5, 15, 0, 0⟩]) (ms := keysE [⟨2, 12, 0, 0⟩, ⟨3, 13, 0, 0⟩, ⟨4, 14, 0, 0⟩, ⟨5, 15, 0, 0⟩]) rfl rfl (HK1.out.below hhb.out) HK2.out (r := true) (by decide)).mono ?_
      rintro ee W3 ⟨rfl, hb⟩
      have hhc := Lib.hid hb
      clear hb
      go_wp2_with fail
      refine hK.out _ _ (hHeld.below hhc.out) (fun hHeld => ?_)
      clear hK K'
      try simp only [Act.put, List.setIfInBounds_toArray, List.set_cons_zero, List.set_cons_succ]
      clear HK1 HK2
      refine wpAnyH_take (i := 50) (oi := ?o46) (v := ?v46) ?i46 (by kernel_rfl) (by kernel_rfl) (by kernel_rfl) ?q46 (Or.inl ⟨?w46, ?y46⟩) (by assumption) ?r46
      case' i46 => simp only [List.getElem?_toArray, List.getElem?_cons_succ, List.getElem?_cons_zero]
      case i46 => rfl
      case q46 => exact fun _ _ _ h => h
      case w46 => kernel_rfl
      case y46 => (intro W hSw; go_simp) <;> with_reducible rfl
      try simp only [Act.put, List.setIfInBounds_toArray, List.set_cons_zero, List.set_cons_succ]
      refine wpAnyH_take (i := 51) (oi := ?o47) (v := ?v47) ?i47 (by kernel_rfl) (by kernel_rfl) (by kernel_rfl) ?q47 (Or.inl ⟨?w47, ?y47⟩) (by assumption) ?r47
      case' i47 => simp only [List.getElem?_toArray, List.getElem?_cons_succ, List.getElem?_cons_zero]
      case i47 => rfl
      case q47 => exact fun _ _ _ h => h
      case w47 => kernel_rfl
      case y47 => (intro W hSw; go_simp) <;> with_reducible rfl
      try simp only [Act.put, List.setIfInBounds_toArray, List.set_cons_zero, List.set_cons_succ]
      refine wpAnyH_take (i := 52) (oi := ?o48) (v := ?v48) ?i48 (by kernel_rfl) (by kernel_rfl) (by kernel_rfl) ?q48 (Or.inl ⟨?w48, ?y48⟩) (by assumption) ?r48
      case' i48 => simp only [List.getElem?_toArray, List.getElem?_cons_succ, List.getElem?_cons_zero]
      case i48 => rfl
      case q48 => exact fun _ _ _ h => h
      case w48 => kernel_rfl
      case y48 => (intro W hSw; obtain ⟨z0, z1⟩ := cell1 (hSw.kept _ _ HM.out.2.2.2.2.2.1); go_simp) <;> with_reducible rfl
      try simp only [Act.put, List.setIfInBounds_toArray, List.set_cons_zero, List.set_cons_succ]
      refine wpAnyH_take (i := 54) (oi := ?o49) (v := ?v49) ?i49 (by kernel_rfl) (by kernel_rfl) (by kernel_rfl) ?q49 (Or.inl ⟨?w49, ?y49⟩) (by assumption) ?r49
      case' i49 => simp only [List.getElem?_toArray, List.getElem?_cons_succ, List.getElem?_cons_zero]
      case i49 => rfl
      case q49 => exact fun _ _ _ h => h
      case w49 => kernel_rfl
      case y49 => (intro W hSw; obtain ⟨z0, z1⟩ := cell1 (hSw.kept _ _ HM.out.2.1); go_simp) <;> with_reducible rfl
      try simp only [Act.put, List.setIfInBounds_toArray, List.set_cons_zero, List.set_cons_succ]
      refine wpAnyH_ready (rs := [53]) (by kernel_rfl) (by simp) ?_
      refine AllReadyH.cons (o := ?o50) ?i50 (fun K' hK => ?_) AllReadyH.nil
      case' i50 => simp only [List.getElem?_toArray, List.getElem?_cons_succ, List.getElem?_cons_zero]
      case i50 => rfl
      go_simp
      go_at_call 18
      refine (keys_s rfl (HR3.out _ (fun k o q => hHeld.kept k o (HM.out.2.2.2.2.2.2.2.2.2.2 k o q))) ⟨by unfold RiseE; decide, by decide⟩ (fs := [⟨2, 12, 0, 0⟩, ⟨3, 13, 0, 0⟩, ⟨4, 14, 0, 0⟩, ⟨5, 15, 0, 0⟩])).mono ?_
      rintro ee W2 ⟨aK1, cK1, rfl, hr, hb⟩
      have hhb := Lib.hid hb
      have HK1 := Lib.hid hr
      clear hr hb
      go_wp2_with fail
      refine hK.out _ _ (hHeld.below hhb.out) (fun hHeld => ?_)
      clear hK K'
      try simp only [Act.put, List.setIfInBounds_toArray, List.set_cons_zero, List.set_cons_succ]
      refine wpAnyH_ready (rs := [55]) (by kernel_rfl) (by simp) ?_
      refine AllReadyH.cons (o := ?o51) ?i51 (fun K' hK => ?_) AllReadyH.nil
      case' i51 => simp only [List.getElem?_toArray, List.getElem?_cons_succ, List.getElem?_cons_zero]
      case i51 => rfl
      go_simp
      go_at_call 18
      refine (keys_s rfl (HR1.out _ (fun k o q => hHeld.kept k o (HM.out.2.2.2.2.2.2.2.2.1 k o q))) ⟨by unfold RiseE; decide, by decide⟩ (fs := [⟨2, 12, 0, 0⟩, ⟨3, 13, 0, 0⟩, ⟨4, 14, 0, 0⟩, ⟨5, 15, 0, 0⟩])).mono ?_
      rintro ee W2 ⟨aK2, cK2, rfl, hr, hb⟩
      have hhb := Lib.hid hb
      have HK2 := Lib.hid hr
      clear hr hb
      go_wp2_with fail
      refine hK.out _ _ (hHeld.below hhb.out) (fun hHeld => ?_)
      clear hK K'
      try simp only [Act.put, List.setIfInBounds_toArray, List.set_cons_zero, List.set_cons_succ]
      refine wpAnyH_ready (rs := [56]) (by kernel_rfl) (by simp) ?_
      refine AllReadyH.cons (o := ?o52) ?i52 (fun K' hK => ?_) AllReadyH.nil
      case' i52 => simp only [List.getElem?_toArray, List.getElem?_cons_succ, List.getElem?_cons_zero]
      case i52 => rfl
      go_simp
      go_at_call 17
      refine (same_i (ks := keysE [⟨2, 12, 0, 0⟩, ⟨3, 13, 0, 0⟩, ⟨4, 14, 0, 0⟩, ⟨5, 15, 0, 0⟩]) (ms := keysE [⟨2, 12, 0, 0⟩, ⟨3, 13, 0, 0⟩, ⟨4, 14, 0, 0⟩, ⟨5, 15, 0, 0⟩]) rfl rfl (HK1.out.below hhb.out) HK2.out (r := true) (by decide)).mono ?_
      rintro ee W3 ⟨rfl, hb⟩
      have hhc := Lib.hid hb
      clear hb
      go_wp2_with fail
      refine hK.out _ _ (hHeld.below hhc.out) (fun hHeld => ?_)
      clear hK K'
      try simp only [Act.put, List.setIfInBounds_toArray, List.set_cons_zero, List.set_cons_succ]
      clear HK1 HK2
      refine wpAnyH_take (i := 57) (oi := ?o53) (v := ?v53) ?i53 (by kernel_rfl) (by kernel_rfl) (by kernel_rfl) ?q53 (Or.inl ⟨?w53, ?y53⟩) (by assumption) ?r53
      case' i53 => simp only [List.getElem?_toArray, List.getElem?_cons_succ, List.getElem?_cons_zero]
      case i53 => rfl
      case q53 => exact fun _ _ _ h => h
      case w53 => kernel_rfl
      case y53 => (intro W hSw; go_simp) <;> with_reducible rfl
      try simp only [Act.put, List.setIfInBounds_toArray, List.set_cons_zero, List.set_cons_succ]
      refine wpAnyH_take (i := 58) (oi := ?o54) (v := ?v54) ?i54 (by kernel_rfl) (by kernel_rfl) (by kernel_rfl) ?q54 (Or.inl ⟨?w54, ?y54⟩) (by assumption) ?r54
      case' i54 => simp only [List.getElem?_toArray, List.getElem?_cons_succ, List.getElem?_cons_zero]
      case i54 => rfl
      case q54 => exact fun _ _ _ h => h
      case w54 => kernel_rfl
      case y54 => (intro W hSw; go_simp) <;> with_reducible rfl
      try simp only [Act.put, List.setIfInBounds_toArray, List.set_cons_zero, List.set_cons_succ]
      refine wpAnyH_take (i := 59) (oi := ?o55) (v := ?v55) ?i55 (by kernel_rfl) (by kernel_rfl) (by kernel_rfl) ?q55 (Or.inl ⟨?w55, ?y55⟩) (by assumption) ?r55
      case' i55 => simp only [List.getElem?_toArray, List.getElem?_cons_succ, List.getElem?_cons_zero]
      case i55 => rfl
      case q55 => exact fun _ _ _ h => h
      case w55 => kernel_rfl
      case y55 => (intro W hSw; go_simp) <;> with_reducible rfl
      try simp only [Act.put, List.setIfInBounds_toArray, List.set_cons_zero, List.set_cons_succ]
      refine wpAnyH_take (i := 60) (oi := ?o56) (v := ?v56) ?i56 (by kernel_rfl) (by kernel_rfl) (by kernel_rfl) ?q56 (Or.inl ⟨?w56, ?y56⟩) (by assumption) ?r56
      case' i56 => simp only [List.getElem?_toArray, List.getElem?_cons_succ, List.getElem?_cons_zero]
      case i56 => rfl
      case q56 => exact fun _ _ _ h => h
      case w56 => kernel_rfl
      case y56 => (intro W hSw; obtain ⟨z0, z1, z2, z3, z4, z5, z6, z7⟩ := cells4 (hSw.kept _ _ HM.out.2.2.2.2.2.2.1); go_simp) <;> with_reducible rfl
      try simp only [Act.put, List.setIfInBounds_toArray, List.set_cons_zero, List.set_cons_succ]
      refine wpAnyH_take (i := 61) (oi := ?o57) (v := ?v57) ?i57 (by kernel_rfl) (by kernel_rfl) (by kernel_rfl) ?q57 (Or.inl ⟨?w57, ?y57⟩) (by assumption) ?r57
      case' i57 => simp only [List.getElem?_toArray, List.getElem?_cons_succ, List.getElem?_cons_zero]
      case i57 => rfl
      case q57 => exact fun _ _ _ h => h
      case w57 => kernel_rfl
      case y57 => (intro W hSw; go_simp) <;> with_reducible rfl
      try simp only [Act.put, List.setIfInBounds_toArray, List.set_cons_zero, List.set_cons_succ]
      refine wpAnyH_take (i := 62) (oi := ?o58) (v := ?v58) ?i58 (by kernel_rfl) (by kernel_rfl) (by kernel_rfl) ?q58 (Or.inl ⟨?w58, ?y58⟩) (by assumption) ?r58
      case' i58 => simp only [List.getElem?_toArray, List.getElem?_cons_succ, List.getElem?_cons_zero]
      case i58 => rfl
      case q58 => exact fun _ _ _ h => h
      case w58 => kernel_rfl
      case y58 => (intro W hSw; go_simp) <;> with_reducible rfl
      try simp only [Act.put, List.setIfInBounds_toArray, List.set_cons_zero, List.set_cons_succ]
      refine wpAnyH_take (i := 63) (oi := ?o59) (v := ?v59) ?i59 (by kernel_rfl) (by kernel_rfl) (by kernel_rfl) ?q59 (Or.inl ⟨?w59, ?y59⟩) (by assumption) ?r59
      case' i59 => simp only [List.getElem?_toArray, List.getElem?_cons_succ, List.getElem?_cons_zero]
      case i59 => rfl
      case q59 => exact fun _ _ _ h => h
      case w59 => kernel_rfl
      case y59 => (intro W hSw; go_simp) <;> with_reducible rfl
      try simp only [Act.put, List.setIfInBounds_toArray, List.set_cons_zero, List.set_cons_succ]
      refine wpAnyH_take (i := 64) (oi := ?o60) (v := ?v60) ?i60 (by kernel_rfl) (by kernel_rfl) (by kernel_rfl) ?q60 (Or.inl ⟨?w60, ?y60⟩) (by assumption) ?r60
      case' i60 => simp only [List.getElem?_toArray, List.getElem?_cons_succ, List.getElem?_cons_zero]
      case i60 => rfl
      case q60 => exact fun _ _ _ h => h
      case w60 => kernel_rfl
      case y60 => (intro W hSw; go_simp) <;> with_reducible rfl
      try simp only [Act.put, List.setIfInBounds_toArray, List.set_cons_zero, List.set_cons_succ]
      refine wpAnyH_take (i := 65) (oi := ?o61) (v := ?v61) ?i61 (by kernel_rfl) (by kernel_rfl) (by kernel_rfl) ?q61 (Or.inl ⟨?w61, ?y61⟩) (by assumption) ?r61
      case' i61 => simp only [List.getElem?_toArray, List.getElem?_cons_succ, List.getElem?_cons_zero]
      case i61 => rfl
      case q61 => exact fun _ _ _ h => h
      case w61 => kernel_rfl
      case y61 => (intro W hSw; go_simp) <;> with_reducible rfl
      try simp only [Act.put, List.setIfInBounds_toArray, List.set_cons_zero, List.set_cons_succ]
      refine wpAnyH_take (i := 66) (oi := ?o62) (v := ?v62) ?i62 (by kernel_rfl) (by kernel_rfl) (by kernel_rfl) ?q62 (Or.inl ⟨?w62, ?y62⟩) (by assumption) ?r62
      case' i62 => simp only [List.getElem?_toArray, List.getElem?_cons_succ, List.getElem?_cons_zero]
      case i62 => rfl
      case q62 => exact fun _ _ _ h => h
      case w62 => kernel_rfl
      case y62 => (intro W hSw; go_simp) <;> with_reducible rfl
      try simp only [Act.put, List.setIfInBounds_toArray, List.set_cons_zero, List.set_cons_succ]
      refine wpAnyH_done (by kernel_rfl) ?_ _
      have HZ := Lib.hid hHeld.low
      clear hHeld
      go_wp2_with fail
      go_ret
      exact ⟨rfl, HZ.out⟩
end Go.Proofs.Ytpbcndbmmphngaa
