/- SkipDoes: what is kept, what has to go, all keys: as the document says. No condition. -/
import Derived.Test.YtpbcndbmmphngaaRows
import Derived.Test.YtpbcndbmmphngaaEnV
import Derived.WalkKit
import Derived.ProofKit
import Derived.OpenShut
import Derived.ShutString
import Derived.ChangeOld
import Derived.Below
namespace Go.Proofs.Ytpbcndbmmphngaa.skipDoes
open Go.ChangeShapes Go.WideShapes Go.ChangeAt Go.RowKit
open Go.ChangeMaps (open_string shut_string)
open Go.Proofs.Ytpbcndbmmphngaa
set_option linter.unusedVariables false
set_option linter.unusedSimpArgs false
set_option maxRecDepth 20000

theorem own : ownKnob Try.prog.godebug = none := by kernel_rfl
theorem laidOut : laidOutB Try.prog = true := by kernel_rfl
theorem cells3 {u : World} {B : Nat} {x y z : Value} {T : TypeId} (h : u.heap[B]? = some (.cells #[x, y, z] T (0, 0))) : u.cell? ⟨B, 0, none⟩ = some x ∧ u.cell? ⟨B, 1, none⟩ = some y ∧ u.cell? ⟨B, 2, none⟩ = some z ∧ u.frozen? ⟨B, 0, none⟩ = false ∧ u.frozen? ⟨B, 1, none⟩ = false ∧ u.frozen? ⟨B, 2, none⟩ = false := by
  refine ⟨?_, ?_, ?_, ?_, ?_, ?_⟩
  all_goals first | simp [World.cell?, h] | simp [World.frozen?, h]
theorem _root_.Go.Proofs.Ytpbcndbmmphngaa.Bx.set34 {w0 w : World} {bs : List (Nat × Obj)} (h : Bx w0 bs w) {B : Nat} {x y z q : Value} {T : TypeId} (hm : (B, (.cells #[x, y, z, q] T (0, 0) : Obj)) ∈ bs) (hB : w0.heap.size ≤ B) (c d : Value) {bs' : List (Nat × Obj)} (hs : ∀ u, u ∈ bs' → u = (B, (.cells #[x, y, c, d] T (0, 0) : Obj)) ∨ (u ∈ bs ∧ u.1 ≠ B)) :
    Bx w0 bs' ((w.setCell ⟨B, 2, none⟩ c).setCell ⟨B, 3, none⟩ d) :=
  h.turn hB ((Chg.setC w B 2 c).trans (Chg.setC _ B 3 d)) (by
    have h1 := heap_setCell_same w B 2 _ _ c (h.kept _ _ hm)
    have h2 := heap_setCell_same _ B 3 _ _ d h1
    simpa using h2) hs
set_option maxHeartbeats 16000000 in
set_option maxRecDepth 100000 in
theorem walk (a0 : Option Addr) (len0 cap0 : Nat) (Z0 : Nat → Nat → Int) (a1 : Option Addr) (len1 cap1 : Nat) (Z1 : Nat → Int × Int) (w : World) (w0 : Arrs .i64 3 w a0 len0 cap0 Z0) (w1 : Wins w a1 len1 cap1 Z1) :
    Calls Try.prog 3 #[.slice a0 len0 cap0, .slice a1 len1 cap1] w fun e w' => e = .returned (.bool true) ∧ Below w.heap.size w w' := by
  have hm0 : len0 ≤ 9223372036854775807 := by have h1 := w0.1; have h2 := w0.2.1; unfold maxLen at h1; omega
  have hm1 : len1 ≤ 9223372036854775807 := by have h1 := w1.1; have h2 := w1.2.1; unfold maxLen at h1; omega
  have HA := Lib.hid w0
  have HWN := Lib.hid w1
  obtain ⟨T, hT⟩ : ∃ T, min len0 40 = T := ⟨_, rfl⟩
  have HT := Lib.hid hT
  have HC := Lib.hid (((Bx.start w).below (below_alloc w (.cells #[] 40 : Obj))).box #[.slice none 0 0] 26)
  clear w0 w1 hT
  have hg := guardE
  have hg2 := guardQ
  go_enter Try.func3, Try.ntmps3
  go_upto_region 2 with fail
  generalize hwd : ((w.alloc (.cells #[] 40 : Obj)).alloc (.cells #[.slice none 0 0] 26 : Obj)) = wa at HC ⊢
  obtain ⟨B, hB1⟩ : ∃ B, w.heap.size + 1 = B := ⟨_, rfl⟩
  have HC : Hid (Bx w ([] ++ ([] ++ [(B, (.cells #[.slice none 0 0] 26 (0, 0) : Obj))])) wa) := Lib.hid (by have := HC.out; rw [World.size_alloc, hB1] at this; exact this)
  have HB : Hid (w.heap.size ≤ B) := Lib.hid (by omega)
  rw [hB1]
  clear hwd
  go_wp2_with fail
  go_loopg [6, 7] T (fun gk s6 s7 wr => ∃ (i : Nat) (fs : List En) (a : Option Addr) (n cap : Nat) (rs0 : List (Nat × Obj)) (ar : Option Addr) (cr : Nat) (rs1 : List (Nat × Obj)), i + gk = T ∧ s7 = .int .i64 (i : Int) ∧ s6 = .slice ar n cr ∧ Hid (n = fs.length) ∧ Hid (OkE fs) ∧ Hid (Bx w (rs0 ++ (rs1 ++ [(B, (.cells #[.slice a n cap] 26 (0, 0) : Obj))])) wr) ∧ Hid (∀ k o, (k, o) ∈ rs0 → k ≠ B) ∧ Hid (∀ k o, (k, o) ∈ rs1 → k ≠ B) ∧ Hid (∀ u : World, (∀ k o, (k, o) ∈ rs0 → u.heap[k]? = some o) → RowE u a cap fs) ∧ Hid (∀ u : World, (∀ k o, (k, o) ∈ rs1 → u.heap[k]? = some o) → RowE u ar cr fs))
  case atStart => exact ⟨0, [], none, 0, 0, [], some ⟨w.heap.size, 0, none⟩, 0, [], by omega, rfl, rfl, Lib.hid rfl, Lib.hid OkE.nil, HC, Lib.hid (fun k o q => by simp at q), Lib.hid (fun k o q => by simp at q), Lib.hid (fun u _ => RowE.none u), Lib.hid (fun u _ => ⟨Nat.le_refl _, Nat.zero_le _, w.heap.size, 0, fun j hj => absurd hj (Nat.not_lt_zero _)⟩)⟩
  case round =>
    clear HC
    obtain ⟨i, fs, a, n, cap, rs0, ar, cr, rs1, hi, rfl, rfl, HN, HOK, HC, HDX0, HDX1, HR0, HR1⟩ := hrel
    have HN9 : Hid (n ≤ 1000) := Lib.hid (by have := HOK.out.2; have := HN.out; omega)
    by_cases h4 : i < T
    · have hil : i < len0 := by have := HT.out; omega
      have h40 : i < 40 := by have := HT.out; omega
      have i1 : decide ((i : Int) < (len0 : Int)) = true := by simpa using hil
      have i2 : decide (i < len0) = true := by simpa using hil
      have i3 : decide ((i : Int) < 40) = true := by simp; omega
      have i4 : decide (i < 40) = true := by simpa using h40
      have i5 : (i : Int) < (len0 : Int) := by omega
      have i6 : (i : Int) < 40 := by omega
      have HI9 : Hid (i < T ∧ i + gk = T) := Lib.hid ⟨h4, hi⟩
      clear h4 hi
      have HBX : Hid (B < wr.heap.size) := Lib.hid (HC.out.klt (k := B) (o := (.cells #[.slice a n cap] 26 (0, 0) : Obj)) (by simp))
      obtain ⟨_, _, b1, f1, hA3⟩ := HA.out
      obtain ⟨q0, hA4⟩ := hA3 i hil
      obtain ⟨X0, hX0⟩ : ∃ X, Z0 i 0 = X := ⟨_, rfl⟩
      obtain ⟨X1, hX1⟩ : ∃ X, Z0 i 1 = X := ⟨_, rfl⟩
      obtain ⟨X2, hX2⟩ : ∃ X, Z0 i 2 = X := ⟨_, rfl⟩
      have c0 : wr.cell? ⟨b1, f1 + i * 3, none⟩ = some (.int .i64 X0) := by rw [← hX0]; exact (HC.out.low.cell (block_lt_of_cell (hA4 0 (by omega)).1)).trans (hA4 0 (by omega)).1
      have c1 : wr.cell? ⟨b1, f1 + i * 3 + 1, none⟩ = some (.int .i64 X1) := by rw [← hX1]; exact (HC.out.low.cell (block_lt_of_cell (hA4 1 (by omega)).1)).trans (hA4 1 (by omega)).1
      have c2 : wr.cell? ⟨b1, f1 + i * 3 + 2, none⟩ = some (.int .i64 X2) := by rw [← hX2]; exact (HC.out.low.cell (block_lt_of_cell (hA4 2 (by omega)).1)).trans (hA4 2 (by omega)).1
      clear hA3 hA4 hX0 hX1 hX2 HA
      subst q0
      go_upto_region 6 with fail
      clear c0 c1 c2
      replace HC := Lib.hid (HC.out.box #[.int .i64 X0, .int .i64 X1, .int .i64 X2] 28)
      generalize hwd : (wr.alloc (.cells #[.int .i64 X0, .int .i64 X1, .int .i64 X2] 28 : Obj)) = wA at HC ⊢
      generalize hxX : wr.heap.size = X at HC HBX ⊢
      clear hwd hxX
      have HLT : Hid (∀ zk zo, (zk, zo) ∈ ((X, (.cells #[.int .i64 X0, .int .i64 X1, .int .i64 X2] 28 (0, 0) : Obj)) :: (rs0 ++ (rs1 ++ [(B, (.cells #[.slice a n cap] 26 (0, 0) : Obj))]))) → zk < wA.heap.size) := Lib.hid (fun zk zo q => HC.out.klt q)
      obtain ⟨xf0, xf1, xf2, xf3, xf4, xf5⟩ := cells3 (HC.out.kept (X) (.cells #[.int .i64 X0, .int .i64 X1, .int .i64 X2] 28 (0, 0) : Obj) (by simp))
      go_upto_region 7 with fail
      clear xf0 xf1 xf2 xf3 xf4 xf5
      replace HC := Lib.hid (HC.out.box #[.int .i64 X1, .int .i64 X2, .int .u64 0, .int .u64 0] 33)
      generalize hwd : (wA.alloc (.cells #[.int .i64 X1, .int .i64 X2, .int .u64 0, .int .u64 0] 33 : Obj)) = wB at HC ⊢
      generalize hxE : wA.heap.size = E at HC HLT ⊢
      clear hwd hxE
      have HEB : Hid (w.heap.size ≤ E) := Lib.hid (by have := HB.out; have := HLT.out B (.cells #[.slice a n cap] 26 (0, 0) : Obj) (by simp); omega)
      by_cases hiw : i < len1
      · obtain ⟨_, _, b2, f2, hW3⟩ := HWN.out
        obtain ⟨q1, e0, e1⟩ := hW3 i hiw
        obtain ⟨⟨NX, BT⟩, hZ⟩ : ∃ z, Z1 i = z := ⟨_, rfl⟩
        rw [hZ] at e0 e1
        have d0 : wB.cell? ⟨b2, f2 + i * 2, none⟩ = some (.int .u64 NX) := (HC.out.low.cell (block_lt_of_cell e0)).trans e0
        have d1 : wB.cell? ⟨b2, f2 + i * 2 + 1, none⟩ = some (.int .u64 BT) := (HC.out.low.cell (block_lt_of_cell e1)).trans e1
        have j1 : (i : Int) < (len1 : Int) := by omega
        have j2 : decide (i < len1) = true := by simpa using hiw
        clear hW3 e0 e1 hZ hiw HWN
        subst q1
        obtain ⟨ef0, ef1, ef2, ef3, ef4, ef5, ef6, ef7⟩ := cells4 (HC.out.kept (E) (.cells #[.int .i64 X1, .int .i64 X2, .int .u64 0, .int .u64 0] 33 (0, 0) : Obj) (by simp))
        go_upto_region 9 with fail
        clear ef0 ef1 ef2 ef3 ef4 ef5 ef6 ef7
        clear d0 d1 j1 j2
        replace HC : Hid (Bx w ((E, (.cells #[.int .i64 X1, .int .i64 X2, .int .u64 NX, .int .u64 BT] 33 (0, 0) : Obj)) :: (X, (.cells #[.int .i64 X0, .int .i64 X1, .int .i64 X2] 28 (0, 0) : Obj)) :: (rs0 ++ (rs1 ++ [(B, (.cells #[.slice a n cap] 26 (0, 0) : Obj))]))) ((wB.setCell ⟨E, 2, none⟩ (.int .u64 NX)).setCell ⟨E, 3, none⟩ (.int .u64 BT))) := Lib.hid (HC.out.set34 (B := E) (x := .int .i64 X1) (y := .int .i64 X2) (z := .int .u64 0) (q := .int .u64 0) (T := 33) (by simp) HEB.out (.int .u64 NX) (.int .u64 BT) (fun z hz => by
          rcases List.mem_cons.1 hz with hz | hz
          · exact .inl hz
          · exact .inr ⟨List.mem_cons_of_mem _ hz, fun q => by have := HLT.out z.1 z.2 hz; omega⟩
        ))
        generalize hwd : ((wB.setCell ⟨E, 2, none⟩ (.int .u64 NX)).setCell ⟨E, 3, none⟩ (.int .u64 BT)) = wC at HC ⊢
        clear hwd 
        obtain ⟨Q, hQ⟩ : ∃ Q, bits BinOp.and IntKind.i64 X0 3 = Q := ⟨_, rfl⟩
        by_cases hq0 : Q = 0
        · have hq : (Q == 0) = true := by simp [hq0]
          obtain ⟨gs, hgs⟩ : ∃ gs, dropE fs X1 = gs := ⟨_, rfl⟩
          have HDP := Lib.hid hgs
          have HOKG : Hid (OkE gs) := Lib.hid (by rw [← hgs]; exact HOK.out.drop X1)
          obtain ⟨m2, hm2⟩ : ∃ m2, gs.length = m2 := ⟨_, rfl⟩
          have HM2 := Lib.hid hm2
          have HM9 : Hid (m2 ≤ 1000) := Lib.hid (by have := HOKG.out.2; omega)
          have HKL : Hid ((keysE gs).length = m2) := Lib.hid (by unfold keysE; rw [List.length_map, hm2])
          obtain ⟨⟨Q0, Q1, Q2, Q3⟩, was, hge⟩ : ∃ g was, getE gs X2 = (g, was) := ⟨_, _, rfl⟩
          have HGE := Lib.hid hge
          have HZQ : Hid (∀ u, (binOp .neq 40 (.agg #[.int .i64 Q0, .int .i64 Q1, .int .u64 Q2, .int .u64 Q3]) (.agg #[.int .i64 Q0, .int .i64 Q1, .int .u64 Q2, .int .u64 Q3])).run Try.prog u = .ok (.bool false) u) := Lib.hid (fun u => by have := neqQ ⟨Q0, Q1, Q2, Q3⟩ ⟨Q0, Q1, Q2, Q3⟩ u; rw [eqE_self] at this; exact this)
          have HBC : Hid (B < wC.heap.size) := Lib.hid (HC.out.klt (k := B) (o := (.cells #[.slice a n cap] 26 (0, 0) : Obj)) (by simp))
          clear hgs hm2 hge hq0
          obtain ⟨cf0, cf1⟩ := cell1 (HC.out.kept (B) (.cells #[.slice a n cap] 26 (0, 0) : Obj) (by simp))
          obtain ⟨xf0, xf1, xf2, xf3, xf4, xf5⟩ := cells3 (HC.out.kept (X) (.cells #[.int .i64 X0, .int .i64 X1, .int .i64 X2] 28 (0, 0) : Obj) (by simp))
          go_wp2_with fail
          clear cf0 cf1 xf0 xf1 xf2 xf3 xf4 xf5
          refine (HC.out.pdrop HN.out (HR0.out _ (fun k o q => HC.out.kept k o (by simp [q]))) HOK.out (fs := fs) (gs := gs) (K := X1) HDP.out (m := m2) HM2.out).mono ?_
          rintro e w2 ⟨rs2, a2, c2, rfl, hc, hr, hd, hz⟩
          have HZ2 : Hid (wC.heap.size ≤ w2.heap.size) := Lib.hid hz
          have HR2 := Lib.hid hr
          have HD2 := Lib.hid hd
          replace HC := Lib.hid hc
          clear hc hr hd hz
          obtain ⟨cf0, cf1⟩ := cell1 (HC.out.kept (B) (.cells #[.slice a n cap] 26 (0, 0) : Obj) (by simp))
          go_upto_region 11 with fail
          clear cf0 cf1
          have HDX2 : Hid (∀ k oo, (k, oo) ∈ rs2 → k ≠ B) := Lib.hid (fun k oo q e => by have := HD2.out k oo q; have := HBC.out; omega)
          replace HC : Hid (Bx w (rs2 ++ (rs1 ++ ([(X, (.cells #[.int .i64 X0, .int .i64 X1, .int .i64 X2] 28 (0, 0) : Obj)), (B, (.cells #[(.slice a2 m2 c2)] 26 (0, 0) : Obj))]))) (w2.setCell ⟨B, 0, none⟩ (.slice a2 m2 c2))) := Lib.hid (HC.out.set1 (B := B) (x := .slice a n cap) (T := 26) (by simp) HB.out (.slice a2 m2 c2) (fun z hz => by
            obtain ⟨zk, zo⟩ := z
            rcases List.mem_append.1 hz with hz1 | hz
            · exact .inr ⟨by simp [hz1], HDX2.out zk zo hz1⟩
            rcases List.mem_append.1 hz with hz1 | hz
            · exact .inr ⟨by simp [hz1], HDX1.out zk zo hz1⟩
            simp only [List.mem_cons, List.not_mem_nil, or_false] at hz
            rcases hz with hz | hz
            · exact .inr ⟨by simp [hz], by rw [hz]; exact fun q => by have := HBX.out; dsimp only at q; omega⟩
            · exact .inl hz
          ))
          generalize hwd : (w2.setCell ⟨B, 0, none⟩ (.slice a2 m2 c2)) = wD at HC ⊢
          clear hwd 
          have HBD : Hid (B < wD.heap.size) := Lib.hid (HC.out.klt (k := B) (o := (.cells #[.slice a2 m2 c2] 26 (0, 0) : Obj)) (by simp))
          obtain ⟨xf0, xf1, xf2, xf3, xf4, xf5⟩ := cells3 (HC.out.kept (X) (.cells #[.int .i64 X0, .int .i64 X1, .int .i64 X2] 28 (0, 0) : Obj) (by simp))
          go_wp2_with fail
          clear xf0 xf1 xf2 xf3 xf4 xf5
          refine (HC.out.rdrop HN.out (HR1.out _ (fun k o q => HC.out.kept k o (by simp [q]))) HN9.out (fs := fs) (gs := gs) (K := X1) HDP.out (m := m2) HM2.out).mono ?_
          rintro e w3 ⟨rs3, a3, c3, rfl, hc, hr, hd, hz⟩
          have HZ3 : Hid (wD.heap.size ≤ w3.heap.size) := Lib.hid hz
          have HR3 := Lib.hid hr
          have HD3 := Lib.hid hd
          replace HC := Lib.hid hc
          clear hc hr hd hz
          have HDX3 : Hid (∀ k oo, (k, oo) ∈ rs3 → k ≠ B) := Lib.hid (fun k oo q e => by have := HD3.out k oo q; have := HBD.out; omega)
          go_upto_region 18 with fail
          obtain ⟨cf0, cf1⟩ := cell1 (HC.out.kept (B) (.cells #[(.slice a2 m2 c2)] 26 (0, 0) : Obj) (by simp))
          obtain ⟨xf0, xf1, xf2, xf3, xf4, xf5⟩ := cells3 (HC.out.kept (X) (.cells #[.int .i64 X0, .int .i64 X1, .int .i64 X2] 28 (0, 0) : Obj) (by simp))
          go_wp2_with fail
          clear cf0 cf1 xf0 xf1 xf2 xf3 xf4 xf5
          refine (HC.out.pget (fs := gs) HM2.out.symm (HR2.out _ (fun k o q => HC.out.kept k o (by simp [q]))) HOKG.out (K := X2) (gp := Q0) (gk := Q1) (gn := Q2) (gb := Q3) (is := was) HGE.out).mono ?_
          rintro e w4 ⟨rfl, hc, hz⟩
          replace HC := Lib.hid hc
          clear hc hz
          go_upto_region 19 with fail
          replace HC := Lib.hid (HC.out.box #[.int .i64 Q0, .int .i64 Q1, .int .u64 Q2, .int .u64 Q3] 33)
          generalize hwd : (w4.alloc (.cells #[.int .i64 Q0, .int .i64 Q1, .int .u64 Q2, .int .u64 Q3] 33 : Obj)) = wF at HC ⊢
          generalize hxG : w4.heap.size = G at HC ⊢
          clear hwd hxG
          obtain ⟨xf0, xf1, xf2, xf3, xf4, xf5⟩ := cells3 (HC.out.kept (X) (.cells #[.int .i64 X0, .int .i64 X1, .int .i64 X2] 28 (0, 0) : Obj) (by simp))
          go_wp2_with fail
          clear xf0 xf1 xf2 xf3 xf4 xf5
          refine (HC.out.rget (fs := gs) HM2.out.symm (HR3.out _ (fun k o q => HC.out.kept k o (by simp [q]))) HM9.out (K := X2) (gp := Q0) (gk := Q1) (gn := Q2) (gb := Q3) (is := was) HGE.out).mono ?_
          rintro e w5 ⟨rfl, hc, hz⟩
          replace HC := Lib.hid hc
          clear hc hz
          go_upto_region 20 with fail
          replace HC := Lib.hid (HC.out.box #[.int .i64 Q0, .int .i64 Q1, .int .u64 Q2, .int .u64 Q3] 40)
          generalize hwd : (w5.alloc (.cells #[.int .i64 Q0, .int .i64 Q1, .int .u64 Q2, .int .u64 Q3] 40 : Obj)) = wG at HC ⊢
          generalize hxHb : w5.heap.size = Hb at HC ⊢
          clear hwd hxHb
          obtain ⟨BS, hM, hB⟩ : ∃ BS, (((B, (.cells #[(.slice a2 m2 c2)] 26 (0, 0) : Obj)) : Nat × Obj) ∈ BS ∧ ((G, (.cells #[.int .i64 Q0, .int .i64 Q1, .int .u64 Q2, .int .u64 Q3] 33 (0, 0) : Obj)) : Nat × Obj) ∈ BS ∧ ((Hb, (.cells #[.int .i64 Q0, .int .i64 Q1, .int .u64 Q2, .int .u64 Q3] 40 (0, 0) : Obj)) : Nat × Obj) ∈ BS ∧ (∀ k o, (k, o) ∈ rs2 → (k, o) ∈ BS) ∧ (∀ k o, (k, o) ∈ rs3 → (k, o) ∈ BS)) ∧ Bx w BS wG := ⟨_, ⟨by simp, by simp, by simp, fun k o q => by simp [q], fun k o q => by simp [q]⟩, HC.out⟩
          have HM := Lib.hid hM
          have HCK := Lib.hid hB
          clear hM hB HC
          refine wp_region_held_drew (S := Bx w BS) (by kernel_rfl) (HCK.out.below (drew_b wG)) (fun hHeld => ?_)
          refine wpAnyH_take (i := 0) (oi := ?o1001) (v := ?v1001) ?i1001 (by kernel_rfl) (by kernel_rfl) (by kernel_rfl) ?q1001 (Or.inl ⟨?w1001, ?y1001⟩) (by assumption) ?r1001
          case' i1001 => simp only [List.getElem?_toArray, List.getElem?_cons_succ, List.getElem?_cons_zero]
          case i1001 => rfl
          case q1001 => exact fun _ _ _ h => h
          case w1001 => kernel_rfl
          case y1001 => (intro W hSw; obtain ⟨z0, z1⟩ := cell1 (hSw.kept _ _ HM.out.1); go_simp) <;> with_reducible rfl
          try simp only [Act.put, List.setIfInBounds_toArray, List.set_cons_zero, List.set_cons_succ]
          refine wpAnyH_take (i := 2) (oi := ?o1002) (v := ?v1002) ?i1002 (by kernel_rfl) (by kernel_rfl) (by kernel_rfl) ?q1002 (Or.inl ⟨?w1002, ?y1002⟩) (by assumption) ?r1002
          case' i1002 => simp only [List.getElem?_toArray, List.getElem?_cons_succ, List.getElem?_cons_zero]
          case i1002 => rfl
          case q1002 => exact fun _ _ _ h => h
          case w1002 => kernel_rfl
          case y1002 => (intro W hSw; go_simp) <;> with_reducible rfl
          try simp only [Act.put, List.setIfInBounds_toArray, List.set_cons_zero, List.set_cons_succ]
          have hzq := HZQ.out
          refine wpAnyH_ready (rs := [1]) (by kernel_rfl) (by simp) ?_
          refine AllReadyH.cons (o := ?o1003) ?i1003 (fun K' hK => ?_) AllReadyH.nil
          case' i1003 => simp only [List.getElem?_toArray, List.getElem?_cons_succ, List.getElem?_cons_zero]
          case i1003 => rfl
          go_simp
          go_at_call 16
          refine (refs_e a2 m2 c2 gs _ HM2.out.symm (HR2.out _ (fun k o q => hHeld.kept k o (HM.out.2.2.2.1 k o q))) HM9.out).mono ?_
          rintro ee V1 ⟨v, rfl, hN, hb⟩
          obtain ⟨a8, c8, rfl, hr⟩ := hN.at
          rw [HM2.out]
          have HR8 := Lib.hid hr
          have hh8 := Lib.hid hb
          clear hr hb hN
          go_wp2_with fail
          refine hK.out _ _ (hHeld.below hh8.out) (fun hHeld => ?_)
          clear hK K'
          try simp only [Act.put, List.setIfInBounds_toArray, List.set_cons_zero, List.set_cons_succ]
          refine wpAnyH_ready (rs := [3]) (by kernel_rfl) (by simp) ?_
          refine AllReadyH.cons (o := ?o1004) ?i1004 (fun K' hK => ?_) AllReadyH.nil
          case' i1004 => simp only [List.getElem?_toArray, List.getElem?_cons_succ, List.getElem?_cons_zero]
          case i1004 => rfl
          go_simp
          go_at_call 15
          refine (rsame_e a8 a3 m2 c8 c3 gs _ HM2.out.symm HR8.out (HR3.out _ (fun k o q => hHeld.kept k o (HM.out.2.2.2.2 k o q)))).mono ?_
          rintro ee V2 ⟨rfl, hb⟩
          have hh9 := Lib.hid hb
          clear hb HR8
          go_wp2_with fail
          refine hK.out _ _ (hHeld.below hh9.out) (fun hHeld => ?_)
          clear hK K'
          try simp only [Act.put, List.setIfInBounds_toArray, List.set_cons_zero, List.set_cons_succ]
          refine wpAnyH_take (i := 4) (oi := ?o1005) (v := ?v1005) ?i1005 (by kernel_rfl) (by kernel_rfl) (by kernel_rfl) ?q1005 (Or.inl ⟨?w1005, ?y1005⟩) (by assumption) ?r1005
          case' i1005 => simp only [List.getElem?_toArray, List.getElem?_cons_succ, List.getElem?_cons_zero]
          case i1005 => rfl
          case q1005 => exact fun _ _ _ h => h
          case w1005 => kernel_rfl
          case y1005 => (intro W hSw; go_simp) <;> with_reducible rfl
          try simp only [Act.put, List.setIfInBounds_toArray, List.set_cons_zero, List.set_cons_succ]
          refine wpAnyH_take (i := 5) (oi := ?o1006) (v := ?v1006) ?i1006 (by kernel_rfl) (by kernel_rfl) (by kernel_rfl) ?q1006 (Or.inl ⟨?w1006, ?y1006⟩) (by assumption) ?r1006
          case' i1006 => simp only [List.getElem?_toArray, List.getElem?_cons_succ, List.getElem?_cons_zero]
          case i1006 => rfl
          case q1006 => exact fun _ _ _ h => h
          case w1006 => kernel_rfl
          case y1006 => (intro W hSw; go_simp) <;> with_reducible rfl
          try simp only [Act.put, List.setIfInBounds_toArray, List.set_cons_zero, List.set_cons_succ]
          refine wpAnyH_take (i := 6) (oi := ?o1007) (v := ?v1007) ?i1007 (by kernel_rfl) (by kernel_rfl) (by kernel_rfl) ?q1007 (Or.inl ⟨?w1007, ?y1007⟩) (by assumption) ?r1007
          case' i1007 => simp only [List.getElem?_toArray, List.getElem?_cons_succ, List.getElem?_cons_zero]
          case i1007 => rfl
          case q1007 => exact fun _ _ _ h => h
          case w1007 => kernel_rfl
          case y1007 => (intro W hSw; obtain ⟨z0, z1, z2, z3, z4, z5, z6, z7⟩ := cells4 (hSw.kept _ _ HM.out.2.1); go_simp) <;> with_reducible rfl
          try simp only [Act.put, List.setIfInBounds_toArray, List.set_cons_zero, List.set_cons_succ]
          refine wpAnyH_take (i := 8) (oi := ?o1008) (v := ?v1008) ?i1008 (by kernel_rfl) (by kernel_rfl) (by kernel_rfl) ?q1008 (Or.inl ⟨?w1008, ?y1008⟩) (by assumption) ?r1008
          case' i1008 => simp only [List.getElem?_toArray, List.getElem?_cons_succ, List.getElem?_cons_zero]
          case i1008 => rfl
          case q1008 => exact fun _ _ _ h => h
          case w1008 => kernel_rfl
          case y1008 => (intro W hSw; obtain ⟨z0, z1, z2, z3, z4, z5, z6, z7⟩ := cells4 (hSw.kept _ _ HM.out.2.2.1); go_simp) <;> with_reducible rfl
          try simp only [Act.put, List.setIfInBounds_toArray, List.set_cons_zero, List.set_cons_succ]
          refine wpAnyH_ready (rs := [7]) (by kernel_rfl) (by simp) ?_
          refine AllReadyH.cons (o := ?o1010) ?i1010 (fun K' hK => ?_) AllReadyH.nil
          case' i1010 => simp only [List.getElem?_toArray, List.getElem?_cons_succ, List.getElem?_cons_zero]
          case i1010 => rfl
          go_simp
          go_at_call 12
          refine (one_e Q0 Q1 Q2 Q3 _).mono ?_
          rintro ee V1009 ⟨rfl, hb⟩
          have hhbo1 := Lib.hid hb
          clear hb
          go_wp2_with fail
          refine hK.out _ _ (hHeld.below hhbo1.out) (fun hHeld => ?_)
          clear hK K'
          try simp only [Act.put, List.setIfInBounds_toArray, List.set_cons_zero, List.set_cons_succ]
          refine wpAnyH_take (i := 9) (oi := ?o1011) (v := ?v1011) ?i1011 (by kernel_rfl) (by kernel_rfl) (by kernel_rfl) ?q1011 (Or.inl ⟨?w1011, ?y1011⟩) (by assumption) ?r1011
          case' i1011 => simp only [List.getElem?_toArray, List.getElem?_cons_succ, List.getElem?_cons_zero]
          case i1011 => rfl
          case q1011 => exact fun _ _ _ h => h
          case w1011 => kernel_rfl
          case y1011 => (intro W hSw; go_simp) <;> with_reducible rfl
          try simp only [Act.put, List.setIfInBounds_toArray, List.set_cons_zero, List.set_cons_succ]
          refine wpAnyH_take (i := 10) (oi := ?o1012) (v := ?v1012) ?i1012 (by kernel_rfl) (by kernel_rfl) (by kernel_rfl) ?q1012 (Or.inl ⟨?w1012, ?y1012⟩) (by assumption) ?r1012
          case' i1012 => simp only [List.getElem?_toArray, List.getElem?_cons_succ, List.getElem?_cons_zero]
          case i1012 => rfl
          case q1012 => exact fun _ _ _ h => h
          case w1012 => kernel_rfl
          case y1012 => (intro W hSw; go_simp) <;> with_reducible rfl
          try simp only [Act.put, List.setIfInBounds_toArray, List.set_cons_zero, List.set_cons_succ]
          refine wpAnyH_take (i := 11) (oi := ?o1013) (v := ?v1013) ?i1013 (by kernel_rfl) (by kernel_rfl) (by kernel_rfl) ?q1013 (Or.inl ⟨?w1013, ?y1013⟩) (by assumption) ?r1013
          case' i1013 => simp only [List.getElem?_toArray, List.getElem?_cons_succ, List.getElem?_cons_zero]
          case i1013 => rfl
          case q1013 => exact fun _ _ _ h => h
          case w1013 => kernel_rfl
          case y1013 => (intro W hSw; go_simp) <;> with_reducible rfl
          try simp only [Act.put, List.setIfInBounds_toArray, List.set_cons_zero, List.set_cons_succ]
          refine wpAnyH_take (i := 12) (oi := ?o1014) (v := ?v1014) ?i1014 (by kernel_rfl) (by kernel_rfl) (by kernel_rfl) ?q1014 (Or.inl ⟨?w1014, ?y1014⟩) (by assumption) ?r1014
          case' i1014 => simp only [List.getElem?_toArray, List.getElem?_cons_succ, List.getElem?_cons_zero]
          case i1014 => rfl
          case q1014 => exact fun _ _ _ h => h
          case w1014 => kernel_rfl
          case y1014 => (intro W hSw; go_simp) <;> with_reducible rfl
          try simp only [Act.put, List.setIfInBounds_toArray, List.set_cons_zero, List.set_cons_succ]
          refine wpAnyH_take (i := 13) (oi := ?o1015) (v := ?v1015) ?i1015 (by kernel_rfl) (by kernel_rfl) (by kernel_rfl) ?q1015 (Or.inl ⟨?w1015, ?y1015⟩) (by assumption) ?r1015
          case' i1015 => simp only [List.getElem?_toArray, List.getElem?_cons_succ, List.getElem?_cons_zero]
          case i1015 => rfl
          case q1015 => exact fun _ _ _ h => h
          case w1015 => kernel_rfl
          case y1015 => (intro W hSw; go_simp) <;> with_reducible rfl
          try simp only [Act.put, List.setIfInBounds_toArray, List.set_cons_zero, List.set_cons_succ]
          refine wpAnyH_take (i := 14) (oi := ?o1016) (v := ?v1016) ?i1016 (by kernel_rfl) (by kernel_rfl) (by kernel_rfl) ?q1016 (Or.inl ⟨?w1016, ?y1016⟩) (by assumption) ?r1016
          case' i1016 => simp only [List.getElem?_toArray, List.getElem?_cons_succ, List.getElem?_cons_zero]
          case i1016 => rfl
          case q1016 => exact fun _ _ _ h => h
          case w1016 => kernel_rfl
          case y1016 => (intro W hSw; go_simp) <;> with_reducible rfl
          try simp only [Act.put, List.setIfInBounds_toArray, List.set_cons_zero, List.set_cons_succ]
          refine wpAnyH_take (i := 15) (oi := ?o1017) (v := ?v1017) ?i1017 (by kernel_rfl) (by kernel_rfl) (by kernel_rfl) ?q1017 (Or.inl ⟨?w1017, ?y1017⟩) (by assumption) ?r1017
          case' i1017 => simp only [List.getElem?_toArray, List.getElem?_cons_succ, List.getElem?_cons_zero]
          case i1017 => rfl
          case q1017 => exact fun _ _ _ h => h
          case w1017 => kernel_rfl
          case y1017 => (intro W hSw; go_simp) <;> with_reducible rfl
          try simp only [Act.put, List.setIfInBounds_toArray, List.set_cons_zero, List.set_cons_succ]
          refine wpAnyH_take (i := 16) (oi := ?o1018) (v := ?v1018) ?i1018 (by kernel_rfl) (by kernel_rfl) (by kernel_rfl) ?q1018 (Or.inl ⟨?w1018, ?y1018⟩) (by assumption) ?r1018
          case' i1018 => simp only [List.getElem?_toArray, List.getElem?_cons_succ, List.getElem?_cons_zero]
          case i1018 => rfl
          case q1018 => exact fun _ _ _ h => h
          case w1018 => kernel_rfl
          case y1018 => (intro W hSw; go_simp) <;> with_reducible rfl
          try simp only [Act.put, List.setIfInBounds_toArray, List.set_cons_zero, List.set_cons_succ]
          refine wpAnyH_take (i := 17) (oi := ?o1019) (v := ?v1019) ?i1019 (by kernel_rfl) (by kernel_rfl) (by kernel_rfl) ?q1019 (Or.inl ⟨?w1019, ?y1019⟩) (by assumption) ?r1019
          case' i1019 => simp only [List.getElem?_toArray, List.getElem?_cons_succ, List.getElem?_cons_zero]
          case i1019 => rfl
          case q1019 => exact fun _ _ _ h => h
          case w1019 => kernel_rfl
          case y1019 => (intro W hSw; obtain ⟨z0, z1⟩ := cell1 (hSw.kept _ _ HM.out.1); go_simp) <;> with_reducible rfl
          try simp only [Act.put, List.setIfInBounds_toArray, List.set_cons_zero, List.set_cons_succ]
          refine wpAnyH_take (i := 19) (oi := ?o1020) (v := ?v1020) ?i1020 (by kernel_rfl) (by kernel_rfl) (by kernel_rfl) ?q1020 (Or.inl ⟨?w1020, ?y1020⟩) (by assumption) ?r1020
          case' i1020 => simp only [List.getElem?_toArray, List.getElem?_cons_succ, List.getElem?_cons_zero]
          case i1020 => rfl
          case q1020 => exact fun _ _ _ h => h
          case w1020 => kernel_rfl
          case y1020 => (intro W hSw; go_simp) <;> with_reducible rfl
          try simp only [Act.put, List.setIfInBounds_toArray, List.set_cons_zero, List.set_cons_succ]
          refine wpAnyH_ready (rs := [18]) (by kernel_rfl) (by simp) ?_
          refine AllReadyH.cons (o := ?o1022) ?i1022 (fun K' hK => ?_) AllReadyH.nil
          case' i1022 => simp only [List.getElem?_toArray, List.getElem?_cons_succ, List.getElem?_cons_zero]
          case i1022 => rfl
          go_simp
          go_at_call 18
          refine (keys_s HM2.out.symm (HR2.out _ (fun k o q => hHeld.kept k o (HM.out.2.2.2.1 k o q))) HOKG.out (fs := gs)).mono ?_
          rintro ee V1021 ⟨aK1, cK1, rfl, hr, hb⟩
          have hhbK1 := Lib.hid hb
          have HK1 := Lib.hid hr
          clear hr
          clear hb
          go_wp2_with fail
          refine hK.out _ _ (hHeld.below hhbK1.out) (fun hHeld => ?_)
          clear hK K'
          try simp only [Act.put, List.setIfInBounds_toArray, List.set_cons_zero, List.set_cons_succ]
          refine wpAnyH_ready (rs := [20]) (by kernel_rfl) (by simp) ?_
          refine AllReadyH.cons (o := ?o1023) ?i1023 (fun K' hK => ?_) AllReadyH.nil
          case' i1023 => simp only [List.getElem?_toArray, List.getElem?_cons_succ, List.getElem?_cons_zero]
          case i1023 => rfl
          go_simp
          go_at_call 19
          refine (rkeys_e a3 m2 c3 gs _ HM2.out.symm (HR3.out _ (fun k o q => hHeld.kept k o (HM.out.2.2.2.2 k o q))) HM9.out).mono ?_
          rintro ee V5 ⟨v, rfl, hN, hb⟩
          obtain ⟨a9, c9, rfl, hr⟩ := hN.at
          rw [HKL.out]
          have HK2 := Lib.hid hr
          have hhk := Lib.hid hb
          clear hr hb hN
          go_wp2_with fail
          refine hK.out _ _ (hHeld.below hhk.out) (fun hHeld => ?_)
          clear hK K'
          try simp only [Act.put, List.setIfInBounds_toArray, List.set_cons_zero, List.set_cons_succ]
          refine wpAnyH_ready (rs := [21]) (by kernel_rfl) (by simp) ?_
          refine AllReadyH.cons (o := ?o1024) ?i1024 (fun K' hK => ?_) AllReadyH.nil
          case' i1024 => simp only [List.getElem?_toArray, List.getElem?_cons_succ, List.getElem?_cons_zero]
          case i1024 => rfl
          go_simp
          go_at_call 17
          refine (same_i (ks := keysE gs) (ms := keysE gs) HKL.out.symm HKL.out.symm (HK1.out.below hhk.out) HK2.out (r := true) (by simp)).mono ?_
          rintro ee V6 ⟨rfl, hb⟩
          have hhc := Lib.hid hb
          clear hb
          go_wp2_with fail
          refine hK.out _ _ (hHeld.below hhc.out) (fun hHeld => ?_)
          clear hK K'
          try simp only [Act.put, List.setIfInBounds_toArray, List.set_cons_zero, List.set_cons_succ]
          clear HK1 HK2
          refine wpAnyH_take (i := 22) (oi := ?o1025) (v := ?v1025) ?i1025 (by kernel_rfl) (by kernel_rfl) (by kernel_rfl) ?q1025 (Or.inl ⟨?w1025, ?y1025⟩) (by assumption) ?r1025
          case' i1025 => simp only [List.getElem?_toArray, List.getElem?_cons_succ, List.getElem?_cons_zero]
          case i1025 => rfl
          case q1025 => exact fun _ _ _ h => h
          case w1025 => kernel_rfl
          case y1025 => (intro W hSw; go_simp) <;> with_reducible rfl
          try simp only [Act.put, List.setIfInBounds_toArray, List.set_cons_zero, List.set_cons_succ]
          refine wpAnyH_take (i := 23) (oi := ?o1026) (v := ?v1026) ?i1026 (by kernel_rfl) (by kernel_rfl) (by kernel_rfl) ?q1026 (Or.inl ⟨?w1026, ?y1026⟩) (by assumption) ?r1026
          case' i1026 => simp only [List.getElem?_toArray, List.getElem?_cons_succ, List.getElem?_cons_zero]
          case i1026 => rfl
          case q1026 => exact fun _ _ _ h => h
          case w1026 => kernel_rfl
          case y1026 => (intro W hSw; go_simp) <;> with_reducible rfl
          try simp only [Act.put, List.setIfInBounds_toArray, List.set_cons_zero, List.set_cons_succ]
          refine wpAnyH_done (by kernel_rfl) ?_ _
          have HC : Hid (Bx w (rs2 ++ (rs3 ++ ([(B, (.cells #[(.slice a2 m2 c2)] 26 (0, 0) : Obj))]))) V6) := Lib.hid (hHeld.less (fun z hz => by
            obtain ⟨zk, zo⟩ := z
            rcases List.mem_append.1 hz with hz1 | hz
            · exact HM.out.2.2.2.1 zk zo hz1
            rcases List.mem_append.1 hz with hz1 | hz
            · exact HM.out.2.2.2.2 zk zo hz1
            simp only [List.mem_cons, List.not_mem_nil, or_false] at hz
            · rw [hz]; exact HM.out.1
          ))
          clear hHeld HCK HM
          clear hzq
          go_wp2_with fail
          go_roundg (gk - 1)
          case rel => exact ⟨i + 1, gs, a2, m2, c2, rs2, a3, c3, rs3, by have := HI9.out; omega, by go_num, rfl, Lib.hid HM2.out.symm, HOKG, HC, HDX2, HDX3, HR2, HR3⟩
          case measure => have := HI9.out; omega
        · have hq : (Q == 0) = false := by simpa using hq0
          obtain ⟨gs, ⟨G0, G1, G2, G3⟩, is, hgs⟩ : ∃ gs g is, putE fs ⟨X1, X2, NX, BT⟩ = (gs, g, is) := ⟨_, _, _, rfl⟩
          have HPE := Lib.hid hgs
          have HOKG : Hid (OkE gs) := Lib.hid (by have := HOK.out.put ⟨X1, X2, NX, BT⟩; rw [hgs] at this; exact this)
          have HZG : Hid (∀ u, (binOp .neq 40 (.agg #[.int .i64 G0, .int .i64 G1, .int .u64 G2, .int .u64 G3]) (.agg #[.int .i64 G0, .int .i64 G1, .int .u64 G2, .int .u64 G3])).run Try.prog u = .ok (.bool false) u) := Lib.hid (fun u => by have := neqQ ⟨G0, G1, G2, G3⟩ ⟨G0, G1, G2, G3⟩ u; rw [eqE_self] at this; exact this)
          obtain ⟨m2, hm2⟩ : ∃ m2, gs.length = m2 := ⟨_, rfl⟩
          have HM2 := Lib.hid hm2
          have HM9 : Hid (m2 ≤ 1000) := Lib.hid (by have := HOKG.out.2; omega)
          have HKL : Hid ((keysE gs).length = m2) := Lib.hid (by unfold keysE; rw [List.length_map, hm2])
          obtain ⟨⟨Q0, Q1, Q2, Q3⟩, was, hge⟩ : ∃ g was, getE gs X2 = (g, was) := ⟨_, _, rfl⟩
          have HGE := Lib.hid hge
          have HZQ : Hid (∀ u, (binOp .neq 40 (.agg #[.int .i64 Q0, .int .i64 Q1, .int .u64 Q2, .int .u64 Q3]) (.agg #[.int .i64 Q0, .int .i64 Q1, .int .u64 Q2, .int .u64 Q3])).run Try.prog u = .ok (.bool false) u) := Lib.hid (fun u => by have := neqQ ⟨Q0, Q1, Q2, Q3⟩ ⟨Q0, Q1, Q2, Q3⟩ u; rw [eqE_self] at this; exact this)
          have HBC : Hid (B < wC.heap.size) := Lib.hid (HC.out.klt (k := B) (o := (.cells #[.slice a n cap] 26 (0, 0) : Obj)) (by simp))
          clear hgs hm2 hge hq0
          obtain ⟨cf0, cf1⟩ := cell1 (HC.out.kept (B) (.cells #[.slice a n cap] 26 (0, 0) : Obj) (by simp))
          obtain ⟨ef0, ef1, ef2, ef3, ef4, ef5, ef6, ef7⟩ := cells4 (HC.out.kept (E) (.cells #[.int .i64 X1, .int .i64 X2, .int .u64 NX, .int .u64 BT] 33 (0, 0) : Obj) (by simp))
          obtain ⟨xf0, xf1, xf2, xf3, xf4, xf5⟩ := cells3 (HC.out.kept (X) (.cells #[.int .i64 X0, .int .i64 X1, .int .i64 X2] 28 (0, 0) : Obj) (by simp))
          go_wp2_with fail
          clear cf0 cf1 ef0 ef1 ef2 ef3 ef4 ef5 ef6 ef7 xf0 xf1 xf2 xf3 xf4 xf5
          refine (HC.out.pput HN.out (HR0.out _ (fun k o q => HC.out.kept k o (by simp [q]))) HOK.out (fs := fs) (gs := gs) (ep := X1) (key := X2) (nx := NX) (bt := BT) (gp := G0) (gk := G1) (gn := G2) (gb := G3) (is := is) HPE.out (m := m2) HM2.out).mono ?_
          rintro e w2 ⟨rs2, a2, c2, rfl, hc, hr, hd, hz⟩
          have HZ2 : Hid (wC.heap.size ≤ w2.heap.size) := Lib.hid hz
          have HR2 := Lib.hid hr
          have HD2 := Lib.hid hd
          replace HC := Lib.hid hc
          clear hc hr hd hz
          have HDX2 : Hid (∀ k oo, (k, oo) ∈ rs2 → k ≠ B) := Lib.hid (fun k oo q e => by have := HD2.out k oo q; have := HBC.out; omega)
          go_upto_region 13 with fail
          replace HC := Lib.hid (HC.out.box #[.slice a2 m2 c2] 26)
          replace HC := Lib.hid (HC.out.box #[.int .i64 G0, .int .i64 G1, .int .u64 G2, .int .u64 G3] 33)
          rw [World.size_alloc] at HC
          have HBDd : Hid (B < w2.heap.size) := Lib.hid (Nat.lt_of_lt_of_le HBC.out HZ2.out)
          generalize hwd : ((w2.alloc (.cells #[.slice a2 m2 c2] 26 : Obj)).alloc (.cells #[.int .i64 G0, .int .i64 G1, .int .u64 G2, .int .u64 G3] 33 : Obj)) = wD at HC ⊢
          generalize hxAb : w2.heap.size + 1 = Ab at HC HBDd ⊢
          generalize hxDb : w2.heap.size = Db at HC HBDd ⊢
          clear hwd hxAb hxDb
          obtain ⟨ef0, ef1, ef2, ef3, ef4, ef5, ef6, ef7⟩ := cells4 (HC.out.kept (E) (.cells #[.int .i64 X1, .int .i64 X2, .int .u64 NX, .int .u64 BT] 33 (0, 0) : Obj) (by simp))
          go_wp2_with fail
          clear ef0 ef1 ef2 ef3 ef4 ef5 ef6 ef7
          refine (one_e X1 X2 NX BT _).mono ?_
          rintro e w3 ⟨rfl, hb⟩
          replace HC := Lib.hid (HC.out.below hb)
          clear hb
          have HBD : Hid (B < w3.heap.size) := Lib.hid (HC.out.klt (k := B) (o := (.cells #[.slice a n cap] 26 (0, 0) : Obj)) (by simp))
          go_wp2_with fail
          refine (HC.out.rput HN.out (HR1.out _ (fun k o q => HC.out.kept k o (by simp [q]))) HN9.out (fs := fs) (gs := gs) (ep := X1) (key := X2) (nx := NX) (bt := BT) (gp := G0) (gk := G1) (gn := G2) (gb := G3) (is := is) HPE.out (m := m2) HM2.out).mono ?_
          rintro e w4 ⟨rs3, a3, c3, rfl, hc, hr, hd, hz⟩
          have HZ3 : Hid (w3.heap.size ≤ w4.heap.size) := Lib.hid hz
          have HR3 := Lib.hid hr
          have HD3 := Lib.hid hd
          replace HC := Lib.hid hc
          clear hc hr hd hz
          have HDX3 : Hid (∀ k oo, (k, oo) ∈ rs3 → k ≠ B) := Lib.hid (fun k oo q e => by have := HD3.out k oo q; have := HBD.out; omega)
          go_upto_region 14 with fail
          replace HC := Lib.hid (HC.out.box #[.int .i64 G0, .int .i64 G1, .int .u64 G2, .int .u64 G3] 40)
          generalize hwd : (w4.alloc (.cells #[.int .i64 G0, .int .i64 G1, .int .u64 G2, .int .u64 G3] 40 : Obj)) = wE at HC ⊢
          generalize hxBb : w4.heap.size = Bb at HC ⊢
          clear hwd hxBb
          obtain ⟨BS, hM, hB⟩ : ∃ BS, (((Ab, (.cells #[.int .i64 G0, .int .i64 G1, .int .u64 G2, .int .u64 G3] 33 (0, 0) : Obj)) : Nat × Obj) ∈ BS ∧ ((Bb, (.cells #[.int .i64 G0, .int .i64 G1, .int .u64 G2, .int .u64 G3] 40 (0, 0) : Obj)) : Nat × Obj) ∈ BS ∧ ((Db, (.cells #[.slice a2 m2 c2] 26 (0, 0) : Obj)) : Nat × Obj) ∈ BS ∧ ((B, (.cells #[.slice a n cap] 26 (0, 0) : Obj)) : Nat × Obj) ∈ BS ∧ ((X, (.cells #[.int .i64 X0, .int .i64 X1, .int .i64 X2] 28 (0, 0) : Obj)) : Nat × Obj) ∈ BS ∧ (∀ k o, (k, o) ∈ rs2 → (k, o) ∈ BS) ∧ (∀ k o, (k, o) ∈ rs3 → (k, o) ∈ BS)) ∧ Bx w BS wE := ⟨_, ⟨by simp, by simp, by simp, by simp, by simp, fun k o q => by simp [q], fun k o q => by simp [q]⟩, HC.out⟩
          have HM := Lib.hid hM
          have HCK := Lib.hid hB
          clear hM hB HC
          refine wp_region_held_drew (S := Bx w BS) (by kernel_rfl) (HCK.out.below (drew_b wE)) (fun hHeld => ?_)
          have hzg := HZG.out
          refine wpAnyH_take (i := 0) (oi := ?o2001) (v := ?v2001) ?i2001 (by kernel_rfl) (by kernel_rfl) (by kernel_rfl) ?q2001 (Or.inl ⟨?w2001, ?y2001⟩) (by assumption) ?r2001
          case' i2001 => simp only [List.getElem?_toArray, List.getElem?_cons_succ, List.getElem?_cons_zero]
          case i2001 => rfl
          case q2001 => exact fun _ _ _ h => h
          case w2001 => kernel_rfl
          case y2001 => (intro W hSw; obtain ⟨z0, z1, z2, z3, z4, z5, z6, z7⟩ := cells4 (hSw.kept _ _ HM.out.1); go_simp) <;> with_reducible rfl
          try simp only [Act.put, List.setIfInBounds_toArray, List.set_cons_zero, List.set_cons_succ]
          refine wpAnyH_take (i := 2) (oi := ?o2002) (v := ?v2002) ?i2002 (by kernel_rfl) (by kernel_rfl) (by kernel_rfl) ?q2002 (Or.inl ⟨?w2002, ?y2002⟩) (by assumption) ?r2002
          case' i2002 => simp only [List.getElem?_toArray, List.getElem?_cons_succ, List.getElem?_cons_zero]
          case i2002 => rfl
          case q2002 => exact fun _ _ _ h => h
          case w2002 => kernel_rfl
          case y2002 => (intro W hSw; obtain ⟨z0, z1, z2, z3, z4, z5, z6, z7⟩ := cells4 (hSw.kept _ _ HM.out.2.1); go_simp) <;> with_reducible rfl
          try simp only [Act.put, List.setIfInBounds_toArray, List.set_cons_zero, List.set_cons_succ]
          refine wpAnyH_ready (rs := [1]) (by kernel_rfl) (by simp) ?_
          refine AllReadyH.cons (o := ?o2004) ?i2004 (fun K' hK => ?_) AllReadyH.nil
          case' i2004 => simp only [List.getElem?_toArray, List.getElem?_cons_succ, List.getElem?_cons_zero]
          case i2004 => rfl
          go_simp
          go_at_call 12
          refine (one_e G0 G1 G2 G3 _).mono ?_
          rintro ee V2003 ⟨rfl, hb⟩
          have hhbo0 := Lib.hid hb
          clear hb
          go_wp2_with fail
          refine hK.out _ _ (hHeld.below hhbo0.out) (fun hHeld => ?_)
          clear hK K'
          try simp only [Act.put, List.setIfInBounds_toArray, List.set_cons_zero, List.set_cons_succ]
          refine wpAnyH_take (i := 3) (oi := ?o2005) (v := ?v2005) ?i2005 (by kernel_rfl) (by kernel_rfl) (by kernel_rfl) ?q2005 (Or.inl ⟨?w2005, ?y2005⟩) (by assumption) ?r2005
          case' i2005 => simp only [List.getElem?_toArray, List.getElem?_cons_succ, List.getElem?_cons_zero]
          case i2005 => rfl
          case q2005 => exact fun _ _ _ h => h
          case w2005 => kernel_rfl
          case y2005 => (intro W hSw; go_simp) <;> with_reducible rfl
          try simp only [Act.put, List.setIfInBounds_toArray, List.set_cons_zero, List.set_cons_succ]
          refine wpAnyH_take (i := 4) (oi := ?o2006) (v := ?v2006) ?i2006 (by kernel_rfl) (by kernel_rfl) (by kernel_rfl) ?q2006 (Or.inl ⟨?w2006, ?y2006⟩) (by assumption) ?r2006
          case' i2006 => simp only [List.getElem?_toArray, List.getElem?_cons_succ, List.getElem?_cons_zero]
          case i2006 => rfl
          case q2006 => exact fun _ _ _ h => h
          case w2006 => kernel_rfl
          case y2006 => (intro W hSw; go_simp) <;> with_reducible rfl
          try simp only [Act.put, List.setIfInBounds_toArray, List.set_cons_zero, List.set_cons_succ]
          refine wpAnyH_take (i := 5) (oi := ?o2007) (v := ?v2007) ?i2007 (by kernel_rfl) (by kernel_rfl) (by kernel_rfl) ?q2007 (Or.inl ⟨?w2007, ?y2007⟩) (by assumption) ?r2007
          case' i2007 => simp only [List.getElem?_toArray, List.getElem?_cons_succ, List.getElem?_cons_zero]
          case i2007 => rfl
          case q2007 => exact fun _ _ _ h => h
          case w2007 => kernel_rfl
          case y2007 => (intro W hSw; go_simp) <;> with_reducible rfl
          try simp only [Act.put, List.setIfInBounds_toArray, List.set_cons_zero, List.set_cons_succ]
          refine wpAnyH_take (i := 6) (oi := ?o2008) (v := ?v2008) ?i2008 (by kernel_rfl) (by kernel_rfl) (by kernel_rfl) ?q2008 (Or.inl ⟨?w2008, ?y2008⟩) (by assumption) ?r2008
          case' i2008 => simp only [List.getElem?_toArray, List.getElem?_cons_succ, List.getElem?_cons_zero]
          case i2008 => rfl
          case q2008 => exact fun _ _ _ h => h
          case w2008 => kernel_rfl
          case y2008 => (intro W hSw; go_simp) <;> with_reducible rfl
          try simp only [Act.put, List.setIfInBounds_toArray, List.set_cons_zero, List.set_cons_succ]
          refine wpAnyH_take (i := 7) (oi := ?o2009) (v := ?v2009) ?i2009 (by kernel_rfl) (by kernel_rfl) (by kernel_rfl) ?q2009 (Or.inl ⟨?w2009, ?y2009⟩) (by assumption) ?r2009
          case' i2009 => simp only [List.getElem?_toArray, List.getElem?_cons_succ, List.getElem?_cons_zero]
          case i2009 => rfl
          case q2009 => exact fun _ _ _ h => h
          case w2009 => kernel_rfl
          case y2009 => (intro W hSw; go_simp) <;> with_reducible rfl
          try simp only [Act.put, List.setIfInBounds_toArray, List.set_cons_zero, List.set_cons_succ]
          refine wpAnyH_take (i := 8) (oi := ?o2010) (v := ?v2010) ?i2010 (by kernel_rfl) (by kernel_rfl) (by kernel_rfl) ?q2010 (Or.inl ⟨?w2010, ?y2010⟩) (by assumption) ?r2010
          case' i2010 => simp only [List.getElem?_toArray, List.getElem?_cons_succ, List.getElem?_cons_zero]
          case i2010 => rfl
          case q2010 => exact fun _ _ _ h => h
          case w2010 => kernel_rfl
          case y2010 => (intro W hSw; go_simp) <;> with_reducible rfl
          try simp only [Act.put, List.setIfInBounds_toArray, List.set_cons_zero, List.set_cons_succ]
          refine wpAnyH_done (by kernel_rfl) ?_ _
          have HC : Hid (Bx w (rs2 ++ (rs3 ++ ([(Db, (.cells #[.slice a2 m2 c2] 26 (0, 0) : Obj)), (X, (.cells #[.int .i64 X0, .int .i64 X1, .int .i64 X2] 28 (0, 0) : Obj)), (B, (.cells #[.slice a n cap] 26 (0, 0) : Obj))]))) V2003) := Lib.hid (hHeld.less (fun z hz => by
            obtain ⟨zk, zo⟩ := z
            rcases List.mem_append.1 hz with hz1 | hz
            · exact HM.out.2.2.2.2.2.1 zk zo hz1
            rcases List.mem_append.1 hz with hz1 | hz
            · exact HM.out.2.2.2.2.2.2 zk zo hz1
            simp only [List.mem_cons, List.not_mem_nil, or_false] at hz
            rcases hz with hz | hz | hz
            · rw [hz]; exact HM.out.2.2.1
            · rw [hz]; exact HM.out.2.2.2.2.1
            · rw [hz]; exact HM.out.2.2.2.1
          ))
          clear hHeld HCK HM
          clear hzg
          obtain ⟨df0, df1⟩ := cell1 (HC.out.kept (Db) (.cells #[.slice a2 m2 c2] 26 (0, 0) : Obj) (by simp))
          obtain ⟨cf0, cf1⟩ := cell1 (HC.out.kept (B) (.cells #[.slice a n cap] 26 (0, 0) : Obj) (by simp))
          go_upto_region 17 with fail
          clear df0 df1 cf0 cf1
          replace HC : Hid (Bx w (rs2 ++ (rs3 ++ ([(X, (.cells #[.int .i64 X0, .int .i64 X1, .int .i64 X2] 28 (0, 0) : Obj)), (B, (.cells #[(.slice a2 m2 c2)] 26 (0, 0) : Obj))]))) (V2003.setCell ⟨B, 0, none⟩ (.slice a2 m2 c2))) := Lib.hid (HC.out.set1 (B := B) (x := .slice a n cap) (T := 26) (by simp) HB.out (.slice a2 m2 c2) (fun z hz => by
            obtain ⟨zk, zo⟩ := z
            rcases List.mem_append.1 hz with hz1 | hz
            · exact .inr ⟨by simp [hz1], HDX2.out zk zo hz1⟩
            rcases List.mem_append.1 hz with hz1 | hz
            · exact .inr ⟨by simp [hz1], HDX3.out zk zo hz1⟩
            simp only [List.mem_cons, List.not_mem_nil, or_false] at hz
            rcases hz with hz | hz
            · exact .inr ⟨by simp [hz], by rw [hz]; exact fun q => by have := HBX.out; dsimp only at q; omega⟩
            · exact .inl hz
          ))
          generalize hwd : (V2003.setCell ⟨B, 0, none⟩ (.slice a2 m2 c2)) = wF0 at HC ⊢
          clear hwd 
          go_upto_region 18 with fail
          obtain ⟨cf0, cf1⟩ := cell1 (HC.out.kept (B) (.cells #[(.slice a2 m2 c2)] 26 (0, 0) : Obj) (by simp))
          obtain ⟨xf0, xf1, xf2, xf3, xf4, xf5⟩ := cells3 (HC.out.kept (X) (.cells #[.int .i64 X0, .int .i64 X1, .int .i64 X2] 28 (0, 0) : Obj) (by simp))
          go_wp2_with fail
          clear cf0 cf1 xf0 xf1 xf2 xf3 xf4 xf5
          refine (HC.out.pget (fs := gs) HM2.out.symm (HR2.out _ (fun k o q => HC.out.kept k o (by simp [q]))) HOKG.out (K := X2) (gp := Q0) (gk := Q1) (gn := Q2) (gb := Q3) (is := was) HGE.out).mono ?_
          rintro e w5 ⟨rfl, hc, hz⟩
          replace HC := Lib.hid hc
          clear hc hz
          go_upto_region 19 with fail
          replace HC := Lib.hid (HC.out.box #[.int .i64 Q0, .int .i64 Q1, .int .u64 Q2, .int .u64 Q3] 33)
          generalize hwd : (w5.alloc (.cells #[.int .i64 Q0, .int .i64 Q1, .int .u64 Q2, .int .u64 Q3] 33 : Obj)) = wF at HC ⊢
          generalize hxG : w5.heap.size = G at HC ⊢
          clear hwd hxG
          obtain ⟨xf0, xf1, xf2, xf3, xf4, xf5⟩ := cells3 (HC.out.kept (X) (.cells #[.int .i64 X0, .int .i64 X1, .int .i64 X2] 28 (0, 0) : Obj) (by simp))
          go_wp2_with fail
          clear xf0 xf1 xf2 xf3 xf4 xf5
          refine (HC.out.rget (fs := gs) HM2.out.symm (HR3.out _ (fun k o q => HC.out.kept k o (by simp [q]))) HM9.out (K := X2) (gp := Q0) (gk := Q1) (gn := Q2) (gb := Q3) (is := was) HGE.out).mono ?_
          rintro e w6 ⟨rfl, hc, hz⟩
          replace HC := Lib.hid hc
          clear hc hz
          go_upto_region 20 with fail
          replace HC := Lib.hid (HC.out.box #[.int .i64 Q0, .int .i64 Q1, .int .u64 Q2, .int .u64 Q3] 40)
          generalize hwd : (w6.alloc (.cells #[.int .i64 Q0, .int .i64 Q1, .int .u64 Q2, .int .u64 Q3] 40 : Obj)) = wG at HC ⊢
          generalize hxHb : w6.heap.size = Hb at HC ⊢
          clear hwd hxHb
          obtain ⟨BS, hM, hB⟩ : ∃ BS, (((B, (.cells #[(.slice a2 m2 c2)] 26 (0, 0) : Obj)) : Nat × Obj) ∈ BS ∧ ((G, (.cells #[.int .i64 Q0, .int .i64 Q1, .int .u64 Q2, .int .u64 Q3] 33 (0, 0) : Obj)) : Nat × Obj) ∈ BS ∧ ((Hb, (.cells #[.int .i64 Q0, .int .i64 Q1, .int .u64 Q2, .int .u64 Q3] 40 (0, 0) : Obj)) : Nat × Obj) ∈ BS ∧ (∀ k o, (k, o) ∈ rs2 → (k, o) ∈ BS) ∧ (∀ k o, (k, o) ∈ rs3 → (k, o) ∈ BS)) ∧ Bx w BS wG := ⟨_, ⟨by simp, by simp, by simp, fun k o q => by simp [q], fun k o q => by simp [q]⟩, HC.out⟩
          have HM := Lib.hid hM
          have HCK := Lib.hid hB
          clear hM hB HC
          refine wp_region_held_drew (S := Bx w BS) (by kernel_rfl) (HCK.out.below (drew_b wG)) (fun hHeld => ?_)
          refine wpAnyH_take (i := 0) (oi := ?o3001) (v := ?v3001) ?i3001 (by kernel_rfl) (by kernel_rfl) (by kernel_rfl) ?q3001 (Or.inl ⟨?w3001, ?y3001⟩) (by assumption) ?r3001
          case' i3001 => simp only [List.getElem?_toArray, List.getElem?_cons_succ, List.getElem?_cons_zero]
          case i3001 => rfl
          case q3001 => exact fun _ _ _ h => h
          case w3001 => kernel_rfl
          case y3001 => (intro W hSw; obtain ⟨z0, z1⟩ := cell1 (hSw.kept _ _ HM.out.1); go_simp) <;> with_reducible rfl
          try simp only [Act.put, List.setIfInBounds_toArray, List.set_cons_zero, List.set_cons_succ]
          refine wpAnyH_take (i := 2) (oi := ?o3002) (v := ?v3002) ?i3002 (by kernel_rfl) (by kernel_rfl) (by kernel_rfl) ?q3002 (Or.inl ⟨?w3002, ?y3002⟩) (by assumption) ?r3002
          case' i3002 => simp only [List.getElem?_toArray, List.getElem?_cons_succ, List.getElem?_cons_zero]
          case i3002 => rfl
          case q3002 => exact fun _ _ _ h => h
          case w3002 => kernel_rfl
          case y3002 => (intro W hSw; go_simp) <;> with_reducible rfl
          try simp only [Act.put, List.setIfInBounds_toArray, List.set_cons_zero, List.set_cons_succ]
          have hzq := HZQ.out
          refine wpAnyH_ready (rs := [1]) (by kernel_rfl) (by simp) ?_
          refine AllReadyH.cons (o := ?o3003) ?i3003 (fun K' hK => ?_) AllReadyH.nil
          case' i3003 => simp only [List.getElem?_toArray, List.getElem?_cons_succ, List.getElem?_cons_zero]
          case i3003 => rfl
          go_simp
          go_at_call 16
          refine (refs_e a2 m2 c2 gs _ HM2.out.symm (HR2.out _ (fun k o q => hHeld.kept k o (HM.out.2.2.2.1 k o q))) HM9.out).mono ?_
          rintro ee V1 ⟨v, rfl, hN, hb⟩
          obtain ⟨a8, c8, rfl, hr⟩ := hN.at
          rw [HM2.out]
          have HR8 := Lib.hid hr
          have hh8 := Lib.hid hb
          clear hr hb hN
          go_wp2_with fail
          refine hK.out _ _ (hHeld.below hh8.out) (fun hHeld => ?_)
          clear hK K'
          try simp only [Act.put, List.setIfInBounds_toArray, List.set_cons_zero, List.set_cons_succ]
          refine wpAnyH_ready (rs := [3]) (by kernel_rfl) (by simp) ?_
          refine AllReadyH.cons (o := ?o3004) ?i3004 (fun K' hK => ?_) AllReadyH.nil
          case' i3004 => simp only [List.getElem?_toArray, List.getElem?_cons_succ, List.getElem?_cons_zero]
          case i3004 => rfl
          go_simp
          go_at_call 15
          refine (rsame_e a8 a3 m2 c8 c3 gs _ HM2.out.symm HR8.out (HR3.out _ (fun k o q => hHeld.kept k o (HM.out.2.2.2.2 k o q)))).mono ?_
          rintro ee V2 ⟨rfl, hb⟩
          have hh9 := Lib.hid hb
          clear hb HR8
          go_wp2_with fail
          refine hK.out _ _ (hHeld.below hh9.out) (fun hHeld => ?_)
          clear hK K'
          try simp only [Act.put, List.setIfInBounds_toArray, List.set_cons_zero, List.set_cons_succ]
          refine wpAnyH_take (i := 4) (oi := ?o3005) (v := ?v3005) ?i3005 (by kernel_rfl) (by kernel_rfl) (by kernel_rfl) ?q3005 (Or.inl ⟨?w3005, ?y3005⟩) (by assumption) ?r3005
          case' i3005 => simp only [List.getElem?_toArray, List.getElem?_cons_succ, List.getElem?_cons_zero]
          case i3005 => rfl
          case q3005 => exact fun _ _ _ h => h
          case w3005 => kernel_rfl
          case y3005 => (intro W hSw; go_simp) <;> with_reducible rfl
          try simp only [Act.put, List.setIfInBounds_toArray, List.set_cons_zero, List.set_cons_succ]
          refine wpAnyH_take (i := 5) (oi := ?o3006) (v := ?v3006) ?i3006 (by kernel_rfl) (by kernel_rfl) (by kernel_rfl) ?q3006 (Or.inl ⟨?w3006, ?y3006⟩) (by assumption) ?r3006
          case' i3006 => simp only [List.getElem?_toArray, List.getElem?_cons_succ, List.getElem?_cons_zero]
          case i3006 => rfl
          case q3006 => exact fun _ _ _ h => h
          case w3006 => kernel_rfl
          case y3006 => (intro W hSw; go_simp) <;> with_reducible rfl
          try simp only [Act.put, List.setIfInBounds_toArray, List.set_cons_zero, List.set_cons_succ]
          refine wpAnyH_take (i := 6) (oi := ?o3007) (v := ?v3007) ?i3007 (by kernel_rfl) (by kernel_rfl) (by kernel_rfl) ?q3007 (Or.inl ⟨?w3007, ?y3007⟩) (by assumption) ?r3007
          case' i3007 => simp only [List.getElem?_toArray, List.getElem?_cons_succ, List.getElem?_cons_zero]
          case i3007 => rfl
          case q3007 => exact fun _ _ _ h => h
          case w3007 => kernel_rfl
          case y3007 => (intro W hSw; obtain ⟨z0, z1, z2, z3, z4, z5, z6, z7⟩ := cells4 (hSw.kept _ _ HM.out.2.1); go_simp) <;> with_reducible rfl
          try simp only [Act.put, List.setIfInBounds_toArray, List.set_cons_zero, List.set_cons_succ]
          refine wpAnyH_take (i := 8) (oi := ?o3008) (v := ?v3008) ?i3008 (by kernel_rfl) (by kernel_rfl) (by kernel_rfl) ?q3008 (Or.inl ⟨?w3008, ?y3008⟩) (by assumption) ?r3008
          case' i3008 => simp only [List.getElem?_toArray, List.getElem?_cons_succ, List.getElem?_cons_zero]
          case i3008 => rfl
          case q3008 => exact fun _ _ _ h => h
          case w3008 => kernel_rfl
          case y3008 => (intro W hSw; obtain ⟨z0, z1, z2, z3, z4, z5, z6, z7⟩ := cells4 (hSw.kept _ _ HM.out.2.2.1); go_simp) <;> with_reducible rfl
          try simp only [Act.put, List.setIfInBounds_toArray, List.set_cons_zero, List.set_cons_succ]
          refine wpAnyH_ready (rs := [7]) (by kernel_rfl) (by simp) ?_
          refine AllReadyH.cons (o := ?o3010) ?i3010 (fun K' hK => ?_) AllReadyH.nil
          case' i3010 => simp only [List.getElem?_toArray, List.getElem?_cons_succ, List.getElem?_cons_zero]
          case i3010 => rfl
          go_simp
          go_at_call 12
          refine (one_e Q0 Q1 Q2 Q3 _).mono ?_
          rintro ee V3009 ⟨rfl, hb⟩
          have hhbo1 := Lib.hid hb
          clear hb
          go_wp2_with fail
          refine hK.out _ _ (hHeld.below hhbo1.out) (fun hHeld => ?_)
          clear hK K'
          try simp only [Act.put, List.setIfInBounds_toArray, List.set_cons_zero, List.set_cons_succ]
          refine wpAnyH_take (i := 9) (oi := ?o3011) (v := ?v3011) ?i3011 (by kernel_rfl) (by kernel_rfl) (by kernel_rfl) ?q3011 (Or.inl ⟨?w3011, ?y3011⟩) (by assumption) ?r3011
          case' i3011 => simp only [List.getElem?_toArray, List.getElem?_cons_succ, List.getElem?_cons_zero]
          case i3011 => rfl
          case q3011 => exact fun _ _ _ h => h
          case w3011 => kernel_rfl
          case y3011 => (intro W hSw; go_simp) <;> with_reducible rfl
          try simp only [Act.put, List.setIfInBounds_toArray, List.set_cons_zero, List.set_cons_succ]
          refine wpAnyH_take (i := 10) (oi := ?o3012) (v := ?v3012) ?i3012 (by kernel_rfl) (by kernel_rfl) (by kernel_rfl) ?q3012 (Or.inl ⟨?w3012, ?y3012⟩) (by assumption) ?r3012
          case' i3012 => simp only [List.getElem?_toArray, List.getElem?_cons_succ, List.getElem?_cons_zero]
          case i3012 => rfl
          case q3012 => exact fun _ _ _ h => h
          case w3012 => kernel_rfl
          case y3012 => (intro W hSw; go_simp) <;> with_reducible rfl
          try simp only [Act.put, List.setIfInBounds_toArray, List.set_cons_zero, List.set_cons_succ]
          refine wpAnyH_take (i := 11) (oi := ?o3013) (v := ?v3013) ?i3013 (by kernel_rfl) (by kernel_rfl) (by kernel_rfl) ?q3013 (Or.inl ⟨?w3013, ?y3013⟩) (by assumption) ?r3013
          case' i3013 => simp only [List.getElem?_toArray, List.getElem?_cons_succ, List.getElem?_cons_zero]
          case i3013 => rfl
          case q3013 => exact fun _ _ _ h => h
          case w3013 => kernel_rfl
          case y3013 => (intro W hSw; go_simp) <;> with_reducible rfl
          try simp only [Act.put, List.setIfInBounds_toArray, List.set_cons_zero, List.set_cons_succ]
          refine wpAnyH_take (i := 12) (oi := ?o3014) (v := ?v3014) ?i3014 (by kernel_rfl) (by kernel_rfl) (by kernel_rfl) ?q3014 (Or.inl ⟨?w3014, ?y3014⟩) (by assumption) ?r3014
          case' i3014 => simp only [List.getElem?_toArray, List.getElem?_cons_succ, List.getElem?_cons_zero]
          case i3014 => rfl
          case q3014 => exact fun _ _ _ h => h
          case w3014 => kernel_rfl
          case y3014 => (intro W hSw; go_simp) <;> with_reducible rfl
          try simp only [Act.put, List.setIfInBounds_toArray, List.set_cons_zero, List.set_cons_succ]
          refine wpAnyH_take (i := 13) (oi := ?o3015) (v := ?v3015) ?i3015 (by kernel_rfl) (by kernel_rfl) (by kernel_rfl) ?q3015 (Or.inl ⟨?w3015, ?y3015⟩) (by assumption) ?r3015
          case' i3015 => simp only [List.getElem?_toArray, List.getElem?_cons_succ, List.getElem?_cons_zero]
          case i3015 => rfl
          case q3015 => exact fun _ _ _ h => h
          case w3015 => kernel_rfl
          case y3015 => (intro W hSw; go_simp) <;> with_reducible rfl
          try simp only [Act.put, List.setIfInBounds_toArray, List.set_cons_zero, List.set_cons_succ]
          refine wpAnyH_take (i := 14) (oi := ?o3016) (v := ?v3016) ?i3016 (by kernel_rfl) (by kernel_rfl) (by kernel_rfl) ?q3016 (Or.inl ⟨?w3016, ?y3016⟩) (by assumption) ?r3016
          case' i3016 => simp only [List.getElem?_toArray, List.getElem?_cons_succ, List.getElem?_cons_zero]
          case i3016 => rfl
          case q3016 => exact fun _ _ _ h => h
          case w3016 => kernel_rfl
          case y3016 => (intro W hSw; go_simp) <;> with_reducible rfl
          try simp only [Act.put, List.setIfInBounds_toArray, List.set_cons_zero, List.set_cons_succ]
          refine wpAnyH_take (i := 15) (oi := ?o3017) (v := ?v3017) ?i3017 (by kernel_rfl) (by kernel_rfl) (by kernel_rfl) ?q3017 (Or.inl ⟨?w3017, ?y3017⟩) (by assumption) ?r3017
          case' i3017 => simp only [List.getElem?_toArray, List.getElem?_cons_succ, List.getElem?_cons_zero]
          case i3017 => rfl
          case q3017 => exact fun _ _ _ h => h
          case w3017 => kernel_rfl
          case y3017 => (intro W hSw; go_simp) <;> with_reducible rfl
          try simp only [Act.put, List.setIfInBounds_toArray, List.set_cons_zero, List.set_cons_succ]
          refine wpAnyH_take (i := 16) (oi := ?o3018) (v := ?v3018) ?i3018 (by kernel_rfl) (by kernel_rfl) (by kernel_rfl) ?q3018 (Or.inl ⟨?w3018, ?y3018⟩) (by assumption) ?r3018
          case' i3018 => simp only [List.getElem?_toArray, List.getElem?_cons_succ, List.getElem?_cons_zero]
          case i3018 => rfl
          case q3018 => exact fun _ _ _ h => h
          case w3018 => kernel_rfl
          case y3018 => (intro W hSw; go_simp) <;> with_reducible rfl
          try simp only [Act.put, List.setIfInBounds_toArray, List.set_cons_zero, List.set_cons_succ]
          refine wpAnyH_take (i := 17) (oi := ?o3019) (v := ?v3019) ?i3019 (by kernel_rfl) (by kernel_rfl) (by kernel_rfl) ?q3019 (Or.inl ⟨?w3019, ?y3019⟩) (by assumption) ?r3019
          case' i3019 => simp only [List.getElem?_toArray, List.getElem?_cons_succ, List.getElem?_cons_zero]
          case i3019 => rfl
          case q3019 => exact fun _ _ _ h => h
          case w3019 => kernel_rfl
          case y3019 => (intro W hSw; obtain ⟨z0, z1⟩ := cell1 (hSw.kept _ _ HM.out.1); go_simp) <;> with_reducible rfl
          try simp only [Act.put, List.setIfInBounds_toArray, List.set_cons_zero, List.set_cons_succ]
          refine wpAnyH_take (i := 19) (oi := ?o3020) (v := ?v3020) ?i3020 (by kernel_rfl) (by kernel_rfl) (by kernel_rfl) ?q3020 (Or.inl ⟨?w3020, ?y3020⟩) (by assumption) ?r3020
          case' i3020 => simp only [List.getElem?_toArray, List.getElem?_cons_succ, List.getElem?_cons_zero]
          case i3020 => rfl
          case q3020 => exact fun _ _ _ h => h
          case w3020 => kernel_rfl
          case y3020 => (intro W hSw; go_simp) <;> with_reducible rfl
          try simp only [Act.put, List.setIfInBounds_toArray, List.set_cons_zero, List.set_cons_succ]
          refine wpAnyH_ready (rs := [18]) (by kernel_rfl) (by simp) ?_
          refine AllReadyH.cons (o := ?o3022) ?i3022 (fun K' hK => ?_) AllReadyH.nil
          case' i3022 => simp only [List.getElem?_toArray, List.getElem?_cons_succ, List.getElem?_cons_zero]
          case i3022 => rfl
          go_simp
          go_at_call 18
          refine (keys_s HM2.out.symm (HR2.out _ (fun k o q => hHeld.kept k o (HM.out.2.2.2.1 k o q))) HOKG.out (fs := gs)).mono ?_
          rintro ee V3021 ⟨aK1, cK1, rfl, hr, hb⟩
          have hhbK1 := Lib.hid hb
          have HK1 := Lib.hid hr
          clear hr
          clear hb
          go_wp2_with fail
          refine hK.out _ _ (hHeld.below hhbK1.out) (fun hHeld => ?_)
          clear hK K'
          try simp only [Act.put, List.setIfInBounds_toArray, List.set_cons_zero, List.set_cons_succ]
          refine wpAnyH_ready (rs := [20]) (by kernel_rfl) (by simp) ?_
          refine AllReadyH.cons (o := ?o3023) ?i3023 (fun K' hK => ?_) AllReadyH.nil
          case' i3023 => simp only [List.getElem?_toArray, List.getElem?_cons_succ, List.getElem?_cons_zero]
          case i3023 => rfl
          go_simp
          go_at_call 19
          refine (rkeys_e a3 m2 c3 gs _ HM2.out.symm (HR3.out _ (fun k o q => hHeld.kept k o (HM.out.2.2.2.2 k o q))) HM9.out).mono ?_
          rintro ee V5 ⟨v, rfl, hN, hb⟩
          obtain ⟨a9, c9, rfl, hr⟩ := hN.at
          rw [HKL.out]
          have HK2 := Lib.hid hr
          have hhk := Lib.hid hb
          clear hr hb hN
          go_wp2_with fail
          refine hK.out _ _ (hHeld.below hhk.out) (fun hHeld => ?_)
          clear hK K'
          try simp only [Act.put, List.setIfInBounds_toArray, List.set_cons_zero, List.set_cons_succ]
          refine wpAnyH_ready (rs := [21]) (by kernel_rfl) (by simp) ?_
          refine AllReadyH.cons (o := ?o3024) ?i3024 (fun K' hK => ?_) AllReadyH.nil
          case' i3024 => simp only [List.getElem?_toArray, List.getElem?_cons_succ, List.getElem?_cons_zero]
          case i3024 => rfl
          go_simp
          go_at_call 17
          refine (same_i (ks := keysE gs) (ms := keysE gs) HKL.out.symm HKL.out.symm (HK1.out.below hhk.out) HK2.out (r := true) (by simp)).mono ?_
          rintro ee V6 ⟨rfl, hb⟩
          have hhc := Lib.hid hb
          clear hb
          go_wp2_with fail
          refine hK.out _ _ (hHeld.below hhc.out) (fun hHeld => ?_)
          clear hK K'
          try simp only [Act.put, List.setIfInBounds_toArray, List.set_cons_zero, List.set_cons_succ]
          clear HK1 HK2
          refine wpAnyH_take (i := 22) (oi := ?o3025) (v := ?v3025) ?i3025 (by kernel_rfl) (by kernel_rfl) (by kernel_rfl) ?q3025 (Or.inl ⟨?w3025, ?y3025⟩) (by assumption) ?r3025
          case' i3025 => simp only [List.getElem?_toArray, List.getElem?_cons_succ, List.getElem?_cons_zero]
          case i3025 => rfl
          case q3025 => exact fun _ _ _ h => h
          case w3025 => kernel_rfl
          case y3025 => (intro W hSw; go_simp) <;> with_reducible rfl
          try simp only [Act.put, List.setIfInBounds_toArray, List.set_cons_zero, List.set_cons_succ]
          refine wpAnyH_take (i := 23) (oi := ?o3026) (v := ?v3026) ?i3026 (by kernel_rfl) (by kernel_rfl) (by kernel_rfl) ?q3026 (Or.inl ⟨?w3026, ?y3026⟩) (by assumption) ?r3026
          case' i3026 => simp only [List.getElem?_toArray, List.getElem?_cons_succ, List.getElem?_cons_zero]
          case i3026 => rfl
          case q3026 => exact fun _ _ _ h => h
          case w3026 => kernel_rfl
          case y3026 => (intro W hSw; go_simp) <;> with_reducible rfl
          try simp only [Act.put, List.setIfInBounds_toArray, List.set_cons_zero, List.set_cons_succ]
          refine wpAnyH_done (by kernel_rfl) ?_ _
          have HC : Hid (Bx w (rs2 ++ (rs3 ++ ([(B, (.cells #[(.slice a2 m2 c2)] 26 (0, 0) : Obj))]))) V6) := Lib.hid (hHeld.less (fun z hz => by
            obtain ⟨zk, zo⟩ := z
            rcases List.mem_append.1 hz with hz1 | hz
            · exact HM.out.2.2.2.1 zk zo hz1
            rcases List.mem_append.1 hz with hz1 | hz
            · exact HM.out.2.2.2.2 zk zo hz1
            simp only [List.mem_cons, List.not_mem_nil, or_false] at hz
            · rw [hz]; exact HM.out.1
          ))
          clear hHeld HCK HM
          clear hzq
          go_wp2_with fail
          go_roundg (gk - 1)
          case rel => exact ⟨i + 1, gs, a2, m2, c2, rs2, a3, c3, rs3, by have := HI9.out; omega, by go_num, rfl, Lib.hid HM2.out.symm, HOKG, HC, HDX2, HDX3, HR2, HR3⟩
          case measure => have := HI9.out; omega
      · have j1 : decide ((i : Int) < (len1 : Int)) = false := by simp; omega
        have j2 : decide (i < len1) = false := by simpa using hiw
        go_upto_region 9 with fail
        clear j1 j2
        generalize hwd : wB = wC at HC ⊢
        clear hwd 
        obtain ⟨Q, hQ⟩ : ∃ Q, bits BinOp.and IntKind.i64 X0 3 = Q := ⟨_, rfl⟩
        by_cases hq0 : Q = 0
        · have hq : (Q == 0) = true := by simp [hq0]
          obtain ⟨gs, hgs⟩ : ∃ gs, dropE fs X1 = gs := ⟨_, rfl⟩
          have HDP := Lib.hid hgs
          have HOKG : Hid (OkE gs) := Lib.hid (by rw [← hgs]; exact HOK.out.drop X1)
          obtain ⟨m2, hm2⟩ : ∃ m2, gs.length = m2 := ⟨_, rfl⟩
          have HM2 := Lib.hid hm2
          have HM9 : Hid (m2 ≤ 1000) := Lib.hid (by have := HOKG.out.2; omega)
          have HKL : Hid ((keysE gs).length = m2) := Lib.hid (by unfold keysE; rw [List.length_map, hm2])
          obtain ⟨⟨Q0, Q1, Q2, Q3⟩, was, hge⟩ : ∃ g was, getE gs X2 = (g, was) := ⟨_, _, rfl⟩
          have HGE := Lib.hid hge
          have HZQ : Hid (∀ u, (binOp .neq 40 (.agg #[.int .i64 Q0, .int .i64 Q1, .int .u64 Q2, .int .u64 Q3]) (.agg #[.int .i64 Q0, .int .i64 Q1, .int .u64 Q2, .int .u64 Q3])).run Try.prog u = .ok (.bool false) u) := Lib.hid (fun u => by have := neqQ ⟨Q0, Q1, Q2, Q3⟩ ⟨Q0, Q1, Q2, Q3⟩ u; rw [eqE_self] at this; exact this)
          have HBC : Hid (B < wC.heap.size) := Lib.hid (HC.out.klt (k := B) (o := (.cells #[.slice a n cap] 26 (0, 0) : Obj)) (by simp))
          clear hgs hm2 hge hq0
          obtain ⟨cf0, cf1⟩ := cell1 (HC.out.kept (B) (.cells #[.slice a n cap] 26 (0, 0) : Obj) (by simp))
          obtain ⟨xf0, xf1, xf2, xf3, xf4, xf5⟩ := cells3 (HC.out.kept (X) (.cells #[.int .i64 X0, .int .i64 X1, .int .i64 X2] 28 (0, 0) : Obj) (by simp))
          go_wp2_with fail
          clear cf0 cf1 xf0 xf1 xf2 xf3 xf4 xf5
          refine (HC.out.pdrop HN.out (HR0.out _ (fun k o q => HC.out.kept k o (by simp [q]))) HOK.out (fs := fs) (gs := gs) (K := X1) HDP.out (m := m2) HM2.out).mono ?_
          rintro e w2 ⟨rs2, a2, c2, rfl, hc, hr, hd, hz⟩
          have HZ2 : Hid (wC.heap.size ≤ w2.heap.size) := Lib.hid hz
          have HR2 := Lib.hid hr
          have HD2 := Lib.hid hd
          replace HC := Lib.hid hc
          clear hc hr hd hz
          obtain ⟨cf0, cf1⟩ := cell1 (HC.out.kept (B) (.cells #[.slice a n cap] 26 (0, 0) : Obj) (by simp))
          go_upto_region 11 with fail
          clear cf0 cf1
          have HDX2 : Hid (∀ k oo, (k, oo) ∈ rs2 → k ≠ B) := Lib.hid (fun k oo q e => by have := HD2.out k oo q; have := HBC.out; omega)
          replace HC : Hid (Bx w (rs2 ++ (rs1 ++ ([(X, (.cells #[.int .i64 X0, .int .i64 X1, .int .i64 X2] 28 (0, 0) : Obj)), (B, (.cells #[(.slice a2 m2 c2)] 26 (0, 0) : Obj))]))) (w2.setCell ⟨B, 0, none⟩ (.slice a2 m2 c2))) := Lib.hid (HC.out.set1 (B := B) (x := .slice a n cap) (T := 26) (by simp) HB.out (.slice a2 m2 c2) (fun z hz => by
            obtain ⟨zk, zo⟩ := z
            rcases List.mem_append.1 hz with hz1 | hz
            · exact .inr ⟨by simp [hz1], HDX2.out zk zo hz1⟩
            rcases List.mem_append.1 hz with hz1 | hz
            · exact .inr ⟨by simp [hz1], HDX1.out zk zo hz1⟩
            simp only [List.mem_cons, List.not_mem_nil, or_false] at hz
            rcases hz with hz | hz
            · exact .inr ⟨by simp [hz], by rw [hz]; exact fun q => by have := HBX.out; dsimp only at q; omega⟩
            · exact .inl hz
          ))
          generalize hwd : (w2.setCell ⟨B, 0, none⟩ (.slice a2 m2 c2)) = wD at HC ⊢
          clear hwd 
          have HBD : Hid (B < wD.heap.size) := Lib.hid (HC.out.klt (k := B) (o := (.cells #[.slice a2 m2 c2] 26 (0, 0) : Obj)) (by simp))
          obtain ⟨xf0, xf1, xf2, xf3, xf4, xf5⟩ := cells3 (HC.out.kept (X) (.cells #[.int .i64 X0, .int .i64 X1, .int .i64 X2] 28 (0, 0) : Obj) (by simp))
          go_wp2_with fail
          clear xf0 xf1 xf2 xf3 xf4 xf5
          refine (HC.out.rdrop HN.out (HR1.out _ (fun k o q => HC.out.kept k o (by simp [q]))) HN9.out (fs := fs) (gs := gs) (K := X1) HDP.out (m := m2) HM2.out).mono ?_
          rintro e w3 ⟨rs3, a3, c3, rfl, hc, hr, hd, hz⟩
          have HZ3 : Hid (wD.heap.size ≤ w3.heap.size) := Lib.hid hz
          have HR3 := Lib.hid hr
          have HD3 := Lib.hid hd
          replace HC := Lib.hid hc
          clear hc hr hd hz
          have HDX3 : Hid (∀ k oo, (k, oo) ∈ rs3 → k ≠ B) := Lib.hid (fun k oo q e => by have := HD3.out k oo q; have := HBD.out; omega)
          go_upto_region 18 with fail
          obtain ⟨cf0, cf1⟩ := cell1 (HC.out.kept (B) (.cells #[(.slice a2 m2 c2)] 26 (0, 0) : Obj) (by simp))
          obtain ⟨xf0, xf1, xf2, xf3, xf4, xf5⟩ := cells3 (HC.out.kept (X) (.cells #[.int .i64 X0, .int .i64 X1, .int .i64 X2] 28 (0, 0) : Obj) (by simp))
          go_wp2_with fail
          clear cf0 cf1 xf0 xf1 xf2 xf3 xf4 xf5
          refine (HC.out.pget (fs := gs) HM2.out.symm (HR2.out _ (fun k o q => HC.out.kept k o (by simp [q]))) HOKG.out (K := X2) (gp := Q0) (gk := Q1) (gn := Q2) (gb := Q3) (is := was) HGE.out).mono ?_
          rintro e w4 ⟨rfl, hc, hz⟩
          replace HC := Lib.hid hc
          clear hc hz
          go_upto_region 19 with fail
          replace HC := Lib.hid (HC.out.box #[.int .i64 Q0, .int .i64 Q1, .int .u64 Q2, .int .u64 Q3] 33)
          generalize hwd : (w4.alloc (.cells #[.int .i64 Q0, .int .i64 Q1, .int .u64 Q2, .int .u64 Q3] 33 : Obj)) = wF at HC ⊢
          generalize hxG : w4.heap.size = G at HC ⊢
          clear hwd hxG
          obtain ⟨xf0, xf1, xf2, xf3, xf4, xf5⟩ := cells3 (HC.out.kept (X) (.cells #[.int .i64 X0, .int .i64 X1, .int .i64 X2] 28 (0, 0) : Obj) (by simp))
          go_wp2_with fail
          clear xf0 xf1 xf2 xf3 xf4 xf5
          refine (HC.out.rget (fs := gs) HM2.out.symm (HR3.out _ (fun k o q => HC.out.kept k o (by simp [q]))) HM9.out (K := X2) (gp := Q0) (gk := Q1) (gn := Q2) (gb := Q3) (is := was) HGE.out).mono ?_
          rintro e w5 ⟨rfl, hc, hz⟩
          replace HC := Lib.hid hc
          clear hc hz
          go_upto_region 20 with fail
          replace HC := Lib.hid (HC.out.box #[.int .i64 Q0, .int .i64 Q1, .int .u64 Q2, .int .u64 Q3] 40)
          generalize hwd : (w5.alloc (.cells #[.int .i64 Q0, .int .i64 Q1, .int .u64 Q2, .int .u64 Q3] 40 : Obj)) = wG at HC ⊢
          generalize hxHb : w5.heap.size = Hb at HC ⊢
          clear hwd hxHb
          obtain ⟨BS, hM, hB⟩ : ∃ BS, (((B, (.cells #[(.slice a2 m2 c2)] 26 (0, 0) : Obj)) : Nat × Obj) ∈ BS ∧ ((G, (.cells #[.int .i64 Q0, .int .i64 Q1, .int .u64 Q2, .int .u64 Q3] 33 (0, 0) : Obj)) : Nat × Obj) ∈ BS ∧ ((Hb, (.cells #[.int .i64 Q0, .int .i64 Q1, .int .u64 Q2, .int .u64 Q3] 40 (0, 0) : Obj)) : Nat × Obj) ∈ BS ∧ (∀ k o, (k, o) ∈ rs2 → (k, o) ∈ BS) ∧ (∀ k o, (k, o) ∈ rs3 → (k, o) ∈ BS)) ∧ Bx w BS wG := ⟨_, ⟨by simp, by simp, by simp, fun k o q => by simp [q], fun k o q => by simp [q]⟩, HC.out⟩
          have HM := Lib.hid hM
          have HCK := Lib.hid hB
          clear hM hB HC
          refine wp_region_held_drew (S := Bx w BS) (by kernel_rfl) (HCK.out.below (drew_b wG)) (fun hHeld => ?_)
          refine wpAnyH_take (i := 0) (oi := ?o4001) (v := ?v4001) ?i4001 (by kernel_rfl) (by kernel_rfl) (by kernel_rfl) ?q4001 (Or.inl ⟨?w4001, ?y4001⟩) (by assumption) ?r4001
          case' i4001 => simp only [List.getElem?_toArray, List.getElem?_cons_succ, List.getElem?_cons_zero]
          case i4001 => rfl
          case q4001 => exact fun _ _ _ h => h
          case w4001 => kernel_rfl
          case y4001 => (intro W hSw; obtain ⟨z0, z1⟩ := cell1 (hSw.kept _ _ HM.out.1); go_simp) <;> with_reducible rfl
          try simp only [Act.put, List.setIfInBounds_toArray, List.set_cons_zero, List.set_cons_succ]
          refine wpAnyH_take (i := 2) (oi := ?o4002) (v := ?v4002) ?i4002 (by kernel_rfl) (by kernel_rfl) (by kernel_rfl) ?q4002 (Or.inl ⟨?w4002, ?y4002⟩) (by assumption) ?r4002
          case' i4002 => simp only [List.getElem?_toArray, List.getElem?_cons_succ, List.getElem?_cons_zero]
          case i4002 => rfl
          case q4002 => exact fun _ _ _ h => h
          case w4002 => kernel_rfl
          case y4002 => (intro W hSw; go_simp) <;> with_reducible rfl
          try simp only [Act.put, List.setIfInBounds_toArray, List.set_cons_zero, List.set_cons_succ]
          have hzq := HZQ.out
          refine wpAnyH_ready (rs := [1]) (by kernel_rfl) (by simp) ?_
          refine AllReadyH.cons (o := ?o4003) ?i4003 (fun K' hK => ?_) AllReadyH.nil
          case' i4003 => simp only [List.getElem?_toArray, List.getElem?_cons_succ, List.getElem?_cons_zero]
          case i4003 => rfl
          go_simp
          go_at_call 16
          refine (refs_e a2 m2 c2 gs _ HM2.out.symm (HR2.out _ (fun k o q => hHeld.kept k o (HM.out.2.2.2.1 k o q))) HM9.out).mono ?_
          rintro ee V1 ⟨v, rfl, hN, hb⟩
          obtain ⟨a8, c8, rfl, hr⟩ := hN.at
          rw [HM2.out]
          have HR8 := Lib.hid hr
          have hh8 := Lib.hid hb
          clear hr hb hN
          go_wp2_with fail
          refine hK.out _ _ (hHeld.below hh8.out) (fun hHeld => ?_)
          clear hK K'
          try simp only [Act.put, List.setIfInBounds_toArray, List.set_cons_zero, List.set_cons_succ]
          refine wpAnyH_ready (rs := [3]) (by kernel_rfl) (by simp) ?_
          refine AllReadyH.cons (o := ?o4004) ?i4004 (fun K' hK => ?_) AllReadyH.nil
          case' i4004 => simp only [List.getElem?_toArray, List.getElem?_cons_succ, List.getElem?_cons_zero]
          case i4004 => rfl
          go_simp
          go_at_call 15
          refine (rsame_e a8 a3 m2 c8 c3 gs _ HM2.out.symm HR8.out (HR3.out _ (fun k o q => hHeld.kept k o (HM.out.2.2.2.2 k o q)))).mono ?_
          rintro ee V2 ⟨rfl, hb⟩
          have hh9 := Lib.hid hb
          clear hb HR8
          go_wp2_with fail
          refine hK.out _ _ (hHeld.below hh9.out) (fun hHeld => ?_)
          clear hK K'
          try simp only [Act.put, List.setIfInBounds_toArray, List.set_cons_zero, List.set_cons_succ]
          refine wpAnyH_take (i := 4) (oi := ?o4005) (v := ?v4005) ?i4005 (by kernel_rfl) (by kernel_rfl) (by kernel_rfl) ?q4005 (Or.inl ⟨?w4005, ?y4005⟩) (by assumption) ?r4005
          case' i4005 => simp only [List.getElem?_toArray, List.getElem?_cons_succ, List.getElem?_cons_zero]
          case i4005 => rfl
          case q4005 => exact fun _ _ _ h => h
          case w4005 => kernel_rfl
          case y4005 => (intro W hSw; go_simp) <;> with_reducible rfl
          try simp only [Act.put, List.setIfInBounds_toArray, List.set_cons_zero, List.set_cons_succ]
          refine wpAnyH_take (i := 5) (oi := ?o4006) (v := ?v4006) ?i4006 (by kernel_rfl) (by kernel_rfl) (by kernel_rfl) ?q4006 (Or.inl ⟨?w4006, ?y4006⟩) (by assumption) ?r4006
          case' i4006 => simp only [List.getElem?_toArray, List.getElem?_cons_succ, List.getElem?_cons_zero]
          case i4006 => rfl
          case q4006 => exact fun _ _ _ h => h
          case w4006 => kernel_rfl
          case y4006 => (intro W hSw; go_simp) <;> with_reducible rfl
          try simp only [Act.put, List.setIfInBounds_toArray, List.set_cons_zero, List.set_cons_succ]
          refine wpAnyH_take (i := 6) (oi := ?o4007) (v := ?v4007) ?i4007 (by kernel_rfl) (by kernel_rfl) (by kernel_rfl) ?q4007 (Or.inl ⟨?w4007, ?y4007⟩) (by assumption) ?r4007
          case' i4007 => simp only [List.getElem?_toArray, List.getElem?_cons_succ, List.getElem?_cons_zero]
          case i4007 => rfl
          case q4007 => exact fun _ _ _ h => h
          case w4007 => kernel_rfl
          case y4007 => (intro W hSw; obtain ⟨z0, z1, z2, z3, z4, z5, z6, z7⟩ := cells4 (hSw.kept _ _ HM.out.2.1); go_simp) <;> with_reducible rfl
          try simp only [Act.put, List.setIfInBounds_toArray, List.set_cons_zero, List.set_cons_succ]
          refine wpAnyH_take (i := 8) (oi := ?o4008) (v := ?v4008) ?i4008 (by kernel_rfl) (by kernel_rfl) (by kernel_rfl) ?q4008 (Or.inl ⟨?w4008, ?y4008⟩) (by assumption) ?r4008
          case' i4008 => simp only [List.getElem?_toArray, List.getElem?_cons_succ, List.getElem?_cons_zero]
          case i4008 => rfl
          case q4008 => exact fun _ _ _ h => h
          case w4008 => kernel_rfl
          case y4008 => (intro W hSw; obtain ⟨z0, z1, z2, z3, z4, z5, z6, z7⟩ := cells4 (hSw.kept _ _ HM.out.2.2.1); go_simp) <;> with_reducible rfl
          try simp only [Act.put, List.setIfInBounds_toArray, List.set_cons_zero, List.set_cons_succ]
          refine wpAnyH_ready (rs := [7]) (by kernel_rfl) (by simp) ?_
          refine AllReadyH.cons (o := ?o4010) ?i4010 (fun K' hK => ?_) AllReadyH.nil
          case' i4010 => simp only [List.getElem?_toArray, List.getElem?_cons_succ, List.getElem?_cons_zero]
          case i4010 => rfl
          go_simp
          go_at_call 12
          refine (one_e Q0 Q1 Q2 Q3 _).mono ?_
          rintro ee V4009 ⟨rfl, hb⟩
          have hhbo1 := Lib.hid hb
          clear hb
          go_wp2_with fail
          refine hK.out _ _ (hHeld.below hhbo1.out) (fun hHeld => ?_)
          clear hK K'
          try simp only [Act.put, List.setIfInBounds_toArray, List.set_cons_zero, List.set_cons_succ]
          refine wpAnyH_take (i := 9) (oi := ?o4011) (v := ?v4011) ?i4011 (by kernel_rfl) (by kernel_rfl) (by kernel_rfl) ?q4011 (Or.inl ⟨?w4011, ?y4011⟩) (by assumption) ?r4011
          case' i4011 => simp only [List.getElem?_toArray, List.getElem?_cons_succ, List.getElem?_cons_zero]
          case i4011 => rfl
          case q4011 => exact fun _ _ _ h => h
          case w4011 => kernel_rfl
          case y4011 => (intro W hSw; go_simp) <;> with_reducible rfl
          try simp only [Act.put, List.setIfInBounds_toArray, List.set_cons_zero, List.set_cons_succ]
          refine wpAnyH_take (i := 10) (oi := ?o4012) (v := ?v4012) ?i4012 (by kernel_rfl) (by kernel_rfl) (by kernel_rfl) ?q4012 (Or.inl ⟨?w4012, ?y4012⟩) (by assumption) ?r4012
          case' i4012 => simp only [List.getElem?_toArray, List.getElem?_cons_succ, List.getElem?_cons_zero]
          case i4012 => rfl
          case q4012 => exact fun _ _ _ h => h
          case w4012 => kernel_rfl
          case y4012 => (intro W hSw; go_simp) <;> with_reducible rfl
          try simp only [Act.put, List.setIfInBounds_toArray, List.set_cons_zero, List.set_cons_succ]
          refine wpAnyH_take (i := 11) (oi := ?o4013) (v := ?v4013) ?i4013 (by kernel_rfl) (by kernel_rfl) (by kernel_rfl) ?q4013 (Or.inl ⟨?w4013, ?y4013⟩) (by assumption) ?r4013
          case' i4013 => simp only [List.getElem?_toArray, List.getElem?_cons_succ, List.getElem?_cons_zero]
          case i4013 => rfl
          case q4013 => exact fun _ _ _ h => h
          case w4013 => kernel_rfl
          case y4013 => (intro W hSw; go_simp) <;> with_reducible rfl
          try simp only [Act.put, List.setIfInBounds_toArray, List.set_cons_zero, List.set_cons_succ]
          refine wpAnyH_take (i := 12) (oi := ?o4014) (v := ?v4014) ?i4014 (by kernel_rfl) (by kernel_rfl) (by kernel_rfl) ?q4014 (Or.inl ⟨?w4014, ?y4014⟩) (by assumption) ?r4014
          case' i4014 => simp only [List.getElem?_toArray, List.getElem?_cons_succ, List.getElem?_cons_zero]
          case i4014 => rfl
          case q4014 => exact fun _ _ _ h => h
          case w4014 => kernel_rfl
          case y4014 => (intro W hSw; go_simp) <;> with_reducible rfl
          try simp only [Act.put, List.setIfInBounds_toArray, List.set_cons_zero, List.set_cons_succ]
          refine wpAnyH_take (i := 13) (oi := ?o4015) (v := ?v4015) ?i4015 (by kernel_rfl) (by kernel_rfl) (by kernel_rfl) ?q4015 (Or.inl ⟨?w4015, ?y4015⟩) (by assumption) ?r4015
          case' i4015 => simp only [List.getElem?_toArray, List.getElem?_cons_succ, List.getElem?_cons_zero]
          case i4015 => rfl
          case q4015 => exact fun _ _ _ h => h
          case w4015 => kernel_rfl
          case y4015 => (intro W hSw; go_simp) <;> with_reducible rfl
          try simp only [Act.put, List.setIfInBounds_toArray, List.set_cons_zero, List.set_cons_succ]
          refine wpAnyH_take (i := 14) (oi := ?o4016) (v := ?v4016) ?i4016 (by kernel_rfl) (by kernel_rfl) (by kernel_rfl) ?q4016 (Or.inl ⟨?w4016, ?y4016⟩) (by assumption) ?r4016
          case' i4016 => simp only [List.getElem?_toArray, List.getElem?_cons_succ, List.getElem?_cons_zero]
          case i4016 => rfl
          case q4016 => exact fun _ _ _ h => h
          case w4016 => kernel_rfl
          case y4016 => (intro W hSw; go_simp) <;> with_reducible rfl
          try simp only [Act.put, List.setIfInBounds_toArray, List.set_cons_zero, List.set_cons_succ]
          refine wpAnyH_take (i := 15) (oi := ?o4017) (v := ?v4017) ?i4017 (by kernel_rfl) (by kernel_rfl) (by kernel_rfl) ?q4017 (Or.inl ⟨?w4017, ?y4017⟩) (by assumption) ?r4017
          case' i4017 => simp only [List.getElem?_toArray, List.getElem?_cons_succ, List.getElem?_cons_zero]
          case i4017 => rfl
          case q4017 => exact fun _ _ _ h => h
          case w4017 => kernel_rfl
          case y4017 => (intro W hSw; go_simp) <;> with_reducible rfl
          try simp only [Act.put, List.setIfInBounds_toArray, List.set_cons_zero, List.set_cons_succ]
          refine wpAnyH_take (i := 16) (oi := ?o4018) (v := ?v4018) ?i4018 (by kernel_rfl) (by kernel_rfl) (by kernel_rfl) ?q4018 (Or.inl ⟨?w4018, ?y4018⟩) (by assumption) ?r4018
          case' i4018 => simp only [List.getElem?_toArray, List.getElem?_cons_succ, List.getElem?_cons_zero]
          case i4018 => rfl
          case q4018 => exact fun _ _ _ h => h
          case w4018 => kernel_rfl
          case y4018 => (intro W hSw; go_simp) <;> with_reducible rfl
          try simp only [Act.put, List.setIfInBounds_toArray, List.set_cons_zero, List.set_cons_succ]
          refine wpAnyH_take (i := 17) (oi := ?o4019) (v := ?v4019) ?i4019 (by kernel_rfl) (by kernel_rfl) (by kernel_rfl) ?q4019 (Or.inl ⟨?w4019, ?y4019⟩) (by assumption) ?r4019
          case' i4019 => simp only [List.getElem?_toArray, List.getElem?_cons_succ, List.getElem?_cons_zero]
          case i4019 => rfl
          case q4019 => exact fun _ _ _ h => h
          case w4019 => kernel_rfl
          case y4019 => (intro W hSw; obtain ⟨z0, z1⟩ := cell1 (hSw.kept _ _ HM.out.1); go_simp) <;> with_reducible rfl
          try simp only [Act.put, List.setIfInBounds_toArray, List.set_cons_zero, List.set_cons_succ]
          refine wpAnyH_take (i := 19) (oi := ?o4020) (v := ?v4020) ?i4020 (by kernel_rfl) (by kernel_rfl) (by kernel_rfl) ?q4020 (Or.inl ⟨?w4020, ?y4020⟩) (by assumption) ?r4020
          case' i4020 => simp only [List.getElem?_toArray, List.getElem?_cons_succ, List.getElem?_cons_zero]
          case i4020 => rfl
          case q4020 => exact fun _ _ _ h => h
          case w4020 => kernel_rfl
          case y4020 => (intro W hSw; go_simp) <;> with_reducible rfl
          try simp only [Act.put, List.setIfInBounds_toArray, List.set_cons_zero, List.set_cons_succ]
          refine wpAnyH_ready (rs := [18]) (by kernel_rfl) (by simp) ?_
          refine AllReadyH.cons (o := ?o4022) ?i4022 (fun K' hK => ?_) AllReadyH.nil
          case' i4022 => simp only [List.getElem?_toArray, List.getElem?_cons_succ, List.getElem?_cons_zero]
          case i4022 => rfl
          go_simp
          go_at_call 18
          refine (keys_s HM2.out.symm (HR2.out _ (fun k o q => hHeld.kept k o (HM.out.2.2.2.1 k o q))) HOKG.out (fs := gs)).mono ?_
          rintro ee V4021 ⟨aK1, cK1, rfl, hr, hb⟩
          have hhbK1 := Lib.hid hb
          have HK1 := Lib.hid hr
          clear hr
          clear hb
          go_wp2_with fail
          refine hK.out _ _ (hHeld.below hhbK1.out) (fun hHeld => ?_)
          clear hK K'
          try simp only [Act.put, List.setIfInBounds_toArray, List.set_cons_zero, List.set_cons_succ]
          refine wpAnyH_ready (rs := [20]) (by kernel_rfl) (by simp) ?_
          refine AllReadyH.cons (o := ?o4023) ?i4023 (fun K' hK => ?_) AllReadyH.nil
          case' i4023 => simp only [List.getElem?_toArray, List.getElem?_cons_succ, List.getElem?_cons_zero]
          case i4023 => rfl
          go_simp
          go_at_call 19
          refine (rkeys_e a3 m2 c3 gs _ HM2.out.symm (HR3.out _ (fun k o q => hHeld.kept k o (HM.out.2.2.2.2 k o q))) HM9.out).mono ?_
          rintro ee V5 ⟨v, rfl, hN, hb⟩
          obtain ⟨a9, c9, rfl, hr⟩ := hN.at
          rw [HKL.out]
          have HK2 := Lib.hid hr
          have hhk := Lib.hid hb
          clear hr hb hN
          go_wp2_with fail
          refine hK.out _ _ (hHeld.below hhk.out) (fun hHeld => ?_)
          clear hK K'
          try simp only [Act.put, List.setIfInBounds_toArray, List.set_cons_zero, List.set_cons_succ]
          refine wpAnyH_ready (rs := [21]) (by kernel_rfl) (by simp) ?_
          refine AllReadyH.cons (o := ?o4024) ?i4024 (fun K' hK => ?_) AllReadyH.nil
          case' i4024 => simp only [List.getElem?_toArray, List.getElem?_cons_succ, List.getElem?_cons_zero]
          case i4024 => rfl
          go_simp
          go_at_call 17
          refine (same_i (ks := keysE gs) (ms := keysE gs) HKL.out.symm HKL.out.symm (HK1.out.below hhk.out) HK2.out (r := true) (by simp)).mono ?_
          rintro ee V6 ⟨rfl, hb⟩
          have hhc := Lib.hid hb
          clear hb
          go_wp2_with fail
          refine hK.out _ _ (hHeld.below hhc.out) (fun hHeld => ?_)
          clear hK K'
          try simp only [Act.put, List.setIfInBounds_toArray, List.set_cons_zero, List.set_cons_succ]
          clear HK1 HK2
          refine wpAnyH_take (i := 22) (oi := ?o4025) (v := ?v4025) ?i4025 (by kernel_rfl) (by kernel_rfl) (by kernel_rfl) ?q4025 (Or.inl ⟨?w4025, ?y4025⟩) (by assumption) ?r4025
          case' i4025 => simp only [List.getElem?_toArray, List.getElem?_cons_succ, List.getElem?_cons_zero]
          case i4025 => rfl
          case q4025 => exact fun _ _ _ h => h
          case w4025 => kernel_rfl
          case y4025 => (intro W hSw; go_simp) <;> with_reducible rfl
          try simp only [Act.put, List.setIfInBounds_toArray, List.set_cons_zero, List.set_cons_succ]
          refine wpAnyH_take (i := 23) (oi := ?o4026) (v := ?v4026) ?i4026 (by kernel_rfl) (by kernel_rfl) (by kernel_rfl) ?q4026 (Or.inl ⟨?w4026, ?y4026⟩) (by assumption) ?r4026
          case' i4026 => simp only [List.getElem?_toArray, List.getElem?_cons_succ, List.getElem?_cons_zero]
          case i4026 => rfl
          case q4026 => exact fun _ _ _ h => h
          case w4026 => kernel_rfl
          case y4026 => (intro W hSw; go_simp) <;> with_reducible rfl
          try simp only [Act.put, List.setIfInBounds_toArray, List.set_cons_zero, List.set_cons_succ]
          refine wpAnyH_done (by kernel_rfl) ?_ _
          have HC : Hid (Bx w (rs2 ++ (rs3 ++ ([(B, (.cells #[(.slice a2 m2 c2)] 26 (0, 0) : Obj))]))) V6) := Lib.hid (hHeld.less (fun z hz => by
            obtain ⟨zk, zo⟩ := z
            rcases List.mem_append.1 hz with hz1 | hz
            · exact HM.out.2.2.2.1 zk zo hz1
            rcases List.mem_append.1 hz with hz1 | hz
            · exact HM.out.2.2.2.2 zk zo hz1
            simp only [List.mem_cons, List.not_mem_nil, or_false] at hz
            · rw [hz]; exact HM.out.1
          ))
          clear hHeld HCK HM
          clear hzq
          go_wp2_with fail
          go_roundg (gk - 1)
          case rel => exact ⟨i + 1, gs, a2, m2, c2, rs2, a3, c3, rs3, by have := HI9.out; omega, by go_num, rfl, Lib.hid HM2.out.symm, HOKG, HC, HDX2, HDX3, HR2, HR3⟩
          case measure => have := HI9.out; omega
        · have hq : (Q == 0) = false := by simpa using hq0
          obtain ⟨gs, ⟨G0, G1, G2, G3⟩, is, hgs⟩ : ∃ gs g is, putE fs ⟨X1, X2, 0, 0⟩ = (gs, g, is) := ⟨_, _, _, rfl⟩
          have HPE := Lib.hid hgs
          have HOKG : Hid (OkE gs) := Lib.hid (by have := HOK.out.put ⟨X1, X2, 0, 0⟩; rw [hgs] at this; exact this)
          have HZG : Hid (∀ u, (binOp .neq 40 (.agg #[.int .i64 G0, .int .i64 G1, .int .u64 G2, .int .u64 G3]) (.agg #[.int .i64 G0, .int .i64 G1, .int .u64 G2, .int .u64 G3])).run Try.prog u = .ok (.bool false) u) := Lib.hid (fun u => by have := neqQ ⟨G0, G1, G2, G3⟩ ⟨G0, G1, G2, G3⟩ u; rw [eqE_self] at this; exact this)
          obtain ⟨m2, hm2⟩ : ∃ m2, gs.length = m2 := ⟨_, rfl⟩
          have HM2 := Lib.hid hm2
          have HM9 : Hid (m2 ≤ 1000) := Lib.hid (by have := HOKG.out.2; omega)
          have HKL : Hid ((keysE gs).length = m2) := Lib.hid (by unfold keysE; rw [List.length_map, hm2])
          obtain ⟨⟨Q0, Q1, Q2, Q3⟩, was, hge⟩ : ∃ g was, getE gs X2 = (g, was) := ⟨_, _, rfl⟩
          have HGE := Lib.hid hge
          have HZQ : Hid (∀ u, (binOp .neq 40 (.agg #[.int .i64 Q0, .int .i64 Q1, .int .u64 Q2, .int .u64 Q3]) (.agg #[.int .i64 Q0, .int .i64 Q1, .int .u64 Q2, .int .u64 Q3])).run Try.prog u = .ok (.bool false) u) := Lib.hid (fun u => by have := neqQ ⟨Q0, Q1, Q2, Q3⟩ ⟨Q0, Q1, Q2, Q3⟩ u; rw [eqE_self] at this; exact this)
          have HBC : Hid (B < wC.heap.size) := Lib.hid (HC.out.klt (k := B) (o := (.cells #[.slice a n cap] 26 (0, 0) : Obj)) (by simp))
          clear hgs hm2 hge hq0
          obtain ⟨cf0, cf1⟩ := cell1 (HC.out.kept (B) (.cells #[.slice a n cap] 26 (0, 0) : Obj) (by simp))
          obtain ⟨ef0, ef1, ef2, ef3, ef4, ef5, ef6, ef7⟩ := cells4 (HC.out.kept (E) (.cells #[.int .i64 X1, .int .i64 X2, .int .u64 0, .int .u64 0] 33 (0, 0) : Obj) (by simp))
          obtain ⟨xf0, xf1, xf2, xf3, xf4, xf5⟩ := cells3 (HC.out.kept (X) (.cells #[.int .i64 X0, .int .i64 X1, .int .i64 X2] 28 (0, 0) : Obj) (by simp))
          go_wp2_with fail
          clear cf0 cf1 ef0 ef1 ef2 ef3 ef4 ef5 ef6 ef7 xf0 xf1 xf2 xf3 xf4 xf5
          refine (HC.out.pput HN.out (HR0.out _ (fun k o q => HC.out.kept k o (by simp [q]))) HOK.out (fs := fs) (gs := gs) (ep := X1) (key := X2) (nx := 0) (bt := 0) (gp := G0) (gk := G1) (gn := G2) (gb := G3) (is := is) HPE.out (m := m2) HM2.out).mono ?_
          rintro e w2 ⟨rs2, a2, c2, rfl, hc, hr, hd, hz⟩
          have HZ2 : Hid (wC.heap.size ≤ w2.heap.size) := Lib.hid hz
          have HR2 := Lib.hid hr
          have HD2 := Lib.hid hd
          replace HC := Lib.hid hc
          clear hc hr hd hz
          have HDX2 : Hid (∀ k oo, (k, oo) ∈ rs2 → k ≠ B) := Lib.hid (fun k oo q e => by have := HD2.out k oo q; have := HBC.out; omega)
          go_upto_region 13 with fail
          replace HC := Lib.hid (HC.out.box #[.slice a2 m2 c2] 26)
          replace HC := Lib.hid (HC.out.box #[.int .i64 G0, .int .i64 G1, .int .u64 G2, .int .u64 G3] 33)
          rw [World.size_alloc] at HC
          have HBDd : Hid (B < w2.heap.size) := Lib.hid (Nat.lt_of_lt_of_le HBC.out HZ2.out)
          generalize hwd : ((w2.alloc (.cells #[.slice a2 m2 c2] 26 : Obj)).alloc (.cells #[.int .i64 G0, .int .i64 G1, .int .u64 G2, .int .u64 G3] 33 : Obj)) = wD at HC ⊢
          generalize hxAb : w2.heap.size + 1 = Ab at HC HBDd ⊢
          generalize hxDb : w2.heap.size = Db at HC HBDd ⊢
          clear hwd hxAb hxDb
          obtain ⟨ef0, ef1, ef2, ef3, ef4, ef5, ef6, ef7⟩ := cells4 (HC.out.kept (E) (.cells #[.int .i64 X1, .int .i64 X2, .int .u64 0, .int .u64 0] 33 (0, 0) : Obj) (by simp))
          go_wp2_with fail
          clear ef0 ef1 ef2 ef3 ef4 ef5 ef6 ef7
          refine (one_e X1 X2 0 0 _).mono ?_
          rintro e w3 ⟨rfl, hb⟩
          replace HC := Lib.hid (HC.out.below hb)
          clear hb
          have HBD : Hid (B < w3.heap.size) := Lib.hid (HC.out.klt (k := B) (o := (.cells #[.slice a n cap] 26 (0, 0) : Obj)) (by simp))
          go_wp2_with fail
          refine (HC.out.rput HN.out (HR1.out _ (fun k o q => HC.out.kept k o (by simp [q]))) HN9.out (fs := fs) (gs := gs) (ep := X1) (key := X2) (nx := 0) (bt := 0) (gp := G0) (gk := G1) (gn := G2) (gb := G3) (is := is) HPE.out (m := m2) HM2.out).mono ?_
          rintro e w4 ⟨rs3, a3, c3, rfl, hc, hr, hd, hz⟩
          have HZ3 : Hid (w3.heap.size ≤ w4.heap.size) := Lib.hid hz
          have HR3 := Lib.hid hr
          have HD3 := Lib.hid hd
          replace HC := Lib.hid hc
          clear hc hr hd hz
          have HDX3 : Hid (∀ k oo, (k, oo) ∈ rs3 → k ≠ B) := Lib.hid (fun k oo q e => by have := HD3.out k oo q; have := HBD.out; omega)
          go_upto_region 14 with fail
          replace HC := Lib.hid (HC.out.box #[.int .i64 G0, .int .i64 G1, .int .u64 G2, .int .u64 G3] 40)
          generalize hwd : (w4.alloc (.cells #[.int .i64 G0, .int .i64 G1, .int .u64 G2, .int .u64 G3] 40 : Obj)) = wE at HC ⊢
          generalize hxBb : w4.heap.size = Bb at HC ⊢
          clear hwd hxBb
          obtain ⟨BS, hM, hB⟩ : ∃ BS, (((Ab, (.cells #[.int .i64 G0, .int .i64 G1, .int .u64 G2, .int .u64 G3] 33 (0, 0) : Obj)) : Nat × Obj) ∈ BS ∧ ((Bb, (.cells #[.int .i64 G0, .int .i64 G1, .int .u64 G2, .int .u64 G3] 40 (0, 0) : Obj)) : Nat × Obj) ∈ BS ∧ ((Db, (.cells #[.slice a2 m2 c2] 26 (0, 0) : Obj)) : Nat × Obj) ∈ BS ∧ ((B, (.cells #[.slice a n cap] 26 (0, 0) : Obj)) : Nat × Obj) ∈ BS ∧ ((X, (.cells #[.int .i64 X0, .int .i64 X1, .int .i64 X2] 28 (0, 0) : Obj)) : Nat × Obj) ∈ BS ∧ (∀ k o, (k, o) ∈ rs2 → (k, o) ∈ BS) ∧ (∀ k o, (k, o) ∈ rs3 → (k, o) ∈ BS)) ∧ Bx w BS wE := ⟨_, ⟨by simp, by simp, by simp, by simp, by simp, fun k o q => by simp [q], fun k o q => by simp [q]⟩, HC.out⟩
          have HM := Lib.hid hM
          have HCK := Lib.hid hB
          clear hM hB HC
          refine wp_region_held_drew (S := Bx w BS) (by kernel_rfl) (HCK.out.below (drew_b wE)) (fun hHeld => ?_)
          have hzg := HZG.out
          refine wpAnyH_take (i := 0) (oi := ?o5001) (v := ?v5001) ?i5001 (by kernel_rfl) (by kernel_rfl) (by kernel_rfl) ?q5001 (Or.inl ⟨?w5001, ?y5001⟩) (by assumption) ?r5001
          case' i5001 => simp only [List.getElem?_toArray, List.getElem?_cons_succ, List.getElem?_cons_zero]
          case i5001 => rfl
          case q5001 => exact fun _ _ _ h => h
          case w5001 => kernel_rfl
          case y5001 => (intro W hSw; obtain ⟨z0, z1, z2, z3, z4, z5, z6, z7⟩ := cells4 (hSw.kept _ _ HM.out.1); go_simp) <;> with_reducible rfl
          try simp only [Act.put, List.setIfInBounds_toArray, List.set_cons_zero, List.set_cons_succ]
          refine wpAnyH_take (i := 2) (oi := ?o5002) (v := ?v5002) ?i5002 (by kernel_rfl) (by kernel_rfl) (by kernel_rfl) ?q5002 (Or.inl ⟨?w5002, ?y5002⟩) (by assumption) ?r5002
          case' i5002 => simp only [List.getElem?_toArray, List.getElem?_cons_succ, List.getElem?_cons_zero]
          case i5002 => rfl
          case q5002 => exact fun _ _ _ h => h
          case w5002 => kernel_rfl
          case y5002 => (intro W hSw; obtain ⟨z0, z1, z2, z3, z4, z5, z6, z7⟩ := cells4 (hSw.kept _ _ HM.out.2.1); go_simp) <;> with_reducible rfl
          try simp only [Act.put, List.setIfInBounds_toArray, List.set_cons_zero, List.set_cons_succ]
          refine wpAnyH_ready (rs := [1]) (by kernel_rfl) (by simp) ?_
          refine AllReadyH.cons (o := ?o5004) ?i5004 (fun K' hK => ?_) AllReadyH.nil
          case' i5004 => simp only [List.getElem?_toArray, List.getElem?_cons_succ, List.getElem?_cons_zero]
          case i5004 => rfl
          go_simp
          go_at_call 12
          refine (one_e G0 G1 G2 G3 _).mono ?_
          rintro ee V5003 ⟨rfl, hb⟩
          have hhbo0 := Lib.hid hb
          clear hb
          go_wp2_with fail
          refine hK.out _ _ (hHeld.below hhbo0.out) (fun hHeld => ?_)
          clear hK K'
          try simp only [Act.put, List.setIfInBounds_toArray, List.set_cons_zero, List.set_cons_succ]
          refine wpAnyH_take (i := 3) (oi := ?o5005) (v := ?v5005) ?i5005 (by kernel_rfl) (by kernel_rfl) (by kernel_rfl) ?q5005 (Or.inl ⟨?w5005, ?y5005⟩) (by assumption) ?r5005
          case' i5005 => simp only [List.getElem?_toArray, List.getElem?_cons_succ, List.getElem?_cons_zero]
          case i5005 => rfl
          case q5005 => exact fun _ _ _ h => h
          case w5005 => kernel_rfl
          case y5005 => (intro W hSw; go_simp) <;> with_reducible rfl
          try simp only [Act.put, List.setIfInBounds_toArray, List.set_cons_zero, List.set_cons_succ]
          refine wpAnyH_take (i := 4) (oi := ?o5006) (v := ?v5006) ?i5006 (by kernel_rfl) (by kernel_rfl) (by kernel_rfl) ?q5006 (Or.inl ⟨?w5006, ?y5006⟩) (by assumption) ?r5006
          case' i5006 => simp only [List.getElem?_toArray, List.getElem?_cons_succ, List.getElem?_cons_zero]
          case i5006 => rfl
          case q5006 => exact fun _ _ _ h => h
          case w5006 => kernel_rfl
          case y5006 => (intro W hSw; go_simp) <;> with_reducible rfl
          try simp only [Act.put, List.setIfInBounds_toArray, List.set_cons_zero, List.set_cons_succ]
          refine wpAnyH_take (i := 5) (oi := ?o5007) (v := ?v5007) ?i5007 (by kernel_rfl) (by kernel_rfl) (by kernel_rfl) ?q5007 (Or.inl ⟨?w5007, ?y5007⟩) (by assumption) ?r5007
          case' i5007 => simp only [List.getElem?_toArray, List.getElem?_cons_succ, List.getElem?_cons_zero]
          case i5007 => rfl
          case q5007 => exact fun _ _ _ h => h
          case w5007 => kernel_rfl
          case y5007 => (intro W hSw; go_simp) <;> with_reducible rfl
          try simp only [Act.put, List.setIfInBounds_toArray, List.set_cons_zero, List.set_cons_succ]
          refine wpAnyH_take (i := 6) (oi := ?o5008) (v := ?v5008) ?i5008 (by kernel_rfl) (by kernel_rfl) (by kernel_rfl) ?q5008 (Or.inl ⟨?w5008, ?y5008⟩) (by assumption) ?r5008
          case' i5008 => simp only [List.getElem?_toArray, List.getElem?_cons_succ, List.getElem?_cons_zero]
          case i5008 => rfl
          case q5008 => exact fun _ _ _ h => h
          case w5008 => kernel_rfl
          case y5008 => (intro W hSw; go_simp) <;> with_reducible rfl
          try simp only [Act.put, List.setIfInBounds_toArray, List.set_cons_zero, List.set_cons_succ]
          refine wpAnyH_take (i := 7) (oi := ?o5009) (v := ?v5009) ?i5009 (by kernel_rfl) (by kernel_rfl) (by kernel_rfl) ?q5009 (Or.inl ⟨?w5009, ?y5009⟩) (by assumption) ?r5009
          case' i5009 => simp only [List.getElem?_toArray, List.getElem?_cons_succ, List.getElem?_cons_zero]
          case i5009 => rfl
          case q5009 => exact fun _ _ _ h => h
          case w5009 => kernel_rfl
          case y5009 => (intro W hSw; go_simp) <;> with_reducible rfl
          try simp only [Act.put, List.setIfInBounds_toArray, List.set_cons_zero, List.set_cons_succ]
          refine wpAnyH_take (i := 8) (oi := ?o5010) (v := ?v5010) ?i5010 (by kernel_rfl) (by kernel_rfl) (by kernel_rfl) ?q5010 (Or.inl ⟨?w5010, ?y5010⟩) (by assumption) ?r5010
          case' i5010 => simp only [List.getElem?_toArray, List.getElem?_cons_succ, List.getElem?_cons_zero]
          case i5010 => rfl
          case q5010 => exact fun _ _ _ h => h
          case w5010 => kernel_rfl
          case y5010 => (intro W hSw; go_simp) <;> with_reducible rfl
          try simp only [Act.put, List.setIfInBounds_toArray, List.set_cons_zero, List.set_cons_succ]
          refine wpAnyH_done (by kernel_rfl) ?_ _
          have HC : Hid (Bx w (rs2 ++ (rs3 ++ ([(Db, (.cells #[.slice a2 m2 c2] 26 (0, 0) : Obj)), (X, (.cells #[.int .i64 X0, .int .i64 X1, .int .i64 X2] 28 (0, 0) : Obj)), (B, (.cells #[.slice a n cap] 26 (0, 0) : Obj))]))) V5003) := Lib.hid (hHeld.less (fun z hz => by
            obtain ⟨zk, zo⟩ := z
            rcases List.mem_append.1 hz with hz1 | hz
            · exact HM.out.2.2.2.2.2.1 zk zo hz1
            rcases List.mem_append.1 hz with hz1 | hz
            · exact HM.out.2.2.2.2.2.2 zk zo hz1
            simp only [List.mem_cons, List.not_mem_nil, or_false] at hz
            rcases hz with hz | hz | hz
            · rw [hz]; exact HM.out.2.2.1
            · rw [hz]; exact HM.out.2.2.2.2.1
            · rw [hz]; exact HM.out.2.2.2.1
          ))
          clear hHeld HCK HM
          clear hzg
          obtain ⟨df0, df1⟩ := cell1 (HC.out.kept (Db) (.cells #[.slice a2 m2 c2] 26 (0, 0) : Obj) (by simp))
          obtain ⟨cf0, cf1⟩ := cell1 (HC.out.kept (B) (.cells #[.slice a n cap] 26 (0, 0) : Obj) (by simp))
          go_upto_region 17 with fail
          clear df0 df1 cf0 cf1
          replace HC : Hid (Bx w (rs2 ++ (rs3 ++ ([(X, (.cells #[.int .i64 X0, .int .i64 X1, .int .i64 X2] 28 (0, 0) : Obj)), (B, (.cells #[(.slice a2 m2 c2)] 26 (0, 0) : Obj))]))) (V5003.setCell ⟨B, 0, none⟩ (.slice a2 m2 c2))) := Lib.hid (HC.out.set1 (B := B) (x := .slice a n cap) (T := 26) (by simp) HB.out (.slice a2 m2 c2) (fun z hz => by
            obtain ⟨zk, zo⟩ := z
            rcases List.mem_append.1 hz with hz1 | hz
            · exact .inr ⟨by simp [hz1], HDX2.out zk zo hz1⟩
            rcases List.mem_append.1 hz with hz1 | hz
            · exact .inr ⟨by simp [hz1], HDX3.out zk zo hz1⟩
            simp only [List.mem_cons, List.not_mem_nil, or_false] at hz
            rcases hz with hz | hz
            · exact .inr ⟨by simp [hz], by rw [hz]; exact fun q => by have := HBX.out; dsimp only at q; omega⟩
            · exact .inl hz
          ))
          generalize hwd : (V5003.setCell ⟨B, 0, none⟩ (.slice a2 m2 c2)) = wF0 at HC ⊢
          clear hwd 
          go_upto_region 18 with fail
          obtain ⟨cf0, cf1⟩ := cell1 (HC.out.kept (B) (.cells #[(.slice a2 m2 c2)] 26 (0, 0) : Obj) (by simp))
          obtain ⟨xf0, xf1, xf2, xf3, xf4, xf5⟩ := cells3 (HC.out.kept (X) (.cells #[.int .i64 X0, .int .i64 X1, .int .i64 X2] 28 (0, 0) : Obj) (by simp))
          go_wp2_with fail
          clear cf0 cf1 xf0 xf1 xf2 xf3 xf4 xf5
          refine (HC.out.pget (fs := gs) HM2.out.symm (HR2.out _ (fun k o q => HC.out.kept k o (by simp [q]))) HOKG.out (K := X2) (gp := Q0) (gk := Q1) (gn := Q2) (gb := Q3) (is := was) HGE.out).mono ?_
          rintro e w5 ⟨rfl, hc, hz⟩
          replace HC := Lib.hid hc
          clear hc hz
          go_upto_region 19 with fail
          replace HC := Lib.hid (HC.out.box #[.int .i64 Q0, .int .i64 Q1, .int .u64 Q2, .int .u64 Q3] 33)
          generalize hwd : (w5.alloc (.cells #[.int .i64 Q0, .int .i64 Q1, .int .u64 Q2, .int .u64 Q3] 33 : Obj)) = wF at HC ⊢
          generalize hxG : w5.heap.size = G at HC ⊢
          clear hwd hxG
          obtain ⟨xf0, xf1, xf2, xf3, xf4, xf5⟩ := cells3 (HC.out.kept (X) (.cells #[.int .i64 X0, .int .i64 X1, .int .i64 X2] 28 (0, 0) : Obj) (by simp))
          go_wp2_with fail
          clear xf0 xf1 xf2 xf3 xf4 xf5
          refine (HC.out.rget (fs := gs) HM2.out.symm (HR3.out _ (fun k o q => HC.out.kept k o (by simp [q]))) HM9.out (K := X2) (gp := Q0) (gk := Q1) (gn := Q2) (gb := Q3) (is := was) HGE.out).mono ?_
          rintro e w6 ⟨rfl, hc, hz⟩
          replace HC := Lib.hid hc
          clear hc hz
          go_upto_region 20 with fail
          replace HC := Lib.hid (HC.out.box #[.int .i64 Q0, .int .i64 Q1, .int .u64 Q2, .int .u64 Q3] 40)
          generalize hwd : (w6.alloc (.cells #[.int .i64 Q0, .int .i64 Q1, .int .u64 Q2, .int .u64 Q3] 40 : Obj)) = wG at HC ⊢
          generalize hxHb : w6.heap.size = Hb at HC ⊢
          clear hwd hxHb
          obtain ⟨BS, hM, hB⟩ : ∃ BS, (((B, (.cells #[(.slice a2 m2 c2)] 26 (0, 0) : Obj)) : Nat × Obj) ∈ BS ∧ ((G, (.cells #[.int .i64 Q0, .int .i64 Q1, .int .u64 Q2, .int .u64 Q3] 33 (0, 0) : Obj)) : Nat × Obj) ∈ BS ∧ ((Hb, (.cells #[.int .i64 Q0, .int .i64 Q1, .int .u64 Q2, .int .u64 Q3] 40 (0, 0) : Obj)) : Nat × Obj) ∈ BS ∧ (∀ k o, (k, o) ∈ rs2 → (k, o) ∈ BS) ∧ (∀ k o, (k, o) ∈ rs3 → (k, o) ∈ BS)) ∧ Bx w BS wG := ⟨_, ⟨by simp, by simp, by simp, fun k o q => by simp [q], fun k o q => by simp [q]⟩, HC.out⟩
          have HM := Lib.hid hM
          have HCK := Lib.hid hB
          clear hM hB HC
          refine wp_region_held_drew (S := Bx w BS) (by kernel_rfl) (HCK.out.below (drew_b wG)) (fun hHeld => ?_)
          refine wpAnyH_take (i := 0) (oi := ?o6001) (v := ?v6001) ?i6001 (by kernel_rfl) (by kernel_rfl) (by kernel_rfl) ?q6001 (Or.inl ⟨?w6001, ?y6001⟩) (by assumption) ?r6001
          case' i6001 => simp only [List.getElem?_toArray, List.getElem?_cons_succ, List.getElem?_cons_zero]
          case i6001 => rfl
          case q6001 => exact fun _ _ _ h => h
          case w6001 => kernel_rfl
          case y6001 => (intro W hSw; obtain ⟨z0, z1⟩ := cell1 (hSw.kept _ _ HM.out.1); go_simp) <;> with_reducible rfl
          try simp only [Act.put, List.setIfInBounds_toArray, List.set_cons_zero, List.set_cons_succ]
          refine wpAnyH_take (i := 2) (oi := ?o6002) (v := ?v6002) ?i6002 (by kernel_rfl) (by kernel_rfl) (by kernel_rfl) ?q6002 (Or.inl ⟨?w6002, ?y6002⟩) (by assumption) ?r6002
          case' i6002 => simp only [List.getElem?_toArray, List.getElem?_cons_succ, List.getElem?_cons_zero]
          case i6002 => rfl
          case q6002 => exact fun _ _ _ h => h
          case w6002 => kernel_rfl
          case y6002 => (intro W hSw; go_simp) <;> with_reducible rfl
          try simp only [Act.put, List.setIfInBounds_toArray, List.set_cons_zero, List.set_cons_succ]
          have hzq := HZQ.out
          refine wpAnyH_ready (rs := [1]) (by kernel_rfl) (by simp) ?_
          refine AllReadyH.cons (o := ?o6003) ?i6003 (fun K' hK => ?_) AllReadyH.nil
          case' i6003 => simp only [List.getElem?_toArray, List.getElem?_cons_succ, List.getElem?_cons_zero]
          case i6003 => rfl
          go_simp
          go_at_call 16
          refine (refs_e a2 m2 c2 gs _ HM2.out.symm (HR2.out _ (fun k o q => hHeld.kept k o (HM.out.2.2.2.1 k o q))) HM9.out).mono ?_
          rintro ee V1 ⟨v, rfl, hN, hb⟩
          obtain ⟨a8, c8, rfl, hr⟩ := hN.at
          rw [HM2.out]
          have HR8 := Lib.hid hr
          have hh8 := Lib.hid hb
          clear hr hb hN
          go_wp2_with fail
          refine hK.out _ _ (hHeld.below hh8.out) (fun hHeld => ?_)
          clear hK K'
          try simp only [Act.put, List.setIfInBounds_toArray, List.set_cons_zero, List.set_cons_succ]
          refine wpAnyH_ready (rs := [3]) (by kernel_rfl) (by simp) ?_
          refine AllReadyH.cons (o := ?o6004) ?i6004 (fun K' hK => ?_) AllReadyH.nil
          case' i6004 => simp only [List.getElem?_toArray, List.getElem?_cons_succ, List.getElem?_cons_zero]
          case i6004 => rfl
          go_simp
          go_at_call 15
          refine (rsame_e a8 a3 m2 c8 c3 gs _ HM2.out.symm HR8.out (HR3.out _ (fun k o q => hHeld.kept k o (HM.out.2.2.2.2 k o q)))).mono ?_
          rintro ee V2 ⟨rfl, hb⟩
          have hh9 := Lib.hid hb
          clear hb HR8
          go_wp2_with fail
          refine hK.out _ _ (hHeld.below hh9.out) (fun hHeld => ?_)
          clear hK K'
          try simp only [Act.put, List.setIfInBounds_toArray, List.set_cons_zero, List.set_cons_succ]
          refine wpAnyH_take (i := 4) (oi := ?o6005) (v := ?v6005) ?i6005 (by kernel_rfl) (by kernel_rfl) (by kernel_rfl) ?q6005 (Or.inl ⟨?w6005, ?y6005⟩) (by assumption) ?r6005
          case' i6005 => simp only [List.getElem?_toArray, List.getElem?_cons_succ, List.getElem?_cons_zero]
          case i6005 => rfl
          case q6005 => exact fun _ _ _ h => h
          case w6005 => kernel_rfl
          case y6005 => (intro W hSw; go_simp) <;> with_reducible rfl
          try simp only [Act.put, List.setIfInBounds_toArray, List.set_cons_zero, List.set_cons_succ]
          refine wpAnyH_take (i := 5) (oi := ?o6006) (v := ?v6006) ?i6006 (by kernel_rfl) (by kernel_rfl) (by kernel_rfl) ?q6006 (Or.inl ⟨?w6006, ?y6006⟩) (by assumption) ?r6006
          case' i6006 => simp only [List.getElem?_toArray, List.getElem?_cons_succ, List.getElem?_cons_zero]
          case i6006 => rfl
          case q6006 => exact fun _ _ _ h => h
          case w6006 => kernel_rfl
          case y6006 => (intro W hSw; go_simp) <;> with_reducible rfl
          try simp only [Act.put, List.setIfInBounds_toArray, List.set_cons_zero, List.set_cons_succ]
          refine wpAnyH_take (i := 6) (oi := ?o6007) (v := ?v6007) ?i6007 (by kernel_rfl) (by kernel_rfl) (by kernel_rfl) ?q6007 (Or.inl ⟨?w6007, ?y6007⟩) (by assumption) ?r6007
          case' i6007 => simp only [List.getElem?_toArray, List.getElem?_cons_succ, List.getElem?_cons_zero]
          case i6007 => rfl
          case q6007 => exact fun _ _ _ h => h
          case w6007 => kernel_rfl
          case y6007 => (intro W hSw; obtain ⟨z0, z1, z2, z3, z4, z5, z6, z7⟩ := cells4 (hSw.kept _ _ HM.out.2.1); go_simp) <;> with_reducible rfl
          try simp only [Act.put, List.setIfInBounds_toArray, List.set_cons_zero, List.set_cons_succ]
          refine wpAnyH_take (i := 8) (oi := ?o6008) (v := ?v6008) ?i6008 (by kernel_rfl) (by kernel_rfl) (by kernel_rfl) ?q6008 (Or.inl ⟨?w6008, ?y6008⟩) (by assumption) ?r6008
          case' i6008 => simp only [List.getElem?_toArray, List.getElem?_cons_succ, List.getElem?_cons_zero]
          case i6008 => rfl
          case q6008 => exact fun _ _ _ h => h
          case w6008 => kernel_rfl
          case y6008 => (intro W hSw; obtain ⟨z0, z1, z2, z3, z4, z5, z6, z7⟩ := cells4 (hSw.kept _ _ HM.out.2.2.1); go_simp) <;> with_reducible rfl
          try simp only [Act.put, List.setIfInBounds_toArray, List.set_cons_zero, List.set_cons_succ]
          refine wpAnyH_ready (rs := [7]) (by kernel_rfl) (by simp) ?_
          refine AllReadyH.cons (o := ?o6010) ?i6010 (fun K' hK => ?_) AllReadyH.nil
          case' i6010 => simp only [List.getElem?_toArray, List.getElem?_cons_succ, List.getElem?_cons_zero]
          case i6010 => rfl
          go_simp
          go_at_call 12
          refine (one_e Q0 Q1 Q2 Q3 _).mono ?_
          rintro ee V6009 ⟨rfl, hb⟩
          have hhbo1 := Lib.hid hb
          clear hb
          go_wp2_with fail
          refine hK.out _ _ (hHeld.below hhbo1.out) (fun hHeld => ?_)
          clear hK K'
          try simp only [Act.put, List.setIfInBounds_toArray, List.set_cons_zero, List.set_cons_succ]
          refine wpAnyH_take (i := 9) (oi := ?o6011) (v := ?v6011) ?i6011 (by kernel_rfl) (by kernel_rfl) (by kernel_rfl) ?q6011 (Or.inl ⟨?w6011, ?y6011⟩) (by assumption) ?r6011
          case' i6011 => simp only [List.getElem?_toArray, List.getElem?_cons_succ, List.getElem?_cons_zero]
          case i6011 => rfl
          case q6011 => exact fun _ _ _ h => h
          case w6011 => kernel_rfl
          case y6011 => (intro W hSw; go_simp) <;> with_reducible rfl
          try simp only [Act.put, List.setIfInBounds_toArray, List.set_cons_zero, List.set_cons_succ]
          refine wpAnyH_take (i := 10) (oi := ?o6012) (v := ?v6012) ?i6012 (by kernel_rfl) (by kernel_rfl) (by kernel_rfl) ?q6012 (Or.inl ⟨?w6012, ?y6012⟩) (by assumption) ?r6012
          case' i6012 => simp only [List.getElem?_toArray, List.getElem?_cons_succ, List.getElem?_cons_zero]
          case i6012 => rfl
          case q6012 => exact fun _ _ _ h => h
          case w6012 => kernel_rfl
          case y6012 => (intro W hSw; go_simp) <;> with_reducible rfl
          try simp only [Act.put, List.setIfInBounds_toArray, List.set_cons_zero, List.set_cons_succ]
          refine wpAnyH_take (i := 11) (oi := ?o6013) (v := ?v6013) ?i6013 (by kernel_rfl) (by kernel_rfl) (by kernel_rfl) ?q6013 (Or.inl ⟨?w6013, ?y6013⟩) (by assumption) ?r6013
          case' i6013 => simp only [List.getElem?_toArray, List.getElem?_cons_succ, List.getElem?_cons_zero]
          case i6013 => rfl
          case q6013 => exact fun _ _ _ h => h
          case w6013 => kernel_rfl
          case y6013 => (intro W hSw; go_simp) <;> with_reducible rfl
          try simp only [Act.put, List.setIfInBounds_toArray, List.set_cons_zero, List.set_cons_succ]
          refine wpAnyH_take (i := 12) (oi := ?o6014) (v := ?v6014) ?i6014 (by kernel_rfl) (by kernel_rfl) (by kernel_rfl) ?q6014 (Or.inl ⟨?w6014, ?y6014⟩) (by assumption) ?r6014
          case' i6014 => simp only [List.getElem?_toArray, List.getElem?_cons_succ, List.getElem?_cons_zero]
          case i6014 => rfl
          case q6014 => exact fun _ _ _ h => h
          case w6014 => kernel_rfl
          case y6014 => (intro W hSw; go_simp) <;> with_reducible rfl
          try simp only [Act.put, List.setIfInBounds_toArray, List.set_cons_zero, List.set_cons_succ]
          refine wpAnyH_take (i := 13) (oi := ?o6015) (v := ?v6015) ?i6015 (by kernel_rfl) (by kernel_rfl) (by kernel_rfl) ?q6015 (Or.inl ⟨?w6015, ?y6015⟩) (by assumption) ?r6015
          case' i6015 => simp only [List.getElem?_toArray, List.getElem?_cons_succ, List.getElem?_cons_zero]
          case i6015 => rfl
          case q6015 => exact fun _ _ _ h => h
          case w6015 => kernel_rfl
          case y6015 => (intro W hSw; go_simp) <;> with_reducible rfl
          try simp only [Act.put, List.setIfInBounds_toArray, List.set_cons_zero, List.set_cons_succ]
          refine wpAnyH_take (i := 14) (oi := ?o6016) (v := ?v6016) ?i6016 (by kernel_rfl) (by kernel_rfl) (by kernel_rfl) ?q6016 (Or.inl ⟨?w6016, ?y6016⟩) (by assumption) ?r6016
          case' i6016 => simp only [List.getElem?_toArray, List.getElem?_cons_succ, List.getElem?_cons_zero]
          case i6016 => rfl
          case q6016 => exact fun _ _ _ h => h
          case w6016 => kernel_rfl
          case y6016 => (intro W hSw; go_simp) <;> with_reducible rfl
          try simp only [Act.put, List.setIfInBounds_toArray, List.set_cons_zero, List.set_cons_succ]
          refine wpAnyH_take (i := 15) (oi := ?o6017) (v := ?v6017) ?i6017 (by kernel_rfl) (by kernel_rfl) (by kernel_rfl) ?q6017 (Or.inl ⟨?w6017, ?y6017⟩) (by assumption) ?r6017
          case' i6017 => simp only [List.getElem?_toArray, List.getElem?_cons_succ, List.getElem?_cons_zero]
          case i6017 => rfl
          case q6017 => exact fun _ _ _ h => h
          case w6017 => kernel_rfl
          case y6017 => (intro W hSw; go_simp) <;> with_reducible rfl
          try simp only [Act.put, List.setIfInBounds_toArray, List.set_cons_zero, List.set_cons_succ]
          refine wpAnyH_take (i := 16) (oi := ?o6018) (v := ?v6018) ?i6018 (by kernel_rfl) (by kernel_rfl) (by kernel_rfl) ?q6018 (Or.inl ⟨?w6018, ?y6018⟩) (by assumption) ?r6018
          case' i6018 => simp only [List.getElem?_toArray, List.getElem?_cons_succ, List.getElem?_cons_zero]
          case i6018 => rfl
          case q6018 => exact fun _ _ _ h => h
          case w6018 => kernel_rfl
          case y6018 => (intro W hSw; go_simp) <;> with_reducible rfl
          try simp only [Act.put, List.setIfInBounds_toArray, List.set_cons_zero, List.set_cons_succ]
          refine wpAnyH_take (i := 17) (oi := ?o6019) (v := ?v6019) ?i6019 (by kernel_rfl) (by kernel_rfl) (by kernel_rfl) ?q6019 (Or.inl ⟨?w6019, ?y6019⟩) (by assumption) ?r6019
          case' i6019 => simp only [List.getElem?_toArray, List.getElem?_cons_succ, List.getElem?_cons_zero]
          case i6019 => rfl
          case q6019 => exact fun _ _ _ h => h
          case w6019 => kernel_rfl
          case y6019 => (intro W hSw; obtain ⟨z0, z1⟩ := cell1 (hSw.kept _ _ HM.out.1); go_simp) <;> with_reducible rfl
          try simp only [Act.put, List.setIfInBounds_toArray, List.set_cons_zero, List.set_cons_succ]
          refine wpAnyH_take (i := 19) (oi := ?o6020) (v := ?v6020) ?i6020 (by kernel_rfl) (by kernel_rfl) (by kernel_rfl) ?q6020 (Or.inl ⟨?w6020, ?y6020⟩) (by assumption) ?r6020
          case' i6020 => simp only [List.getElem?_toArray, List.getElem?_cons_succ, List.getElem?_cons_zero]
          case i6020 => rfl
          case q6020 => exact fun _ _ _ h => h
          case w6020 => kernel_rfl
          case y6020 => (intro W hSw; go_simp) <;> with_reducible rfl
          try simp only [Act.put, List.setIfInBounds_toArray, List.set_cons_zero, List.set_cons_succ]
          refine wpAnyH_ready (rs := [18]) (by kernel_rfl) (by simp) ?_
          refine AllReadyH.cons (o := ?o6022) ?i6022 (fun K' hK => ?_) AllReadyH.nil
          case' i6022 => simp only [List.getElem?_toArray, List.getElem?_cons_succ, List.getElem?_cons_zero]
          case i6022 => rfl
          go_simp
          go_at_call 18
          refine (keys_s HM2.out.symm (HR2.out _ (fun k o q => hHeld.kept k o (HM.out.2.2.2.1 k o q))) HOKG.out (fs := gs)).mono ?_
          rintro ee V6021 ⟨aK1, cK1, rfl, hr, hb⟩
          have hhbK1 := Lib.hid hb
          have HK1 := Lib.hid hr
          clear hr
          clear hb
          go_wp2_with fail
          refine hK.out _ _ (hHeld.below hhbK1.out) (fun hHeld => ?_)
          clear hK K'
          try simp only [Act.put, List.setIfInBounds_toArray, List.set_cons_zero, List.set_cons_succ]
          refine wpAnyH_ready (rs := [20]) (by kernel_rfl) (by simp) ?_
          refine AllReadyH.cons (o := ?o6023) ?i6023 (fun K' hK => ?_) AllReadyH.nil
          case' i6023 => simp only [List.getElem?_toArray, List.getElem?_cons_succ, List.getElem?_cons_zero]
          case i6023 => rfl
          go_simp
          go_at_call 19
          refine (rkeys_e a3 m2 c3 gs _ HM2.out.symm (HR3.out _ (fun k o q => hHeld.kept k o (HM.out.2.2.2.2 k o q))) HM9.out).mono ?_
          rintro ee V5 ⟨v, rfl, hN, hb⟩
          obtain ⟨a9, c9, rfl, hr⟩ := hN.at
          rw [HKL.out]
          have HK2 := Lib.hid hr
          have hhk := Lib.hid hb
          clear hr hb hN
          go_wp2_with fail
          refine hK.out _ _ (hHeld.below hhk.out) (fun hHeld => ?_)
          clear hK K'
          try simp only [Act.put, List.setIfInBounds_toArray, List.set_cons_zero, List.set_cons_succ]
          refine wpAnyH_ready (rs := [21]) (by kernel_rfl) (by simp) ?_
          refine AllReadyH.cons (o := ?o6024) ?i6024 (fun K' hK => ?_) AllReadyH.nil
          case' i6024 => simp only [List.getElem?_toArray, List.getElem?_cons_succ, List.getElem?_cons_zero]
          case i6024 => rfl
          go_simp
          go_at_call 17
          refine (same_i (ks := keysE gs) (ms := keysE gs) HKL.out.symm HKL.out.symm (HK1.out.below hhk.out) HK2.out (r := true) (by simp)).mono ?_
          rintro ee V6 ⟨rfl, hb⟩
          have hhc := Lib.hid hb
          clear hb
          go_wp2_with fail
          refine hK.out _ _ (hHeld.below hhc.out) (fun hHeld => ?_)
          clear hK K'
          try simp only [Act.put, List.setIfInBounds_toArray, List.set_cons_zero, List.set_cons_succ]
          clear HK1 HK2
          refine wpAnyH_take (i := 22) (oi := ?o6025) (v := ?v6025) ?i6025 (by kernel_rfl) (by kernel_rfl) (by kernel_rfl) ?q6025 (Or.inl ⟨?w6025, ?y6025⟩) (by assumption) ?r6025
          case' i6025 => simp only [List.getElem?_toArray, List.getElem?_cons_succ, List.getElem?_cons_zero]
          case i6025 => rfl
          case q6025 => exact fun _ _ _ h => h
          case w6025 => kernel_rfl
          case y6025 => (intro W hSw; go_simp) <;> with_reducible rfl
          try simp only [Act.put, List.setIfInBounds_toArray, List.set_cons_zero, List.set_cons_succ]
          refine wpAnyH_take (i := 23) (oi := ?o6026) (v := ?v6026) ?i6026 (by kernel_rfl) (by kernel_rfl) (by kernel_rfl) ?q6026 (Or.inl ⟨?w6026, ?y6026⟩) (by assumption) ?r6026
          case' i6026 => simp only [List.getElem?_toArray, List.getElem?_cons_succ, List.getElem?_cons_zero]
          case i6026 => rfl
          case q6026 => exact fun _ _ _ h => h
          case w6026 => kernel_rfl
          case y6026 => (intro W hSw; go_simp) <;> with_reducible rfl
          try simp only [Act.put, List.setIfInBounds_toArray, List.set_cons_zero, List.set_cons_succ]
          refine wpAnyH_done (by kernel_rfl) ?_ _
          have HC : Hid (Bx w (rs2 ++ (rs3 ++ ([(B, (.cells #[(.slice a2 m2 c2)] 26 (0, 0) : Obj))]))) V6) := Lib.hid (hHeld.less (fun z hz => by
            obtain ⟨zk, zo⟩ := z
            rcases List.mem_append.1 hz with hz1 | hz
            · exact HM.out.2.2.2.1 zk zo hz1
            rcases List.mem_append.1 hz with hz1 | hz
            · exact HM.out.2.2.2.2 zk zo hz1
            simp only [List.mem_cons, List.not_mem_nil, or_false] at hz
            · rw [hz]; exact HM.out.1
          ))
          clear hHeld HCK HM
          clear hzq
          go_wp2_with fail
          go_roundg (gk - 1)
          case rel => exact ⟨i + 1, gs, a2, m2, c2, rs2, a3, c3, rs3, by have := HI9.out; omega, by go_num, rfl, Lib.hid HM2.out.symm, HOKG, HC, HDX2, HDX3, HR2, HR3⟩
          case measure => have := HI9.out; omega
    · have him : T = i := by omega
      subst him
      by_cases hl : T < len0
      · have h40 : T = 40 := by have := HT.out; omega
        subst h40
        have i1 : (40 : Int) < (len0 : Int) := by omega
        have i2 : decide (40 < len0) = true := by simpa using hl
        clear hl h4 hi
        go_wp2_with fail
        refine (fixed_any _).mono ?_
        rintro e w9 ⟨rfl, hb⟩
        have HZ := Lib.hid (HC.out.below hb).low
        clear hb
        go_wp2_with fail
        go_ret
        exact ⟨rfl, HZ.out⟩
      · have i1 : decide ((T : Int) < (len0 : Int)) = false := by simp; omega
        have i2 : decide (T < len0) = false := by simpa using hl
        clear hl h4 hi
        go_wp2_with fail
        refine (fixed_any _).mono ?_
        rintro e w9 ⟨rfl, hb⟩
        have HZ := Lib.hid (HC.out.below hb).low
        clear hb
        go_wp2_with fail
        go_ret
        exact ⟨rfl, HZ.out⟩
set_option maxRecDepth 100000 in
theorem lifted (os : Os) (started : os.Started) (H : Type) (enc : TypeId × Value → H) :
    ReturnsInHanded {} Try.checked os 3 .any (Rows.skipDoesSpec.pre6 enc Try.prog Try.f3 Rows.skipDoesRow.domain false) (Rows.skipDoesSpec.post enc Try.prog Try.f3 false true false false) := by
  refine returnsInHanded_of_change (C := Try.checked) own started (by kernel_rfl) Try.func3
    (ChangeSpec.witness6 (enc := enc) (C := Try.checked) false ⟨#[], #[.slice none 0 0, .slice none 0 0], []⟩ 8 (by kernel_rfl) (by kernel_rfl) (by kernel_rfl) (by kernel_rfl)) ?_
  intro W base args ds gs before hval0 hW hcnd _
  have hval : ∀ (j : Nat) t v, Try.f3.params[j]? = some t → args[j]? = some v → Value.okWide Try.prog W .any base t v := hval0
  have hW' := hW
  obtain ⟨p, q, hA0, hV, rfl, hfz, hnd⟩ := hW
  have hA : DataW.TrodAll enc Try.prog W 0 (fun _ => true) true Try.f3.params.toList args.toList ds p := hA0
  rw [Try.params3] at hA hval
  obtain ⟨v0, vs0, d0, ds0, p0, q0, hargs, rfl, rfl, h0, r0⟩ := trodAll_cons hA
  obtain ⟨v1, vs1, d1, ds1, p1, q1, rfl, rfl, rfl, h1, r1⟩ := trodAll_cons r0
  obtain ⟨rfl, rfl, rfl⟩ := trodAll_nil r1
  obtain rfl : args = #[v0, v1] := by cases args; simp_all
  obtain ⟨rfl, rfl⟩ := trodVars_none hV
  obtain ⟨a0, len0, cap0, rfl⟩ := okWide_slice Try.underlying22 (hval 0 22 v0 rfl rfl)
  have k0 := h0
  have lt0 : ∀ x ∈ p0, x.block < W.heap.size := by obtain ⟨m, hm⟩ := k0; exact DataW.trod_lt m _ _ _ hm
  obtain ⟨Z0, w0⟩ : ∃ Z, Arrs .i64 3 W a0 len0 cap0 Z := by
    obtain ⟨fuel, hf⟩ := h0
    exact open_arrs Try.underlying22 Try.underlying28 Try.underlying3 (by kernel_rfl) (by kernel_rfl) (by omega) (by simpa [Value.cells] using hf)
  obtain ⟨a1, len1, cap1, rfl⟩ := okWide_slice Try.underlying23 (hval 1 23 v1 rfl rfl)
  have k1 := h1
  have lt1 : ∀ x ∈ p1, x.block < W.heap.size := by obtain ⟨m, hm⟩ := k1; exact DataW.trod_lt m _ _ _ hm
  obtain ⟨Z1, w1⟩ : ∃ Z, Wins W a1 len1 cap1 Z := by
    obtain ⟨fuel, hf⟩ := h1
    exact open_wins (by simpa [Value.cells] using hf)
  clear hA0 hval0
  refine (walk a0 len0 cap0 Z0 a1 len1 cap1 Z1 W w0 w1).mono fun e W' ⟨he, bel⟩ => ?_
  subst he
  exact ⟨_, rfl, _, _, _, [], _, [], hW', trodAll_mk1 (shut_bool Try.underlying4 _), (trodAll_cons_mk (Below.trod laidOut (by kernel_rfl) (of_decide_eq_true (by kernel_rfl)) k0 bel lt0) (trodAll_cons_mk (Below.trod laidOut (by kernel_rfl) (of_decide_eq_true (by kernel_rfl)) k1 bel lt1) trodAll_mk0)), rfl, bel.frame _, fun h => by cases h⟩

theorem over : Rows.skipDoesRow.holds Try.pinned (OpenSpec.ofChange Rows.skipDoesSpec) :=
  OpenClaim.holds_of_wide 3 Try.f3 rfl rfl rfl rfl rfl rfl rfl ⟨rfl, rfl, rfl, rfl, rfl⟩ rfl rfl rfl rfl rfl (by kernel_rfl) Try.func3 (by kernel_rfl)
    (of_decide_eq_true (by kernel_rfl)) (by unfold Func.isWrapper; first | (rw [if_pos (by decide +kernel)]; kernel_rfl) | (rw [if_neg (by decide +kernel)]; exact ⟨rfl, rfl⟩))
    (fun os started H enc _ => lifted os started H enc)

theorem proved : Rows.SkipDoesSaid := over
#print axioms proved
end Go.Proofs.Ytpbcndbmmphngaa.skipDoes
