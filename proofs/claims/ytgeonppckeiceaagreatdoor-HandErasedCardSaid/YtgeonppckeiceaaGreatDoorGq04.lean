/- What is sealed and opened: contracts of all the program's calls of layer 5, as functions of a store's terms. -/
/- The program's Seal, Open, Text and Read, as functions of a store's terms. -/
/- The document's Seal, Open, Text and Read, as functions of a store's terms. -/
/- What is sealed is named, where there is room, and what opens it. -/
/- Offers in plain words: sets of versions, falling texts, what two offers have. -/
/- Words on memory: blocks that turn, rows of integers, rows that a call owns, sets of 256 cells by value. -/
/- The program's sets: setOf. -/
import Derived.Test.YtgeonppckeiceaaGreatDoorGq03
import Derived.Deep.RegionHeld3
import Derived.Test.YtgeonppckeiceaaGreatDoorProg
import Derived.Lib.Hide
import Derived.Test.YtgeonppckeiceaaGreatDoorRows
import Derived.WalkKit
import Derived.WalkSpells
import Derived.WalkLawsBesides
import Derived.StillTailTactics
import Derived.Deep.QuietTactic
import Derived.BigQuiet
import Derived.Deep.AppendLies
import Derived.Deep.WholeRow
import Derived.Laws.OwnMore
import Derived.OwnWalk
import Derived.OpenShut
namespace Go.Proofs.YtgeonppckeiceaaGreatDoor
open Go.RowKit
set_option linter.unusedVariables false
def sealT (k n b p : Int) : Tm := ⟨10, ⟨#[]⟩, n, k, b, p⟩
def textT (S : ByteArray) : Tm := ⟨1, S, 0, 0, 0, 0⟩
theorem seal_wf {k n b p : Int} (hk : I64 k) (hn : U64 n) (hb : I64 b) (hp : I64 p) : Wf (sealT k n b p) := ⟨wf_emp, k10, hn, hk, hb, hp⟩
theorem text_wf {S : ByteArray} (h : S.size ≤ maxLen) : Wf (textT S) := ⟨h, k1, u0, k0, k0, k0⟩
def wrong (okk okb okx eq : Bool) : Int := if okk && okb then (if okx then (if eq then 0 else 9) else 1) else 1
section
variable {base g : Nat} {most : Int} {Q2 : (Nat → Prop) → List Tm → World → Prop} {L L2 : List Tm} {K : Nat → Prop} {w0 w : World}
set_option maxHeartbeats 400000 in
theorem sealOf_c (k n b p : Int) (w : World) : Calls Tryz.prog 231 #[.int .i64 k, .int .u64 n, .int .i64 b, .int .i64 p] w fun e w' => e = .returned (sealT k n b p).v ∧ Below w.heap.size w w' := by
 go_enter Tryz.func231, Tryz.ntmps231
 go_wp2
 exact bodyPost_ret (v := (sealT k n b p).v) (by simp [results, Tryz.results231, go_sem, sealT, Tm.v]) rfl ⟨rfl, (Below.refl _ _).alloc (Nat.le_refl _) _⟩
set_option maxHeartbeats 400000 in
theorem Pair.isTermP {t : Tm} {ok : Bool} {x : Int} (g2 : Good base Q2) (h : Pair base (PSq base g most) Q2 L L2 K w0 w) (hx : getT L x = (t, ok)) :
  Calls Tryz.prog 240 #[.pointer (some ⟨g, 0, none⟩), .int .i64 x] w (One (.bool ok) (Pair base (PSq base g most) Q2 L L2 K w0) w) := by
 have gP := PSq.good base g most
 obtain ⟨TK, TS, TN, TA, TB, TC⟩ := t
 have H := Lib.hid h
 have HX := Lib.hid hx
 clear h hx
 go_enter Tryz.func240, Tryz.ntmps240
 go_wp2_with fail
 refine (H.out.getP g2 x HX.out).mono ?_
 rintro e w1 ⟨rfl, h1, hb1⟩
 rw [show ((⟨TK, TS, TN, TA, TB, TC⟩, ok) : Tm × Bool).1.v = .agg #[.int .i64 TK, .string TS, .int .u64 TN, .int .i64 TA, .int .i64 TB, .int .i64 TC] from rfl]
 have H1 := Lib.hid (h1.below gP g2 ((Below.refl _ _).alloc (Nat.le_refl _) (.cells #[.int .i64 TK, .string TS, .int .u64 TN, .int .i64 TA, .int .i64 TB, .int .i64 TC] 116)))
 have HB1 := Lib.hid (hb1.alloc hb1.size (.cells #[.int .i64 TK, .string TS, .int .u64 TN, .int .i64 TA, .int .i64 TB, .int .i64 TC] 116))
 clear h1 hb1 H
 go_wp2
 go_ret
 exact ⟨rfl, H1.out, HB1.out⟩
set_option maxHeartbeats 400000 in
theorem Pair.plainOfP {K' : Int} {S' : ByteArray} {N' A' B' C' : Int} {ok : Bool} {x : Int} (g2 : Good base Q2) (h : Pair base (PSq base g most) Q2 L L2 K w0 w) (hx : getT L x = (⟨K', S', N', A', B', C'⟩, ok)) :
  Calls Tryz.prog 233 #[.pointer (some ⟨g, 0, none⟩), .int .i64 x] w (One (.int .i64 C') (Pair base (PSq base g most) Q2 L L2 K w0) w) := by
 have gP := PSq.good base g most
 have H := Lib.hid h
 have HX := Lib.hid hx
 clear h hx
 go_enter Tryz.func233, Tryz.ntmps233
 go_wp2_with fail
 refine (H.out.getP g2 x HX.out).mono ?_
 rintro e w1 ⟨rfl, h1, hb1⟩
 rw [show ((⟨K', S', N', A', B', C'⟩, ok) : Tm × Bool).1.v = .agg #[.int .i64 K', .string S', .int .u64 N', .int .i64 A', .int .i64 B', .int .i64 C'] from rfl]
 have H1 := Lib.hid (h1.below gP g2 ((Below.refl _ _).alloc (Nat.le_refl _) (.cells #[.int .i64 K', .string S', .int .u64 N', .int .i64 A', .int .i64 B', .int .i64 C'] 116)))
 have HB1 := Lib.hid (hb1.alloc hb1.size (.cells #[.int .i64 K', .string S', .int .u64 N', .int .i64 A', .int .i64 B', .int .i64 C'] 116))
 clear h1 hb1 H
 go_wp2
 go_ret
 exact ⟨rfl, H1.out, HB1.out⟩
set_option maxHeartbeats 4000000 in
theorem Pair.fault1P {tk tb : Tm} {XK XN XA XB XC : Int} {XS : ByteArray} {okk okb okx okp : Bool} {PK PN PA PB PC : Int} {PS : ByteArray} {k n b x : Int} (g2 : Good base Q2) (h : Pair base (PSq base g most) Q2 L L2 K w0 w) (hk : getT L k = (tk, okk)) (hb : getT L b = (tb, okb)) (hx : getT L x = (⟨XK, XS, XN, XA, XB, XC⟩, okx)) (hp : getT L XC = (⟨PK, PS, PN, PA, PB, PC⟩, okp)) :
  Calls Tryz.prog 232 #[.pointer (some ⟨g, 0, none⟩), .int .i64 1, .int .i64 k, .int .u64 n, .int .i64 b, .int .i64 x] w (One (.int .i64 (wrong okk okb okx (eqB ⟨XK, XS, XN, XA, XB, XC⟩ (sealT k n b XC)))) (Pair base (PSq base g most) Q2 L L2 K w0) w) := by
 have gP := PSq.good base g most
 have H := Lib.hid h
 have HK := Lib.hid hk
 have HB := Lib.hid hb
 have HX := Lib.hid hx
 have HP := Lib.hid hp
 obtain ⟨q, hq⟩ : ∃ q, eqB ⟨XK, XS, XN, XA, XB, XC⟩ (sealT k n b XC) = q := ⟨_, rfl⟩
 rw [hq]
 have HQ := Lib.hid hq
 clear h hk hb hx hp hq
 go_enter Tryz.func232, Tryz.ntmps232
 go_wp2_with fail
 refine (H.out.getP g2 x HX.out).mono ?_
 rintro e w1 ⟨rfl, hp, hb⟩
 rw [show ((⟨XK, XS, XN, XA, XB, XC⟩, okx) : Tm × Bool).1.v = .agg #[.int .i64 XK, .string XS, .int .u64 XN, .int .i64 XA, .int .i64 XB, .int .i64 XC] from rfl]
 have H1 := Lib.hid (hp.below gP g2 ((Below.refl _ _).alloc (Nat.le_refl _) (.cells #[.int .i64 XK, .string XS, .int .u64 XN, .int .i64 XA, .int .i64 XB, .int .i64 XC] 116)))
 have HB1 := Lib.hid (hb.alloc hb.size (.cells #[.int .i64 XK, .string XS, .int .u64 XN, .int .i64 XA, .int .i64 XB, .int .i64 XC] 116))
 clear hp hb H
 have hbx := heap_alloc_new w1 (.cells #[.int .i64 XK, .string XS, .int .u64 XN, .int .i64 XA, .int .i64 XB, .int .i64 XC] 116)
 have hS : (w1.alloc (.cells #[.int .i64 XK, .string XS, .int .u64 XN, .int .i64 XA, .int .i64 XB, .int .i64 XC] 116)).drew.cell? ⟨w1.heap.size, 0, none⟩ = some (.int .i64 XK) ∧ (w1.alloc (.cells #[.int .i64 XK, .string XS, .int .u64 XN, .int .i64 XA, .int .i64 XB, .int .i64 XC] 116)).drew.cell? ⟨w1.heap.size, 1, none⟩ = some (.string XS) ∧ (w1.alloc (.cells #[.int .i64 XK, .string XS, .int .u64 XN, .int .i64 XA, .int .i64 XB, .int .i64 XC] 116)).drew.cell? ⟨w1.heap.size, 2, none⟩ = some (.int .u64 XN) ∧ (w1.alloc (.cells #[.int .i64 XK, .string XS, .int .u64 XN, .int .i64 XA, .int .i64 XB, .int .i64 XC] 116)).drew.cell? ⟨w1.heap.size, 3, none⟩ = some (.int .i64 XA) ∧ (w1.alloc (.cells #[.int .i64 XK, .string XS, .int .u64 XN, .int .i64 XA, .int .i64 XB, .int .i64 XC] 116)).drew.cell? ⟨w1.heap.size, 4, none⟩ = some (.int .i64 XB) ∧ (w1.alloc (.cells #[.int .i64 XK, .string XS, .int .u64 XN, .int .i64 XA, .int .i64 XB, .int .i64 XC] 116)).drew.cell? ⟨w1.heap.size, 5, none⟩ = some (.int .i64 XC) := ⟨cell_of_row _ _ 0 _ _ _ hbx, cell_of_row _ _ 1 _ _ _ hbx, cell_of_row _ _ 2 _ _ _ hbx, cell_of_row _ _ 3 _ _ _ hbx, cell_of_row _ _ 4 _ _ _ hbx, cell_of_row _ _ 5 _ _ _ hbx⟩
 have hS' := hS
 have HC : Hid (∀ W, Calls Tryz.prog 231 #[.int .i64 k, .int .u64 n, .int .i64 b, .int .i64 XC] W fun e w' => e = .returned (.agg #[.int .i64 10, .string ⟨#[]⟩, .int .u64 n, .int .i64 k, .int .i64 b, .int .i64 XC]) ∧ Below W.heap.size W w') := Lib.hid (fun W => sealOf_c k n b XC W)
 have hlt1 : w1.heap.size < (w1.alloc (.cells #[.int .i64 XK, .string XS, .int .u64 XN, .int .i64 XA, .int .i64 XB, .int .i64 XC] 116)).drew.heap.size := by simp
 have hE := neq_termP ⟨XK, XS, XN, XA, XB, XC⟩ (sealT k n b XC)
 have hgd := guard32
 rw [HQ.out] at hE
 unfold Tm.v sealT at hE
 simp only [] at hE
 clear hbx
 go_wp2
 go_region_held3 (fun w' => w'.cell? ⟨w1.heap.size, 0, none⟩ = some (.int .i64 XK) ∧ w'.cell? ⟨w1.heap.size, 1, none⟩ = some (.string XS) ∧ w'.cell? ⟨w1.heap.size, 2, none⟩ = some (.int .u64 XN) ∧ w'.cell? ⟨w1.heap.size, 3, none⟩ = some (.int .i64 XA) ∧ w'.cell? ⟨w1.heap.size, 4, none⟩ = some (.int .i64 XB) ∧ w'.cell? ⟨w1.heap.size, 5, none⟩ = some (.int .i64 XC)) (first | assumption | go_keep) ((go_at_call 231; refine (HC.out _).mono ?_; rintro e w2 ⟨rfl, hb⟩; have hS2 : w2.cell? ⟨w1.heap.size, 0, none⟩ = some (.int .i64 XK) ∧ w2.cell? ⟨w1.heap.size, 1, none⟩ = some (.string XS) ∧ w2.cell? ⟨w1.heap.size, 2, none⟩ = some (.int .u64 XN) ∧ w2.cell? ⟨w1.heap.size, 3, none⟩ = some (.int .i64 XA) ∧ w2.cell? ⟨w1.heap.size, 4, none⟩ = some (.int .i64 XB) ∧ w2.cell? ⟨w1.heap.size, 5, none⟩ = some (.int .i64 XC) := ⟨(hb.cell (by exact hlt1)).trans hS.1, (hb.cell (by exact hlt1)).trans hS.2.1, (hb.cell (by exact hlt1)).trans hS.2.2.1, (hb.cell (by exact hlt1)).trans hS.2.2.2.1, (hb.cell (by exact hlt1)).trans hS.2.2.2.2.1, (hb.cell (by exact hlt1)).trans hS.2.2.2.2.2⟩))
 have hbd := ((Below.refl (w1.alloc (.cells #[.int .i64 XK, .string XS, .int .u64 XN, .int .i64 XA, .int .i64 XB, .int .i64 XC] 116)).heap.size (w1.alloc (.cells #[.int .i64 XK, .string XS, .int .u64 XN, .int .i64 XA, .int .i64 XB, .int .i64 XC] 116))).drew).trans hb
 have H2 := Lib.hid (H1.out.below gP g2 hbd)
 have HB2 := Lib.hid (HB1.out.trans (hbd.mono HB1.out.size))
 clear hE hgd hS hS' HC hb hbd H1 HB1 hS2 hlt1
 cases q with
 | false =>
  go_wp2_with fail
  refine (H2.out.isTermP g2 HX.out).mono ?_
  rintro e w3 ⟨rfl, hp, hb⟩
  have H3 := Lib.hid hp
  have HB3 := Lib.hid (HB2.out.trans (hb.mono HB2.out.size))
  clear hp hb H2 HB2
  cases okx with
  | false =>
   cases okk with
   | false =>
    go_wp2_with fail
    refine (H3.out.isTermP g2 HK.out).mono ?_
    rintro e w4 ⟨rfl, hp, hb⟩
    have H4 := Lib.hid hp
    have HB4 := Lib.hid (HB3.out.trans (hb.mono HB3.out.size))
    clear hp hb H3 HB3
    go_wp2
    go_ret
    exact ⟨rfl, H4.out, HB4.out⟩
   | true =>
    go_wp2_with fail
    refine (H3.out.isTermP g2 HK.out).mono ?_
    rintro e w4 ⟨rfl, hp, hb⟩
    have H4 := Lib.hid hp
    have HB4 := Lib.hid (HB3.out.trans (hb.mono HB3.out.size))
    clear hp hb H3 HB3
    go_wp2_with fail
    refine (H4.out.isTermP g2 HB.out).mono ?_
    rintro e w5 ⟨rfl, hp, hb⟩
    have H5 := Lib.hid hp
    have HB5 := Lib.hid (HB4.out.trans (hb.mono HB4.out.size))
    clear hp hb H4 HB4
    cases okb with
    | false =>
     go_wp2
     go_ret
     exact ⟨rfl, H5.out, HB5.out⟩
    | true =>
     go_wp2
     go_ret
     exact ⟨rfl, H5.out, HB5.out⟩
  | true =>
   cases okk with
   | false =>
    go_wp2_with fail
    refine (H3.out.isTermP g2 HK.out).mono ?_
    rintro e w4 ⟨rfl, hp, hb⟩
    have H4 := Lib.hid hp
    have HB4 := Lib.hid (HB3.out.trans (hb.mono HB3.out.size))
    clear hp hb H3 HB3
    go_wp2
    go_ret
    exact ⟨rfl, H4.out, HB4.out⟩
   | true =>
    go_wp2_with fail
    refine (H3.out.isTermP g2 HK.out).mono ?_
    rintro e w4 ⟨rfl, hp, hb⟩
    have H4 := Lib.hid hp
    have HB4 := Lib.hid (HB3.out.trans (hb.mono HB3.out.size))
    clear hp hb H3 HB3
    go_wp2_with fail
    refine (H4.out.isTermP g2 HB.out).mono ?_
    rintro e w5 ⟨rfl, hp, hb⟩
    have H5 := Lib.hid hp
    have HB5 := Lib.hid (HB4.out.trans (hb.mono HB4.out.size))
    clear hp hb H4 HB4
    cases okb with
    | false =>
     go_wp2
     go_ret
     exact ⟨rfl, H5.out, HB5.out⟩
    | true =>
     go_wp2
     go_ret
     exact ⟨rfl, H5.out, HB5.out⟩
 | true =>
  go_wp2_with fail
  refine (H2.out.isTermP g2 HX.out).mono ?_
  rintro e w3 ⟨rfl, hp, hb⟩
  have H3 := Lib.hid hp
  have HB3 := Lib.hid (HB2.out.trans (hb.mono HB2.out.size))
  clear hp hb H2 HB2
  cases okx with
  | false =>
   cases okk with
   | false =>
    go_wp2_with fail
    refine (H3.out.isTermP g2 HK.out).mono ?_
    rintro e w4 ⟨rfl, hp, hb⟩
    have H4 := Lib.hid hp
    have HB4 := Lib.hid (HB3.out.trans (hb.mono HB3.out.size))
    clear hp hb H3 HB3
    go_wp2
    go_ret
    exact ⟨rfl, H4.out, HB4.out⟩
   | true =>
    go_wp2_with fail
    refine (H3.out.isTermP g2 HK.out).mono ?_
    rintro e w4 ⟨rfl, hp, hb⟩
    have H4 := Lib.hid hp
    have HB4 := Lib.hid (HB3.out.trans (hb.mono HB3.out.size))
    clear hp hb H3 HB3
    go_wp2_with fail
    refine (H4.out.isTermP g2 HB.out).mono ?_
    rintro e w5 ⟨rfl, hp, hb⟩
    have H5 := Lib.hid hp
    have HB5 := Lib.hid (HB4.out.trans (hb.mono HB4.out.size))
    clear hp hb H4 HB4
    cases okb with
    | false =>
     go_wp2
     go_ret
     exact ⟨rfl, H5.out, HB5.out⟩
    | true =>
     go_wp2
     go_ret
     exact ⟨rfl, H5.out, HB5.out⟩
  | true =>
   cases okk with
   | false =>
    go_wp2_with fail
    refine (H3.out.isTermP g2 HK.out).mono ?_
    rintro e w4 ⟨rfl, hp, hb⟩
    have H4 := Lib.hid hp
    have HB4 := Lib.hid (HB3.out.trans (hb.mono HB3.out.size))
    clear hp hb H3 HB3
    go_wp2
    go_ret
    exact ⟨rfl, H4.out, HB4.out⟩
   | true =>
    go_wp2_with fail
    refine (H3.out.isTermP g2 HK.out).mono ?_
    rintro e w4 ⟨rfl, hp, hb⟩
    have H4 := Lib.hid hp
    have HB4 := Lib.hid (HB3.out.trans (hb.mono HB3.out.size))
    clear hp hb H3 HB3
    go_wp2_with fail
    refine (H4.out.isTermP g2 HB.out).mono ?_
    rintro e w5 ⟨rfl, hp, hb⟩
    have H5 := Lib.hid hp
    have HB5 := Lib.hid (HB4.out.trans (hb.mono HB4.out.size))
    clear hp hb H4 HB4
    cases okb with
    | false =>
     go_wp2
     go_ret
     exact ⟨rfl, H5.out, HB5.out⟩
    | true =>
     go_wp2
     go_ret
     exact ⟨rfl, H5.out, HB5.out⟩
end
section
variable {base g : Nat} {most : Int} {Q2 : (Nat → Prop) → List Tm → World → Prop} {L L2 : List Tm} {K : Nat → Prop} {w0 w : World}
theorem Pair.fault1v {tk tb : Tm} {XK XN XA XB XC v : Int} {XS : ByteArray} {okk okb okx : Bool} {k n b x : Int} (g2 : Good base Q2) (h : Pair base (PSq base g most) Q2 L L2 K w0 w) (hk : getT L k = (tk, okk)) (hb : getT L b = (tb, okb)) (hx : getT L x = (⟨XK, XS, XN, XA, XB, XC⟩, okx)) (hv : wrong okk okb okx (eqB ⟨XK, XS, XN, XA, XB, XC⟩ (sealT k n b XC)) = v) :
  Calls Tryz.prog 232 #[.pointer (some ⟨g, 0, none⟩), .int .i64 1, .int .i64 k, .int .u64 n, .int .i64 b, .int .i64 x] w (One (.int .i64 v) (Pair base (PSq base g most) Q2 L L2 K w0) w) := by
 obtain ⟨⟨PK, PS, PN, PA, PB, PC⟩, hp⟩ : ∃ t, (getT L XC).1 = t := ⟨_, rfl⟩
 have c := h.fault1P (n := n) g2 hk hb hx (hp := by rw [← hp])
 rw [hv] at c
 exact c
def openF (L : List Tm) (k n b x : Int) : Int × Int :=
 let e := wrong (getT L k).2 (getT L b).2 (getT L x).2 (eqB (getT L x).1 (sealT k n b (getT L x).1.C))
 (if e = 0 then (getT L x).1.C else 0, e)
set_option maxHeartbeats 1000000 in
theorem Pair.sealP {L' : List Tm} {a e k n b p : Int} (g2 : Good base Q2) (h : Pair base (PSq base g most) Q2 L L2 K w0 w) (hk : I64 k) (hn : U64 n) (hb : I64 b) (hp : I64 p) (hf : putF L most (sealT k n b p) = (a, e, L')) :
  Calls Tryz.prog 220 #[.pointer (some ⟨g, 0, none⟩), .int .i64 k, .int .u64 n, .int .i64 b, .int .i64 p] w (TwoK (.int .i64 a) (.int .i64 e) (Pair base (PSq base g most) Q2 L' L2 K w0) K w) := by
 have gP := PSq.good base g most
 have HKl := Lib.hid (show ∀ k, K k → k < w.heap.size by obtain ⟨F1, F2, _, _, _, h4, _⟩ := h; exact fun k hk => (h4 k hk).2.2)
 have H := Lib.hid h
 have HW := Lib.hid (seal_wf hk hn hb hp)
 have HF := Lib.hid hf
 clear h hk hn hb hp hf
 go_enter Tryz.func220, Tryz.ntmps220
 go_wp2_with fail
 refine (sealOf_c k n b p _).mono ?_
 rintro e1 w1 ⟨rfl, hb1⟩
 have H1 := Lib.hid (H.out.below gP g2 hb1)
 have HB1 := Lib.hid hb1
 clear hb1 H
 go_wp2_with fail
 refine (H1.out.putP g2 (sealT k n b p) HW.out HF.out).mono ?_
 rintro e2 w2 ⟨rfl, h2, hk2⟩
 have H2 := Lib.hid h2
 have HK2 := Lib.hid hk2
 clear h2 hk2 H1
 go_wp2_with fail
 go_ret2
 exact ⟨rfl, H2.out, fun k hk => (HK2.out k hk).trans (HB1.out.block k (HKl.out k hk))⟩
set_option maxHeartbeats 1000000 in
theorem Pair.aopenP {a e k n b x : Int} (g2 : Good base Q2) (h : Pair base (PSq base g most) Q2 L L2 K w0 w) (hf : openF L k n b x = (a, e)) :
  Calls Tryz.prog 222 #[.pointer (some ⟨g, 0, none⟩), .int .i64 k, .int .u64 n, .int .i64 b, .int .i64 x] w (Two (.int .i64 a) (.int .i64 e) (Pair base (PSq base g most) Q2 L L2 K w0) w) := by
 have gP := PSq.good base g most
 obtain ⟨⟨tk, okk⟩, hgk⟩ : ∃ y, getT L k = y := ⟨_, rfl⟩
 obtain ⟨⟨tb, okb⟩, hgb⟩ : ∃ y, getT L b = y := ⟨_, rfl⟩
 obtain ⟨⟨⟨XK, XS, XN, XA, XB, XC⟩, okx⟩, hgx⟩ : ∃ y, getT L x = y := ⟨_, rfl⟩
 obtain ⟨v, hv⟩ : ∃ v, wrong okk okb okx (eqB ⟨XK, XS, XN, XA, XB, XC⟩ (sealT k n b XC)) = v := ⟨_, rfl⟩
 unfold openF at hf
 rw [hgk, hgb, hgx] at hf
 simp only [] at hf
 rw [hv] at hf
 injection hf with f1 f2
 subst f2
 have HGK := Lib.hid hgk
 have HGB := Lib.hid hgb
 have HGX := Lib.hid hgx
 have HV := Lib.hid hv
 have H := Lib.hid h
 clear hgk hgb hgx hv h
 by_cases h0 : v = 0
 ·have h00 : (v != 0) = false := by simpa using h0
  rw [if_pos h0] at f1
  subst f1
  subst h0
  clear h00
  go_enter Tryz.func222, Tryz.ntmps222
  go_wp2_with fail
  refine (H.out.fault1v g2 HGK.out HGB.out HGX.out HV.out).mono ?_
  rintro e w1 ⟨rfl, hp, hb⟩
  have H1 := Lib.hid hp
  have HB1 := Lib.hid (hb)
  clear hp hb H
  go_wp2_with fail
  refine (H1.out.plainOfP g2 HGX.out).mono ?_
  rintro e w2 ⟨rfl, hp, hb⟩
  have H2 := Lib.hid hp
  have HB2 := Lib.hid (HB1.out.trans (hb.mono HB1.out.size))
  clear hp hb H1 HB1
  go_wp2
  go_ret2
  exact ⟨rfl, H2.out, HB2.out⟩
 ·have h00 : (v != 0) = true := by simpa using h0
  rw [if_neg h0] at f1
  subst f1
  clear h0
  go_enter Tryz.func222, Tryz.ntmps222
  go_wp2_with fail
  refine (H.out.fault1v g2 HGK.out HGB.out HGX.out HV.out).mono ?_
  rintro e w1 ⟨rfl, hp, hb⟩
  have H1 := Lib.hid hp
  have HB1 := Lib.hid (hb)
  clear hp hb H
  go_wp2
  go_ret2
  exact ⟨rfl, H1.out, HB1.out⟩
end
section
variable {base g : Nat} {most : Int} {Q2 : (Nat → Prop) → List Tm → World → Prop} {L L2 : List Tm} {K : Nat → Prop} {w0 w : World}
end
set_option linter.unusedSimpArgs false
theorem may_textT {n : Nat} {S : ByteArray} (h : S.size ≤ 1000) : (textT S).may n = true := by
 rw [may_iff]
 simp [May, below3, BadP, many, prt, textT, sz0]
 omega
theorem may_seal {n : Nat} {k w b p : Int} (h1 : 1 ≤ k ∧ k ≤ (n : Int)) (h2 : 1 ≤ b ∧ b ≤ (n : Int)) (h3 : 1 ≤ p ∧ p ≤ (n : Int)) : (sealT k w b p).may n = true := by
 rw [may_iff]
 simp [May, below3, BadP, many, prt, sealT, sz0]
 omega
theorem seal_eq {k w b p k' w' b' p' : Int} : sealT k w b p = sealT k' w' b' p' ↔ k = k' ∧ w = w' ∧ b = b' ∧ p = p' := by
 unfold sealT
 simp only [Tm.mk.injEq, true_and]
 constructor
 ·rintro ⟨a, b, c, d⟩; exact ⟨b, a, c, d⟩
 ·rintro ⟨a, b, c, d⟩; exact ⟨b, a, c, d⟩
theorem open_at {L : List Tm} {k w b t c k' w' b' : Int} (h : Named L c (sealT k w b t)) (hk : 1 ≤ k' ∧ k' ≤ (L.length : Int)) (hb : 1 ≤ b' ∧ b' ≤ (L.length : Int)) :
  openF L k' w' b' c = if k' = k ∧ w' = w ∧ b' = b then (t, 0) else (0, 9) := by
 obtain ⟨tk, gk⟩ := getT_of hk
 obtain ⟨tb, gb⟩ := getT_of hb
 unfold openF
 rw [gk, gb, h.get]
 simp only []
 by_cases he : k' = k ∧ w' = w ∧ b' = b
 ·rw [if_pos he, show eqB (sealT k w b t) (sealT k' w' b' (sealT k w b t).C) = true from (eqB_iff _ _).2 (by obtain ⟨rfl, rfl, rfl⟩ := he; rfl)]
  rfl
 ·have : eqB (sealT k w b t) (sealT k' w' b' (sealT k w b t).C) = false := by
   cases hq : eqB (sealT k w b t) (sealT k' w' b' (sealT k w b t).C)
   ·rfl
   ·have := seal_eq.1 ((eqB_iff _ _).1 hq)
    exact absurd ⟨this.1.symm, this.2.1.symm, this.2.2.1.symm⟩ he
  rw [if_neg he, this]
  rfl
end Go.Proofs.YtgeonppckeiceaaGreatDoor
namespace Go.Proofs.YtgeonppckeiceaaGreatDoor.Ms
set_option linter.unusedVariables false
set_option linter.unusedSimpArgs false
def fallTo (V : Nat → Bool) : Nat → List UInt8
 | 0 => []
 | k + 1 => fallTo V k ++ if V (255 - k) = true then [UInt8.ofNat (255 - k)] else []
def fall (V : Nat → Bool) : List UInt8 := fallTo V 255
def inB (l : List UInt8) (j : Nat) : Bool := l.any fun c => c.toNat == j
def Falls (l : List UInt8) : Prop := l.Pairwise fun a b => b.toNat < a.toNat
def rightB (l : List UInt8) : Bool := decide (1 ≤ l.length) && decide (l.length ≤ 8) && (l == fall (inB l))
theorem inB_iff {l : List UInt8} {j : Nat} : inB l j = true ↔ ∃ c, c ∈ l ∧ c.toNat = j := by simp [inB]
theorem inB_self {l : List UInt8} {c : UInt8} : inB l c.toNat = true ↔ c ∈ l := by
 rw [inB_iff]
 constructor
 ·rintro ⟨d, h, e⟩; rw [← UInt8.toNat_inj.1 e]; exact h
 ·exact fun h => ⟨c, h, rfl⟩
theorem inB_snoc (l : List UInt8) (c : UInt8) (j : Nat) : inB (l ++ [c]) j = (inB l j || c.toNat == j) := by simp [inB]
theorem toNat_ofNat {n : Nat} (h : n < 256) : (UInt8.ofNat n).toNat = n := by simp; omega
theorem mem_fallTo (V : Nat → Bool) (c : UInt8) : ∀ k, k ≤ 255 → (c ∈ fallTo V k ↔ V c.toNat = true ∧ 255 < c.toNat + k) := by
 intro k
 have hc := UInt8.toNat_lt c
 induction k with
 | zero => intro _; simp [fallTo]; omega
 | succ k ih =>
  intro hk
  rw [fallTo, List.mem_append, ih (by omega)]
  have e : (UInt8.ofNat (255 - k)).toNat = 255 - k := toNat_ofNat (by omega)
  constructor
  ·rintro (⟨h1, h2⟩ | h)
   ·exact ⟨h1, by omega⟩
   ·split at h
    ·rename_i hv
     rw [List.mem_singleton] at h
     rw [h, e]; exact ⟨hv, by omega⟩
    ·simp at h
  ·rintro ⟨h1, h2⟩
   rcases (by omega : 255 < c.toNat + k ∨ c.toNat = 255 - k) with q | q
   ·exact .inl ⟨h1, q⟩
   ·refine .inr ?_
    rw [if_pos (by rw [← q]; exact h1), List.mem_singleton, ← UInt8.toNat_inj, e, q]
theorem mem_fall {V : Nat → Bool} {c : UInt8} : c ∈ fall V ↔ V c.toNat = true ∧ 1 ≤ c.toNat := by
 rw [fall, mem_fallTo V c 255 (Nat.le_refl _)]
 constructor
 ·exact fun h => ⟨h.1, by omega⟩
 ·exact fun h => ⟨h.1, by omega⟩
theorem fallTo_len (V : Nat → Bool) : ∀ k, (fallTo V k).length ≤ k := by
 intro k
 induction k with
 | zero => simp [fallTo]
 | succ k ih => rw [fallTo, List.length_append]; split <;> simp <;> omega
theorem fallTo_falls (V : Nat → Bool) : ∀ k, k ≤ 255 → Falls (fallTo V k) := by
 intro k
 induction k with
 | zero => intro _; simp [fallTo, Falls]
 | succ k ih =>
  intro hk
  rw [fallTo, Falls, List.pairwise_append]
  refine ⟨ih (by omega), by split <;> simp, fun a ha b hb => ?_⟩
  split at hb
  ·rw [List.mem_singleton] at hb
   rw [hb, toNat_ofNat (by omega)]
   have := ((mem_fallTo V a k (by omega)).1 ha).2
   omega
  ·simp at hb
theorem fall_falls (V : Nat → Bool) : Falls (fall V) := fallTo_falls V 255 (Nat.le_refl _)
theorem falls_ext : ∀ {l m : List UInt8}, Falls l → Falls m → (∀ c, c ∈ l ↔ c ∈ m) → l = m
 | [], [], _, _, _ => rfl
 | [], b :: m, _, _, h => by have := (h b).2 (by simp); simp at this
 | a :: l, [], _, _, h => by have := (h a).1 (by simp); simp at this
 | a :: l, b :: m, h1, h2, h => by
  rw [Falls, List.pairwise_cons] at h1 h2
  have e : a = b := by
   rcases List.mem_cons.1 ((h a).1 (by simp)) with q | q
   ·exact q
   ·rcases List.mem_cons.1 ((h b).2 (by simp)) with r | r
    ·exact r.symm
    ·have := h2.1 a q; have := h1.1 b r; omega
  subst e
  congr 1
  refine falls_ext h1.2 h2.2 fun c => ⟨fun hc => ?_, fun hc => ?_⟩
  ·rcases List.mem_cons.1 ((h c).1 (List.mem_cons_of_mem _ hc)) with q | q
   ·have := h1.1 c hc; rw [q] at this; omega
   ·exact q
  ·rcases List.mem_cons.1 ((h c).2 (List.mem_cons_of_mem _ hc)) with q | q
   ·have := h2.1 c hc; rw [q] at this; omega
   ·exact q
theorem fall_inB {l : List UInt8} (h : Falls l) (h0 : ∀ c, c ∈ l → 1 ≤ c.toNat) : fall (inB l) = l := by
 refine falls_ext (fall_falls _) h fun c => ?_
 rw [mem_fall, inB_self]
 exact ⟨fun q => q.1, fun q => ⟨q, h0 c q⟩⟩
theorem right_iff {l : List UInt8} : rightB l = true ↔ 1 ≤ l.length ∧ l.length ≤ 8 ∧ Falls l ∧ ∀ c, c ∈ l → 1 ≤ c.toNat := by
 simp only [rightB, Bool.and_eq_true, decide_eq_true_eq, beq_iff_eq]
 constructor
 ·rintro ⟨⟨a, b⟩, c⟩
  refine ⟨a, b, ?_, fun x hx => ?_⟩
  ·rw [c]; exact fall_falls _
  ·rw [c] at hx; exact (mem_fall.1 hx).2
 ·rintro ⟨a, b, c, d⟩
  exact ⟨⟨a, b⟩, (fall_inB c d).symm⟩
def capB (a b : List UInt8) (j : Nat) : Bool := inB a j && inB b j
def formB (a b : List UInt8) : Bool := rightB a && rightB b
def bothS (a b : List UInt8) : List UInt8 := if formB a b = true then fall (capB a b) else []
def bestV (a b : List UInt8) : Int := match bothS a b with | [] => 0 | c :: _ => (c.toNat : Int)
def bestE (a b : List UInt8) : Int := if formB a b = true then (match bothS a b with | [] => 11 | _ :: _ => 0) else 3
open Go.RowKit
set_option maxRecDepth 20000
structure Chg (S : Nat → Prop) (w w' : World) : Prop where
 os : w'.os = w.os
 tape : w'.tape = w.tape
 output : w'.output = w.output
 size : w.heap.size ≤ w'.heap.size
 block : ∀ k, k < w.heap.size → ¬ S k → w'.heap[k]? = w.heap[k]?
theorem Chg.of_below {S : Nat → Prop} {w w' : World} (h : Below w.heap.size w w') : Chg S w w' := ⟨h.os, h.tape, h.output, h.size, fun k hk _ => h.block k hk⟩
theorem Chg.trans {S : Nat → Prop} {a b c : World} (h : Chg S a b) (k : Chg S b c) : Chg S a c :=
 ⟨k.os.trans h.os, k.tape.trans h.tape, k.output.trans h.output, Nat.le_trans h.size k.size, fun j hj hs => (k.block j (Nat.lt_of_lt_of_le hj h.size) hs).trans (h.block j hj hs)⟩
theorem blk_lt {w : World} {g : Nat} {o : Obj} (h : w.heap[g]? = some o) : g < w.heap.size := by
 rcases Nat.lt_or_ge g w.heap.size with q | q
 ·exact q
 ·rw [Array.getElem?_eq_none q] at h; cases h
theorem Chg.blk {S : Nat → Prop} {w w' : World} {g : Nat} {o : Obj} (hc : Chg S w w') (h : w.heap[g]? = some o) (hn : ¬ S g) : w'.heap[g]? = some o := by
 rw [hc.block g (blk_lt h) hn]; exact h
theorem Chg.row {S : Nat → Prop} {w w' : World} {base : Nat} {e : TypeId} {size : Nat} {v : Value} {n : Nat} {xs : List Value} (hc : Chg S w w') (h : w.ownsRow base e size v n xs) (hn : ∀ k, v.ownBlock = some k → ¬ S k) : w'.ownsRow base e size v n xs := by
 refine ⟨h.1, ?_⟩
 rcases h.2 with hn0 | ⟨g, cap, cur, rfl, hb, hgg, rest⟩
 ·exact .inl hn0
 ·exact .inr ⟨g, cap, cur, rfl, hb, hc.blk hgg (hn g rfl), rest⟩
theorem Chg.grown {w w' : World} {row : Option Nat} (h : w.grownBy w' row) : Chg (fun k => some k = row) w w' := ⟨h.os, h.tape, h.output, h.size, fun k hk hs => h.block k hk hs⟩
theorem Chg.below {S : Nat → Prop} {w w' : World} {B : Nat} (h : Chg S w w') (hs : ∀ k, S k → B ≤ k) (hB : B ≤ w.heap.size) : Below B w w' := ⟨h.os, h.tape, h.output, h.size, fun k hk => h.block k (by omega) (fun q => by have := hs k q; omega)⟩
theorem below_alloc (w : World) (o : Obj) : Below w.heap.size w (w.alloc o) := (Below.refl _ _).alloc (Nat.le_refl _) _
theorem addr_add (b k : Nat) : (⟨b, 0, none⟩ : Addr).add k = ⟨b, k, none⟩ := by unfold Addr.add; split <;> simp_all
theorem infoI : (Tryz.prog.info? 3).map (fun i => (i.zero, i.size, i.bytes)) = some (some (.int .i64 0), 1, 8) := by kernel_rfl
theorem infoB : (Tryz.prog.info? 5).map (fun i => (i.zero, i.size, i.bytes)) = some (some (.int .u8 0), 1, 1) := by kernel_rfl
def RowAt (k : IntKind) (w : World) (a : Option Addr) (cap : Nat) (ks : List Int) : Prop :=
 ks.length ≤ cap ∧ cap ≤ maxLen ∧ ∃ b off, ∀ j, j < ks.length → a = some ⟨b, off, none⟩ ∧ w.cell? ⟨b, off + j, none⟩ = some (.int k (ks.getD j 0))
theorem RowAt.none (k : IntKind) (w : World) : RowAt k w none 0 [] := ⟨Nat.le_refl _, Nat.zero_le _, 0, 0, fun j hj => absurd hj (Nat.not_lt_zero _)⟩
def valsR (k : IntKind) (xs : List Int) : List Value := xs.map (Value.int k)
def Own (e : TypeId) (k : IntKind) (base : Nat) (v : Value) (M : List Int) (w : World) : Prop := w.ownsRow base e 1 v M.length (valsR k M)
section
variable {e : TypeId} {k : IntKind} {base : Nat} {v : Value} {M : List Int} {w w' : World}
theorem Own.nil (e : TypeId) (k : IntKind) (base : Nat) (w : World) : Own e k base (.slice none 0 0) [] w := World.ownsRow_nil _ _ _ _
theorem Own.chg {S : Nat → Prop} (h : Own e k base v M w) (hc : Chg S w w') (hn : ∀ j, v.ownBlock = some j → ¬ S j) : Own e k base v M w' := hc.row h hn
theorem Own.below (h : Own e k base v M w) (hb : Below w.heap.size w w') : Own e k base v M w' := (Chg.of_below (S := fun _ => False) hb).row h (fun _ _ q => q)
theorem Own.at (h : Own e k base v M w) : ∃ a cap, v = .slice a M.length cap ∧ RowAt k w a cap M := by
 have h' : w.ownsRow base e 1 v M.length (valsR k M) := h
 rcases h'.2 with ⟨hv, hn⟩ | ⟨g, cap, cur, hv, hg, hh, h1, h2, h3, h4⟩
 ·have e : M = [] := List.eq_nil_of_length_eq_zero hn
  subst e
  exact ⟨Option.none, 0, hv, RowAt.none k w⟩
 ·refine ⟨_, cap, hv, h1, h2, g, 0, fun j hj => ⟨rfl, ?_⟩⟩
  have := h'.cells (g := g) (by rw [hv]; rfl) j (.int k (M.getD j 0)) (by simp [valsR, List.getD, hj])
  rw [addr_add] at this
  rw [Nat.zero_add]
  exact this
theorem Own.rowAt {a : Option Addr} {n cap : Nat} (h : Own e k base (.slice a n cap) M w) : n = M.length ∧ RowAt k w a cap M := by
 obtain ⟨a', cap', e, hi⟩ := h.at
 injection e with e1 e2 e3
 subst e1; subst e3
 exact ⟨e2, hi⟩
theorem Own.app {x : Int} {g cap n : Nat} (hn : M.length = n) (hown : w'.ownsRow base e 1 (.slice (some ⟨g, 0, none⟩) (n + 1) cap) (n + 1) (valsR k M ++ [.int k x])) : Own e k base (.slice (some ⟨g, 0, none⟩) (n + 1) cap) (M ++ [x]) w' := by
 subst hn
 unfold Own
 rw [show (M ++ [x]).length = M.length + 1 by simp, show valsR k (M ++ [x]) = valsR k M ++ [.int k x] by simp [valsR]]
 exact hown
end
theorem foldl_push (l : List UInt8) : ∀ (r : ByteArray), (l.map fun c => (c.toNat : Int)).foldl (fun r n => r.push (UInt8.ofNat n.toNat)) r = ⟨r.data ++ l.toArray⟩ := by
 induction l with
 | nil => intro r; simp
 | cons c l ih =>
  intro r
  rw [List.map_cons, List.foldl_cons, ih]
  apply ByteArray.ext
  simp [ByteArray.push]
theorem conv_row {w : World} {g n : Nat} (cap : Nat) (l : List UInt8) (hn : l.length = n) (h : ∀ j, j < l.length → w.cell? ⟨g, j, none⟩ = some (.int .u8 ((l.getD j 0).toNat : Int))) :
  (convert 89 9 (.slice (some ⟨g, 0, none⟩) n cap)).run Tryz.prog w = .ok (.string ⟨l.toArray⟩) w := by
 subst hn
 rw [run_convert_bytes_string w 89 9 5 _ _ _ Tryz.underlying89 Tryz.underlying5 Tryz.underlying9]
 rw [run_bytesToString w ⟨g, 0, none⟩ l.length cap (l.map fun c => (c.toNat : Int))]
 ·rw [foldl_push]; simp
 ·have := run_loadCells_list (P := Tryz.prog) (w := w) ⟨g, 0, none⟩ ((l.map fun c => (c.toNat : Int)).map (Value.int .u8)) (by
   intro j v hv
   simp only [List.map_map, List.getElem?_map, Option.map_eq_some_iff] at hv
   obtain ⟨c, hc, rfl⟩ := hv
   have hj : j < l.length := by
    rcases Nat.lt_or_ge j l.length with q | q
    ·exact q
    ·simp [List.getElem?_eq_none q] at hc
   have := h j hj
   have e : (⟨g, 0, none⟩ : Addr).add j = ⟨g, j, none⟩ := by unfold Addr.add; simp; omega
   rw [e]
   simpa [List.getD, hc] using this)
  simpa using this
theorem conv_nil (w : World) : (convert 89 9 (.slice none 0 0)).run Tryz.prog w = .ok (.string ⟨#[]⟩) w := by
 kernel_rfl
theorem conv_one (w : World) (z : Int) (h0 : 0 ≤ z) (h1 : z < 256) : (convert 89 9 (.slice (some ⟨w.heap.size, 0, none⟩) 1 1)).run Tryz.prog (w.alloc (.cells #[.int .u8 z] 5)) = .ok (.string ⟨[UInt8.ofNat z.toNat].toArray⟩) (w.alloc (.cells #[.int .u8 z] 5)) := by
 refine conv_row 1 [UInt8.ofNat z.toNat] rfl ?_
 intro j hj
 obtain rfl : j = 0 := by simpa using hj
 have : z.toNat % 256 = z.toNat := Nat.mod_eq_of_lt (by omega)
 simp [World.cell?_alloc_at, this, Int.toNat_of_nonneg h0]
def byteL (l : List UInt8) : List Int := l.map fun c => (c.toNat : Int)
theorem conv_own {w : World} {base : Nat} {v : Value} (l : List UInt8) (h : Own 5 .u8 base v (byteL l) w) : (convert 89 9 v).run Tryz.prog w = .ok (.string ⟨l.toArray⟩) w := by
 have hl : (byteL l).length = l.length := by simp [byteL]
 rcases h.2 with ⟨hv, hn⟩ | ⟨g, cap, cur, hv, _⟩
 ·have e : l = [] := List.eq_nil_of_length_eq_zero (by omega)
  subst e
  rw [hv]
  exact conv_nil w
 ·subst hv
  rw [hl]
  refine conv_row cap l rfl fun j hj => ?_
  obtain ⟨_, h1, h2, b, off, h3⟩ := h.rowAt
  obtain ⟨q1, q2⟩ := h3 j (by omega)
  have h5 := World.ownsRow.cells h (g := g) rfl j (.int .u8 ((byteL l).getD j 0)) (by simp [valsR, List.getD, byteL, hj])
  rw [addr_add] at h5
  rw [h5]
  simp [byteL, List.getD, hj]
def cellsOf (V : Nat → Bool) : Array Value := ((List.range 256).map fun j => Value.bool (V j)).toArray
theorem cellsOf_size (V : Nat → Bool) : (cellsOf V).size = 256 := by simp [cellsOf]
theorem cellsOf_at (V : Nat → Bool) {j : Nat} (h : j < 256) : (cellsOf V)[j]? = some (.bool (V j)) := by simp [cellsOf, h]
theorem cellsOf_one (V : Nat → Bool) : (cellsOf V).all (·.oneCell') = true := by
 rw [Array.all_eq_true_iff_forall_mem]
 intro v hv
 simp only [cellsOf, List.mem_toArray, List.mem_map] at hv
 obtain ⟨j, _, rfl⟩ := hv
 rfl
theorem cellsOf_ext {V W : Nat → Bool} (h : ∀ j, j < 256 → V j = W j) : cellsOf V = cellsOf W := by
 unfold cellsOf
 congr 1
 apply List.map_congr_left
 intro j hj
 rw [h j (List.mem_range.1 hj)]
theorem cellsOf_set (V : Nat → Bool) (j : Nat) (b : Bool) : (cellsOf V).setIfInBounds j (.bool b) = cellsOf (fun i => if i = j then b else V i) := by
 apply Array.ext_getElem?
 intro i
 by_cases hi : i < 256
 ·rw [cellsOf_at _ hi]
  by_cases e : i = j
  ·subst e
   rw [Array.getElem?_setIfInBounds_self_of_lt (by rw [cellsOf_size]; exact hi), if_pos rfl]
  ·rw [Array.getElem?_setIfInBounds_ne (fun q => e q.symm), cellsOf_at _ hi, if_neg e]
 ·rw [Array.getElem?_eq_none (by simp [cellsOf_size]; omega), Array.getElem?_eq_none (by rw [cellsOf_size]; omega)]
theorem cellsOf_none : cellsOf (fun _ => false) = Array.replicate 256 (.bool false) := by
 apply Array.ext_getElem?
 intro i
 by_cases hi : i < 256
 ·rw [cellsOf_at _ hi]; simp [hi]
 ·rw [Array.getElem?_eq_none (by rw [cellsOf_size]; omega), Array.getElem?_eq_none (by simp; omega)]
theorem zeroSet : (Tryz.prog.info? 158).map (fun i => (i.zero, i.size)) = some (some (.agg (Array.replicate 256 (.bool false))), 256) := by kernel_rfl
theorem zeroSet_run (w : World) : (zeroValue 158).run Tryz.prog w = .ok (.agg (cellsOf fun _ => false)) w := by
 rw [cellsOf_none]
 exact (zero_of_info zeroSet).1 w
theorem sizeSet : (Tryz.prog.info? 158).map (·.size) = some 256 := (zero_of_info zeroSet).2
def Apart (v u : Value) : Prop := ∀ k, v.ownBlock = some k → u.ownBlock ≠ some k
structure Appd (e : TypeId) (k : IntKind) (base : Nat) (v v' : Value) (M : List Int) (x : Int) (w w' : World) : Prop where
 own : Own e k base v' (M ++ [x]) w'
 low : Below base w w'
 size : w.heap.size ≤ w'.heap.size
 rest : ∀ e2 k2 b2 u M2, Own e2 k2 b2 u M2 w → Apart v u → Own e2 k2 b2 u M2 w' ∧ Apart v' u
 form : ∃ g cap, v' = .slice (some ⟨g, 0, none⟩) (M.length + 1) cap
theorem wpList_app {ops : Array Oper} {rest : List Oper} {o : Oper} {a : Act} {Q : Exit → Act → World → Prop} (hgd : o.guard = none) (s xo : Operand) (t e : TypeId) (k : IntKind) (bytes : Nat)
  (ht : Tryz.prog.underlying t = some (.slice e)) (hinf : (Tryz.prog.info? e).map (fun i => (i.zero, i.size, i.bytes)) = some (some (.int k 0), 1, bytes)) (hby : bytes ≤ 8)
  (ho : o.op = .call { callee := .builtin .append, args := #[s, xo], argTypes := #[t, t] })
  (base : Nat) (v : Value) (M : List Int) (x : Int) (w : World) (hs : a.eval s = v) (hown : Own e k base v M w)
  (B c : Nat) (hx : a.eval xo = .slice (some ⟨B, 0, none⟩) 1 c) (hB : w.heap[B]? = some (.cells #[.int k x] e (0, 0))) (hM : M.length < 100000) (hbase : base ≤ w.heap.size)
  (h : ∀ v' w', Appd e k base v v' M x w w' → wpList Tryz.prog ops Q rest (a.put o.dst v') w') : wpList Tryz.prog ops Q (o :: rest) a w := by
 obtain ⟨i0, hi0, hz0, hz1, hz2⟩ := info_parts hinf
 have hm : M.length + 1 ≤ maxLen := by unfold maxLen; omega
 have hmul : (M.length + 1) * bytes ≤ (M.length + 1) * 8 := Nat.mul_le_mul_left _ hby
 refine wpList_append_lies w hgd s xo t ho base e i0 (.int k 0) 1 bytes ht hi0 hz0 hz1 hz2 rfl (by decide) v M.length (valsR k M) hs hown ⟨B, 0, none⟩ 1 c [.int k x] hx rfl (World.news_of_block (cs := #[.int k x]) (t := e) (fr := (0, 0)) hB) (by simp [Value.oneCell']) (by omega) hm (Nat.le_trans hmul (by omega)) hbase w.heap.size rfl ?_
 intro g cap w' h1 h2 h3 h4
 refine h _ w' ⟨Own.app rfl h1, ?_, h2.size, ?_, g, cap, rfl⟩
 ·exact (Chg.grown h2).below (fun j hj => (World.ownsRow.lt hown j hj.symm).1) hbase
 ·intro e2 k2 b2 u M2 hu ha
  refine ⟨hu.chg (Chg.grown h2) (fun j hj hv => ha j hv.symm hj), fun j hj hu2 => ?_⟩
  simp only [Value.ownBlock, Option.some.injEq] at hj
  subst hj
  rcases h3 with q | q
  ·exact ha g q hu2
  ·have := (World.ownsRow.lt hu g hu2).2; omega
set_option maxRecDepth 100000
theorem take_snocB (s : ByteArray) (k : Nat) (h : k < s.size) : s.data.toList.take (k + 1) = s.data.toList.take k ++ [s[k]] := by
 rw [List.take_succ_eq_append_getElem (by simpa using h)]; rfl
theorem below_setRow {B g : Nat} {w w' : World} (h : Below B w w') (hg : B ≤ g) (c : Array Value) : Below B w (w'.setRow g c) :=
 ⟨h.os, h.tape, h.output, by have := h.size; simpa using this, fun k hk => (setRow_other w' g k c (by omega)).trans (h.block k hk)⟩
set_option maxHeartbeats 1000000 in
theorem setOf_any (s : ByteArray) (w : World) (hs : s.size ≤ maxLen) :
  Calls Tryz.prog 150 #[.string s] w fun e w' => e = .returned (.agg (cellsOf (inB s.data.toList))) ∧ Below w.heap.size w w' := by
 unfold maxLen at hs
 have hz := zeroSet_run
 go_enter Tryz.func150, Tryz.ntmps150
 go_wp2
 go_loopw [4, 7] (fun _ i wr => ∃ k : Nat, k ≤ s.size ∧ i = .int .i64 k ∧ wr = (w.alloc (.cells (cellsOf fun _ => false) 158)).alloc (.cells (cellsOf (inB (s.data.toList.take k))) 158)) (fun _ i _ => s.size - (intOf i).toNat)
 case atStart => exact ⟨0, Nat.zero_le _, rfl, by simp only [List.take_zero]; rfl⟩
 case round =>
  obtain ⟨k, hk, rfl, rfl⟩ := hrel
  by_cases hlt : k < s.size
  ·have hlt' : (k : Int) < (s.size : Int) := by omega
   have hcb := UInt8.toNat_lt s[k]
   have hcell := cellsOf_at (inB (s.data.toList.take k)) hcb
   have HT := Lib.hid (take_snocB s k hlt)
   go_wp2
   go_roundw
   case rel =>
    refine ⟨k + 1, by omega, by go_num, ?_⟩
    congr 2
    rw [cellsOf_set, HT.out]
    refine cellsOf_ext fun j _ => ?_
    rw [inB_snoc]
    by_cases e : j = s[k].toNat
    ·subst e; simp
    ·rw [if_neg e]; simp; intro h; exact absurd h.symm e
   case measure => simp [intOf]; omega
  ·obtain rfl : k = s.size := by omega
   have e : s.data.toList.take s.size = s.data.toList := List.take_of_length_le (by simp)
   rw [e]
   clear e hlt
   have hn : ¬ ((s.size : Int) < (s.size : Int)) := by omega
   have h2 := heap_alloc2_old w (.cells (cellsOf fun _ => false) 158) (.cells (cellsOf (inB s.data.toList)) 158)
   have h3 := heap_alloc2_new w (.cells (cellsOf fun _ => false) 158) (.cells (cellsOf (inB s.data.toList)) 158)
   have hb : Below w.heap.size w ((w.alloc (.cells (cellsOf fun _ => false) 158)).alloc (.cells (cellsOf (inB s.data.toList)) 158)) := ((Below.refl _ _).alloc (Nat.le_refl _) _).alloc (by simp) _
   generalize ((w.alloc (.cells (cellsOf fun _ => false) 158)).alloc (.cells (cellsOf (inB s.data.toList)) 158)) = w2 at h2 h3 hb ⊢
   have H2 := Lib.hid h2
   have H3 := Lib.hid h3
   clear h2 h3 hz
   go_wp2_with (refine wpList_load_row rfl 158 (.tmp 3) rfl _ rfl 158 _ _ _ H3.out Tryz.underlying158 rfl (by rw [cellsOf_size]; exact sizeSet) ?_; refine wpList_store_row rfl 158 (.tmp 2) (.tmp 15) rfl _ _ rfl rfl 158 _ H2.out (by rw [cellsOf_size]; exact sizeSet) (by simp only [cellsOf_size]) (cellsOf_one _) ?_)
   refine bodyPost_ret (v := .agg (cellsOf (inB s.data.toList))) ?_ rfl ⟨rfl, below_setRow hb (Nat.le_refl _) _⟩
   exact results_cell_row Tryz.results150 _ _ w.heap.size 158 _ (0, 0) _ rfl (setRow_heap _ _ _ _ _ _ H2.out) Tryz.underlying158 rfl (by rw [cellsOf_size]; exact sizeSet)
end Go.Proofs.YtgeonppckeiceaaGreatDoor.Ms
