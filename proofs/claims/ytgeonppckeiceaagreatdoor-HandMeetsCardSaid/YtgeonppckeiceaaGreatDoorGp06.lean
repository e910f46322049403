/- What is sealed and opened: contracts of all the program's calls of layer 5, as functions of a store's terms. -/
/- The program's Seal, Open, Text and Read, as functions of a store's terms. -/
/- The document's Seal, Open, Text and Read, as functions of a store's terms. -/
/- What is sealed is named, where there is room, and what opens it. -/
/- Offers in plain words: sets of versions, falling texts, what two offers have. -/
import Derived.Test.YtgeonppckeiceaaGreatDoorGp05
import Derived.Deep.RegionHeld3
import Derived.Test.YtgeonppckeiceaaGreatDoorProg
import Derived.Lib.Hide
namespace Go.Proofs.YtgeonppckeiceaaGreatDoor
open Go.RowKit
set_option linter.unusedVariables false

def sealT (k n b p : Int) : Tm := ⟨10, ⟨#[]⟩, n, k, b, p⟩
def textT (S : ByteArray) : Tm := ⟨1, S, 0, 0, 0, 0⟩
theorem seal_wf {k n b p : Int} (hk : I64 k) (hn : U64 n) (hb : I64 b) (hp : I64 p) : Wf (sealT k n b p) := ⟨wf_emp, k10, hn, hk, hb, hp⟩
theorem text_wf {S : ByteArray} (h : S.size ≤ maxLen) : Wf (textT S) := ⟨h, k1, u0, k0, k0, k0⟩

/-- What is wrong, out of what the tests tell: both names ahead are there, the sealed one is, it is that Seal, and what it was is a text. -/
def wrong (okk okb okx eq : Bool) : Int := if okk && okb then (if okx then (if eq then 0 else 9) else 1) else 1
section
variable {base g : Nat} {most : Int} {Q2 : (Nat → Prop) → List Tm → World → Prop} {L L2 : List Tm} {K : Nat → Prop} {w0 w : World}

set_option maxHeartbeats 400000 in
theorem sealOf_c (k n b p : Int) (w : World) : Calls Tryz.prog 231 #[.int .i64 k, .int .u64 n, .int .i64 b, .int .i64 p] w fun e w' => e = .returned (sealT k n b p).v ∧ Below w.heap.size w w' := by
  go_enter Tryz.func231, Tryz.ntmps231
  go_wp2
  exact bodyPost_ret (v := (sealT k n b p).v) (by simp [results, Tryz.results231, go_sem, sealT, Tm.v]) rfl ⟨rfl, (Below.refl _ _).alloc (Nat.le_refl _) _⟩

set_option maxHeartbeats 400000 in
theorem Pair.isTermP {t : Tm} {ok : Bool} {x : Int} (g2 : Good base Q2) (h : Pair base (PSq base g most) Q2 L L2 K w0 w) (hx : getT L x = (t, ok)) :
    Calls Tryz.prog 240 #[.pointer (some ⟨g, 0, none⟩), .int .i64 x] w (One (.bool ok) (Pair base (PSq base g most) Q2 L L2 K w0) w) := by
  have gP := PSq.good base g most
  obtain ⟨TK, TS, TN, TA, TB, TC⟩ := t
  have H := Lib.hid h
  have HX := Lib.hid hx
  clear h hx
  go_enter Tryz.func240, Tryz.ntmps240
  go_wp2_with fail
  refine (H.out.getP g2 x HX.out).mono ?_
  rintro e w1 ⟨rfl, h1, hb1⟩
  rw [show ((⟨TK, TS, TN, TA, TB, TC⟩, ok) : Tm × Bool).1.v = .agg #[.int .i64 TK, .string TS, .int .u64 TN, .int .i64 TA, .int .i64 TB, .int .i64 TC] from rfl]
  have H1 := Lib.hid (h1.below gP g2 ((Below.refl _ _).alloc (Nat.le_refl _) (.cells #[.int .i64 TK, .string TS, .int .u64 TN, .int .i64 TA, .int .i64 TB, .int .i64 TC] 116)))
  have HB1 := Lib.hid (hb1.alloc hb1.size (.cells #[.int .i64 TK, .string TS, .int .u64 TN, .int .i64 TA, .int .i64 TB, .int .i64 TC] 116))
  clear h1 hb1 H
  go_wp2
  go_ret
  exact ⟨rfl, H1.out, HB1.out⟩

set_option maxHeartbeats 400000 in
theorem Pair.plainOfP {K' : Int} {S' : ByteArray} {N' A' B' C' : Int} {ok : Bool} {x : Int} (g2 : Good base Q2) (h : Pair base (PSq base g most) Q2 L L2 K w0 w) (hx : getT L x = (⟨K', S', N', A', B', C'⟩, ok)) :
    Calls Tryz.prog 233 #[.pointer (some ⟨g, 0, none⟩), .int .i64 x] w (One (.int .i64 C') (Pair base (PSq base g most) Q2 L L2 K w0) w) := by
  have gP := PSq.good base g most
  have H := Lib.hid h
  have HX := Lib.hid hx
  clear h hx
  go_enter Tryz.func233, Tryz.ntmps233
  go_wp2_with fail
  refine (H.out.getP g2 x HX.out).mono ?_
  rintro e w1 ⟨rfl, h1, hb1⟩
  rw [show ((⟨K', S', N', A', B', C'⟩, ok) : Tm × Bool).1.v = .agg #[.int .i64 K', .string S', .int .u64 N', .int .i64 A', .int .i64 B', .int .i64 C'] from rfl]
  have H1 := Lib.hid (h1.below gP g2 ((Below.refl _ _).alloc (Nat.le_refl _) (.cells #[.int .i64 K', .string S', .int .u64 N', .int .i64 A', .int .i64 B', .int .i64 C'] 116)))
  have HB1 := Lib.hid (hb1.alloc hb1.size (.cells #[.int .i64 K', .string S', .int .u64 N', .int .i64 A', .int .i64 B', .int .i64 C'] 116))
  clear h1 hb1 H
  go_wp2
  go_ret
  exact ⟨rfl, H1.out, HB1.out⟩


set_option maxHeartbeats 4000000 in
theorem Pair.fault1P {tk tb : Tm} {XK XN XA XB XC : Int} {XS : ByteArray} {okk okb okx okp : Bool} {PK PN PA PB PC : Int} {PS : ByteArray} {k n b x : Int} (g2 : Good base Q2) (h : Pair base (PSq base g most) Q2 L L2 K w0 w) (hk : getT L k = (tk, okk)) (hb : getT L b = (tb, okb)) (hx : getT L x = (⟨XK, XS, XN, XA, XB, XC⟩, okx)) (hp : getT L XC = (⟨PK, PS, PN, PA, PB, PC⟩, okp)) :
    Calls Tryz.prog 232 #[.pointer (some ⟨g, 0, none⟩), .int .i64 1, .int .i64 k, .int .u64 n, .int .i64 b, .int .i64 x] w (One (.int .i64 (wrong okk okb okx (eqB ⟨XK, XS, XN, XA, XB, XC⟩ (sealT k n b XC)))) (Pair base (PSq base g most) Q2 L L2 K w0) w) := by
  have gP := PSq.good base g most
  have H := Lib.hid h
  have HK := Lib.hid hk
  have HB := Lib.hid hb
  have HX := Lib.hid hx
  have HP := Lib.hid hp
  obtain ⟨q, hq⟩ : ∃ q, eqB ⟨XK, XS, XN, XA, XB, XC⟩ (sealT k n b XC) = q := ⟨_, rfl⟩
  rw [hq]
  have HQ := Lib.hid hq
  clear h hk hb hx hp hq
  go_enter Tryz.func232, Tryz.ntmps232
  go_wp2_with fail
  refine (H.out.getP g2 x HX.out).mono ?_
  rintro e w1 ⟨rfl, hp, hb⟩
  rw [show ((⟨XK, XS, XN, XA, XB, XC⟩, okx) : Tm × Bool).1.v = .agg #[.int .i64 XK, .string XS, .int .u64 XN, .int .i64 XA, .int .i64 XB, .int .i64 XC] from rfl]
  have H1 := Lib.hid (hp.below gP g2 ((Below.refl _ _).alloc (Nat.le_refl _) (.cells #[.int .i64 XK, .string XS, .int .u64 XN, .int .i64 XA, .int .i64 XB, .int .i64 XC] 116)))
  have HB1 := Lib.hid (hb.alloc hb.size (.cells #[.int .i64 XK, .string XS, .int .u64 XN, .int .i64 XA, .int .i64 XB, .int .i64 XC] 116))
  clear hp hb H
  have hbx := heap_alloc_new w1 (.cells #[.int .i64 XK, .string XS, .int .u64 XN, .int .i64 XA, .int .i64 XB, .int .i64 XC] 116)
  have hS : (w1.alloc (.cells #[.int .i64 XK, .string XS, .int .u64 XN, .int .i64 XA, .int .i64 XB, .int .i64 XC] 116)).drew.cell? ⟨w1.heap.size, 0, none⟩ = some (.int .i64 XK) ∧ (w1.alloc (.cells #[.int .i64 XK, .string XS, .int .u64 XN, .int .i64 XA, .int .i64 XB, .int .i64 XC] 116)).drew.cell? ⟨w1.heap.size, 1, none⟩ = some (.string XS) ∧ (w1.alloc (.cells #[.int .i64 XK, .string XS, .int .u64 XN, .int .i64 XA, .int .i64 XB, .int .i64 XC] 116)).drew.cell? ⟨w1.heap.size, 2, none⟩ = some (.int .u64 XN) ∧ (w1.alloc (.cells #[.int .i64 XK, .string XS, .int .u64 XN, .int .i64 XA, .int .i64 XB, .int .i64 XC] 116)).drew.cell? ⟨w1.heap.size, 3, none⟩ = some (.int .i64 XA) ∧ (w1.alloc (.cells #[.int .i64 XK, .string XS, .int .u64 XN, .int .i64 XA, .int .i64 XB, .int .i64 XC] 116)).drew.cell? ⟨w1.heap.size, 4, none⟩ = some (.int .i64 XB) ∧ (w1.alloc (.cells #[.int .i64 XK, .string XS, .int .u64 XN, .int .i64 XA, .int .i64 XB, .int .i64 XC] 116)).drew.cell? ⟨w1.heap.size, 5, none⟩ = some (.int .i64 XC) := ⟨cell_of_row _ _ 0 _ _ _ hbx, cell_of_row _ _ 1 _ _ _ hbx, cell_of_row _ _ 2 _ _ _ hbx, cell_of_row _ _ 3 _ _ _ hbx, cell_of_row _ _ 4 _ _ _ hbx, cell_of_row _ _ 5 _ _ _ hbx⟩
  have hS' := hS
  have HC : Hid (∀ W, Calls Tryz.prog 231 #[.int .i64 k, .int .u64 n, .int .i64 b, .int .i64 XC] W fun e w' => e = .returned (.agg #[.int .i64 10, .string ⟨#[]⟩, .int .u64 n, .int .i64 k, .int .i64 b, .int .i64 XC]) ∧ Below W.heap.size W w') := Lib.hid (fun W => sealOf_c k n b XC W)
  have hlt1 : w1.heap.size < (w1.alloc (.cells #[.int .i64 XK, .string XS, .int .u64 XN, .int .i64 XA, .int .i64 XB, .int .i64 XC] 116)).drew.heap.size := by simp
  have hE := neq_termP ⟨XK, XS, XN, XA, XB, XC⟩ (sealT k n b XC)
  have hgd := guard32
  rw [HQ.out] at hE
  unfold Tm.v sealT at hE
  simp only [] at hE
  clear hbx
  go_wp2
  go_region_held3 (fun w' => w'.cell? ⟨w1.heap.size, 0, none⟩ = some (.int .i64 XK) ∧ w'.cell? ⟨w1.heap.size, 1, none⟩ = some (.string XS) ∧ w'.cell? ⟨w1.heap.size, 2, none⟩ = some (.int .u64 XN) ∧ w'.cell? ⟨w1.heap.size, 3, none⟩ = some (.int .i64 XA) ∧ w'.cell? ⟨w1.heap.size, 4, none⟩ = some (.int .i64 XB) ∧ w'.cell? ⟨w1.heap.size, 5, none⟩ = some (.int .i64 XC)) (first | assumption | go_keep) ((go_at_call 231; refine (HC.out _).mono ?_; rintro e w2 ⟨rfl, hb⟩; have hS2 : w2.cell? ⟨w1.heap.size, 0, none⟩ = some (.int .i64 XK) ∧ w2.cell? ⟨w1.heap.size, 1, none⟩ = some (.string XS) ∧ w2.cell? ⟨w1.heap.size, 2, none⟩ = some (.int .u64 XN) ∧ w2.cell? ⟨w1.heap.size, 3, none⟩ = some (.int .i64 XA) ∧ w2.cell? ⟨w1.heap.size, 4, none⟩ = some (.int .i64 XB) ∧ w2.cell? ⟨w1.heap.size, 5, none⟩ = some (.int .i64 XC) := ⟨(hb.cell (by exact hlt1)).trans hS.1, (hb.cell (by exact hlt1)).trans hS.2.1, (hb.cell (by exact hlt1)).trans hS.2.2.1, (hb.cell (by exact hlt1)).trans hS.2.2.2.1, (hb.cell (by exact hlt1)).trans hS.2.2.2.2.1, (hb.cell (by exact hlt1)).trans hS.2.2.2.2.2⟩))
  have hbd := ((Below.refl (w1.alloc (.cells #[.int .i64 XK, .string XS, .int .u64 XN, .int .i64 XA, .int .i64 XB, .int .i64 XC] 116)).heap.size (w1.alloc (.cells #[.int .i64 XK, .string XS, .int .u64 XN, .int .i64 XA, .int .i64 XB, .int .i64 XC] 116))).drew).trans hb
  have H2 := Lib.hid (H1.out.below gP g2 hbd)
  have HB2 := Lib.hid (HB1.out.trans (hbd.mono HB1.out.size))
  clear hE hgd hS hS' HC hb hbd H1 HB1 hS2 hlt1
  cases q with
  | false =>
    go_wp2_with fail
    refine (H2.out.isTermP g2 HX.out).mono ?_
    rintro e w3 ⟨rfl, hp, hb⟩
    have H3 := Lib.hid hp
    have HB3 := Lib.hid (HB2.out.trans (hb.mono HB2.out.size))
    clear hp hb H2 HB2
    cases okx with
    | false =>
      cases okk with
      | false =>
        go_wp2_with fail
        refine (H3.out.isTermP g2 HK.out).mono ?_
        rintro e w4 ⟨rfl, hp, hb⟩
        have H4 := Lib.hid hp
        have HB4 := Lib.hid (HB3.out.trans (hb.mono HB3.out.size))
        clear hp hb H3 HB3
        go_wp2
        go_ret
        exact ⟨rfl, H4.out, HB4.out⟩
      | true =>
        go_wp2_with fail
        refine (H3.out.isTermP g2 HK.out).mono ?_
        rintro e w4 ⟨rfl, hp, hb⟩
        have H4 := Lib.hid hp
        have HB4 := Lib.hid (HB3.out.trans (hb.mono HB3.out.size))
        clear hp hb H3 HB3
        go_wp2_with fail
        refine (H4.out.isTermP g2 HB.out).mono ?_
        rintro e w5 ⟨rfl, hp, hb⟩
        have H5 := Lib.hid hp
        have HB5 := Lib.hid (HB4.out.trans (hb.mono HB4.out.size))
        clear hp hb H4 HB4
        cases okb with
        | false =>
          go_wp2
          go_ret
          exact ⟨rfl, H5.out, HB5.out⟩
        | true =>
          go_wp2
          go_ret
          exact ⟨rfl, H5.out, HB5.out⟩
    | true =>
      cases okk with
      | false =>
        go_wp2_with fail
        refine (H3.out.isTermP g2 HK.out).mono ?_
        rintro e w4 ⟨rfl, hp, hb⟩
        have H4 := Lib.hid hp
        have HB4 := Lib.hid (HB3.out.trans (hb.mono HB3.out.size))
        clear hp hb H3 HB3
        go_wp2
        go_ret
        exact ⟨rfl, H4.out, HB4.out⟩
      | true =>
        go_wp2_with fail
        refine (H3.out.isTermP g2 HK.out).mono ?_
        rintro e w4 ⟨rfl, hp, hb⟩
        have H4 := Lib.hid hp
        have HB4 := Lib.hid (HB3.out.trans (hb.mono HB3.out.size))
        clear hp hb H3 HB3
        go_wp2_with fail
        refine (H4.out.isTermP g2 HB.out).mono ?_
        rintro e w5 ⟨rfl, hp, hb⟩
        have H5 := Lib.hid hp
        have HB5 := Lib.hid (HB4.out.trans (hb.mono HB4.out.size))
        clear hp hb H4 HB4
        cases okb with
        | false =>
          go_wp2
          go_ret
          exact ⟨rfl, H5.out, HB5.out⟩
        | true =>
          go_wp2
          go_ret
          exact ⟨rfl, H5.out, HB5.out⟩
  | true =>
    go_wp2_with fail
    refine (H2.out.isTermP g2 HX.out).mono ?_
    rintro e w3 ⟨rfl, hp, hb⟩
    have H3 := Lib.hid hp
    have HB3 := Lib.hid (HB2.out.trans (hb.mono HB2.out.size))
    clear hp hb H2 HB2
    cases okx with
    | false =>
      cases okk with
      | false =>
        go_wp2_with fail
        refine (H3.out.isTermP g2 HK.out).mono ?_
        rintro e w4 ⟨rfl, hp, hb⟩
        have H4 := Lib.hid hp
        have HB4 := Lib.hid (HB3.out.trans (hb.mono HB3.out.size))
        clear hp hb H3 HB3
        go_wp2
        go_ret
        exact ⟨rfl, H4.out, HB4.out⟩
      | true =>
        go_wp2_with fail
        refine (H3.out.isTermP g2 HK.out).mono ?_
        rintro e w4 ⟨rfl, hp, hb⟩
        have H4 := Lib.hid hp
        have HB4 := Lib.hid (HB3.out.trans (hb.mono HB3.out.size))
        clear hp hb H3 HB3
        go_wp2_with fail
        refine (H4.out.isTermP g2 HB.out).mono ?_
        rintro e w5 ⟨rfl, hp, hb⟩
        have H5 := Lib.hid hp
        have HB5 := Lib.hid (HB4.out.trans (hb.mono HB4.out.size))
        clear hp hb H4 HB4
        cases okb with
        | false =>
          go_wp2
          go_ret
          exact ⟨rfl, H5.out, HB5.out⟩
        | true =>
          go_wp2
          go_ret
          exact ⟨rfl, H5.out, HB5.out⟩
    | true =>
      cases okk with
      | false =>
        go_wp2_with fail
        refine (H3.out.isTermP g2 HK.out).mono ?_
        rintro e w4 ⟨rfl, hp, hb⟩
        have H4 := Lib.hid hp
        have HB4 := Lib.hid (HB3.out.trans (hb.mono HB3.out.size))
        clear hp hb H3 HB3
        go_wp2
        go_ret
        exact ⟨rfl, H4.out, HB4.out⟩
      | true =>
        go_wp2_with fail
        refine (H3.out.isTermP g2 HK.out).mono ?_
        rintro e w4 ⟨rfl, hp, hb⟩
        have H4 := Lib.hid hp
        have HB4 := Lib.hid (HB3.out.trans (hb.mono HB3.out.size))
        clear hp hb H3 HB3
        go_wp2_with fail
        refine (H4.out.isTermP g2 HB.out).mono ?_
        rintro e w5 ⟨rfl, hp, hb⟩
        have H5 := Lib.hid hp
        have HB5 := Lib.hid (HB4.out.trans (hb.mono HB4.out.size))
        clear hp hb H4 HB4
        cases okb with
        | false =>
          go_wp2
          go_ret
          exact ⟨rfl, H5.out, HB5.out⟩
        | true =>
          go_wp2
          go_ret
          exact ⟨rfl, H5.out, HB5.out⟩

end
end Go.Proofs.YtgeonppckeiceaaGreatDoor
namespace Go.Proofs.YtgeonppckeiceaaGreatDoor
open Go.RowKit
set_option linter.unusedVariables false
section
variable {base g : Nat} {most : Int} {Q2 : (Nat → Prop) → List Tm → World → Prop} {L L2 : List Tm} {K : Nat → Prop} {w0 w : World}

theorem Pair.fault1v {tk tb : Tm} {XK XN XA XB XC v : Int} {XS : ByteArray} {okk okb okx : Bool} {k n b x : Int} (g2 : Good base Q2) (h : Pair base (PSq base g most) Q2 L L2 K w0 w) (hk : getT L k = (tk, okk)) (hb : getT L b = (tb, okb)) (hx : getT L x = (⟨XK, XS, XN, XA, XB, XC⟩, okx)) (hv : wrong okk okb okx (eqB ⟨XK, XS, XN, XA, XB, XC⟩ (sealT k n b XC)) = v) :
    Calls Tryz.prog 232 #[.pointer (some ⟨g, 0, none⟩), .int .i64 1, .int .i64 k, .int .u64 n, .int .i64 b, .int .i64 x] w (One (.int .i64 v) (Pair base (PSq base g most) Q2 L L2 K w0) w) := by
  obtain ⟨⟨PK, PS, PN, PA, PB, PC⟩, hp⟩ : ∃ t, (getT L XC).1 = t := ⟨_, rfl⟩
  have c := h.fault1P (n := n) g2 hk hb hx (hp := by rw [← hp])
  rw [hv] at c
  exact c

/-- What is opened, and read: the name, or the text, and what is wrong. -/
def openF (L : List Tm) (k n b x : Int) : Int × Int :=
  let e := wrong (getT L k).2 (getT L b).2 (getT L x).2 (eqB (getT L x).1 (sealT k n b (getT L x).1.C))
  (if e = 0 then (getT L x).1.C else 0, e)
set_option maxHeartbeats 1000000 in
theorem Pair.sealP {L' : List Tm} {a e k n b p : Int} (g2 : Good base Q2) (h : Pair base (PSq base g most) Q2 L L2 K w0 w) (hk : I64 k) (hn : U64 n) (hb : I64 b) (hp : I64 p) (hf : putF L most (sealT k n b p) = (a, e, L')) :
    Calls Tryz.prog 220 #[.pointer (some ⟨g, 0, none⟩), .int .i64 k, .int .u64 n, .int .i64 b, .int .i64 p] w (TwoK (.int .i64 a) (.int .i64 e) (Pair base (PSq base g most) Q2 L' L2 K w0) K w) := by
  have gP := PSq.good base g most
  have HKl := Lib.hid (show ∀ k, K k → k < w.heap.size by obtain ⟨F1, F2, _, _, _, h4, _⟩ := h; exact fun k hk => (h4 k hk).2.2)
  have H := Lib.hid h
  have HW := Lib.hid (seal_wf hk hn hb hp)
  have HF := Lib.hid hf
  clear h hk hn hb hp hf
  go_enter Tryz.func220, Tryz.ntmps220
  go_wp2_with fail
  refine (sealOf_c k n b p _).mono ?_
  rintro e1 w1 ⟨rfl, hb1⟩
  have H1 := Lib.hid (H.out.below gP g2 hb1)
  have HB1 := Lib.hid hb1
  clear hb1 H
  go_wp2_with fail
  refine (H1.out.putP g2 (sealT k n b p) HW.out HF.out).mono ?_
  rintro e2 w2 ⟨rfl, h2, hk2⟩
  have H2 := Lib.hid h2
  have HK2 := Lib.hid hk2
  clear h2 hk2 H1
  go_wp2_with fail
  go_ret2
  exact ⟨rfl, H2.out, fun k hk => (HK2.out k hk).trans (HB1.out.block k (HKl.out k hk))⟩

set_option maxHeartbeats 1000000 in
theorem Pair.aopenP {a e k n b x : Int} (g2 : Good base Q2) (h : Pair base (PSq base g most) Q2 L L2 K w0 w) (hf : openF L k n b x = (a, e)) :
    Calls Tryz.prog 222 #[.pointer (some ⟨g, 0, none⟩), .int .i64 k, .int .u64 n, .int .i64 b, .int .i64 x] w (Two (.int .i64 a) (.int .i64 e) (Pair base (PSq base g most) Q2 L L2 K w0) w) := by
  have gP := PSq.good base g most
  obtain ⟨⟨tk, okk⟩, hgk⟩ : ∃ y, getT L k = y := ⟨_, rfl⟩
  obtain ⟨⟨tb, okb⟩, hgb⟩ : ∃ y, getT L b = y := ⟨_, rfl⟩
  obtain ⟨⟨⟨XK, XS, XN, XA, XB, XC⟩, okx⟩, hgx⟩ : ∃ y, getT L x = y := ⟨_, rfl⟩
  obtain ⟨v, hv⟩ : ∃ v, wrong okk okb okx (eqB ⟨XK, XS, XN, XA, XB, XC⟩ (sealT k n b XC)) = v := ⟨_, rfl⟩
  unfold openF at hf
  rw [hgk, hgb, hgx] at hf
  simp only [] at hf
  rw [hv] at hf
  injection hf with f1 f2
  subst f2
  have HGK := Lib.hid hgk
  have HGB := Lib.hid hgb
  have HGX := Lib.hid hgx
  have HV := Lib.hid hv
  have H := Lib.hid h
  clear hgk hgb hgx hv h
  by_cases h0 : v = 0
  · have h00 : (v != 0) = false := by simpa using h0
    rw [if_pos h0] at f1
    subst f1
    subst h0
    clear h00
    go_enter Tryz.func222, Tryz.ntmps222
    go_wp2_with fail
    refine (H.out.fault1v g2 HGK.out HGB.out HGX.out HV.out).mono ?_
    rintro e w1 ⟨rfl, hp, hb⟩
    have H1 := Lib.hid hp
    have HB1 := Lib.hid (hb)
    clear hp hb H
    go_wp2_with fail
    refine (H1.out.plainOfP g2 HGX.out).mono ?_
    rintro e w2 ⟨rfl, hp, hb⟩
    have H2 := Lib.hid hp
    have HB2 := Lib.hid (HB1.out.trans (hb.mono HB1.out.size))
    clear hp hb H1 HB1
    go_wp2
    go_ret2
    exact ⟨rfl, H2.out, HB2.out⟩
  · have h00 : (v != 0) = true := by simpa using h0
    rw [if_neg h0] at f1
    subst f1
    clear h0
    go_enter Tryz.func222, Tryz.ntmps222
    go_wp2_with fail
    refine (H.out.fault1v g2 HGK.out HGB.out HGX.out HV.out).mono ?_
    rintro e w1 ⟨rfl, hp, hb⟩
    have H1 := Lib.hid hp
    have HB1 := Lib.hid (hb)
    clear hp hb H
    go_wp2
    go_ret2
    exact ⟨rfl, H1.out, HB1.out⟩


end
end Go.Proofs.YtgeonppckeiceaaGreatDoor
namespace Go.Proofs.YtgeonppckeiceaaGreatDoor
open Go.RowKit
set_option linter.unusedVariables false
section
variable {base g : Nat} {most : Int} {Q2 : (Nat → Prop) → List Tm → World → Prop} {L L2 : List Tm} {K : Nat → Prop} {w0 w : World}

end
end Go.Proofs.YtgeonppckeiceaaGreatDoor
namespace Go.Proofs.YtgeonppckeiceaaGreatDoor
open Go.RowKit
set_option linter.unusedVariables false
set_option linter.unusedSimpArgs false

theorem may_textT {n : Nat} {S : ByteArray} (h : S.size ≤ 1000) : (textT S).may n = true := by
  rw [may_iff]
  simp [May, below3, BadP, many, prt, textT, sz0]
  omega
theorem may_seal {n : Nat} {k w b p : Int} (h1 : 1 ≤ k ∧ k ≤ (n : Int)) (h2 : 1 ≤ b ∧ b ≤ (n : Int)) (h3 : 1 ≤ p ∧ p ≤ (n : Int)) : (sealT k w b p).may n = true := by
  rw [may_iff]
  simp [May, below3, BadP, many, prt, sealT, sz0]
  omega
theorem seal_eq {k w b p k' w' b' p' : Int} : sealT k w b p = sealT k' w' b' p' ↔ k = k' ∧ w = w' ∧ b = b' ∧ p = p' := by
  unfold sealT
  simp only [Tm.mk.injEq, true_and]
  constructor
  · rintro ⟨a, b, c, d⟩; exact ⟨b, a, c, d⟩
  · rintro ⟨a, b, c, d⟩; exact ⟨b, a, c, d⟩
theorem open_at {L : List Tm} {k w b t c k' w' b' : Int} (h : Named L c (sealT k w b t)) (hk : 1 ≤ k' ∧ k' ≤ (L.length : Int)) (hb : 1 ≤ b' ∧ b' ≤ (L.length : Int)) :
    openF L k' w' b' c = if k' = k ∧ w' = w ∧ b' = b then (t, 0) else (0, 9) := by
  obtain ⟨tk, gk⟩ := getT_of hk
  obtain ⟨tb, gb⟩ := getT_of hb
  unfold openF
  rw [gk, gb, h.get]
  simp only []
  by_cases he : k' = k ∧ w' = w ∧ b' = b
  · rw [if_pos he, show eqB (sealT k w b t) (sealT k' w' b' (sealT k w b t).C) = true from (eqB_iff _ _).2 (by obtain ⟨rfl, rfl, rfl⟩ := he; rfl)]
    rfl
  · have : eqB (sealT k w b t) (sealT k' w' b' (sealT k w b t).C) = false := by
      cases hq : eqB (sealT k w b t) (sealT k' w' b' (sealT k w b t).C)
      · rfl
      · have := seal_eq.1 ((eqB_iff _ _).1 hq)
        exact absurd ⟨this.1.symm, this.2.1.symm, this.2.2.1.symm⟩ he
    rw [if_neg he, this]
    rfl
end Go.Proofs.YtgeonppckeiceaaGreatDoor
namespace Go.Proofs.YtgeonppckeiceaaGreatDoor.Ms
set_option linter.unusedVariables false
set_option linter.unusedSimpArgs false

/-- A set's versions above 255 - k, falling. -/
def fallTo (V : Nat → Bool) : Nat → List UInt8
  | 0 => []
  | k + 1 => fallTo V k ++ if V (255 - k) = true then [UInt8.ofNat (255 - k)] else []
/-- A set's versions, falling. -/
def fall (V : Nat → Bool) : List UInt8 := fallTo V 255
/-- Is a number one of a text's bytes? -/
def inB (l : List UInt8) (j : Nat) : Bool := l.any fun c => c.toNat == j
def Falls (l : List UInt8) : Prop := l.Pairwise fun a b => b.toNat < a.toNat
/-- Is a text an offer? -/
def rightB (l : List UInt8) : Bool := decide (1 ≤ l.length) && decide (l.length ≤ 8) && (l == fall (inB l))

theorem inB_iff {l : List UInt8} {j : Nat} : inB l j = true ↔ ∃ c, c ∈ l ∧ c.toNat = j := by simp [inB]
theorem inB_self {l : List UInt8} {c : UInt8} : inB l c.toNat = true ↔ c ∈ l := by
  rw [inB_iff]
  constructor
  · rintro ⟨d, h, e⟩; rw [← UInt8.toNat_inj.1 e]; exact h
  · exact fun h => ⟨c, h, rfl⟩
theorem inB_snoc (l : List UInt8) (c : UInt8) (j : Nat) : inB (l ++ [c]) j = (inB l j || c.toNat == j) := by simp [inB]
theorem toNat_ofNat {n : Nat} (h : n < 256) : (UInt8.ofNat n).toNat = n := by simp; omega
theorem mem_fallTo (V : Nat → Bool) (c : UInt8) : ∀ k, k ≤ 255 → (c ∈ fallTo V k ↔ V c.toNat = true ∧ 255 < c.toNat + k) := by
  intro k
  have hc := UInt8.toNat_lt c
  induction k with
  | zero => intro _; simp [fallTo]; omega
  | succ k ih =>
    intro hk
    rw [fallTo, List.mem_append, ih (by omega)]
    have e : (UInt8.ofNat (255 - k)).toNat = 255 - k := toNat_ofNat (by omega)
    constructor
    · rintro (⟨h1, h2⟩ | h)
      · exact ⟨h1, by omega⟩
      · split at h
        · rename_i hv
          rw [List.mem_singleton] at h
          rw [h, e]; exact ⟨hv, by omega⟩
        · simp at h
    · rintro ⟨h1, h2⟩
      rcases (by omega : 255 < c.toNat + k ∨ c.toNat = 255 - k) with q | q
      · exact .inl ⟨h1, q⟩
      · refine .inr ?_
        rw [if_pos (by rw [← q]; exact h1), List.mem_singleton, ← UInt8.toNat_inj, e, q]
theorem mem_fall {V : Nat → Bool} {c : UInt8} : c ∈ fall V ↔ V c.toNat = true ∧ 1 ≤ c.toNat := by
  rw [fall, mem_fallTo V c 255 (Nat.le_refl _)]
  constructor
  · exact fun h => ⟨h.1, by omega⟩
  · exact fun h => ⟨h.1, by omega⟩
theorem fallTo_len (V : Nat → Bool) : ∀ k, (fallTo V k).length ≤ k := by
  intro k
  induction k with
  | zero => simp [fallTo]
  | succ k ih => rw [fallTo, List.length_append]; split <;> simp <;> omega
theorem fall_len (V : Nat → Bool) : (fall V).length ≤ 255 := fallTo_len V 255
theorem fallTo_falls (V : Nat → Bool) : ∀ k, k ≤ 255 → Falls (fallTo V k) := by
  intro k
  induction k with
  | zero => intro _; simp [fallTo, Falls]
  | succ k ih =>
    intro hk
    rw [fallTo, Falls, List.pairwise_append]
    refine ⟨ih (by omega), by split <;> simp, fun a ha b hb => ?_⟩
    split at hb
    · rw [List.mem_singleton] at hb
      rw [hb, toNat_ofNat (by omega)]
      have := ((mem_fallTo V a k (by omega)).1 ha).2
      omega
    · simp at hb
theorem fall_falls (V : Nat → Bool) : Falls (fall V) := fallTo_falls V 255 (Nat.le_refl _)
theorem falls_ext : ∀ {l m : List UInt8}, Falls l → Falls m → (∀ c, c ∈ l ↔ c ∈ m) → l = m
  | [], [], _, _, _ => rfl
  | [], b :: m, _, _, h => by have := (h b).2 (by simp); simp at this
  | a :: l, [], _, _, h => by have := (h a).1 (by simp); simp at this
  | a :: l, b :: m, h1, h2, h => by
    rw [Falls, List.pairwise_cons] at h1 h2
    have e : a = b := by
      rcases List.mem_cons.1 ((h a).1 (by simp)) with q | q
      · exact q
      · rcases List.mem_cons.1 ((h b).2 (by simp)) with r | r
        · exact r.symm
        · have := h2.1 a q; have := h1.1 b r; omega
    subst e
    congr 1
    refine falls_ext h1.2 h2.2 fun c => ⟨fun hc => ?_, fun hc => ?_⟩
    · rcases List.mem_cons.1 ((h c).1 (List.mem_cons_of_mem _ hc)) with q | q
      · have := h1.1 c hc; rw [q] at this; omega
      · exact q
    · rcases List.mem_cons.1 ((h c).2 (List.mem_cons_of_mem _ hc)) with q | q
      · have := h2.1 c hc; rw [q] at this; omega
      · exact q
theorem fall_inB {l : List UInt8} (h : Falls l) (h0 : ∀ c, c ∈ l → 1 ≤ c.toNat) : fall (inB l) = l := by
  refine falls_ext (fall_falls _) h fun c => ?_
  rw [mem_fall, inB_self]
  exact ⟨fun q => q.1, fun q => ⟨q, h0 c q⟩⟩
theorem right_iff {l : List UInt8} : rightB l = true ↔ 1 ≤ l.length ∧ l.length ≤ 8 ∧ Falls l ∧ ∀ c, c ∈ l → 1 ≤ c.toNat := by
  simp only [rightB, Bool.and_eq_true, decide_eq_true_eq, beq_iff_eq]
  constructor
  · rintro ⟨⟨a, b⟩, c⟩
    refine ⟨a, b, ?_, fun x hx => ?_⟩
    · rw [c]; exact fall_falls _
    · rw [c] at hx; exact (mem_fall.1 hx).2
  · rintro ⟨a, b, c, d⟩
    exact ⟨⟨a, b⟩, (fall_inB c d).symm⟩
theorem right_fall (V : Nat → Bool) : rightB (fall V) = (decide (1 ≤ (fall V).length) && decide ((fall V).length ≤ 8)) := by
  rw [Bool.eq_iff_iff, right_iff]
  simp only [Bool.and_eq_true, decide_eq_true_eq]
  exact ⟨fun h => ⟨h.1, h.2.1⟩, fun h => ⟨h.1, h.2, fall_falls V, fun c hc => (mem_fall.1 hc).2⟩⟩
/-- What Make tells. -/
def okV (l : List Int) : Bool := l.all fun x => decide (1 ≤ x) && decide (x ≤ 255)
def vers (l : List Int) (j : Nat) : Bool := l.contains (j : Int)
def makeB (l : List Int) : Bool := okV l && rightB (fall (vers l))
def makeS (l : List Int) : List UInt8 := if makeB l = true then fall (vers l) else []
def makeE (l : List Int) : Int := if makeB l = true then 0 else 1
/-- What Both and Best tell. -/
def capB (a b : List UInt8) (j : Nat) : Bool := inB a j && inB b j
def formB (a b : List UInt8) : Bool := rightB a && rightB b
def bothS (a b : List UInt8) : List UInt8 := if formB a b = true then fall (capB a b) else []
def bestV (a b : List UInt8) : Int := match bothS a b with | [] => 0 | c :: _ => (c.toNat : Int)
def bestE (a b : List UInt8) : Int := if formB a b = true then (match bothS a b with | [] => 11 | _ :: _ => 0) else 3

theorem vers_iff {l : List Int} {j : Nat} : vers l j = true ↔ (j : Int) ∈ l := by simp [vers]
theorem vers_snoc (l : List Int) (x : Int) (j : Nat) : vers (l ++ [x]) j = (vers l j || decide ((j : Int) = x)) := by
  rw [Bool.eq_iff_iff, vers_iff]
  simp only [List.mem_append, List.mem_singleton, Bool.or_eq_true, decide_eq_true_eq, vers_iff]
theorem okV_iff {l : List Int} : okV l = true ↔ ∀ x, x ∈ l → 1 ≤ x ∧ x ≤ 255 := by simp [okV]
theorem okV_snoc (l : List Int) (x : Int) : okV (l ++ [x]) = (okV l && (decide (1 ≤ x) && decide (x ≤ 255))) := by simp [okV]
theorem makeB_bad {l : List Int} (h : okV l = false) : makeB l = false := by simp [makeB, h]
end Go.Proofs.YtgeonppckeiceaaGreatDoor.Ms
