/- What is sealed and opened: contracts of all the program's calls of layer 5, as functions of a store's terms. -/
import Derived.Test.YtlejejeflgnglaaWords
import Derived.Deep.RegionHeld3
namespace Go.Proofs.Ytlejejeflgnglaa
open Go.RowKit
set_option linter.unusedVariables false

def sealT (k n b p : Int) : Tm := ⟨10, ⟨#[]⟩, n, k, b, p⟩
def textT (S : ByteArray) : Tm := ⟨1, S, 0, 0, 0, 0⟩
theorem seal_wf {k n b p : Int} (hk : I64 k) (hn : U64 n) (hb : I64 b) (hp : I64 p) : Wf (sealT k n b p) := ⟨wf_emp, k10, hn, hk, hb, hp⟩
theorem text_wf {S : ByteArray} (h : S.size ≤ maxLen) : Wf (textT S) := ⟨h, k1, u0, k0, k0, k0⟩

/-- What is wrong, out of what the tests tell: both names ahead are there, the sealed one is, it is that Seal, and what it was is a text. -/
def wrong (okk okb okx eq : Bool) : Int := if okk && okb then (if okx then (if eq then 0 else 9) else 1) else 1
def wrongT (okk okb okx eq tx : Bool) : Int := if okk && okb then (if okx then (if eq then (if tx then 0 else 9) else 9) else 1) else 1
def wrong2 (okk okb : Bool) : Int := if okk && okb then 0 else 1

section
variable {base g : Nat} {most : Int} {Q2 : (Nat → Prop) → List Tm → World → Prop} {L L2 : List Tm} {K : Nat → Prop} {w0 w : World}

set_option maxHeartbeats 400000 in
theorem sealOf_c (k n b p : Int) (w : World) : Calls Try.prog 63 #[.int .i64 k, .int .u64 n, .int .i64 b, .int .i64 p] w fun e w' => e = .returned (sealT k n b p).v ∧ Below w.heap.size w w' := by
  go_enter Try.func63, Try.ntmps63
  go_wp2
  exact bodyPost_ret (v := (sealT k n b p).v) (by simp [results, Try.results63, go_sem, sealT, Tm.v]) rfl ⟨rfl, (Below.refl _ _).alloc (Nat.le_refl _) _⟩

set_option maxHeartbeats 400000 in
theorem Pair.isTermP {t : Tm} {ok : Bool} {x : Int} (g2 : Good base Q2) (h : Pair base (PSq base g most) Q2 L L2 K w0 w) (hx : getT L x = (t, ok)) :
    Calls Try.prog 69 #[.pointer (some ⟨g, 0, none⟩), .int .i64 x] w (One (.bool ok) (Pair base (PSq base g most) Q2 L L2 K w0) w) := by
  have gP := PSq.good base g most
  obtain ⟨TK, TS, TN, TA, TB, TC⟩ := t
  have H := Lib.hid h
  have HX := Lib.hid hx
  clear h hx
  go_enter Try.func69, Try.ntmps69
  go_wp2_with fail
  refine (H.out.getP g2 x HX.out).mono ?_
  rintro e w1 ⟨rfl, h1, hb1⟩
  rw [show ((⟨TK, TS, TN, TA, TB, TC⟩, ok) : Tm × Bool).1.v = .agg #[.int .i64 TK, .string TS, .int .u64 TN, .int .i64 TA, .int .i64 TB, .int .i64 TC] from rfl]
  have H1 := Lib.hid (h1.below gP g2 ((Below.refl _ _).alloc (Nat.le_refl _) (.cells #[.int .i64 TK, .string TS, .int .u64 TN, .int .i64 TA, .int .i64 TB, .int .i64 TC] 67)))
  have HB1 := Lib.hid (hb1.alloc hb1.size (.cells #[.int .i64 TK, .string TS, .int .u64 TN, .int .i64 TA, .int .i64 TB, .int .i64 TC] 67))
  clear h1 hb1 H
  go_wp2
  go_ret
  exact ⟨rfl, H1.out, HB1.out⟩

set_option maxHeartbeats 400000 in
theorem Pair.plainOfP {K' : Int} {S' : ByteArray} {N' A' B' C' : Int} {ok : Bool} {x : Int} (g2 : Good base Q2) (h : Pair base (PSq base g most) Q2 L L2 K w0 w) (hx : getT L x = (⟨K', S', N', A', B', C'⟩, ok)) :
    Calls Try.prog 65 #[.pointer (some ⟨g, 0, none⟩), .int .i64 x] w (One (.int .i64 C') (Pair base (PSq base g most) Q2 L L2 K w0) w) := by
  have gP := PSq.good base g most
  have H := Lib.hid h
  have HX := Lib.hid hx
  clear h hx
  go_enter Try.func65, Try.ntmps65
  go_wp2_with fail
  refine (H.out.getP g2 x HX.out).mono ?_
  rintro e w1 ⟨rfl, h1, hb1⟩
  rw [show ((⟨K', S', N', A', B', C'⟩, ok) : Tm × Bool).1.v = .agg #[.int .i64 K', .string S', .int .u64 N', .int .i64 A', .int .i64 B', .int .i64 C'] from rfl]
  have H1 := Lib.hid (h1.below gP g2 ((Below.refl _ _).alloc (Nat.le_refl _) (.cells #[.int .i64 K', .string S', .int .u64 N', .int .i64 A', .int .i64 B', .int .i64 C'] 67)))
  have HB1 := Lib.hid (hb1.alloc hb1.size (.cells #[.int .i64 K', .string S', .int .u64 N', .int .i64 A', .int .i64 B', .int .i64 C'] 67))
  clear h1 hb1 H
  go_wp2
  go_ret
  exact ⟨rfl, H1.out, HB1.out⟩


set_option maxHeartbeats 4000000 in
theorem Pair.fault1P {tk tb : Tm} {XK XN XA XB XC : Int} {XS : ByteArray} {okk okb okx okp : Bool} {PK PN PA PB PC : Int} {PS : ByteArray} {k n b x : Int} (g2 : Good base Q2) (h : Pair base (PSq base g most) Q2 L L2 K w0 w) (hk : getT L k = (tk, okk)) (hb : getT L b = (tb, okb)) (hx : getT L x = (⟨XK, XS, XN, XA, XB, XC⟩, okx)) (hp : getT L XC = (⟨PK, PS, PN, PA, PB, PC⟩, okp)) :
    Calls Try.prog 64 #[.pointer (some ⟨g, 0, none⟩), .int .i64 1, .int .i64 k, .int .u64 n, .int .i64 b, .int .i64 x] w (One (.int .i64 (wrong okk okb okx (eqB ⟨XK, XS, XN, XA, XB, XC⟩ (sealT k n b XC)))) (Pair base (PSq base g most) Q2 L L2 K w0) w) := by
  have gP := PSq.good base g most
  have H := Lib.hid h
  have HK := Lib.hid hk
  have HB := Lib.hid hb
  have HX := Lib.hid hx
  have HP := Lib.hid hp
  obtain ⟨q, hq⟩ : ∃ q, eqB ⟨XK, XS, XN, XA, XB, XC⟩ (sealT k n b XC) = q := ⟨_, rfl⟩
  rw [hq]
  have HQ := Lib.hid hq
  clear h hk hb hx hp hq
  go_enter Try.func64, Try.ntmps64
  go_wp2_with fail
  refine (H.out.getP g2 x HX.out).mono ?_
  rintro e w1 ⟨rfl, hp, hb⟩
  rw [show ((⟨XK, XS, XN, XA, XB, XC⟩, okx) : Tm × Bool).1.v = .agg #[.int .i64 XK, .string XS, .int .u64 XN, .int .i64 XA, .int .i64 XB, .int .i64 XC] from rfl]
  have H1 := Lib.hid (hp.below gP g2 ((Below.refl _ _).alloc (Nat.le_refl _) (.cells #[.int .i64 XK, .string XS, .int .u64 XN, .int .i64 XA, .int .i64 XB, .int .i64 XC] 67)))
  have HB1 := Lib.hid (hb.alloc hb.size (.cells #[.int .i64 XK, .string XS, .int .u64 XN, .int .i64 XA, .int .i64 XB, .int .i64 XC] 67))
  clear hp hb H
  have hbx := heap_alloc_new w1 (.cells #[.int .i64 XK, .string XS, .int .u64 XN, .int .i64 XA, .int .i64 XB, .int .i64 XC] 67)
  have hS : (w1.alloc (.cells #[.int .i64 XK, .string XS, .int .u64 XN, .int .i64 XA, .int .i64 XB, .int .i64 XC] 67)).drew.cell? ⟨w1.heap.size, 0, none⟩ = some (.int .i64 XK) ∧ (w1.alloc (.cells #[.int .i64 XK, .string XS, .int .u64 XN, .int .i64 XA, .int .i64 XB, .int .i64 XC] 67)).drew.cell? ⟨w1.heap.size, 1, none⟩ = some (.string XS) ∧ (w1.alloc (.cells #[.int .i64 XK, .string XS, .int .u64 XN, .int .i64 XA, .int .i64 XB, .int .i64 XC] 67)).drew.cell? ⟨w1.heap.size, 2, none⟩ = some (.int .u64 XN) ∧ (w1.alloc (.cells #[.int .i64 XK, .string XS, .int .u64 XN, .int .i64 XA, .int .i64 XB, .int .i64 XC] 67)).drew.cell? ⟨w1.heap.size, 3, none⟩ = some (.int .i64 XA) ∧ (w1.alloc (.cells #[.int .i64 XK, .string XS, .int .u64 XN, .int .i64 XA, .int .i64 XB, .int .i64 XC] 67)).drew.cell? ⟨w1.heap.size, 4, none⟩ = some (.int .i64 XB) ∧ (w1.alloc (.cells #[.int .i64 XK, .string XS, .int .u64 XN, .int .i64 XA, .int .i64 XB, .int .i64 XC] 67)).drew.cell? ⟨w1.heap.size, 5, none⟩ = some (.int .i64 XC) := ⟨cell_of_row _ _ 0 _ _ _ hbx, cell_of_row _ _ 1 _ _ _ hbx, cell_of_row _ _ 2 _ _ _ hbx, cell_of_row _ _ 3 _ _ _ hbx, cell_of_row _ _ 4 _ _ _ hbx, cell_of_row _ _ 5 _ _ _ hbx⟩
  have hS' := hS
  have HC : Hid (∀ W, Calls Try.prog 63 #[.int .i64 k, .int .u64 n, .int .i64 b, .int .i64 XC] W fun e w' => e = .returned (.agg #[.int .i64 10, .string ⟨#[]⟩, .int .u64 n, .int .i64 k, .int .i64 b, .int .i64 XC]) ∧ Below W.heap.size W w') := Lib.hid (fun W => sealOf_c k n b XC W)
  have hlt1 : w1.heap.size < (w1.alloc (.cells #[.int .i64 XK, .string XS, .int .u64 XN, .int .i64 XA, .int .i64 XB, .int .i64 XC] 67)).drew.heap.size := by simp
  have hE := neq_termP ⟨XK, XS, XN, XA, XB, XC⟩ (sealT k n b XC)
  have hgd := guard32
  rw [HQ.out] at hE
  unfold Tm.v sealT at hE
  simp only [] at hE
  clear hbx
  go_wp2
  go_region_held3 (fun w' => w'.cell? ⟨w1.heap.size, 0, none⟩ = some (.int .i64 XK) ∧ w'.cell? ⟨w1.heap.size, 1, none⟩ = some (.string XS) ∧ w'.cell? ⟨w1.heap.size, 2, none⟩ = some (.int .u64 XN) ∧ w'.cell? ⟨w1.heap.size, 3, none⟩ = some (.int .i64 XA) ∧ w'.cell? ⟨w1.heap.size, 4, none⟩ = some (.int .i64 XB) ∧ w'.cell? ⟨w1.heap.size, 5, none⟩ = some (.int .i64 XC)) (first | assumption | go_keep) ((go_at_call 63; refine (HC.out _).mono ?_; rintro e w2 ⟨rfl, hb⟩; have hS2 : w2.cell? ⟨w1.heap.size, 0, none⟩ = some (.int .i64 XK) ∧ w2.cell? ⟨w1.heap.size, 1, none⟩ = some (.string XS) ∧ w2.cell? ⟨w1.heap.size, 2, none⟩ = some (.int .u64 XN) ∧ w2.cell? ⟨w1.heap.size, 3, none⟩ = some (.int .i64 XA) ∧ w2.cell? ⟨w1.heap.size, 4, none⟩ = some (.int .i64 XB) ∧ w2.cell? ⟨w1.heap.size, 5, none⟩ = some (.int .i64 XC) := ⟨(hb.cell (by exact hlt1)).trans hS.1, (hb.cell (by exact hlt1)).trans hS.2.1, (hb.cell (by exact hlt1)).trans hS.2.2.1, (hb.cell (by exact hlt1)).trans hS.2.2.2.1, (hb.cell (by exact hlt1)).trans hS.2.2.2.2.1, (hb.cell (by exact hlt1)).trans hS.2.2.2.2.2⟩))
  have hbd := ((Below.refl (w1.alloc (.cells #[.int .i64 XK, .string XS, .int .u64 XN, .int .i64 XA, .int .i64 XB, .int .i64 XC] 67)).heap.size (w1.alloc (.cells #[.int .i64 XK, .string XS, .int .u64 XN, .int .i64 XA, .int .i64 XB, .int .i64 XC] 67))).drew).trans hb
  have H2 := Lib.hid (H1.out.below gP g2 hbd)
  have HB2 := Lib.hid (HB1.out.trans (hbd.mono HB1.out.size))
  clear hE hgd hS hS' HC hb hbd H1 HB1 hS2 hlt1
  cases q with
  | false =>
    go_wp2_with fail
    refine (H2.out.isTermP g2 HX.out).mono ?_
    rintro e w3 ⟨rfl, hp, hb⟩
    have H3 := Lib.hid hp
    have HB3 := Lib.hid (HB2.out.trans (hb.mono HB2.out.size))
    clear hp hb H2 HB2
    cases okx with
    | false =>
      cases okk with
      | false =>
        go_wp2_with fail
        refine (H3.out.isTermP g2 HK.out).mono ?_
        rintro e w4 ⟨rfl, hp, hb⟩
        have H4 := Lib.hid hp
        have HB4 := Lib.hid (HB3.out.trans (hb.mono HB3.out.size))
        clear hp hb H3 HB3
        go_wp2
        go_ret
        exact ⟨rfl, H4.out, HB4.out⟩
      | true =>
        go_wp2_with fail
        refine (H3.out.isTermP g2 HK.out).mono ?_
        rintro e w4 ⟨rfl, hp, hb⟩
        have H4 := Lib.hid hp
        have HB4 := Lib.hid (HB3.out.trans (hb.mono HB3.out.size))
        clear hp hb H3 HB3
        go_wp2_with fail
        refine (H4.out.isTermP g2 HB.out).mono ?_
        rintro e w5 ⟨rfl, hp, hb⟩
        have H5 := Lib.hid hp
        have HB5 := Lib.hid (HB4.out.trans (hb.mono HB4.out.size))
        clear hp hb H4 HB4
        cases okb with
        | false =>
          go_wp2
          go_ret
          exact ⟨rfl, H5.out, HB5.out⟩
        | true =>
          go_wp2
          go_ret
          exact ⟨rfl, H5.out, HB5.out⟩
    | true =>
      cases okk with
      | false =>
        go_wp2_with fail
        refine (H3.out.isTermP g2 HK.out).mono ?_
        rintro e w4 ⟨rfl, hp, hb⟩
        have H4 := Lib.hid hp
        have HB4 := Lib.hid (HB3.out.trans (hb.mono HB3.out.size))
        clear hp hb H3 HB3
        go_wp2
        go_ret
        exact ⟨rfl, H4.out, HB4.out⟩
      | true =>
        go_wp2_with fail
        refine (H3.out.isTermP g2 HK.out).mono ?_
        rintro e w4 ⟨rfl, hp, hb⟩
        have H4 := Lib.hid hp
        have HB4 := Lib.hid (HB3.out.trans (hb.mono HB3.out.size))
        clear hp hb H3 HB3
        go_wp2_with fail
        refine (H4.out.isTermP g2 HB.out).mono ?_
        rintro e w5 ⟨rfl, hp, hb⟩
        have H5 := Lib.hid hp
        have HB5 := Lib.hid (HB4.out.trans (hb.mono HB4.out.size))
        clear hp hb H4 HB4
        cases okb with
        | false =>
          go_wp2
          go_ret
          exact ⟨rfl, H5.out, HB5.out⟩
        | true =>
          go_wp2
          go_ret
          exact ⟨rfl, H5.out, HB5.out⟩
  | true =>
    go_wp2_with fail
    refine (H2.out.isTermP g2 HX.out).mono ?_
    rintro e w3 ⟨rfl, hp, hb⟩
    have H3 := Lib.hid hp
    have HB3 := Lib.hid (HB2.out.trans (hb.mono HB2.out.size))
    clear hp hb H2 HB2
    cases okx with
    | false =>
      cases okk with
      | false =>
        go_wp2_with fail
        refine (H3.out.isTermP g2 HK.out).mono ?_
        rintro e w4 ⟨rfl, hp, hb⟩
        have H4 := Lib.hid hp
        have HB4 := Lib.hid (HB3.out.trans (hb.mono HB3.out.size))
        clear hp hb H3 HB3
        go_wp2
        go_ret
        exact ⟨rfl, H4.out, HB4.out⟩
      | true =>
        go_wp2_with fail
        refine (H3.out.isTermP g2 HK.out).mono ?_
        rintro e w4 ⟨rfl, hp, hb⟩
        have H4 := Lib.hid hp
        have HB4 := Lib.hid (HB3.out.trans (hb.mono HB3.out.size))
        clear hp hb H3 HB3
        go_wp2_with fail
        refine (H4.out.isTermP g2 HB.out).mono ?_
        rintro e w5 ⟨rfl, hp, hb⟩
        have H5 := Lib.hid hp
        have HB5 := Lib.hid (HB4.out.trans (hb.mono HB4.out.size))
        clear hp hb H4 HB4
        cases okb with
        | false =>
          go_wp2
          go_ret
          exact ⟨rfl, H5.out, HB5.out⟩
        | true =>
          go_wp2
          go_ret
          exact ⟨rfl, H5.out, HB5.out⟩
    | true =>
      cases okk with
      | false =>
        go_wp2_with fail
        refine (H3.out.isTermP g2 HK.out).mono ?_
        rintro e w4 ⟨rfl, hp, hb⟩
        have H4 := Lib.hid hp
        have HB4 := Lib.hid (HB3.out.trans (hb.mono HB3.out.size))
        clear hp hb H3 HB3
        go_wp2
        go_ret
        exact ⟨rfl, H4.out, HB4.out⟩
      | true =>
        go_wp2_with fail
        refine (H3.out.isTermP g2 HK.out).mono ?_
        rintro e w4 ⟨rfl, hp, hb⟩
        have H4 := Lib.hid hp
        have HB4 := Lib.hid (HB3.out.trans (hb.mono HB3.out.size))
        clear hp hb H3 HB3
        go_wp2_with fail
        refine (H4.out.isTermP g2 HB.out).mono ?_
        rintro e w5 ⟨rfl, hp, hb⟩
        have H5 := Lib.hid hp
        have HB5 := Lib.hid (HB4.out.trans (hb.mono HB4.out.size))
        clear hp hb H4 HB4
        cases okb with
        | false =>
          go_wp2
          go_ret
          exact ⟨rfl, H5.out, HB5.out⟩
        | true =>
          go_wp2
          go_ret
          exact ⟨rfl, H5.out, HB5.out⟩

end
end Go.Proofs.Ytlejejeflgnglaa
