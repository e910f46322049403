/- ChainTells: the key of any epoch, the chain of the next one, that of any other one, and the keys that are skipped, or what is wrong, in any store, is as the document says. No condition. -/
import Derived.Test.YtlnpfeecaiecaaaRows
import Derived.Test.YtlnpfeecaiecaaaChnX
import Derived.WalkKit
import Derived.ProofKit
import Derived.OpenShut
import Derived.ShutString
import Derived.ChangeOld
import Derived.Below
import Derived.Test.YtlnpfeecaiecaaaSameL
import Derived.Test.YtlnpfeecaiecaaaOpens
namespace Go.Proofs.Ytlnpfeecaiecaaa.chainTells
open Go.ChangeShapes Go.WideShapes Go.ChangeAt Go.RowKit
open Go.ChangeMaps (open_string shut_string)
open Go.Proofs.Ytlnpfeecaiecaaa
set_option linter.unusedVariables false
set_option linter.unusedSimpArgs false
set_option maxRecDepth 20000

theorem own : ownKnob Try.prog.godebug = none := by kernel_rfl
theorem laidOut : laidOutB Try.prog = true := by kernel_rfl
set_option maxHeartbeats 8000000 in
set_option maxRecDepth 100000 in
theorem walk (a0 : Option Addr) (len0 cap0 : Nat) (T0 : Nat → Tm) (a1 : Option Addr) (len1 cap1 : Nat) (Z1 : Nat → Nat → Int) (w : World) (w0 : Terms w a0 len0 cap0 T0) (w1 : Arrs .i64 3 w a1 len1 cap1 Z1) :
    Calls Try.prog 3 #[.slice a0 len0 cap0, .slice a1 len1 cap1] w fun e w' => e = .returned (.bool true) ∧ Below w.heap.size w w' := by
  have HT0 := Lib.hid w0
  obtain ⟨hcm, hlc, b, off, hz⟩ := w1
  have HZ := Lib.hid hz
  unfold maxLen at hcm
  clear w0 hz
  have gR := fun g => RSq.good w.heap.size g 1000
  have gP := fun g => PSq.good w.heap.size g 1000
  go_enter Try.func3, Try.ntmps3
  go_wp2_with fail
  refine (stores_any 30 a0 len0 cap0 T0 _ (by omega) HT0.out).mono ?_
  rintro e w1 ⟨g1, g2, L, rfl, hL, hp⟩
  have HC0 : Hid (Cs w.heap.size (PSq w.heap.size g1 1000) (RSq w.heap.size g2 1000) L L [] w w1) := Lib.hid (Cs.start hp)
  clear hp hL HT0
  go_wp2_with fail
  go_loopg [7] 20 (fun gk s7 wr => ∃ (k : Nat) (L : List Tm), k + gk = 20 ∧ s7 = .int .i64 (k : Nat) ∧ Hid (Cs w.heap.size (PSq w.heap.size g1 1000) (RSq w.heap.size g2 1000) L L [] w wr))
  case atStart => exact ⟨0, L, by omega, rfl, HC0⟩
  case round =>
    clear HC0 L
    obtain ⟨k, L, hk, rfl, HC⟩ := hrel
    by_cases hlt : k < len1
    · have hlt1 : (k : Int) < (len1 : Int) := by omega
      by_cases h20 : k < 20
      · have h21 : (k : Int) < 20 := by omega
        obtain ⟨rfl, hcl⟩ := HZ.out k hlt
        obtain ⟨q0, wf0⟩ := hcl 0 (by omega)
        obtain ⟨q1, wf1⟩ := hcl 1 (by omega)
        obtain ⟨q2, wf2⟩ := hcl 2 (by omega)
        have HBW : Hid (b < w.heap.size) := Lib.hid (block_lt_of_cell q0)
        obtain ⟨u0, hu0⟩ : ∃ u, u = Z1 k 0 := ⟨_, rfl⟩
        rw [← hu0] at q0 wf0
        obtain ⟨u1, hu1⟩ : ∃ u, u = Z1 k 1 := ⟨_, rfl⟩
        rw [← hu1] at q1 wf1
        obtain ⟨u2, hu2⟩ : ∃ u, u = Z1 k 2 := ⟨_, rfl⟩
        rw [← hu2] at q2 wf2
        have WU0 : Hid (I64 u0) := Lib.hid wf0
        have WU1 : Hid (I64 u1) := Lib.hid wf1
        have WU2 : Hid (I64 u2) := Lib.hid wf2
        have HQ : Hid (w.cell? ⟨b, off + k * 3, none⟩ = some (.int .i64 u0) ∧ w.cell? ⟨b, off + k * 3 + 1, none⟩ = some (.int .i64 u1) ∧ w.cell? ⟨b, off + k * 3 + 2, none⟩ = some (.int .i64 u2)) := Lib.hid ⟨q0, q1, q2⟩
        obtain ⟨a, e1, L1, hf1⟩ : ∃ a e M, putF L 1000 (keyT u0 1) = (a, e, M) := ⟨_, _, _, rfl⟩
        obtain ⟨x2, ep2, e2, L2, hf2⟩ : ∃ x y e M, nextF L1 1000 ⟨u0, u1⟩ = (⟨x, y⟩, e, M) := ⟨_, _, _, _, rfl⟩
        obtain ⟨x3, ep3, ks, er, L3, hf3⟩ : ∃ x y ks e M, toF L2 1000 ⟨u0, u1⟩ u2 = (⟨x, y⟩, ks, e, M) := ⟨_, _, _, _, _, rfl⟩
        have HF1 := Lib.hid hf1
        have HF2 := Lib.hid hf2
        have HF3 := Lib.hid hf3
        have HK := Lib.hid (And.intro hk (And.intro hlt h20))
        clear hu0 wf0 hu1 wf1 hu2 wf2 hcl hk h20 hlt q0 q1 q2 hf1 hf2 hf3
        go_upto_region 7 with fail
        go_cut [8] from 30 to 137 (fun x8 wx => ∃ X9 : Nat, x8 = .pointer (some ⟨X9, 0, none⟩) ∧ Hid (Cs w.heap.size (PSq w.heap.size g1 1000) (RSq w.heap.size g2 1000) L L [(X9, (.cells #[.int .i64 u0, .int .i64 u1] 30 (0, 0) : Obj))] w wx))
        case first =>
          have HCa := HC
          have HCb : Hid (Cs w.heap.size (PSq w.heap.size g1 1000) (RSq w.heap.size g2 1000) L L [(wr.heap.size, (.cells #[.int .i64 0, .int .i64 0] 30 (0, 0) : Obj))] w (wr.alloc (.cells #[.int .i64 0, .int .i64 0] 30 : Obj))) := Lib.hid (HC.out.box (gP g1) (gR g2) _ _)
          have q0a : wr.cell? ⟨b, off + k * 3, none⟩ = some (.int .i64 u0) := (HCa.out.low.cell HBW.out).trans HQ.out.1
          have q1a : wr.cell? ⟨b, off + k * 3 + 1, none⟩ = some (.int .i64 u1) := (HCa.out.low.cell HBW.out).trans HQ.out.2.1
          have q2a : wr.cell? ⟨b, off + k * 3 + 2, none⟩ = some (.int .i64 u2) := (HCa.out.low.cell HBW.out).trans HQ.out.2.2
          have q0b : (wr.alloc (.cells #[.int .i64 0, .int .i64 0] 30 : Obj)).cell? ⟨b, off + k * 3, none⟩ = some (.int .i64 u0) := (HCb.out.low.cell HBW.out).trans HQ.out.1
          have q1b : (wr.alloc (.cells #[.int .i64 0, .int .i64 0] 30 : Obj)).cell? ⟨b, off + k * 3 + 1, none⟩ = some (.int .i64 u1) := (HCb.out.low.cell HBW.out).trans HQ.out.2.1
          have q2b : (wr.alloc (.cells #[.int .i64 0, .int .i64 0] 30 : Obj)).cell? ⟨b, off + k * 3 + 2, none⟩ = some (.int .i64 u2) := (HCb.out.low.cell HBW.out).trans HQ.out.2.2
          have hn := heap_alloc_new wr (.cells #[.int .i64 0, .int .i64 0] 30 : Obj)
          obtain ⟨n0, n1, n2, n3⟩ := cells2 hn
          clear hn
          have HB9 := Lib.hid HC.out.pair.base_le
          go_region
          all_goals
            go_wp2_with fail
            go_meet
            first
            | exact ⟨_, rfl, Lib.hid ((HC.out.below (gP g1) (gR g2) ((Below.refl _ _).drew)).box (gP g1) (gR g2) #[.int .i64 u0, .int .i64 u1] 30)⟩
            | exact ⟨_, rfl, Lib.hid ((HC.out.box (gP g1) (gR g2) #[.int .i64 u0, .int .i64 u1] 30).below (gP g1) (gR g2) ((Below.refl _ _).drew))⟩
            | exact ⟨_, rfl, Lib.hid (((HCb.out.below (gP g1) (gR g2) ((Below.refl _ _).drew)).fill (gP g1) (gR g2) (by simp) HB9.out (.int .i64 u0) (.int .i64 u1) (fun z hz => by simp at hz; exact .inl hz)))⟩
        case rest =>
          obtain ⟨X, rfl, hcs⟩ := hcut
          obtain ⟨wa, hwa⟩ : ∃ wa, wa = wc := ⟨_, rfl⟩
          subst hwa
          clear HC
          have HC := hcs
          clear hcs
          obtain ⟨cf0, cf1, cf2, cf3⟩ := cells2 (HC.out.kept (X) (.cells #[.int .i64 u0, .int .i64 u1] 30 (0, 0) : Obj) (by simp))
          go_wp2_with fail
          clear cf0 cf1 cf2 cf3
          refine (HC.out.pair.csealP (gR g2) WU0.out HF1.out).mono ?_
          rintro e w1 ⟨rfl, hp, hk⟩
          replace HC := Lib.hid (HC.out.step hp hk)
          clear hp hk
          obtain ⟨cf0, cf1, cf2, cf3⟩ := cells2 (HC.out.kept (X) (.cells #[.int .i64 u0, .int .i64 u1] 30 (0, 0) : Obj) (by simp))
          go_wp2_with fail
          clear cf0 cf1 cf2 cf3
          refine (ref_k _ _ _).mono ?_
          rintro e w2 ⟨rfl, hb⟩
          replace HC := Lib.hid (HC.out.below (gP g1) (gR g2) hb)
          clear hb
          obtain ⟨cf0, cf1, cf2, cf3⟩ := cells2 (HC.out.kept (X) (.cells #[.int .i64 u0, .int .i64 u1] 30 (0, 0) : Obj) (by simp))
          go_wp2_with fail
          clear cf0 cf1 cf2 cf3
          refine (HC.out.swap.pair.csealR (gP g1) WU0.out HF1.out).mono ?_
          rintro e w3 ⟨rfl, hp, hk⟩
          replace HC := Lib.hid (HC.out.swap.step hp hk).swap
          clear hp hk
          obtain ⟨cf0, cf1, cf2, cf3⟩ := cells2 (HC.out.kept (X) (.cells #[.int .i64 u0, .int .i64 u1] 30 (0, 0) : Obj) (by simp))
          go_wp2_with fail
          clear cf0 cf1 cf2 cf3
          refine (HC.out.pair.cnextP (gR g2) WU0.out WU1.out HF2.out).mono ?_
          rintro e w4 ⟨rfl, hp, hk⟩
          replace HC := Lib.hid (HC.out.step hp hk)
          clear hp hk
          replace HC := Lib.hid (HC.out.box (gP g1) (gR g2) #[.int .i64 x2, .int .i64 ep2] 30)
          obtain ⟨cf0, cf1, cf2, cf3⟩ := cells2 (HC.out.kept (X) (.cells #[.int .i64 u0, .int .i64 u1] 30 (0, 0) : Obj) (by simp))
          go_wp2_with fail
          clear cf0 cf1 cf2 cf3
          refine (ref_k _ _ _).mono ?_
          rintro e w5 ⟨rfl, hb⟩
          replace HC := Lib.hid (HC.out.below (gP g1) (gR g2) hb)
          clear hb
          obtain ⟨cf0, cf1, cf2, cf3⟩ := cells2 (HC.out.kept (X) (.cells #[.int .i64 u0, .int .i64 u1] 30 (0, 0) : Obj) (by simp))
          go_wp2_with fail
          clear cf0 cf1 cf2 cf3
          refine (HC.out.swap.pair.cnextR (gP g1) WU0.out WU1.out HF2.out).mono ?_
          rintro e w6 ⟨rfl, hp, hk⟩
          replace HC := Lib.hid (HC.out.swap.step hp hk).swap
          clear hp hk
          replace HC := Lib.hid (HC.out.box (gP g1) (gR g2) #[.int .i64 x2, .int .i64 ep2] 35)
          go_upto_region 12 with fail
          generalize (w6.alloc (.cells #[.int .i64 x2, .int .i64 ep2] 35 : Obj)) = wd at HC ⊢
          generalize w4.heap.size = Xd at HC ⊢
          generalize w6.heap.size = Xx at HC ⊢
          go_upto_region 12 with fail
          go_cut [17, 18, 19] from 30 to 137 (fun x17 x18 x19 wx => ∃ (X9 : Nat) (a9 : Option Addr) (c9 : Nat) (rs9 : List (Nat × Obj)), x17 = .pointer (some ⟨X9, 0, none⟩) ∧ x18 = .slice a9 ks.length c9 ∧ x19 = .int .i64 er ∧ Hid (Cs w.heap.size (PSq w.heap.size g1 1000) (RSq w.heap.size g2 1000) L3 L2 ((X9, (.cells #[.int .i64 x3, .int .i64 ep3] 30 (0, 0) : Obj)) :: (rs9 ++ [(Xx, (.cells #[.int .i64 x2, .int .i64 ep2] 35 (0, 0) : Obj)), (Xd, (.cells #[.int .i64 x2, .int .i64 ep2] 30 (0, 0) : Obj)), (X, (.cells #[.int .i64 u0, .int .i64 u1] 30 (0, 0) : Obj))])) w wx) ∧ Hid (∀ u : World, (∀ k o, (k, o) ∈ rs9 → u.heap[k]? = some o) → IntsAt u a9 c9 ks))
          case first =>
            have HTP : Hid (∀ (W : World) (bs : List (Nat × Obj)), Cs w.heap.size (PSq w.heap.size g1 1000) (RSq w.heap.size g2 1000) L2 L2 bs w W → Calls Try.prog 15 #[.agg #[.int .i64 u0, .int .i64 u1], .pointer (some ⟨g1, 0, none⟩), .int .i64 u2] W (fun e w' => ∃ (rs : List (Nat × Obj)) (a : Option Addr) (cap : Nat), e = .returned (.tuple #[.agg #[.int .i64 x3, .int .i64 ep3], .slice a ks.length cap, .int .i64 er]) ∧ Cs w.heap.size (PSq w.heap.size g1 1000) (RSq w.heap.size g2 1000) L3 L2 (rs ++ bs) w w' ∧ (∀ u : World, (∀ k o, (k, o) ∈ rs → u.heap[k]? = some o) → IntsAt u a cap ks) ∧ ∀ k o, (k, o) ∈ rs → ¬ ∃ o', (k, o') ∈ bs)) := Lib.hid (fun W bs h => h.toP (gR g2) WU0.out WU1.out WU2.out HF3.out)
            have HCb : Hid (Cs w.heap.size (PSq w.heap.size g1 1000) (RSq w.heap.size g2 1000) L2 L2 ((wd.heap.size, (.cells #[.int .i64 0, .int .i64 0] 30 (0, 0) : Obj)) :: [(Xx, (.cells #[.int .i64 x2, .int .i64 ep2] 35 (0, 0) : Obj)), (Xd, (.cells #[.int .i64 x2, .int .i64 ep2] 30 (0, 0) : Obj)), (X, (.cells #[.int .i64 u0, .int .i64 u1] 30 (0, 0) : Obj))]) w (wd.alloc (.cells #[.int .i64 0, .int .i64 0] 30 : Obj))) := Lib.hid (HC.out.box (gP g1) (gR g2) _ _)
            have HB0 : Hid (w.heap.size ≤ wd.heap.size ∧ ∀ k o, (k, o) ∈ [(Xx, (.cells #[.int .i64 x2, .int .i64 ep2] 35 (0, 0) : Obj)), (Xd, (.cells #[.int .i64 x2, .int .i64 ep2] 30 (0, 0) : Obj)), (X, (.cells #[.int .i64 u0, .int .i64 u1] 30 (0, 0) : Obj))] → k < wd.heap.size) := Lib.hid ⟨HC.out.pair.base_le, fun k o q => HC.out.pair.klt k ⟨o, q⟩⟩
            have q2a : wd.cell? ⟨b, off + k * 3 + 2, none⟩ = some (.int .i64 u2) := (HC.out.low.cell HBW.out).trans HQ.out.2.2
            obtain ⟨c0a, c1a, _, _⟩ := cells2 (HC.out.kept X (.cells #[.int .i64 u0, .int .i64 u1] 30 (0, 0) : Obj) (by simp))
            have q2b : (wd.alloc (.cells #[.int .i64 0, .int .i64 0] 30 : Obj)).cell? ⟨b, off + k * 3 + 2, none⟩ = some (.int .i64 u2) := (HCb.out.low.cell HBW.out).trans HQ.out.2.2
            obtain ⟨c0b, c1b, _, _⟩ := cells2 (HCb.out.kept X (.cells #[.int .i64 u0, .int .i64 u1] 30 (0, 0) : Obj) (by simp))
            have HCd := Lib.hid (HC.out.below (gP g1) (gR g2) ((Below.refl _ _).drew))
            have HCe := Lib.hid (HCb.out.below (gP g1) (gR g2) ((Below.refl _ _).drew))
            go_region_with ((go_at_call 15; refine (HTP.out _ _ (by first | exact HCd.out | exact HCe.out)).mono ?_; rintro e w9 ⟨rs, ra, rc, rfl, hc, hi, hd⟩; have HC9 := Lib.hid hc; have HI9 := Lib.hid hi; have HD9 := Lib.hid hd; clear hc hi hd; (first | (have HCZ : Hid (Cs w.heap.size (PSq w.heap.size g1 1000) (RSq w.heap.size g2 1000) L3 L2 (rs ++ ((wd.heap.size, (.cells #[.int .i64 0, .int .i64 0] 30 (0, 0) : Obj)) :: [(Xx, (.cells #[.int .i64 x2, .int .i64 ep2] 35 (0, 0) : Obj)), (Xd, (.cells #[.int .i64 x2, .int .i64 ep2] 30 (0, 0) : Obj)), (X, (.cells #[.int .i64 u0, .int .i64 u1] 30 (0, 0) : Obj))])) w w9) := HC9; obtain ⟨z0, z1, z2, z3⟩ := cells2 (HCZ.out.kept wd.heap.size (.cells #[.int .i64 0, .int .i64 0] 30 (0, 0) : Obj) (by simp))) | skip)))
            all_goals
              first
              | (have HCZ9 : Hid (Cs w.heap.size (PSq w.heap.size g1 1000) (RSq w.heap.size g2 1000) L3 L2 (rs ++ ((wd.heap.size, (.cells #[.int .i64 0, .int .i64 0] 30 (0, 0) : Obj)) :: [(Xx, (.cells #[.int .i64 x2, .int .i64 ep2] 35 (0, 0) : Obj)), (Xd, (.cells #[.int .i64 x2, .int .i64 ep2] 30 (0, 0) : Obj)), (X, (.cells #[.int .i64 u0, .int .i64 u1] 30 (0, 0) : Obj))])) w w9) := HC9
                 have hB := HB0.out
                 go_wp2_with fail
                 go_meet
                 refine ⟨wd.heap.size, ra, rc, rs, rfl, rfl, rfl, Lib.hid (HCZ9.out.fill (gP g1) (gR g2) (B := wd.heap.size) (x := .int .i64 0) (y := .int .i64 0) (T := 30) (by simp) hB.1 (.int .i64 x3) (.int .i64 ep3) (fun z hz => ?_)), HI9⟩
                 rcases List.mem_cons.1 hz with e | e
                 · exact .inl e
                 · refine .inr ⟨?_, ?_⟩
                   · rcases List.mem_append.1 e with q | q
                     · exact List.mem_append.2 (.inl q)
                     · exact List.mem_append.2 (.inr (List.mem_cons_of_mem _ q))
                   · rcases List.mem_append.1 e with q | q
                     · intro e2
                       exact HD9.out z.1 z.2 q ⟨(.cells #[.int .i64 0, .int .i64 0] 30 (0, 0) : Obj), by rw [e2]; simp⟩
                     · exact Nat.ne_of_lt (hB.2 z.1 z.2 q))
              | (go_wp2_with fail
                 go_meet
                 exact ⟨w9.heap.size, ra, rc, rs, rfl, rfl, rfl, Lib.hid (HC9.out.box (gP g1) (gR g2) #[.int .i64 x3, .int .i64 ep3] 30), HI9⟩)
          case rest =>
            obtain ⟨Xy, pa, pc, rsp, rfl, rfl, rfl, hcs, HRP⟩ := hcut
            obtain ⟨we, hwe⟩ : ∃ we, we = wc := ⟨_, rfl⟩
            subst hwe
            clear HC
            have HC := hcs
            clear hcs
            go_upto_region 13 with fail
            go_cut [20, 21, 22] from 30 to 137 (fun x20 x21 x22 wx => ∃ (X9 : Nat) (a9 : Option Addr) (c9 : Nat) (rs9 : List (Nat × Obj)), x20 = .pointer (some ⟨X9, 0, none⟩) ∧ x21 = .slice a9 ks.length c9 ∧ x22 = .int .i64 er ∧ Hid (Cs w.heap.size (PSq w.heap.size g1 1000) (RSq w.heap.size g2 1000) L3 L3 ((X9, (.cells #[.int .i64 x3, .int .i64 ep3] 35 (0, 0) : Obj)) :: (rs9 ++ ((Xy, (.cells #[.int .i64 x3, .int .i64 ep3] 30 (0, 0) : Obj)) :: (rsp ++ [(Xx, (.cells #[.int .i64 x2, .int .i64 ep2] 35 (0, 0) : Obj)), (Xd, (.cells #[.int .i64 x2, .int .i64 ep2] 30 (0, 0) : Obj)), (X, (.cells #[.int .i64 u0, .int .i64 u1] 30 (0, 0) : Obj))])))) w wx) ∧ Hid (∀ u : World, (∀ k o, (k, o) ∈ rs9 → u.heap[k]? = some o) → IntsAt u a9 c9 ks))
            case first =>
              have HTR : Hid (∀ (W : World) (bs : List (Nat × Obj)), Cs w.heap.size (PSq w.heap.size g1 1000) (RSq w.heap.size g2 1000) L3 L2 bs w W → Calls Try.prog 16 #[.pointer (some ⟨g2, 0, none⟩), .agg #[.int .i64 u0, .int .i64 u1], .int .i64 u2] W (fun e w' => ∃ (rs : List (Nat × Obj)) (a : Option Addr) (cap : Nat), e = .returned (.tuple #[.agg #[.int .i64 x3, .int .i64 ep3], .slice a ks.length cap, .int .i64 er]) ∧ Cs w.heap.size (PSq w.heap.size g1 1000) (RSq w.heap.size g2 1000) L3 L3 (rs ++ bs) w w' ∧ (∀ u : World, (∀ k o, (k, o) ∈ rs → u.heap[k]? = some o) → IntsAt u a cap ks) ∧ ∀ k o, (k, o) ∈ rs → ¬ ∃ o', (k, o') ∈ bs)) := Lib.hid (fun W bs h => h.toR (gP g1) WU0.out WU1.out WU2.out HF3.out)
              have HCb : Hid (Cs w.heap.size (PSq w.heap.size g1 1000) (RSq w.heap.size g2 1000) L3 L2 ((we.heap.size, (.cells #[.int .i64 0, .int .i64 0] 35 (0, 0) : Obj)) :: ((Xy, (.cells #[.int .i64 x3, .int .i64 ep3] 30 (0, 0) : Obj)) :: (rsp ++ [(Xx, (.cells #[.int .i64 x2, .int .i64 ep2] 35 (0, 0) : Obj)), (Xd, (.cells #[.int .i64 x2, .int .i64 ep2] 30 (0, 0) : Obj)), (X, (.cells #[.int .i64 u0, .int .i64 u1] 30 (0, 0) : Obj))]))) w (we.alloc (.cells #[.int .i64 0, .int .i64 0] 35 : Obj))) := Lib.hid (HC.out.box (gP g1) (gR g2) _ _)
              have HB0 : Hid (w.heap.size ≤ we.heap.size ∧ ∀ k o, (k, o) ∈ ((Xy, (.cells #[.int .i64 x3, .int .i64 ep3] 30 (0, 0) : Obj)) :: (rsp ++ [(Xx, (.cells #[.int .i64 x2, .int .i64 ep2] 35 (0, 0) : Obj)), (Xd, (.cells #[.int .i64 x2, .int .i64 ep2] 30 (0, 0) : Obj)), (X, (.cells #[.int .i64 u0, .int .i64 u1] 30 (0, 0) : Obj))])) → k < we.heap.size) := Lib.hid ⟨HC.out.pair.base_le, fun k o q => HC.out.pair.klt k ⟨o, q⟩⟩
              have q2a : we.cell? ⟨b, off + k * 3 + 2, none⟩ = some (.int .i64 u2) := (HC.out.low.cell HBW.out).trans HQ.out.2.2
              obtain ⟨c0a, c1a, _, _⟩ := cells2 (HC.out.kept X (.cells #[.int .i64 u0, .int .i64 u1] 30 (0, 0) : Obj) (by simp))
              have q2b : (we.alloc (.cells #[.int .i64 0, .int .i64 0] 35 : Obj)).cell? ⟨b, off + k * 3 + 2, none⟩ = some (.int .i64 u2) := (HCb.out.low.cell HBW.out).trans HQ.out.2.2
              obtain ⟨c0b, c1b, _, _⟩ := cells2 (HCb.out.kept X (.cells #[.int .i64 u0, .int .i64 u1] 30 (0, 0) : Obj) (by simp))
              have HCd := Lib.hid (HC.out.below (gP g1) (gR g2) ((Below.refl _ _).drew))
              have HCe := Lib.hid (HCb.out.below (gP g1) (gR g2) ((Below.refl _ _).drew))
              go_region_with (first | (go_at_call 12; refine (ref_k _ _ _).mono ?_; rintro e w8 ⟨rfl, hb8⟩; (first | (have HX8 := Lib.hid (HCd.out.below (gP g1) (gR g2) hb8); clear HCd HCe; have HCd := HX8; have HCe : Hid (Cs w.heap.size (PSq w.heap.size g1 1000) (RSq w.heap.size g2 1000) L3 L2 ((w8.heap.size, (.cells #[.int .i64 0, .int .i64 0] 35 (0, 0) : Obj)) :: ((Xy, (.cells #[.int .i64 x3, .int .i64 ep3] 30 (0, 0) : Obj)) :: (rsp ++ [(Xx, (.cells #[.int .i64 x2, .int .i64 ep2] 35 (0, 0) : Obj)), (Xd, (.cells #[.int .i64 x2, .int .i64 ep2] 30 (0, 0) : Obj)), (X, (.cells #[.int .i64 u0, .int .i64 u1] 30 (0, 0) : Obj))]))) w (w8.alloc (.cells #[.int .i64 0, .int .i64 0] 35 : Obj))) := Lib.hid (HX8.out.box (gP g1) (gR g2) _ _); have HB8 : Hid (w.heap.size ≤ w8.heap.size ∧ ∀ k o, (k, o) ∈ ((Xy, (.cells #[.int .i64 x3, .int .i64 ep3] 30 (0, 0) : Obj)) :: (rsp ++ [(Xx, (.cells #[.int .i64 x2, .int .i64 ep2] 35 (0, 0) : Obj)), (Xd, (.cells #[.int .i64 x2, .int .i64 ep2] 30 (0, 0) : Obj)), (X, (.cells #[.int .i64 u0, .int .i64 u1] 30 (0, 0) : Obj))])) → k < w8.heap.size) := Lib.hid ⟨HX8.out.pair.base_le, fun k o q => HX8.out.pair.klt k ⟨o, q⟩⟩; have q28 : w8.cell? ⟨b, off + k * 3 + 2, none⟩ = some (.int .i64 u2) := (HCd.out.low.cell HBW.out).trans HQ.out.2.2; have q29 : (w8.alloc (.cells #[.int .i64 0, .int .i64 0] 35 : Obj)).cell? ⟨b, off + k * 3 + 2, none⟩ = some (.int .i64 u2) := (HCe.out.low.cell HBW.out).trans HQ.out.2.2; clear hb8) | (have HX8 := Lib.hid (HCe.out.below (gP g1) (gR g2) hb8); clear HCd HCe; have HCd := HX8; have HCe := HX8; have q28 : w8.cell? ⟨b, off + k * 3 + 2, none⟩ = some (.int .i64 u2) := (HCd.out.low.cell HBW.out).trans HQ.out.2.2; clear hb8))) | (go_at_call 16; refine (HTR.out _ _ (by first | exact HCd.out | exact HCe.out)).mono ?_; rintro e w9 ⟨rs, ra, rc, rfl, hc, hi, hd⟩; have HC9 := Lib.hid hc; have HI9 := Lib.hid hi; have HD9 := Lib.hid hd; clear hc hi hd; (first | (have HCZ : Hid (Cs w.heap.size (PSq w.heap.size g1 1000) (RSq w.heap.size g2 1000) L3 L3 (rs ++ ((w8.heap.size, (.cells #[.int .i64 0, .int .i64 0] 35 (0, 0) : Obj)) :: ((Xy, (.cells #[.int .i64 x3, .int .i64 ep3] 30 (0, 0) : Obj)) :: (rsp ++ [(Xx, (.cells #[.int .i64 x2, .int .i64 ep2] 35 (0, 0) : Obj)), (Xd, (.cells #[.int .i64 x2, .int .i64 ep2] 30 (0, 0) : Obj)), (X, (.cells #[.int .i64 u0, .int .i64 u1] 30 (0, 0) : Obj))])))) w w9) := HC9; obtain ⟨z0, z1, z2, z3⟩ := cells2 (HCZ.out.kept w8.heap.size (.cells #[.int .i64 0, .int .i64 0] 35 (0, 0) : Obj) (by simp))) | (have HCZ : Hid (Cs w.heap.size (PSq w.heap.size g1 1000) (RSq w.heap.size g2 1000) L3 L3 (rs ++ ((we.heap.size, (.cells #[.int .i64 0, .int .i64 0] 35 (0, 0) : Obj)) :: ((Xy, (.cells #[.int .i64 x3, .int .i64 ep3] 30 (0, 0) : Obj)) :: (rsp ++ [(Xx, (.cells #[.int .i64 x2, .int .i64 ep2] 35 (0, 0) : Obj)), (Xd, (.cells #[.int .i64 x2, .int .i64 ep2] 30 (0, 0) : Obj)), (X, (.cells #[.int .i64 u0, .int .i64 u1] 30 (0, 0) : Obj))])))) w w9) := HC9; obtain ⟨z0, z1, z2, z3⟩ := cells2 (HCZ.out.kept we.heap.size (.cells #[.int .i64 0, .int .i64 0] 35 (0, 0) : Obj) (by simp))) | skip)))
              all_goals
                first
                | (have HCZ9 : Hid (Cs w.heap.size (PSq w.heap.size g1 1000) (RSq w.heap.size g2 1000) L3 L3 (rs ++ ((w8.heap.size, (.cells #[.int .i64 0, .int .i64 0] 35 (0, 0) : Obj)) :: ((Xy, (.cells #[.int .i64 x3, .int .i64 ep3] 30 (0, 0) : Obj)) :: (rsp ++ [(Xx, (.cells #[.int .i64 x2, .int .i64 ep2] 35 (0, 0) : Obj)), (Xd, (.cells #[.int .i64 x2, .int .i64 ep2] 30 (0, 0) : Obj)), (X, (.cells #[.int .i64 u0, .int .i64 u1] 30 (0, 0) : Obj))])))) w w9) := HC9
                   have hB := HB8.out
                   go_wp2_with fail
                   go_meet
                   refine ⟨w8.heap.size, ra, rc, rs, rfl, rfl, rfl, Lib.hid (HCZ9.out.fill (gP g1) (gR g2) (B := w8.heap.size) (x := .int .i64 0) (y := .int .i64 0) (T := 35) (by simp) hB.1 (.int .i64 x3) (.int .i64 ep3) (fun z hz => ?_)), HI9⟩
                   rcases List.mem_cons.1 hz with e | e
                   · exact .inl e
                   · refine .inr ⟨?_, ?_⟩
                     · rcases List.mem_append.1 e with q | q
                       · exact List.mem_append.2 (.inl q)
                       · exact List.mem_append.2 (.inr (List.mem_cons_of_mem _ q))
                     · rcases List.mem_append.1 e with q | q
                       · intro e2
                         exact HD9.out z.1 z.2 q ⟨(.cells #[.int .i64 0, .int .i64 0] 35 (0, 0) : Obj), by rw [e2]; simp⟩
                       · exact Nat.ne_of_lt (hB.2 z.1 z.2 q))
                | (have HCZ9 : Hid (Cs w.heap.size (PSq w.heap.size g1 1000) (RSq w.heap.size g2 1000) L3 L3 (rs ++ ((we.heap.size, (.cells #[.int .i64 0, .int .i64 0] 35 (0, 0) : Obj)) :: ((Xy, (.cells #[.int .i64 x3, .int .i64 ep3] 30 (0, 0) : Obj)) :: (rsp ++ [(Xx, (.cells #[.int .i64 x2, .int .i64 ep2] 35 (0, 0) : Obj)), (Xd, (.cells #[.int .i64 x2, .int .i64 ep2] 30 (0, 0) : Obj)), (X, (.cells #[.int .i64 u0, .int .i64 u1] 30 (0, 0) : Obj))])))) w w9) := HC9
                   have hB := HB0.out
                   go_wp2_with fail
                   go_meet
                   refine ⟨we.heap.size, ra, rc, rs, rfl, rfl, rfl, Lib.hid (HCZ9.out.fill (gP g1) (gR g2) (B := we.heap.size) (x := .int .i64 0) (y := .int .i64 0) (T := 35) (by simp) hB.1 (.int .i64 x3) (.int .i64 ep3) (fun z hz => ?_)), HI9⟩
                   rcases List.mem_cons.1 hz with e | e
                   · exact .inl e
                   · refine .inr ⟨?_, ?_⟩
                     · rcases List.mem_append.1 e with q | q
                       · exact List.mem_append.2 (.inl q)
                       · exact List.mem_append.2 (.inr (List.mem_cons_of_mem _ q))
                     · rcases List.mem_append.1 e with q | q
                       · intro e2
                         exact HD9.out z.1 z.2 q ⟨(.cells #[.int .i64 0, .int .i64 0] 35 (0, 0) : Obj), by rw [e2]; simp⟩
                       · exact Nat.ne_of_lt (hB.2 z.1 z.2 q))
                | (go_wp2_with fail
                   go_meet
                   exact ⟨w9.heap.size, ra, rc, rs, rfl, rfl, rfl, Lib.hid (HC9.out.box (gP g1) (gR g2) #[.int .i64 x3, .int .i64 ep3] 35), HI9⟩)
            case rest =>
              obtain ⟨Xz, ma, mc, rsr, rfl, rfl, rfl, hcs, HRR⟩ := hcut
              obtain ⟨wf, hwf⟩ : ∃ wf, wf = wc := ⟨_, rfl⟩
              subst hwf
              clear HC
              have HC := hcs
              clear hcs
              have s1 : (a != a) = false := by simp
              have s2 : (e1 != e1) = false := by simp
              have s3 : (e2 != e2) = false := by simp
              have s4 : (er != er) = false := by simp
              have s5 := unlikeD x2 ep2
              have s6 := unlikeD x3 ep3
              have HSS : Hid (∀ u, Cs w.heap.size (PSq w.heap.size g1 1000) (RSq w.heap.size g2 1000) L3 L3 ((Xz, (.cells #[.int .i64 x3, .int .i64 ep3] 35 (0, 0) : Obj)) :: (rsr ++ ((Xy, (.cells #[.int .i64 x3, .int .i64 ep3] 30 (0, 0) : Obj)) :: (rsp ++ [(Xx, (.cells #[.int .i64 x2, .int .i64 ep2] 35 (0, 0) : Obj)), (Xd, (.cells #[.int .i64 x2, .int .i64 ep2] 30 (0, 0) : Obj)), (X, (.cells #[.int .i64 u0, .int .i64 u1] 30 (0, 0) : Obj))])))) w u → u.cell? ⟨Xd, 0, none⟩ = some (.int .i64 x2) ∧ u.cell? ⟨Xd, 1, none⟩ = some (.int .i64 ep2) ∧ u.cell? ⟨Xx, 0, none⟩ = some (.int .i64 x2) ∧ u.cell? ⟨Xx, 1, none⟩ = some (.int .i64 ep2) ∧ u.cell? ⟨Xy, 0, none⟩ = some (.int .i64 x3) ∧ u.cell? ⟨Xy, 1, none⟩ = some (.int .i64 ep3) ∧ u.cell? ⟨Xz, 0, none⟩ = some (.int .i64 x3) ∧ u.cell? ⟨Xz, 1, none⟩ = some (.int .i64 ep3)) := Lib.hid (fun u h => ⟨(cells2 (h.kept Xd (.cells #[.int .i64 x2, .int .i64 ep2] 30 (0, 0) : Obj) (by simp))).1, (cells2 (h.kept Xd (.cells #[.int .i64 x2, .int .i64 ep2] 30 (0, 0) : Obj) (by simp))).2.1, (cells2 (h.kept Xx (.cells #[.int .i64 x2, .int .i64 ep2] 35 (0, 0) : Obj) (by simp))).1, (cells2 (h.kept Xx (.cells #[.int .i64 x2, .int .i64 ep2] 35 (0, 0) : Obj) (by simp))).2.1, (cells2 (h.kept Xy (.cells #[.int .i64 x3, .int .i64 ep3] 30 (0, 0) : Obj) (by simp))).1, (cells2 (h.kept Xy (.cells #[.int .i64 x3, .int .i64 ep3] 30 (0, 0) : Obj) (by simp))).2.1, (cells2 (h.kept Xz (.cells #[.int .i64 x3, .int .i64 ep3] 35 (0, 0) : Obj) (by simp))).1, (cells2 (h.kept Xz (.cells #[.int .i64 x3, .int .i64 ep3] 35 (0, 0) : Obj) (by simp))).2.1⟩)
              go_wp2_with fail
              replace HC := Lib.hid (HC.out.below (gP g1) (gR g2) ((Below.refl _ _).drew))
              have hS := HSS.out _ HC.out
              have hS' := hS
              go_region_held3 (fun w' => w'.cell? ⟨Xd, 0, none⟩ = some (.int .i64 x2) ∧ w'.cell? ⟨Xd, 1, none⟩ = some (.int .i64 ep2) ∧ w'.cell? ⟨Xx, 0, none⟩ = some (.int .i64 x2) ∧ w'.cell? ⟨Xx, 1, none⟩ = some (.int .i64 ep2) ∧ w'.cell? ⟨Xy, 0, none⟩ = some (.int .i64 x3) ∧ w'.cell? ⟨Xy, 1, none⟩ = some (.int .i64 ep3) ∧ w'.cell? ⟨Xz, 0, none⟩ = some (.int .i64 x3) ∧ w'.cell? ⟨Xz, 1, none⟩ = some (.int .i64 ep3)) (first | assumption | go_keep) ((first | (go_at_call 12; refine (ref_k _ _ _).mono ?_; rintro e w5 ⟨rfl, hb⟩; replace HC := Lib.hid (HC.out.below (gP g1) (gR g2) hb); have hS5 := HSS.out _ HC.out; clear hb) | (go_at_call 17; refine (same_b pa ma pc mc ks _ (HRP.out _ (fun k o q => HC.out.kept k o (by simp [q]))) (HRR.out _ (fun k o q => HC.out.kept k o (by simp [q])))).mono ?_; rintro e w5 ⟨rfl, hb⟩; replace HC := Lib.hid (HC.out.below (gP g1) (gR g2) hb); have hS5 := HSS.out _ HC.out; clear hb)))
              go_wp2_with fail
              go_roundg (20 - (k + 1))
              case rel => exact ⟨k + 1, L3, by have := HK.out; omega, by go_num, Lib.hid (HC.out.less (fun z hz => by simp at hz))⟩
              case measure => have := HK.out; omega
      · have h21 : decide ((k : Int) < 20) = false := decide_eq_false (by omega)
        clear hlt h20 HZ
        clear hk
        go_wp2_with fail
        refine (sameL_any _ HC.out.pair).mono ?_
        rintro e w2 ⟨rfl, hb⟩
        replace HC := Lib.hid (HC.out.below (gP g1) (gR g2) hb)
        clear hb
        go_wp2_with fail
        refine (fixed_any _).mono ?_
        rintro e w3 ⟨rfl, hb⟩
        replace HC := Lib.hid (HC.out.below (gP g1) (gR g2) hb)
        clear hb
        go_wp2_with fail
        go_ret
        exact ⟨rfl, HC.out.low⟩
    · have hlt1 : decide (k < len1) = false := by simpa using hlt
      clear hlt
      clear hk
      go_wp2_with fail
      refine (sameL_any _ HC.out.pair).mono ?_
      rintro e w2 ⟨rfl, hb⟩
      replace HC := Lib.hid (HC.out.below (gP g1) (gR g2) hb)
      clear hb
      go_wp2_with fail
      refine (fixed_any _).mono ?_
      rintro e w3 ⟨rfl, hb⟩
      replace HC := Lib.hid (HC.out.below (gP g1) (gR g2) hb)
      clear hb
      go_wp2_with fail
      go_ret
      exact ⟨rfl, HC.out.low⟩
set_option maxRecDepth 100000 in
theorem lifted (os : Os) (started : os.Started) (H : Type) (enc : TypeId × Value → H) :
    ReturnsInHanded {} Try.checked os 3 .any (Rows.chainTellsSpec.pre6 enc Try.prog Try.f3 Rows.chainTellsRow.domain false) (Rows.chainTellsSpec.post enc Try.prog Try.f3 false true false false) := by
  refine returnsInHanded_of_change (C := Try.checked) own started (by kernel_rfl) Try.func3
    (ChangeSpec.witness6 (enc := enc) (C := Try.checked) false ⟨#[], #[.slice none 0 0, .slice none 0 0], []⟩ 8 (by kernel_rfl) (by kernel_rfl) (by kernel_rfl) (by kernel_rfl)) ?_
  intro W base args ds gs before hval0 hW hcnd _
  have hval : ∀ (j : Nat) t v, Try.f3.params[j]? = some t → args[j]? = some v → Value.okWide Try.prog W .any base t v := hval0
  have hW' := hW
  obtain ⟨p, q, hA0, hV, rfl, hfz, hnd⟩ := hW
  have hA : DataW.TrodAll enc Try.prog W 0 (fun _ => true) true Try.f3.params.toList args.toList ds p := hA0
  rw [Try.params3] at hA hval
  obtain ⟨v0, vs0, d0, ds0, p0, q0, hargs, rfl, rfl, h0, r0⟩ := trodAll_cons hA
  obtain ⟨v1, vs1, d1, ds1, p1, q1, rfl, rfl, rfl, h1, r1⟩ := trodAll_cons r0
  obtain ⟨rfl, rfl, rfl⟩ := trodAll_nil r1
  obtain rfl : args = #[v0, v1] := by cases args; simp_all
  obtain ⟨rfl, rfl⟩ := trodVars_none hV
  obtain ⟨a0, len0, cap0, rfl⟩ := okWide_slice Try.underlying22 (hval 0 22 v0 rfl rfl)
  have k0 := h0
  have lt0 : ∀ x ∈ p0, x.block < W.heap.size := by obtain ⟨m, hm⟩ := k0; exact DataW.trod_lt m _ _ _ hm
  obtain ⟨T0, w0⟩ : ∃ T, Terms W a0 len0 cap0 T := by
    obtain ⟨fuel, hf⟩ := h0
    exact open_terms (by simpa [Value.cells] using hf)
  obtain ⟨a1, len1, cap1, rfl⟩ := okWide_slice Try.underlying23 (hval 1 23 v1 rfl rfl)
  have k1 := h1
  have lt1 : ∀ x ∈ p1, x.block < W.heap.size := by obtain ⟨m, hm⟩ := k1; exact DataW.trod_lt m _ _ _ hm
  obtain ⟨Z1, w1⟩ : ∃ Z, Arrs .i64 3 W a1 len1 cap1 Z := by
    obtain ⟨fuel, hf⟩ := h1
    exact open_arrs Try.underlying23 Try.underlying28 Try.underlying3 (by kernel_rfl) (by kernel_rfl) (by omega) (by simpa [Value.cells] using hf)
  clear hA0 hval0
  refine (walk a0 len0 cap0 T0 a1 len1 cap1 Z1 W w0 w1).mono fun e W' ⟨he, bel⟩ => ?_
  subst he
  exact ⟨_, rfl, _, _, _, [], _, [], hW', trodAll_mk1 (shut_bool Try.underlying4 _), (trodAll_cons_mk (Below.trod laidOut (by kernel_rfl) (of_decide_eq_true (by kernel_rfl)) k0 bel lt0) (trodAll_cons_mk (Below.trod laidOut (by kernel_rfl) (of_decide_eq_true (by kernel_rfl)) k1 bel lt1) trodAll_mk0)), rfl, bel.frame _, fun h => by cases h⟩

theorem over : Rows.chainTellsRow.holds Try.pinned (OpenSpec.ofChange Rows.chainTellsSpec) :=
  OpenClaim.holds_of_wide 3 Try.f3 rfl rfl rfl rfl rfl rfl rfl ⟨rfl, rfl, rfl, rfl, rfl⟩ rfl rfl rfl rfl rfl (by kernel_rfl) Try.func3 (by kernel_rfl)
    (of_decide_eq_true (by kernel_rfl)) (by unfold Func.isWrapper; first | (rw [if_pos (by decide +kernel)]; kernel_rfl) | (rw [if_neg (by decide +kernel)]; exact ⟨rfl, rfl⟩))
    (fun os started H enc _ => lifted os started H enc)

theorem proved : Rows.ChainTellsSaid := over
#print axioms proved
end Go.Proofs.Ytlnpfeecaiecaaa.chainTells
