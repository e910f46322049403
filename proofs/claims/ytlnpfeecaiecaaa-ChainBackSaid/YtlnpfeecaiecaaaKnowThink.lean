/- A look at a term, of any kind. The program's think: all names are looked at, then what waits for what can be made. -/
import Derived.Test.YtlnpfeecaiecaaaKnowT1
import Derived.Test.YtlnpfeecaiecaaaKnowT2
import Derived.Test.YtlnpfeecaiecaaaKnowT3
import Derived.Deep.LoopGhost
import Derived.WalkMore
namespace Go.Proofs.Ytlnpfeecaiecaaa
open Go.RowKit
open Go.Maps
set_option linter.unusedVariables false
set_option linter.unusedSimpArgs false
set_option maxRecDepth 20000

theorem look_k {w0 : World} {g : Nat} {L : List Tm} {dh kem : Bool} {B : MB} {H : Nat → List Int} {vs : Nat → Value} {v : Value} {M : List Int} (hg : StoreAt w0 g L) (hF : Fit L) (hS : Sound L) (x : Nat) (hx : InL L (x : Int)) (W : World) (h : MindF w0 g L dh kem B H vs v M W) :
    Calls Try.prog 53 #[.pointer (some ⟨B.m, 0, none⟩), .int .i64 (x : Int)] W (Had w0 g L dh kem B (noteOf L L.length) H vs v (lookF L dh kem M (x : Int)) W) := by
  have hb := bare_tm hS hx
  have hp := parts_mem hS hx
  have ho : ∀ D y, y ∈ openL D (tm L (x : Int)) → InL L y := fun D y hy => openL_in hF hx y hy
  obtain ⟨⟨K, S, N, A, Bx, C⟩, ht⟩ : ∃ t, t = tm L (x : Int) := ⟨_, rfl⟩
  rw [← ht] at hb hp ho
  have h1 : 1 ≤ K := hb.1
  have h2 : K ≤ 11 := hb.2.1
  rcases (by omega : K = 1 ∨ K = 2 ∨ K = 3 ∨ K = 4 ∨ K = 5 ∨ K = 6 ∨ K = 7 ∨ K = 8 ∨ K = 9 ∨ K = 10 ∨ K = 11) with rfl | rfl | rfl | rfl | rfl | rfl | rfl | rfl | rfl | rfl | rfl
  · exact lookK1 hg x hx S N A Bx C ht.symm hp ho W h
  · exact lookK2 hg x hx S N A Bx C ht.symm hp ho W h
  · exact lookK3 hg x hx S N A Bx C ht.symm hp ho W h
  · exact lookK4 hg x hx S N A Bx C ht.symm hp ho W h
  · exact lookK5 hg x hx S N A Bx C ht.symm hp ho W h
  · exact lookK6 hg x hx S N A Bx C ht.symm hp ho W h
  · exact lookK7 hg x hx S N A Bx C ht.symm hp ho W h
  · exact lookK8 hg x hx S N A Bx C ht.symm hp ho W h
  · exact lookK9 hg x hx S N A Bx C ht.symm hp ho W h
  · exact lookK10 hg x hx S N A Bx C ht.symm hp ho W h
  · exact lookK11 hg x hx S N A Bx C ht.symm hp ho W h
end Go.Proofs.Ytlnpfeecaiecaaa

namespace Go.Proofs.Ytlnpfeecaiecaaa
open Go.RowKit
open Go.Maps
set_option linter.unusedVariables false
set_option linter.unusedSimpArgs false
set_option maxRecDepth 20000

/-- What was found so far: more than before, and nothing but what can be made. -/
def Mid (L : List Tm) (dh kem : Bool) (M M' : List Int) : Prop := M <+: M' ∧ ∀ C, StepC L dh kem C C → Le (has M) C → Le (has M') C
theorem Mid.refl (L : List Tm) (dh kem : Bool) (M : List Int) : Mid L dh kem M M := ⟨List.prefix_refl _, fun _ _ h => h⟩
theorem Mid.look {L : List Tm} {dh kem : Bool} {M M' : List Int} {x : Int} (h : Mid L dh kem M M') (hx : InL L x) : Mid L dh kem M (lookF L dh kem M' x) := ⟨h.1.trans lookF_pre, fun C hC q => lookF_le hC (h.2 C hC q) hx⟩
def Seen (L : List Tm) (dh kem : Bool) (D M : List Int) (p : Int → Prop) : Prop := ∀ y, p y → Done L dh kem (has D) (has M) y
theorem Seen.look {L : List Tm} {dh kem : Bool} {D M : List Int} {p p' : Int → Prop} {x : Int} (h : Seen L dh kem D M p) (hD : D <+: M) (hp : ∀ y, p' y → p y ∨ y = x) : Seen L dh kem D (lookF L dh kem M x) p' := fun y hy => by
  rcases hp y hy with q | q
  · exact (h y q).up (pre_le lookF_pre)
  · rw [q]; exact look_all (pre_le hD)
/-- What think ends with. -/
def Thought (w0 : World) (g : Nat) (L : List Tm) (dh kem : Bool) (B : MB) (H : Nat → List Int) (vs : Nat → Value) (M : List Int) (j : Nat) (e : Ending) (W' : World) : Prop :=
  ∃ v' M', e = .returned (.tuple #[]) ∧ MindF w0 g L dh kem B H vs v' M' W' ∧ Mid L dh kem M M' ∧ (StepC L dh kem (has M') (has M') ∨ has M' (j : Int) = true)

set_option maxHeartbeats 8000000 in
set_option maxRecDepth 100000 in
theorem think_k {w0 : World} {g : Nat} {L : List Tm} {dh kem : Bool} {B : MB} {H : Nat → List Int} {vs : Nat → Value} {v : Value} {M : List Int} (hg : StoreAt w0 g L) (hF : Fit L) (hS : Sound L)
    (hH : ∀ n, InL L n → ∀ on, on ∈ asks L n → n ∈ H on.toNat) (hin : ∀ i y, y ∈ H i → InL L y) (j : Nat) (hj : j ≤ L.length) (W : World) (h : MindF w0 g L dh kem B H vs v M W) :
    Calls Try.prog 39 #[.pointer (some ⟨B.m, 0, none⟩), .int .i64 (j : Int)] W (Thought w0 g L dh kem B H vs M j) := by
  have HLEN : Hid (∀ w', Hid (Below w0.heap.size w0 w') → Calls Try.prog 20 #[.pointer (some ⟨g, 0, none⟩)] w' fun e W' => e = .returned (.int .i64 L.length) ∧ w' = W') := Lib.hid (fun w' hb => hg.len hb.out)
  have HLOOK : Hid (∀ (x : Nat) (v' : Value) (M' : List Int) (w' : World), InL L (x : Int) → Hid (MindF w0 g L dh kem B H vs v' M' w') → Calls Try.prog 53 #[.pointer (some ⟨B.m, 0, none⟩), .int .i64 (x : Int)] w' (Had w0 g L dh kem B (noteOf L L.length) H vs v' (lookF L dh kem M' (x : Int)) w')) :=
    Lib.hid (fun x v' M' w' hx h' => look_k hg hF hS x hx w' h'.out)
  have HM := Lib.hid h
  have HH := Lib.hid hH
  have HIN := Lib.hid hin
  have hmost := h.most
  obtain ⟨n, hn⟩ : ∃ n, n = L.length := ⟨_, rfl⟩
  rw [← hn] at hmost hj HLEN
  have HN := Lib.hid hn
  clear h hg hF hS hH hin hn
  go_enter Try.func39, Try.ntmps39
  go_wp2
  go_step3
  go_wp2
  go_loopw [4] (fun s wr => ∃ (x : Nat) (v' : Value) (M' : List Int), 1 ≤ x ∧ x ≤ n + 1 ∧ s = .int .i64 (x : Int) ∧ Hid (MindF w0 g L dh kem B H vs v' M' wr) ∧ Hid (Mid L dh kem M M') ∧ Hid (Seen L dh kem [] M' (fun y => 1 ≤ y ∧ y < (x : Int)))) (fun s _ => n + 1 - (intOf s).toNat)
  case atStart => exact ⟨1, v, M, Nat.le_refl _, by omega, by go_num, HM, Lib.hid (Mid.refl _ _ _ _), Lib.hid (fun y hy => by omega)⟩
  case round =>
    clear HM
    obtain ⟨x, v', M', hx1, hx2, rfl, HM, HMID, HSEEN⟩ := hrel
    obtain ⟨d0, _⟩ := HM.out.cells
    have HBW : Hid (Below w0.heap.size w0 wr) := Lib.hid HM.out.below
    by_cases hlt : x ≤ n
    · have e1 : decide (x ≤ n) = true := by simpa using hlt
      have HX : Hid (InL L (x : Int)) := Lib.hid (by have := HN.out; unfold InL; omega)
      have hxb : (x : Int) ≤ 1048576 := by omega
      have HLT := Lib.hid hlt
      clear hlt hx2
      go_wp2_with fail
      refine (HLEN.out _ HBW).mono ?_
      rintro e w1 ⟨rfl, rfl⟩
      go_wp2_with fail
      refine (HLOOK.out x v' M' _ HX.out HM).mono ?_
      rintro e w2 ⟨v2, rfl, hm2, hc2, hn2⟩
      have HM2 := Lib.hid hm2
      clear hm2 hc2 hn2
      go_wp2_with fail
      go_roundw
      case rel => exact ⟨x + 1, v2, _, by omega, by have := HLT.out; omega, by go_num, HM2, Lib.hid (HMID.out.look HX.out), Lib.hid (HSEEN.out.look List.nil_prefix (fun y hy => by omega))⟩
      case measure => have := HLT.out; simp [intOf]; omega
    · have e1 : decide (x ≤ n) = false := by simpa using hlt
      have HXN : Hid (x = n + 1) := Lib.hid (by omega)
      clear hlt hx2 hx1
      go_wp2_with fail
      refine (HLEN.out _ HBW).mono ?_
      rintro e w1 ⟨rfl, rfl⟩
      have HST : Hid (StepC L dh kem (has (M'.take 0)) (has M')) := Lib.hid (fun y hy => HSEEN.out y (by have := HN.out; have := HXN.out; unfold InL at hy; omega))
      clear HSEEN HBW d0
      go_wp2_with fail
      go_step3
      go_wp2
      clear e1 HXN HLEN
      go_loopg [5, 7] n (fun gk s5 s7 wr => ∃ (i : Nat) (v' : Value) (M' : List Int), i + gk = n ∧ i ≤ M'.length ∧ s5 = .int .i64 i ∧ Hid (MindF w0 g L dh kem B H vs v' M' wr) ∧ Hid (Mid L dh kem M M') ∧ Hid (StepC L dh kem (has (M'.take i)) (has M')))
      case atStart => exact ⟨0, v', M', by omega, Nat.zero_le _, rfl, HM, HMID, HST⟩
      case round =>
        clear HM HMID HST
        obtain ⟨i, v', M', hig, hil, rfl, HM, HMID, HST⟩ := hrel
        obtain ⟨_, _, c16, _, c18, _⟩ := HM.out.cells
        have hml : M'.length ≤ n := by have := HM.out.len; have := HN.out; omega
        obtain ⟨m, hm⟩ : ∃ m, m = M'.length := ⟨_, rfl⟩
        by_cases hlt : i < m
        · obtain ⟨ar, cr, rfl, hcell, hbr⟩ := HM.out.row.nat (i := i) (by omega)
          have hxin : InL L (M'.getD i 0) := HM.out.inL _ (getD_mem (by omega))
          obtain ⟨y, hy⟩ : ∃ y : Nat, M'.getD i 0 = (y : Int) := ⟨(M'.getD i 0).toNat, by unfold InL at hxin; omega⟩
          rw [hy] at hcell hxin
          have hyL : y ≤ L.length := by unfold InL at hxin; omega
          have c18y := HM.out.hangAt (i := y) hyL
          obtain ⟨ah, ch, hvs, hints⟩ := (HM.out.rows y).at
          have hlh := hints.len
          rw [hvs] at c18y
          obtain ⟨ln, hln⟩ : ∃ ln, ln = (H y).length := ⟨_, rfl⟩
          rw [← hln] at c18y hlh
          rw [← hm] at c16 hml
          rw [HN.out.symm] at c18
          have e1 : decide ((i : Int) < (m : Int)) = true := by simp; omega
          have hy1 : (y : Int) < (n : Int) + 1 := by have := HN.out; omega
          have hi1 : (i : Int) < (m : Int) := by omega
          have HI : Hid (i < M'.length) := Lib.hid (by omega)
          have HIG := Lib.hid hig
          have HY := Lib.hid hy
          have HVS := Lib.hid hvs
          have HLN := Lib.hid hln
          have hiB : Hid (i < n) := Lib.hid (by omega)
          clear hxin hyL hvs hints hm hil hig hy hln hlt hbr
          go_wp2
          go_quiet (fail)
          have HM2 : Hid (MindF w0 g L dh kem B H vs (.slice (some ⟨ar, 0, none⟩) M'.length cr) M' (wr.drewN nq)) := Lib.hid (HM.out.next (drewN_below wr nq))
          clear HM c16 c18 c18y hcell
          generalize wr.drewN nq = W2 at HM2 ⊢
          go_wp2
          go_loopg [7, 43] ln (fun g2 s7 s43 wy => ∃ (k : Nat) (v2 : Value) (M2 : List Int), k + g2 = ln ∧ s43 = .int .i64 k ∧ Hid (MindF w0 g L dh kem B H vs v2 M2 wy) ∧ Hid (Mid L dh kem M M2) ∧ Hid (M' <+: M2) ∧ Hid (Seen L dh kem (M'.take (i + 1)) M2 (fun q => q ∈ (H y).take k)))
          case atStart => exact ⟨0, _, M', by omega, rfl, HM2, HMID, Lib.hid (List.prefix_refl _), Lib.hid (fun q hq => by simp at hq)⟩
          case round =>
            clear HM2 HMID
            obtain ⟨k, v2, M2, hkg, rfl, HM2, HMID2, HPRE, HSEEN⟩ := hrel
            by_cases hlt2 : k < ln
            · obtain ⟨a', c', ee, hi⟩ := (HM2.out.rows y).at
              rw [HVS.out] at ee
              injection ee with ee1 ee2 ee3
              subst ee1
              obtain ⟨_, _, b, off, hc⟩ := hi
              obtain ⟨rfl, q0⟩ := hc k (by rw [← HLN.out]; exact hlt2)
              have hkin : InL L ((H y).getD k 0) := HIN.out _ _ (getD_mem (by rw [← HLN.out]; exact hlt2))
              obtain ⟨u, hu⟩ : ∃ u : Nat, (H y).getD k 0 = (u : Int) := ⟨((H y).getD k 0).toNat, by unfold InL at hkin; omega⟩
              rw [hu] at q0 hkin
              have HU := Lib.hid hu
              have HUI := Lib.hid hkin
              have HK2 := Lib.hid (And.intro hlt2 hkg)
              have e2 : decide ((k : Int) < (ln : Int)) = true := by simp; omega
              have e3 : (k : Int) < (ln : Int) := by omega
              clear ee2 ee3 hc hu hkin hlt2 hkg
              go_wp2_with fail
              refine (HLOOK.out u v2 M2 _ HUI.out HM2).mono ?_
              rintro e w3 ⟨v3, rfl, hm3, hc3, hn3⟩
              have HM3 := Lib.hid hm3
              have HMID3 : Hid (Mid L dh kem M (lookF L dh kem M2 (u : Int))) := Lib.hid (HMID2.out.look HUI.out)
              obtain ⟨_, c15, _⟩ := hm3.cells
              have cc := hm3.canAt (i := j) (by have := HN.out; omega)
              rw [HN.out.symm] at c15
              have hj1 : (j : Int) < (n : Int) + 1 := by omega
              clear hm3 hc3 hn3 q0 HM2 HMID2
              cases hcj : has (lookF L dh kem M2 (u : Int)) (j : Int)
              · rw [hcj] at cc
                clear hcj
                go_wp2_with fail
                go_roundg (ln - (k + 1))
                case measure => have := HK2.out; omega
                case rel => exact ⟨k + 1, v3, _, by have := HK2.out; omega, by go_num, HM3, HMID3, Lib.hid (HPRE.out.trans lookF_pre), Lib.hid (HSEEN.out.look ((List.take_prefix _ _).trans HPRE.out) (fun q hq => by
                  rw [take_getD (by rw [← HLN.out]; exact HK2.out.1), HU.out, List.mem_append, List.mem_singleton] at hq
                  exact hq))⟩
              · rw [hcj] at cc
                have HCJ := Lib.hid hcj
                clear hcj
                go_wp2_with fail
                try rw [Exit.noGoto_ret]
                go_end0
                exact ⟨v3, _, rfl, HM3.out, HMID3.out, .inr HCJ.out⟩
            · obtain rfl : k = ln := by omega
              have e2 : decide ((k : Int) < (k : Int)) = false := by simp
              have HST3 : Hid (StepC L dh kem (has (M2.take (i + 1))) (has M2)) := Lib.hid (turn_step HH.out HI.out HST.out HPRE.out (fun q hq => HSEEN.out q (by
                rw [HY.out] at hq
                show q ∈ (H y).take k
                rw [HLN.out, List.take_length]
                exact hq)))
              have HIL : Hid (i + 1 ≤ M2.length) := Lib.hid (by have := HPRE.out.length_le; have := HI.out; omega)
              clear hlt2 hkg
              go_wp2_with fail
              go_roundg (n - (i + 1))
              case measure => have := hiB.out; have := HIG.out; omega
              case rel => exact ⟨i + 1, v2, M2, by have := hiB.out; omega, HIL.out, by go_num, HM2, HMID2, HST3⟩
        · obtain rfl : i = m := by omega
          obtain ⟨av, cv, rfl, hints⟩ := HM.out.row.at
          rw [← hm] at c16
          have e1 : decide ((i : Int) < (i : Int)) = false := by simp
          have HST3 : Hid (StepC L dh kem (has M') (has M')) := Lib.hid (by have := HST.out; rw [hm, List.take_length] at this; exact this)
          clear hm hil hig hlt hints
          go_wp2_with fail
          try rw [Exit.noGoto_ret]
          go_end0
          exact ⟨_, M', rfl, HM.out, HMID.out, .inl HST3.out⟩
end Go.Proofs.Ytlnpfeecaiecaaa
