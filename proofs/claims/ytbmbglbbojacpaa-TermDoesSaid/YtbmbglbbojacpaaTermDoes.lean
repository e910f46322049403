/- TermDoes: whatever terms are put, in any order, each name, or what is wrong, each term, and how deep it is, is as the document says, for every room, row of terms and name. No condition. -/
import Derived.Test.YtbmbglbbojacpaaRows
import Derived.Test.YtbmbglbbojacpaaSameL
import Derived.WalkKit
import Derived.ProofKit
import Derived.OpenShut
import Derived.ShutString
import Derived.ChangeOld
import Derived.Below
namespace Go.Proofs.Ytbmbglbbojacpaa.termDoes
open Go.ChangeShapes Go.WideShapes Go.ChangeAt Go.RowKit
open Go.ChangeMaps (open_string shut_string)
open Go.Proofs.Ytbmbglbbojacpaa
set_option linter.unusedVariables false

theorem own : ownKnob Try.prog.godebug = none := by kernel_rfl
theorem laidOut : laidOutB Try.prog = true := by kernel_rfl

theorem cell_keep {w w' : World} {p : Addr} {v : Value} (hb : Below w.heap.size w w') (h : w.cell? p = some v) : w'.cell? p = some v := (hb.cell (block_lt_of_cell h)).trans h
/-- Both stores, in a world of the call. -/
def J (w : World) (g1 g2 : Nat) (m : Int) (L : List Tm) (W : World) : Prop := Pair w.heap.size (PSq w.heap.size g1 m) (RSq w.heap.size g2 m) L L (fun _ => False) w W
theorem jbelow {w W W' : World} {g1 g2 : Nat} {m : Int} {L : List Tm} (hb : Below W.heap.size W W') (h : Hid (J w g1 g2 m L W)) : Hid (J w g1 g2 m L W') := Lib.hid (h.out.below (PSq.good _ _ _) (RSq.good _ _ _) hb)
theorem j16 {w : World} {g1 g2 : Nat} {m : Int} {L : List Tm} (W : World) (h : Hid (J w g1 g2 m L W)) (name d : Int) (hd : depthOf L name = d) : Calls Try.prog 16 #[.pointer (some ⟨g1, 0, none⟩), .int .i64 name] W fun e w' => e = .returned (.int .i64 d) ∧ W = w' := by
  rw [← hd]; exact h.out.depthP name
theorem j17 {w : World} {g1 g2 : Nat} {m : Int} {L : List Tm} (W : World) (h : Hid (J w g1 g2 m L W)) (name d : Int) (hd : depthOf L name = d) : Calls Try.prog 17 #[.pointer (some ⟨g2, 0, none⟩), .int .i64 name] W fun e w' => e = .returned (.int .i64 d) ∧ Below W.heap.size W w' := by
  rw [← hd]; exact h.out.swap.depthR name
theorem j18 {w : World} {g1 g2 : Nat} {m : Int} {L : List Tm} (W : World) (h : Hid (J w g1 g2 m L W)) : Calls Try.prog 18 #[.pointer (some ⟨g1, 0, none⟩)] W fun e w' => e = .returned (.int .i64 L.length) ∧ W = w' := h.out.lenP
theorem jhead {w W : World} {g1 g2 : Nat} {m : Int} {L : List Tm} (h : Hid (J w g1 g2 m L W)) : ∃ a c, W.cell? ⟨g2, 0, none⟩ = some (.slice a L.length c) := by
  obtain ⟨F1, F2, h1, ⟨sv, hr, _⟩, _⟩ := h.out
  obtain ⟨a, c, _, ch, _⟩ := hr.head
  exact ⟨a, c, ch⟩

theorem sameN (a b : Option Addr) (ca cb : Nat) (w : World) : Calls Try.prog 19 #[.slice a 0 ca, .slice b 0 cb] w fun e w' => e = .returned (.bool true) ∧ Below w.heap.size w w' :=
  (same_none a b ca cb w).mono fun e w' ⟨h1, q, h2⟩ => ⟨h1, by rw [h2]; exact drewN_below _ _⟩
theorem sameS (x y n ca cb : Nat) (f : Nat → Int) (w : World) (hn : (n : Int) ≤ 1048576) (h1 : ∀ j, j < n → w.cell? ⟨x, j, none⟩ = some (.int .i64 (f j))) (h2 : ∀ j, j < n → w.cell? ⟨y, j, none⟩ = some (.int .i64 (f j))) :
    Calls Try.prog 19 #[.slice (some ⟨x, 0, none⟩) n ca, .slice (some ⟨y, 0, none⟩) n cb] w fun e w' => e = .returned (.bool true) ∧ Below w.heap.size w w' :=
  (same_some x y n ca cb f w hn h1 h2).mono fun e w' ⟨h1, q, h2⟩ => ⟨h1, by rw [h2]; exact drewN_below _ _⟩
/-- What the last region holds on to. -/
def HeldQ (w : World) (g1 g2 : Nat) (m : Int) (L : List Tm) (q r : Nat) (K : Int) (S : ByteArray) (N A B C : Int) (w' : World) : Prop :=
  w'.cell? ⟨q, 0, none⟩ = some (.int .i64 K) ∧ w'.cell? ⟨q, 1, none⟩ = some (.string S) ∧ w'.cell? ⟨q, 2, none⟩ = some (.int .u64 N) ∧ w'.cell? ⟨q, 3, none⟩ = some (.int .i64 A) ∧ w'.cell? ⟨q, 4, none⟩ = some (.int .i64 B) ∧ w'.cell? ⟨q, 5, none⟩ = some (.int .i64 C) ∧ w'.cell? ⟨r, 0, none⟩ = some (.int .i64 K) ∧ w'.cell? ⟨r, 1, none⟩ = some (.string S) ∧ w'.cell? ⟨r, 2, none⟩ = some (.int .u64 N) ∧ w'.cell? ⟨r, 3, none⟩ = some (.int .i64 A) ∧ w'.cell? ⟨r, 4, none⟩ = some (.int .i64 B) ∧ w'.cell? ⟨r, 5, none⟩ = some (.int .i64 C) ∧ Hid (J w g1 g2 m L w')
theorem HeldQ.j {w : World} {g1 g2 : Nat} {m : Int} {L : List Tm} {q r : Nat} {K : Int} {S : ByteArray} {N A B C : Int} {W : World} (h : HeldQ w g1 g2 m L q r K S N A B C W) : Hid (J w g1 g2 m L W) := h.2.2.2.2.2.2.2.2.2.2.2.2
theorem HeldQ.below {w : World} {g1 g2 : Nat} {m : Int} {L : List Tm} {q r : Nat} {K : Int} {S : ByteArray} {N A B C : Int} {W W' : World} (hb : Below W.heap.size W W') (h : HeldQ w g1 g2 m L q r K S N A B C W) : HeldQ w g1 g2 m L q r K S N A B C W' := by
  obtain ⟨h0, h1, h2, h3, h4, h5, k0, k1, k2, k3, k4, k5, hj⟩ := h
  exact ⟨cell_keep hb h0, cell_keep hb h1, cell_keep hb h2, cell_keep hb h3, cell_keep hb h4, cell_keep hb h5, cell_keep hb k0, cell_keep hb k1, cell_keep hb k2, cell_keep hb k3, cell_keep hb k4, cell_keep hb k5, jbelow hb hj⟩
theorem eqlR_same (t : Tm) (w : World) : (binOp .eql 37 t.v t.v).run Try.prog w = .ok (.bool true) w := by
  rw [eql_term, (eqB_iff t t).2 rfl]
/-- What the region of a round holds on to. -/
def HeldP (w : World) (g1 g2 : Nat) (m : Int) (L : List Tm) (q : Nat) (aa : Option Addr) (n cc : Nat) (K : Int) (S : ByteArray) (N A B C : Int) (w' : World) : Prop :=
  w'.cell? ⟨q, 0, none⟩ = some (.int .i64 K) ∧ w'.cell? ⟨q, 1, none⟩ = some (.string S) ∧ w'.cell? ⟨q, 2, none⟩ = some (.int .u64 N) ∧ w'.cell? ⟨q, 3, none⟩ = some (.int .i64 A) ∧ w'.cell? ⟨q, 4, none⟩ = some (.int .i64 B) ∧ w'.cell? ⟨q, 5, none⟩ = some (.int .i64 C) ∧ w'.cell? ⟨g2, 0, none⟩ = some (.slice aa n cc) ∧ Hid (J w g1 g2 m L w')
theorem HeldP.j {w : World} {g1 g2 : Nat} {m : Int} {L : List Tm} {q : Nat} {aa : Option Addr} {n cc : Nat} {K : Int} {S : ByteArray} {N A B C : Int} {W : World} (h : HeldP w g1 g2 m L q aa n cc K S N A B C W) : Hid (J w g1 g2 m L W) := h.2.2.2.2.2.2.2
theorem HeldP.below {w : World} {g1 g2 : Nat} {m : Int} {L : List Tm} {q : Nat} {aa : Option Addr} {n cc : Nat} {K : Int} {S : ByteArray} {N A B C : Int} {W W' : World} (hb : Below W.heap.size W W') (h : HeldP w g1 g2 m L q aa n cc K S N A B C W) : HeldP w g1 g2 m L q aa n cc K S N A B C W' :=
  ⟨cell_keep hb h.1, cell_keep hb h.2.1, cell_keep hb h.2.2.1, cell_keep hb h.2.2.2.1, cell_keep hb h.2.2.2.2.1, cell_keep hb h.2.2.2.2.2.1, cell_keep hb h.2.2.2.2.2.2.1, jbelow hb h.2.2.2.2.2.2.2⟩
theorem keepc {W W' : World} {b n : Nat} {f : Nat → Int} (hb : Below W.heap.size W W') (h : ∀ j, j < n → W.cell? ⟨b, j, none⟩ = some (.int .i64 (f j))) : ∀ j, j < n → W'.cell? ⟨b, j, none⟩ = some (.int .i64 (f j)) := fun j hj => cell_keep hb (h j hj)

set_option maxHeartbeats 4000000 in
set_option maxRecDepth 100000 in
theorem walkN (m : Nat) (nm : Int) (a1 : Option Addr) (len1 cap1 : Nat) (T1 : Nat → Tm) (w : World) (hm : m ≤ 1048576) (hcm : cap1 ≤ maxLen) (hlc : len1 ≤ cap1) (b off : Nat)
    (hT : Hid (∀ i, i < len1 → a1 = some ⟨b, off, none⟩ ∧ Wf (T1 i) ∧ ∀ j u, (T1 i).cl[j]? = some u → w.cell? ⟨b, off + i * 6 + j, none⟩ = some u)) :
    Calls Try.prog 3 #[.int .i64 m, .slice a1 len1 cap1, .int .i64 nm] w fun e w' => e = .returned (.bool true) ∧ Below w.heap.size w w' := by
  unfold maxLen at hcm
  go_enter Try.func3, Try.ntmps3
  go_wp2_with fail
  refine (Pair.new1 (base := w.heap.size) (w0 := w) rfl (Below.refl _ _) (by omega) (by omega)).mono ?_
  rintro e w1 ⟨g1, rfl, hp⟩
  go_wp2_with fail
  refine (hp.new2 (by omega) (by omega)).mono ?_
  rintro e w2 ⟨g2, rfl, hp2⟩
  have HP0 : Hid (J w g1 g2 m [] w2) := Lib.hid hp2
  have gP := PSq.good w.heap.size g1 m
  have gR := RSq.good w.heap.size g2 m
  clear hp hp2
  go_wp2_with fail
  go_loopw [11] (fun i wr => ∃ k, ∃ L : List Tm, k ≤ 40 ∧ i = .int .i64 (k : Nat) ∧ Hid (J w g1 g2 m L wr)) (fun i _ => 40 - (intOf i).toNat)
  case atStart => exact ⟨0, [], Nat.zero_le _, rfl, HP0⟩
  case round =>
    obtain ⟨k, L, hk, rfl, HP⟩ := hrel
    clear HP0
    by_cases hlt : k < len1
    · have hlt1 : (k : Int) < (len1 : Int) := by omega
      by_cases h40 : k < 40
      · have h41 : (k : Int) < 40 := by omega
        obtain ⟨rfl, hwf, hcl⟩ := hT.out k hlt
        have hbw : b < w.heap.size := block_lt_of_cell (hcl 0 _ rfl)
        have hbl := HP.out.belowW
        have hcut := Lib.hid (fun W => cut_c (T1 k) W hwf)
        have HWF0 := Lib.hid (cutT_wf hwf)
        obtain ⟨⟨K, S, N, A, B, C⟩, ht⟩ : ∃ u, u = cutT (T1 k) := ⟨_, rfl⟩
        rw [← ht] at hcut HWF0
        have HWF := HWF0
        obtain ⟨⟨K', S', N', A', B', C'⟩, ht'⟩ : ∃ u, u = T1 k := ⟨_, rfl⟩
        rw [← ht'] at hcut hcl
        have q0 := hcl 0 _ rfl
        have q1 := hcl 1 _ rfl
        have q2 := hcl 2 _ rfl
        have q3 := hcl 3 _ rfl
        have q4 := hcl 4 _ rfl
        have q5 := hcl 5 _ rfl
        rw [← hbl.cell (by exact hbw)] at q0 q1 q2 q3 q4 q5
        simp at q0 q1 q2 q3 q4 q5
        have Hk := Lib.hid h40
        obtain ⟨an, er, L', hpf⟩ : ∃ an er L', putF L m ⟨K, S, N, A, B, C⟩ = (an, er, L') := ⟨_, _, _, rfl⟩
        have HPF := Lib.hid hpf
        have hk3 : (k : Int) ≤ 40 := by omega
        clear hcl ht ht' hbl HWF0 hwf hk hpf
        go_wp2_with fail
        refine (hcut.out _).mono ?_
        rintro e w3 ⟨rfl, hb3⟩
        rw [show Tm.v ⟨K, S, N, A, B, C⟩ = .agg #[.int .i64 K, .string S, .int .u64 N, .int .i64 A, .int .i64 B, .int .i64 C] from rfl]
        have HP3 := Lib.hid (HP.out.below gP gR hb3)
        clear hb3 HP hcut q0 q1 q2 q3 q4 q5
        go_wp2_with fail
        have HP := Lib.hid (HP3.out.box gP gR (.cells #[.int .i64 K, .string S, .int .u64 N, .int .i64 A, .int .i64 B, .int .i64 C] 32))
        have HBX := Lib.hid (heap_alloc_new w3 (.cells #[.int .i64 K, .string S, .int .u64 N, .int .i64 A, .int .i64 B, .int .i64 C] 32))
        generalize w3.alloc (.cells #[.int .i64 K, .string S, .int .u64 N, .int .i64 A, .int .i64 B, .int .i64 C] 32) = w3' at HP HBX ⊢
        clear HP3
        refine (HP.out.putP gR ⟨K, S, N, A, B, C⟩ HWF.out HPF.out).mono ?_
        rintro e w4 ⟨rfl, hP4, hk4⟩
        have HP4 := Lib.hid hP4
        have hbx : w4.heap[w3.heap.size]? = some (.cells #[.int .i64 K, .string S, .int .u64 N, .int .i64 A, .int .i64 B, .int .i64 C] 32 (0, 0)) := by rw [hk4 _ (.inr rfl)]; exact HBX.out
        have HBX4 := Lib.hid hbx
        clear hP4 hk4 hbx HP HBX
        have z0 := (cell_of_row _ _ 0 _ _ _ HBX4.out)
        have z1 := (cell_of_row _ _ 1 _ _ _ HBX4.out)
        have z2 := (cell_of_row _ _ 2 _ _ _ HBX4.out)
        have z3 := (cell_of_row _ _ 3 _ _ _ HBX4.out)
        have z4 := (cell_of_row _ _ 4 _ _ _ HBX4.out)
        have z5 := (cell_of_row _ _ 5 _ _ _ HBX4.out)
        simp at z0 z1 z2 z3 z4 z5
        go_wp2_with fail
        refine (ref_any _ _ _ _ _ _ _).mono ?_
        rintro e w5 ⟨rfl, hb5⟩
        have HP5 := Lib.hid (HP4.out.below gP gR hb5)
        have HBX5 : Hid (w5.heap[w3.heap.size]? = some (.cells #[.int .i64 K, .string S, .int .u64 N, .int .i64 A, .int .i64 B, .int .i64 C] 32 (0, 0))) := Lib.hid (by rw [hb5.block _ (blk_lt HBX4.out)]; exact HBX4.out)
        clear hb5 HP4 HBX4 z0 z1 z2 z3 z4 z5
        go_wp2_with fail
        refine (HP5.out.swap.putR gP ⟨K, S, N, A, B, C⟩ HWF.out HPF.out).mono ?_
        rintro e w6 ⟨rfl, hP6, hk6⟩
        have HJ6 : Hid (J w g1 g2 m L' w6) := Lib.hid (hP6.swap.less (fun _ q => q.elim))
        have HBX6 : Hid (w6.heap[w3.heap.size]? = some (.cells #[.int .i64 K, .string S, .int .u64 N, .int .i64 A, .int .i64 B, .int .i64 C] 32 (0, 0))) := Lib.hid (by rw [hk6 _ (.inr rfl)]; exact HBX5.out)
        clear hP6 hk6 HP5 HBX5
        have z0 := (cell_of_row _ _ 0 _ _ _ HBX6.out)
        have z1 := (cell_of_row _ _ 1 _ _ _ HBX6.out)
        have z2 := (cell_of_row _ _ 2 _ _ _ HBX6.out)
        have z3 := (cell_of_row _ _ 3 _ _ _ HBX6.out)
        have z4 := (cell_of_row _ _ 4 _ _ _ HBX6.out)
        have z5 := (cell_of_row _ _ 5 _ _ _ HBX6.out)
        simp at z0 z1 z2 z3 z4 z5
        obtain ⟨aa, cc, ch⟩ := jhead HJ6
        have sa : (an == an) = true := beq_self_eq_true _
        have se : (er == er) = true := beq_self_eq_true _
        have sl : ((L'.length : Int) == (L'.length : Int)) = true := beq_self_eq_true _
        obtain ⟨dd, hdd⟩ : ∃ d, depthOf L' an = d := ⟨_, rfl⟩
        have HDD := Lib.hid hdd
        have sd : (dd == dd) = true := beq_self_eq_true _
        clear hdd
        have hm0 : many K = 0 ∨ 0 < many K := by omega
        have HM3 := Lib.hid (many_le K)
        have HJ7 : Hid (J w g1 g2 m L' w6.drew) := jbelow (W := w6) (W' := w6.drew) ((Below.refl _ _).drew) HJ6
        have H16 : Hid (∀ W : World, HeldP w g1 g2 m L' w3.heap.size aa L'.length cc K S N A B C W → Calls Try.prog 16 #[.pointer (some ⟨g1, 0, none⟩), .int .i64 an] W fun e w' => e = .returned (.int .i64 dd) ∧ W = w') := Lib.hid (fun W h => j16 W h.j an dd HDD.out)
        have H17 : Hid (∀ W : World, HeldP w g1 g2 m L' w3.heap.size aa L'.length cc K S N A B C W → Calls Try.prog 17 #[.pointer (some ⟨g2, 0, none⟩), .int .i64 an] W fun e w' => e = .returned (.int .i64 dd) ∧ Below W.heap.size W w') := Lib.hid (fun W h => j17 W h.j an dd HDD.out)
        have H18 : Hid (∀ W : World, HeldP w g1 g2 m L' w3.heap.size aa L'.length cc K S N A B C W → Calls Try.prog 18 #[.pointer (some ⟨g1, 0, none⟩)] W fun e w' => e = .returned (.int .i64 L'.length) ∧ W = w') := Lib.hid (fun W h => j18 W h.j)
        have HREF : Hid (∀ W : World, Calls Try.prog 15 #[.agg #[.int .i64 K, .string S, .int .u64 N, .int .i64 A, .int .i64 B, .int .i64 C]] W fun e w' => e = .returned (.agg #[.int .i64 K, .string S, .int .u64 N, .int .i64 A, .int .i64 B, .int .i64 C]) ∧ Below W.heap.size W w') := Lib.hid (fun W => ref_any K S N A B C W)
        rcases hm0 with hm0 | hm0
        · have HM := Lib.hid hm0
          have HPP : Hid (∀ W : World, Calls Try.prog 20 #[.agg #[.int .i64 K, .string S, .int .u64 N, .int .i64 A, .int .i64 B, .int .i64 C]] W fun e w' => e = .returned (.slice none 0 0) ∧ Below W.heap.size W w') := Lib.hid (fun W => (parts_prog K S N A B C W).mono (fun e w' ⟨b, h1, h2, _⟩ => ⟨by rw [h1]; unfold partsV; rw [if_pos HM.out], h2⟩))
          have HPD : Hid (∀ W : World, Calls Try.prog 21 #[.agg #[.int .i64 K, .string S, .int .u64 N, .int .i64 A, .int .i64 B, .int .i64 C]] W fun e w' => ∃ bb, e = .returned (.slice (some ⟨bb, 0, none⟩) 0 3) ∧ Below W.heap.size W w') := Lib.hid (fun W => (parts_any K S N A B C W).mono (fun e w' ⟨h1, h2⟩ => ⟨W.heap.size + 1, by rw [h1, HM.out], by rw [h2]; exact ((Below.refl _ _).alloc (Nat.le_refl _) _).alloc (by simp) _⟩))
          clear hm0 HBX6
          go_wp2
          go_region_held3 (fun w' => w'.cell? ⟨w3.heap.size, 0, none⟩ = some (.int .i64 K) ∧ w'.cell? ⟨w3.heap.size, 1, none⟩ = some (.string S) ∧ w'.cell? ⟨w3.heap.size, 2, none⟩ = some (.int .u64 N) ∧ w'.cell? ⟨w3.heap.size, 3, none⟩ = some (.int .i64 A) ∧ w'.cell? ⟨w3.heap.size, 4, none⟩ = some (.int .i64 B) ∧ w'.cell? ⟨w3.heap.size, 5, none⟩ = some (.int .i64 C) ∧ w'.cell? ⟨g2, 0, none⟩ = some (.slice aa L'.length cc) ∧ Hid (J w g1 g2 m L' w')) (first | assumption | go_keep) (first | (go_at_call 16; refine (H16.out _ (by assumption)).mono ?_; rintro e W16 ⟨rfl, rfl⟩) | (go_at_call 17; refine (H17.out _ (by assumption)).mono ?_; rintro e W17 ⟨rfl, hb17⟩; have hS17 : HeldP w g1 g2 m L' w3.heap.size aa L'.length cc K S N A B C W17 := HeldP.below hb17 (by assumption)) | (go_at_call 18; refine (H18.out _ (by assumption)).mono ?_; rintro e W18 ⟨rfl, rfl⟩) | (go_at_call 15; refine (HREF.out _).mono ?_; rintro e W15 ⟨rfl, hb15⟩; have hS15 : HeldP w g1 g2 m L' w3.heap.size aa L'.length cc K S N A B C W15 := HeldP.below hb15 (by assumption)) | (go_at_call 20; refine (HPP.out _).mono ?_; rintro e W20 ⟨rfl, hb20⟩; have hS20 : HeldP w g1 g2 m L' w3.heap.size aa L'.length cc K S N A B C W20 := HeldP.below hb20 (by assumption)) | (go_at_call 21; refine (HPD.out _).mono ?_; rintro e W21 ⟨b21, rfl, hb21⟩; have hS21 : HeldP w g1 g2 m L' w3.heap.size aa L'.length cc K S N A B C W21 := HeldP.below hb21 (by assumption)) | (go_at_call 19; refine (sameN _ _ _ _ _).mono ?_; rintro e W19 ⟨rfl, hb19⟩; have hS19 : HeldP w g1 g2 m L' w3.heap.size aa L'.length cc K S N A B C W19 := HeldP.below hb19 (by assumption)))
          all_goals
            go_wp2_with fail
            go_roundw
            case rel => exact ⟨k + 1, L', by have := Hk.out; omega, by go_num, HeldP.j (by assumption)⟩
            case measure => have := Hk.out; simp [intOf]; omega
        · have HM := Lib.hid hm0
          have HPP : Hid (∀ W : World, Calls Try.prog 20 #[.agg #[.int .i64 K, .string S, .int .u64 N, .int .i64 A, .int .i64 B, .int .i64 C]] W fun e w' => ∃ bb, e = .returned (.slice (some ⟨bb, 0, none⟩) (many K) (many K)) ∧ Below W.heap.size W w' ∧ ∀ j, j < many K → w'.cell? ⟨bb, j, none⟩ = some (.int .i64 (partAt A B C j))) := Lib.hid (fun W => (parts_prog K S N A B C W).mono (fun e w' ⟨b, h1, h2, _, h4⟩ => ⟨b, by rw [h1]; unfold partsV; rw [if_neg (by have := HM.out; omega)], h2, h4⟩))
          have HPD : Hid (∀ W : World, Calls Try.prog 21 #[.agg #[.int .i64 K, .string S, .int .u64 N, .int .i64 A, .int .i64 B, .int .i64 C]] W fun e w' => ∃ bb, e = .returned (.slice (some ⟨bb, 0, none⟩) (many K) 3) ∧ Below W.heap.size W w' ∧ ∀ j, j < many K → w'.cell? ⟨bb, j, none⟩ = some (.int .i64 (partAt A B C j))) := Lib.hid (fun W => (parts_any K S N A B C W).mono (fun e w' ⟨h1, h2⟩ => ⟨W.heap.size + 1, h1, by rw [h2]; exact ((Below.refl _ _).alloc (Nat.le_refl _) _).alloc (by simp) _, fun j hj => by
            rw [h2, cell_of_row _ _ j _ _ _ (heap_alloc2_new W _ _)]
            have h3 := HM3.out
            rcases (by omega : j = 0 ∨ j = 1 ∨ j = 2) with rfl | rfl | rfl <;> rfl⟩))
          clear hm0 HBX6
          go_wp2
          go_region_held3 (fun w' => w'.cell? ⟨w3.heap.size, 0, none⟩ = some (.int .i64 K) ∧ w'.cell? ⟨w3.heap.size, 1, none⟩ = some (.string S) ∧ w'.cell? ⟨w3.heap.size, 2, none⟩ = some (.int .u64 N) ∧ w'.cell? ⟨w3.heap.size, 3, none⟩ = some (.int .i64 A) ∧ w'.cell? ⟨w3.heap.size, 4, none⟩ = some (.int .i64 B) ∧ w'.cell? ⟨w3.heap.size, 5, none⟩ = some (.int .i64 C) ∧ w'.cell? ⟨g2, 0, none⟩ = some (.slice aa L'.length cc) ∧ Hid (J w g1 g2 m L' w')) (first | assumption | go_keep) (first | (go_at_call 16; refine (H16.out _ (by assumption)).mono ?_; rintro e W16 ⟨rfl, rfl⟩) | (go_at_call 17; refine (H17.out _ (by assumption)).mono ?_; rintro e W17 ⟨rfl, hb17⟩; have hS17 : HeldP w g1 g2 m L' w3.heap.size aa L'.length cc K S N A B C W17 := HeldP.below hb17 (by assumption)) | (go_at_call 18; refine (H18.out _ (by assumption)).mono ?_; rintro e W18 ⟨rfl, rfl⟩) | (go_at_call 15; refine (HREF.out _).mono ?_; rintro e W15 ⟨rfl, hb15⟩; have hS15 : HeldP w g1 g2 m L' w3.heap.size aa L'.length cc K S N A B C W15 := HeldP.below hb15 (by assumption)) | (go_at_call 20; refine (HPP.out _).mono ?_; rintro e W20 ⟨b20, rfl, hb20, hc20⟩; have hS20 : HeldP w g1 g2 m L' w3.heap.size aa L'.length cc K S N A B C W20 := HeldP.below hb20 (by assumption)) | (go_at_call 21; refine (HPD.out _).mono ?_; rintro e W21 ⟨b21, rfl, hb21, hc21⟩; have hS21 : HeldP w g1 g2 m L' w3.heap.size aa L'.length cc K S N A B C W21 := HeldP.below hb21 (by assumption)) | (go_at_call 19; refine (sameS b20 b21 (many K) _ _ (partAt A B C) _ (by have := HM3.out; omega) (by first | exact hc20 | exact keepc hb21 hc20 | exact keepc hb21 (keepc hb15 hc20)) (by first | exact hc21 | exact keepc hb20 hc21)).mono ?_; rintro e W19 ⟨rfl, hb19⟩; have hS19 : HeldP w g1 g2 m L' w3.heap.size aa L'.length cc K S N A B C W19 := HeldP.below hb19 (by assumption)))
          all_goals
            go_wp2_with fail
            go_roundw
            case rel => exact ⟨k + 1, L', by have := Hk.out; omega, by go_num, HeldP.j (by assumption)⟩
            case measure => have := Hk.out; simp [intOf]; omega
      · have h61 : decide ((k : Int) < 40) = false := by simp; omega
        clear hk
        obtain ⟨⟨⟨K, S, N, A, B, C⟩, is⟩, hx⟩ : ∃ x, getT L nm = x := ⟨_, rfl⟩
        obtain ⟨dd, hdd⟩ : ∃ d, depthOf L nm = d := ⟨_, rfl⟩
        have HX := Lib.hid hx
        have HDD := Lib.hid hdd
        clear hx hdd
        go_wp2_with fail
        refine (HP.out.getP gR _ HX.out).mono ?_
        rintro e w3 ⟨rfl, hP3, _⟩
        rw [show ((⟨K, S, N, A, B, C⟩, is) : Tm × Bool).1.v = .agg #[.int .i64 K, .string S, .int .u64 N, .int .i64 A, .int .i64 B, .int .i64 C] from rfl]
        have HP3 := Lib.hid hP3
        clear hP3 HP
        go_wp2_with fail
        have HP4 := Lib.hid (HP3.out.below gP gR ((Below.refl _ _).alloc (Nat.le_refl _) (.cells #[.int .i64 K, .string S, .int .u64 N, .int .i64 A, .int .i64 B, .int .i64 C] 32)))
        have HBX := Lib.hid (heap_alloc_new w3 (.cells #[.int .i64 K, .string S, .int .u64 N, .int .i64 A, .int .i64 B, .int .i64 C] 32))
        generalize w3.alloc (.cells #[.int .i64 K, .string S, .int .u64 N, .int .i64 A, .int .i64 B, .int .i64 C] 32) = w4 at HP4 HBX ⊢
        clear HP3
        refine (HP4.out.swap.getR gP _ HX.out).mono ?_
        rintro e w5 ⟨rfl, hP5, hb5⟩
        rw [show ((⟨K, S, N, A, B, C⟩, is) : Tm × Bool).1.v = .agg #[.int .i64 K, .string S, .int .u64 N, .int .i64 A, .int .i64 B, .int .i64 C] from rfl]
        have HP5 := Lib.hid hP5.swap
        have HBX5 : Hid (w5.heap[w3.heap.size]? = some (.cells #[.int .i64 K, .string S, .int .u64 N, .int .i64 A, .int .i64 B, .int .i64 C] 32 (0, 0))) := Lib.hid (by rw [hb5.block _ (blk_lt HBX.out)]; exact HBX.out)
        clear hP5 hb5 HP4 HBX
        go_wp2_with fail
        have HP6 : Hid (J w g1 g2 m L (w5.alloc (.cells #[.int .i64 K, .string S, .int .u64 N, .int .i64 A, .int .i64 B, .int .i64 C] 37))) := Lib.hid (HP5.out.below gP gR ((Below.refl _ _).alloc (Nat.le_refl _) (.cells #[.int .i64 K, .string S, .int .u64 N, .int .i64 A, .int .i64 B, .int .i64 C] 37)))
        have z : ∀ j, (w5.alloc (.cells #[.int .i64 K, .string S, .int .u64 N, .int .i64 A, .int .i64 B, .int .i64 C] 37)).cell? ⟨w3.heap.size, j, none⟩ = (#[.int .i64 K, .string S, .int .u64 N, .int .i64 A, .int .i64 B, .int .i64 C] : Array Value)[j]? := fun j => cell_of_row _ _ j _ _ _ (by rw [Below.heap_alloc _ _ _ (blk_lt HBX5.out)]; exact HBX5.out)
        have u : ∀ j, (w5.alloc (.cells #[.int .i64 K, .string S, .int .u64 N, .int .i64 A, .int .i64 B, .int .i64 C] 37)).cell? ⟨w5.heap.size, j, none⟩ = (#[.int .i64 K, .string S, .int .u64 N, .int .i64 A, .int .i64 B, .int .i64 C] : Array Value)[j]? := fun j => cell_of_row _ _ j _ _ _ (heap_alloc_new w5 _)
        generalize w5.alloc (.cells #[.int .i64 K, .string S, .int .u64 N, .int .i64 A, .int .i64 B, .int .i64 C] 37) = w6 at HP6 z u ⊢
        have z0 := z 0
        have z1 := z 1
        have z2 := z 2
        have z3 := z 3
        have z4 := z 4
        have z5 := z 5
        have u0 := u 0
        have u1 := u 1
        have u2 := u 2
        have u3 := u 3
        have u4 := u 4
        have u5 := u 5
        simp at z0 z1 z2 z3 z4 z5 u0 u1 u2 u3 u4 u5
        have hE := eqlR_same ⟨K, S, N, A, B, C⟩
        have hgd := guard37
        unfold Tm.v at hE
        simp only [] at hE
        have sd : (dd == dd) = true := beq_self_eq_true _
        have si : (is == is) = true := beq_self_eq_true _
        have HP7 : Hid (J w g1 g2 m L w6.drew) := jbelow (W := w6) (W' := w6.drew) ((Below.refl _ _).drew) HP6
        have H16 : Hid (∀ W : World, HeldQ w g1 g2 m L w3.heap.size w5.heap.size K S N A B C W → Calls Try.prog 16 #[.pointer (some ⟨g1, 0, none⟩), .int .i64 nm] W fun e w' => e = .returned (.int .i64 dd) ∧ W = w') := Lib.hid (fun W h => j16 W h.j nm dd HDD.out)
        have H17 : Hid (∀ W : World, HeldQ w g1 g2 m L w3.heap.size w5.heap.size K S N A B C W → Calls Try.prog 17 #[.pointer (some ⟨g2, 0, none⟩), .int .i64 nm] W fun e w' => e = .returned (.int .i64 dd) ∧ Below W.heap.size W w') := Lib.hid (fun W h => j17 W h.j nm dd HDD.out)
        have H25 : Hid (∀ W : World, HeldQ w g1 g2 m L w3.heap.size w5.heap.size K S N A B C W → Calls Try.prog 25 #[.pointer (some ⟨g1, 0, none⟩), .pointer (some ⟨g2, 0, none⟩)] W fun e w' => e = .returned (.int .i64 1) ∧ Below W.heap.size W w') := Lib.hid (fun W h => sameL_any W h.j.out)
        have HREF : Hid (∀ W : World, Calls Try.prog 15 #[.agg #[.int .i64 K, .string S, .int .u64 N, .int .i64 A, .int .i64 B, .int .i64 C]] W fun e w' => e = .returned (.agg #[.int .i64 K, .string S, .int .u64 N, .int .i64 A, .int .i64 B, .int .i64 C]) ∧ Below W.heap.size W w') := Lib.hid (fun W => ref_any K S N A B C W)
        clear z u HP5 HBX5
        go_wp2
        go_region_held3 (fun w' => w'.cell? ⟨w3.heap.size, 0, none⟩ = some (.int .i64 K) ∧ w'.cell? ⟨w3.heap.size, 1, none⟩ = some (.string S) ∧ w'.cell? ⟨w3.heap.size, 2, none⟩ = some (.int .u64 N) ∧ w'.cell? ⟨w3.heap.size, 3, none⟩ = some (.int .i64 A) ∧ w'.cell? ⟨w3.heap.size, 4, none⟩ = some (.int .i64 B) ∧ w'.cell? ⟨w3.heap.size, 5, none⟩ = some (.int .i64 C) ∧ w'.cell? ⟨w5.heap.size, 0, none⟩ = some (.int .i64 K) ∧ w'.cell? ⟨w5.heap.size, 1, none⟩ = some (.string S) ∧ w'.cell? ⟨w5.heap.size, 2, none⟩ = some (.int .u64 N) ∧ w'.cell? ⟨w5.heap.size, 3, none⟩ = some (.int .i64 A) ∧ w'.cell? ⟨w5.heap.size, 4, none⟩ = some (.int .i64 B) ∧ w'.cell? ⟨w5.heap.size, 5, none⟩ = some (.int .i64 C) ∧ Hid (J w g1 g2 m L w')) (first | assumption | go_keep) (first | (go_at_call 16; refine (H16.out _ (by assumption)).mono ?_; rintro e W16 ⟨rfl, rfl⟩) | (go_at_call 17; refine (H17.out _ (by assumption)).mono ?_; rintro e W17 ⟨rfl, hb17⟩; have hS17 : HeldQ w g1 g2 m L w3.heap.size w5.heap.size K S N A B C W17 := HeldQ.below hb17 (by assumption)) | (go_at_call 25; refine (H25.out _ (by assumption)).mono ?_; rintro e W25 ⟨rfl, hb25⟩; have hS25 : HeldQ w g1 g2 m L w3.heap.size w5.heap.size K S N A B C W25 := HeldQ.below hb25 (by assumption)) | (go_at_call 15; refine (HREF.out _).mono ?_; rintro e W15 ⟨rfl, hb15⟩; have hS15 : HeldQ w g1 g2 m L w3.heap.size w5.heap.size K S N A B C W15 := HeldQ.below hb15 (by assumption)) | (go_at_call 22; refine (fixed_any _).mono ?_; rintro e W22 ⟨rfl, hb22⟩; have hS22 : HeldQ w g1 g2 m L w3.heap.size w5.heap.size K S N A B C W22 := HeldQ.below hb22 (by assumption)))
        all_goals
          go_wp2
          go_ret
          exact ⟨rfl, (HeldQ.j (w := w) (g1 := g1) (g2 := g2) (m := m) (L := L) (q := w3.heap.size) (r := w5.heap.size) (K := K) (S := S) (N := N) (A := A) (B := B) (C := C) (by assumption)).out.belowW⟩
    · have hlt1 : decide (k < len1) = false := by simpa using hlt
      clear hlt
      obtain ⟨⟨⟨K, S, N, A, B, C⟩, is⟩, hx⟩ : ∃ x, getT L nm = x := ⟨_, rfl⟩
      obtain ⟨dd, hdd⟩ : ∃ d, depthOf L nm = d := ⟨_, rfl⟩
      have HX := Lib.hid hx
      have HDD := Lib.hid hdd
      clear hx hdd
      go_wp2_with fail
      refine (HP.out.getP gR _ HX.out).mono ?_
      rintro e w3 ⟨rfl, hP3, _⟩
      rw [show ((⟨K, S, N, A, B, C⟩, is) : Tm × Bool).1.v = .agg #[.int .i64 K, .string S, .int .u64 N, .int .i64 A, .int .i64 B, .int .i64 C] from rfl]
      have HP3 := Lib.hid hP3
      clear hP3 HP
      go_wp2_with fail
      have HP4 := Lib.hid (HP3.out.below gP gR ((Below.refl _ _).alloc (Nat.le_refl _) (.cells #[.int .i64 K, .string S, .int .u64 N, .int .i64 A, .int .i64 B, .int .i64 C] 32)))
      have HBX := Lib.hid (heap_alloc_new w3 (.cells #[.int .i64 K, .string S, .int .u64 N, .int .i64 A, .int .i64 B, .int .i64 C] 32))
      generalize w3.alloc (.cells #[.int .i64 K, .string S, .int .u64 N, .int .i64 A, .int .i64 B, .int .i64 C] 32) = w4 at HP4 HBX ⊢
      clear HP3
      refine (HP4.out.swap.getR gP _ HX.out).mono ?_
      rintro e w5 ⟨rfl, hP5, hb5⟩
      rw [show ((⟨K, S, N, A, B, C⟩, is) : Tm × Bool).1.v = .agg #[.int .i64 K, .string S, .int .u64 N, .int .i64 A, .int .i64 B, .int .i64 C] from rfl]
      have HP5 := Lib.hid hP5.swap
      have HBX5 : Hid (w5.heap[w3.heap.size]? = some (.cells #[.int .i64 K, .string S, .int .u64 N, .int .i64 A, .int .i64 B, .int .i64 C] 32 (0, 0))) := Lib.hid (by rw [hb5.block _ (blk_lt HBX.out)]; exact HBX.out)
      clear hP5 hb5 HP4 HBX
      go_wp2_with fail
      have HP6 : Hid (J w g1 g2 m L (w5.alloc (.cells #[.int .i64 K, .string S, .int .u64 N, .int .i64 A, .int .i64 B, .int .i64 C] 37))) := Lib.hid (HP5.out.below gP gR ((Below.refl _ _).alloc (Nat.le_refl _) (.cells #[.int .i64 K, .string S, .int .u64 N, .int .i64 A, .int .i64 B, .int .i64 C] 37)))
      have z : ∀ j, (w5.alloc (.cells #[.int .i64 K, .string S, .int .u64 N, .int .i64 A, .int .i64 B, .int .i64 C] 37)).cell? ⟨w3.heap.size, j, none⟩ = (#[.int .i64 K, .string S, .int .u64 N, .int .i64 A, .int .i64 B, .int .i64 C] : Array Value)[j]? := fun j => cell_of_row _ _ j _ _ _ (by rw [Below.heap_alloc _ _ _ (blk_lt HBX5.out)]; exact HBX5.out)
      have u : ∀ j, (w5.alloc (.cells #[.int .i64 K, .string S, .int .u64 N, .int .i64 A, .int .i64 B, .int .i64 C] 37)).cell? ⟨w5.heap.size, j, none⟩ = (#[.int .i64 K, .string S, .int .u64 N, .int .i64 A, .int .i64 B, .int .i64 C] : Array Value)[j]? := fun j => cell_of_row _ _ j _ _ _ (heap_alloc_new w5 _)
      generalize w5.alloc (.cells #[.int .i64 K, .string S, .int .u64 N, .int .i64 A, .int .i64 B, .int .i64 C] 37) = w6 at HP6 z u ⊢
      have z0 := z 0
      have z1 := z 1
      have z2 := z 2
      have z3 := z 3
      have z4 := z 4
      have z5 := z 5
      have u0 := u 0
      have u1 := u 1
      have u2 := u 2
      have u3 := u 3
      have u4 := u 4
      have u5 := u 5
      simp at z0 z1 z2 z3 z4 z5 u0 u1 u2 u3 u4 u5
      have hE := eqlR_same ⟨K, S, N, A, B, C⟩
      have hgd := guard37
      unfold Tm.v at hE
      simp only [] at hE
      have sd : (dd == dd) = true := beq_self_eq_true _
      have si : (is == is) = true := beq_self_eq_true _
      have HP7 : Hid (J w g1 g2 m L w6.drew) := jbelow (W := w6) (W' := w6.drew) ((Below.refl _ _).drew) HP6
      have H16 : Hid (∀ W : World, HeldQ w g1 g2 m L w3.heap.size w5.heap.size K S N A B C W → Calls Try.prog 16 #[.pointer (some ⟨g1, 0, none⟩), .int .i64 nm] W fun e w' => e = .returned (.int .i64 dd) ∧ W = w') := Lib.hid (fun W h => j16 W h.j nm dd HDD.out)
      have H17 : Hid (∀ W : World, HeldQ w g1 g2 m L w3.heap.size w5.heap.size K S N A B C W → Calls Try.prog 17 #[.pointer (some ⟨g2, 0, none⟩), .int .i64 nm] W fun e w' => e = .returned (.int .i64 dd) ∧ Below W.heap.size W w') := Lib.hid (fun W h => j17 W h.j nm dd HDD.out)
      have H25 : Hid (∀ W : World, HeldQ w g1 g2 m L w3.heap.size w5.heap.size K S N A B C W → Calls Try.prog 25 #[.pointer (some ⟨g1, 0, none⟩), .pointer (some ⟨g2, 0, none⟩)] W fun e w' => e = .returned (.int .i64 1) ∧ Below W.heap.size W w') := Lib.hid (fun W h => sameL_any W h.j.out)
      have HREF : Hid (∀ W : World, Calls Try.prog 15 #[.agg #[.int .i64 K, .string S, .int .u64 N, .int .i64 A, .int .i64 B, .int .i64 C]] W fun e w' => e = .returned (.agg #[.int .i64 K, .string S, .int .u64 N, .int .i64 A, .int .i64 B, .int .i64 C]) ∧ Below W.heap.size W w') := Lib.hid (fun W => ref_any K S N A B C W)
      clear z u HP5 HBX5
      go_wp2
      go_region_held3 (fun w' => w'.cell? ⟨w3.heap.size, 0, none⟩ = some (.int .i64 K) ∧ w'.cell? ⟨w3.heap.size, 1, none⟩ = some (.string S) ∧ w'.cell? ⟨w3.heap.size, 2, none⟩ = some (.int .u64 N) ∧ w'.cell? ⟨w3.heap.size, 3, none⟩ = some (.int .i64 A) ∧ w'.cell? ⟨w3.heap.size, 4, none⟩ = some (.int .i64 B) ∧ w'.cell? ⟨w3.heap.size, 5, none⟩ = some (.int .i64 C) ∧ w'.cell? ⟨w5.heap.size, 0, none⟩ = some (.int .i64 K) ∧ w'.cell? ⟨w5.heap.size, 1, none⟩ = some (.string S) ∧ w'.cell? ⟨w5.heap.size, 2, none⟩ = some (.int .u64 N) ∧ w'.cell? ⟨w5.heap.size, 3, none⟩ = some (.int .i64 A) ∧ w'.cell? ⟨w5.heap.size, 4, none⟩ = some (.int .i64 B) ∧ w'.cell? ⟨w5.heap.size, 5, none⟩ = some (.int .i64 C) ∧ Hid (J w g1 g2 m L w')) (first | assumption | go_keep) (first | (go_at_call 16; refine (H16.out _ (by assumption)).mono ?_; rintro e W16 ⟨rfl, rfl⟩) | (go_at_call 17; refine (H17.out _ (by assumption)).mono ?_; rintro e W17 ⟨rfl, hb17⟩; have hS17 : HeldQ w g1 g2 m L w3.heap.size w5.heap.size K S N A B C W17 := HeldQ.below hb17 (by assumption)) | (go_at_call 25; refine (H25.out _ (by assumption)).mono ?_; rintro e W25 ⟨rfl, hb25⟩; have hS25 : HeldQ w g1 g2 m L w3.heap.size w5.heap.size K S N A B C W25 := HeldQ.below hb25 (by assumption)) | (go_at_call 15; refine (HREF.out _).mono ?_; rintro e W15 ⟨rfl, hb15⟩; have hS15 : HeldQ w g1 g2 m L w3.heap.size w5.heap.size K S N A B C W15 := HeldQ.below hb15 (by assumption)) | (go_at_call 22; refine (fixed_any _).mono ?_; rintro e W22 ⟨rfl, hb22⟩; have hS22 : HeldQ w g1 g2 m L w3.heap.size w5.heap.size K S N A B C W22 := HeldQ.below hb22 (by assumption)))
      all_goals
        go_wp2
        go_ret
        exact ⟨rfl, (HeldQ.j (w := w) (g1 := g1) (g2 := g2) (m := m) (L := L) (q := w3.heap.size) (r := w5.heap.size) (K := K) (S := S) (N := N) (A := A) (B := B) (C := C) (by assumption)).out.belowW⟩

set_option maxHeartbeats 1000000 in
set_option maxRecDepth 100000 in
theorem walk_bad (a0 nm : Int) (a1 : Option Addr) (len1 cap1 : Nat) (w : World) (h : a0 < 0 ∨ 1048576 < a0) :
    Calls Try.prog 3 #[.int .i64 a0, .slice a1 len1 cap1, .int .i64 nm] w fun e w' => e = .returned (.bool true) ∧ Below w.heap.size w w' := by
  have H := Lib.hid h
  clear h
  go_enter Try.func3, Try.ntmps3
  go_wp2_with fail
  refine (newP_bad a0 w H.out).mono ?_
  rintro e w1 ⟨rfl, rfl⟩
  go_wp2_with fail
  refine (new_bad a0 w H.out).mono ?_
  rintro e w1 ⟨rfl, rfl⟩
  go_wp2_with fail
  go_loopw [11] (fun i wr => i = .int .i64 0 ∧ Hid (wr = w)) (fun _ _ => 0)
  case atStart => exact ⟨rfl, Lib.hid rfl⟩
  case round =>
    obtain ⟨rfl, HW⟩ := hrel
    go_wp2_with fail
    refine (fixed_any _).mono ?_
    rintro e w2 ⟨rfl, hb⟩
    have HB := Lib.hid hb
    clear hb
    go_wp2
    go_ret
    refine ⟨rfl, ?_⟩
    have hb := HB.out
    rw [HW.out] at hb
    exact hb

theorem walk (a0 : Int) (a1 : Option Addr) (len1 cap1 : Nat) (T1 : Nat → Tm) (a2 : Int) (w : World) (w0 : (Lit.int .i64 a0).wf = true) (w1 : Terms w a1 len1 cap1 T1) (w2 : (Lit.int .i64 a2).wf = true) :
    Calls Try.prog 3 #[.int .i64 a0, .slice a1 len1 cap1, .int .i64 a2] w fun e w' => e = .returned (.bool true) ∧ Below w.heap.size w w' := by
  obtain ⟨h1, h2, b, off, h3⟩ := w1
  by_cases hb : 0 ≤ a0 ∧ a0 ≤ 1048576
  · obtain ⟨m, rfl⟩ := Int.eq_ofNat_of_zero_le hb.1
    exact walkN m a2 a1 len1 cap1 T1 w (by omega) h1 h2 b off (Lib.hid h3)
  · exact walk_bad a0 a2 a1 len1 cap1 w (by omega)

set_option maxRecDepth 100000 in
theorem lifted (os : Os) (started : os.Started) (H : Type) (enc : TypeId × Value → H) :
    ReturnsInHanded {} Try.checked os 3 .any (Rows.termDoesSpec.pre6 enc Try.prog Try.f3 Rows.termDoesRow.domain false) (Rows.termDoesSpec.post enc Try.prog Try.f3 false true false false) := by
  refine returnsInHanded_of_change (C := Try.checked) own started (by kernel_rfl) Try.func3
    (ChangeSpec.witness6 (enc := enc) (C := Try.checked) false ⟨#[], #[.int .i64 0, .slice none 0 0, .int .i64 0], []⟩ 8 (by kernel_rfl) (by kernel_rfl) (by kernel_rfl) (by kernel_rfl)) ?_
  intro W base args ds gs before hval0 hW hcnd _
  have hval : ∀ (j : Nat) t v, Try.f3.params[j]? = some t → args[j]? = some v → Value.okWide Try.prog W .any base t v := hval0
  have hW' := hW
  obtain ⟨p, q, hA0, hV, rfl, hfz, hnd⟩ := hW
  have hA : DataW.TrodAll enc Try.prog W 0 (fun _ => true) true Try.f3.params.toList args.toList ds p := hA0
  rw [Try.params3] at hA hval
  obtain ⟨v0, vs0, d0, ds0, p0, q0, hargs, rfl, rfl, h0, r0⟩ := trodAll_cons hA
  obtain ⟨v1, vs1, d1, ds1, p1, q1, rfl, rfl, rfl, h1, r1⟩ := trodAll_cons r0
  obtain ⟨v2, vs2, d2, ds2, p2, q2, rfl, rfl, rfl, h2, r2⟩ := trodAll_cons r1
  obtain ⟨rfl, rfl, rfl⟩ := trodAll_nil r2
  obtain rfl : args = #[v0, v1, v2] := by cases args; simp_all
  obtain ⟨rfl, rfl⟩ := trodVars_none hV
  obtain ⟨a0, rfl, rfl, rfl, w0⟩ := open_int Try.underlying3 (hval 0 3 v0 rfl rfl) h0
  obtain ⟨a1, len1, cap1, rfl⟩ := okWide_slice Try.underlying22 (hval 1 22 v1 rfl rfl)
  have k1 := h1
  have lt1 : ∀ x ∈ p1, x.block < W.heap.size := by obtain ⟨m, hm⟩ := k1; exact DataW.trod_lt m _ _ _ hm
  obtain ⟨T1, w1⟩ : ∃ T, Terms W a1 len1 cap1 T := by
    obtain ⟨fuel, hf⟩ := h1
    exact open_terms (by simpa [Value.cells] using hf)
  obtain ⟨a2, rfl, rfl, rfl, w2⟩ := open_int Try.underlying3 (hval 2 3 v2 rfl rfl) h2
  clear hA0 hval0
  refine (walk a0 a1 len1 cap1 T1 a2 W w0 w1 w2).mono fun e W' ⟨he, bel⟩ => ?_
  subst he
  exact ⟨_, rfl, _, _, _, [], _, [], hW', trodAll_mk1 (shut_bool Try.underlying4 _), (trodAll_cons_mk (shut_int Try.underlying3 w0) (trodAll_cons_mk (Below.trod laidOut (by kernel_rfl) (of_decide_eq_true (by kernel_rfl)) k1 bel lt1) (trodAll_cons_mk (shut_int Try.underlying3 w2) trodAll_mk0))), rfl, bel.frame _, fun h => by cases h⟩

theorem over : Rows.termDoesRow.holds Try.pinned (OpenSpec.ofChange Rows.termDoesSpec) :=
  OpenClaim.holds_of_wide 3 Try.f3 rfl rfl rfl rfl rfl rfl rfl ⟨rfl, rfl, rfl, rfl, rfl⟩ rfl rfl rfl rfl rfl (by kernel_rfl) Try.func3 (by kernel_rfl)
    (of_decide_eq_true (by kernel_rfl)) (by unfold Func.isWrapper; first | (rw [if_pos (by decide +kernel)]; kernel_rfl) | (rw [if_neg (by decide +kernel)]; exact ⟨rfl, rfl⟩))
    (fun os started H enc _ => lifted os started H enc)

theorem proved : Rows.TermDoesSaid := over
#print axioms proved
end Go.Proofs.Ytbmbglbbojacpaa.termDoes
