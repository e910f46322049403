/- The document's All: it answers the names of the least set that has what is known and what is made of its own, or that one of them is no name. The document's Can: whether a name is in the least set, or what is wrong. -/
/- The program's All and Can. -/
/- Stores that are filled: all that the mind wants to know of them. What the program's All and Can answer where all is well, and where not; what can be made, reckoned. The fixed calls of stage 8: what they tell of their five terms. -/
/- Who can make what, in trees: a set that is kept whatever is in a store, and what is made step by step; terms of a handshake are well formed. -/
import Derived.Test.YtgeonppckeiceaaGreatDoorGq30
import Derived.Test.YtgeonppckeiceaaGreatDoorGq35
import Derived.Test.YtgeonppckeiceaaGreatDoorGq38
import Derived.Test.YtgeonppckeiceaaGreatDoorGq32
import Derived.Test.YtgeonppckeiceaaGreatDoorGq03
import Derived.Test.YtgeonppckeiceaaGreatDoorGq29
namespace Go.Proofs.YtgeonppckeiceaaGreatDoor
open Go.RowKit
set_option linter.unusedVariables false
set_option linter.unusedSimpArgs false
set_option maxRecDepth 20000
end Go.Proofs.YtgeonppckeiceaaGreatDoor
namespace Go.Proofs.YtgeonppckeiceaaGreatDoor
open Go.RowKit
set_option linter.unusedVariables false
set_option linter.unusedSimpArgs false
set_option maxRecDepth 20000
def CanPost (L : List Tm) (ks : List Int) (dh kem : Bool) (name : Int) (w : World) (e : Ending) (w' : World) : Prop :=
 Below w.heap.size w w' ∧ (((∃ x, x ∈ ks ∧ ¬ InL L x) ∧ e = .returned (.tuple #[.bool false, .int .i64 1])) ∨
  ((∀ x, x ∈ ks → InL L x) ∧ ¬ InL L name ∧ e = .returned (.tuple #[.bool false, .int .i64 5])) ∨
  ((∀ x, x ∈ ks → InL L x) ∧ InL L name ∧ ∃ C, Least L ks dh kem C ∧ e = .returned (.tuple #[.bool (C name), .int .i64 0])))
open Go.Maps
theorem all_of {L : List Tm} {ks : List Int} (h : ks.all (allB L) = true) : ∀ x, x ∈ ks → InL L x := fun x hx => allB_iff.1 (List.all_eq_true.1 h x hx)
theorem not_all_of {L : List Tm} {ks : List Int} (h : ks.all (allB L) = false) : ∃ x, x ∈ ks ∧ ¬ InL L x := by
 obtain ⟨x, hx, hn⟩ := List.all_eq_false.1 h
 exact ⟨x, hx, fun q => hn (allB_iff.2 q)⟩
theorem Mind.known {W w : World} {g : Nat} {L : List Tm} {dh kem : Bool} {B : MB} {nm : Tm → Int} {H : Nat → List Int} {vs : Nat → Value} {v : Value} {M : List Int} (h : Mind W g L dh kem B nm H vs v M w) {a : Option Addr} {cap : Nat} {ks : List Int} (hi : IntsAt W a cap ks) :
  ∀ W', Chg (SM B v) w W' → IntsAt W' a cap ks := fun W' hc => hi.below (h.below.trans (hc.below (fun k hk => by
 rcases hk with e | e | e
 ·rw [e]; exact h.lo.1
 ·rw [e]; exact h.lo.2.1
 ·exact (World.ownsRow.lt h.row k e.symm).1) h.below.size))
theorem thought_all {L : List Tm} {ks M' : List Int} {dh kem : Bool} (hF : Fit L) (hk : ∀ x, x ∈ ks → InL L x) (hm : Mid L dh kem (addAll [] ks) M') : ∃ C, Least L ks dh kem C ∧ Le (has M') C ∧ ((KStepC L dh kem (has M') (has M')) → ∀ n, has M' n = C n) := by
 obtain ⟨C, hC⟩ := least_is hF hk dh kem
 have hle : Le (has M') C := hm.2 C hC.1.step (fun n hn => by
  rw [has_addAll, has_nil, Bool.false_or] at hn
  exact hC.1.known n (has_iff.1 hn))
 refine ⟨C, hC, hle, fun hst n => least_list hC (fun a ha => ?_) hle hst n⟩
 have : has (addAll [] ks) a = true := by rw [has_addAll, has_nil, Bool.false_or]; exact has_iff.2 ha
 exact has_iff.1 (pre_le hm.1 a this)
theorem hang_all (L : List Tm) : ∀ n, InL L n → ∀ on, on ∈ asks L n → n ∈ hangs L L.length on.toNat := fun n hn on ho => hangs_mem hn.1 hn.2 on ho
theorem hang_in (L : List Tm) : ∀ i y, y ∈ hangs L L.length i → InL L y := fun i y hy => hangs_in hy
structure Known (w : World) (g : Nat) (L : List Tm) : Prop where
 st : StoreAt w g L
 fit : Fit L
 sound : Sound L
 uniq : Uniq L
 wf : ∀ t, t ∈ L → Wf t
 most : L.length ≤ 1048576
set_option maxHeartbeats 8000000 in
set_option maxRecDepth 100000 in
theorem can_k {W : World} {g : Nat} {L : List Tm} (hK : Known W g L) (a : Option Addr) (cap : Nat) (ks : List Int) (h : IntsAt W a cap ks) (dh kem : Bool) (name : Int) :
  Calls Tryz.prog 38 #[.pointer (some ⟨g, 0, none⟩), .slice a ks.length cap, .agg #[.bool dh, .bool kem], .int .i64 name] W (CanPost L ks dh kem name W) := by
 have hlen := h.len
 have HI := Lib.hid h
 have HK := Lib.hid hK
 have HTHERE : Hid (∀ w', Below W.heap.size W w' → Calls Tryz.prog 107 #[.pointer (some ⟨g, 0, none⟩), .slice a ks.length cap] w' fun e W' => e = .returned (.bool (ks.all (allB L))) ∧ Below w'.heap.size w' W') := Lib.hid (fun w' hb => there_k hK.st a cap ks w' hb (h.below hb))
 have HONE : Hid (∀ w', Below W.heap.size W w' → Calls Tryz.prog 107 #[.pointer (some ⟨g, 0, none⟩), .slice (some ⟨w'.heap.size, 0, none⟩) 1 1] (w'.alloc (.cells #[.int .i64 name] 3)) fun e W' => e = .returned (.bool (allB L name)) ∧ Below w'.heap.size w' W') := Lib.hid (fun w' hb => by
  have hb2 : Below w'.heap.size w' (w'.alloc (.cells #[.int .i64 name] 3)) := (Below.refl _ _).alloc (Nat.le_refl _) _
  have ho : OwnI w'.heap.size (.slice (some ⟨w'.heap.size, 0, none⟩) [name].length 1) [name] (w'.alloc (.cells #[.int .i64 name] 3)) := OwnI.lit (xs := [name]) (Nat.le_refl _) (heap_alloc_new w' _) (by simp [maxLen])
  obtain ⟨a', c', e, hi⟩ := ho.at
  injection e with e1 e2 e3
  subst e1; subst e3
  refine (there_k hK.st _ 1 [name] _ (hb.trans (hb2.mono hb.size)) hi).mono ?_
  rintro e w3 ⟨rfl, hb3⟩
  exact ⟨by simp, hb2.trans (hb3.mono hb2.size)⟩)
 have HHAVE : Hid (∀ (B : MB) (H : Nat → List Int) (vs : Nat → Value) (v : Value) (M : List Int) (w' : World), MindF W g L dh kem B H vs v M w' → (∀ x, x ∈ ks → InL L x) → Calls Tryz.prog 109 #[.pointer (some ⟨B.m, 0, none⟩), .slice a ks.length cap] w' (Had W g L dh kem B (noteOf L L.length) H vs v (addAll M ks) w')) := Lib.hid (fun B H vs v M w' hm hx => have_any hm a cap ks (hm.known h) hx)
 obtain ⟨b, hbb⟩ : ∃ b, b = ks.all (allB L) := ⟨_, rfl⟩
 rw [← hbb] at HTHERE
 have HBB := Lib.hid hbb
 obtain ⟨d, hdd⟩ : ∃ d, d = allB L name := ⟨_, rfl⟩
 rw [← hdd] at HONE
 have HDD := Lib.hid hdd
 obtain ⟨n, hn⟩ : ∃ n, n = ks.length := ⟨_, rfl⟩
 rw [← hn] at hlen HTHERE HHAVE ⊢
 obtain ⟨W1, hW1⟩ : ∃ W1, W1 = W.alloc (.cells #[.bool dh, .bool kem] 104) := ⟨_, rfl⟩
 have hb1 : Below W.heap.size W W1 := by rw [hW1]; exact (Below.refl _ _).alloc (Nat.le_refl _) _
 have z : ∀ j, W1.cell? ⟨W.heap.size, j, none⟩ = #[Value.bool dh, .bool kem][j]? := fun j => by rw [hW1]; exact cell_of_row _ _ j _ _ _ (heap_alloc_new W _)
 have hF1 : HeldF W.heap.size dh kem W1 := ⟨by simpa using z 0, by simpa using z 1⟩
 have HF1 := Lib.hid hF1
 have HB1 := Lib.hid hb1
 clear z h hK hbb hn hF1 hb1 hdd
 go_enter Tryz.func38, Tryz.ntmps38
 go_wp2_with fail
 rw [← hW1]
 clear hW1
 refine (HTHERE.out W1 HB1.out).mono ?_
 rintro e w2 ⟨rfl, hb2⟩
 have HB2 : Hid (Below W.heap.size W w2) := Lib.hid (HB1.out.trans (hb2.mono HB1.out.size))
 have HF2 : Hid (HeldF W.heap.size dh kem w2) := Lib.hid (HF1.out.below hb2)
 clear hb2 HB1 HF1 HTHERE
 cases b
 ·go_wp2_with fail
  go_ret2
  exact ⟨HB2.out, .inl ⟨not_all_of HBB.out.symm, rfl⟩⟩
 ·have HIN : Hid (∀ x, x ∈ ks → InL L x) := Lib.hid (all_of HBB.out.symm)
  go_wp2_with fail
  refine (HONE.out w2 HB2.out).mono ?_
  rintro e w2b ⟨rfl, hb2b⟩
  have HB2b : Hid (Below W.heap.size W w2b) := Lib.hid (HB2.out.trans (hb2b.mono HB2.out.size))
  have HF2b : Hid (HeldF W.heap.size dh kem w2b) := Lib.hid (HF2.out.below hb2b)
  clear hb2b HB2 HF2 HONE
  cases d
  ·go_wp2_with fail
   go_ret2
   exact ⟨HB2b.out, .inr (.inl ⟨HIN.out, fun q => absurd (HDD.out.trans (allB_iff.2 q)) (by decide), rfl⟩)⟩
  ·have HNM : Hid (InL L name) := Lib.hid (allB_iff.1 HDD.out.symm)
   obtain ⟨j, rfl⟩ : ∃ j : Nat, name = (j : Int) := ⟨name.toNat, by have := HNM.out.1; omega⟩
   have hjL : j ≤ L.length := by have := HNM.out.2; omega
   have hjl : (j : Int) < (L.length : Int) + 1 := by omega
   have hmost := HK.out.most
   obtain ⟨z0, z1⟩ := HF2b.out
   go_wp2_with fail
   refine (newMind_k HK.out.st HK.out.sound HK.out.uniq HK.out.wf HK.out.most w2b HB2b.out).mono ?_
   rintro e w3 ⟨B, vs, rfl, hm3⟩
   have HM3 := Lib.hid hm3
   clear hm3 z0 z1 HF2b
   go_wp2_with fail
   refine (HHAVE.out B _ vs _ [] w3 HM3.out HIN.out).mono ?_
   rintro e w4 ⟨v4, rfl, hm4, hc4, hn4⟩
   have HM4 := Lib.hid hm4
   clear hm4 hc4 hn4 HM3
   go_wp2_with fail
   refine (think_k HK.out.st HK.out.fit HK.out.sound (hang_all L) (hang_in L) j hjL w4 HM4.out).mono ?_
   rintro e w5 ⟨v5, M5, rfl, hm5, hmid, hor⟩
   have HB5 : Hid (Below W.heap.size W w5) := Lib.hid hm5.below
   obtain ⟨C, hC, hle, heq⟩ := thought_all HK.out.fit HIN.out hmid
   have HC := Lib.hid hC
   have HEQ : Hid (has M5 (j : Int) = C (j : Int)) := Lib.hid (by
    rcases hor with q | q
    ·exact heq q _
    ·rw [q]; exact (hle _ q).symm)
   obtain ⟨_, c15, _⟩ := hm5.cells
   have cc := hm5.canAt hjL
   rw [HEQ.out] at cc
   clear hm5 hmid hor hC hle heq HM4
   go_wp2_with fail
   go_ret2
   exact ⟨HB5.out, .inr (.inr ⟨HIN.out, HNM.out, C, HC.out, rfl⟩)⟩
end Go.Proofs.YtgeonppckeiceaaGreatDoor
namespace Go.Proofs.YtgeonppckeiceaaGreatDoor
open Go.RowKit
set_option linter.unusedVariables false
set_option linter.unusedSimpArgs false
set_option maxRecDepth 20000
structure Fine (L : List Tm) : Prop where
 sound : Sound L
 uniq : Uniq L
 wf : ∀ t, t ∈ L → Wf t
theorem Pair.known {base g : Nat} {most : Int} {Q2 : (Nat → Prop) → List Tm → World → Prop} {L L2 : List Tm} {K : Nat → Prop} {w0 w : World} (h : Pair base (PSq base g most) Q2 L L2 K w0 w) (hf : Fine L) : Known w g L := by
 have hfa := h.facts
 obtain ⟨F1, F2, h1, _⟩ := h
 exact ⟨⟨base, F1, most, h1⟩, hfa.1, hf.sound, hf.uniq, hf.wf, by omega⟩
theorem StoreAt.below {w w' : World} {g : Nat} {L : List Tm} (h : StoreAt w g L) (hb : Below w.heap.size w w') : StoreAt w' g L := by
 obtain ⟨b, F, most, hp⟩ := h
 exact ⟨b, F, most, PS.below hp hb⟩
theorem Known.below {w w' : World} {g : Nat} {L : List Tm} (h : Known w g L) (hb : Below w.heap.size w w') : Known w' g L := ⟨h.st.below hb, h.fit, h.sound, h.uniq, h.wf, h.most⟩
end Go.Proofs.YtgeonppckeiceaaGreatDoor
namespace Go.Proofs.YtgeonppckeiceaaGreatDoor
open Go.RowKit
set_option linter.unusedVariables false
set_option linter.unusedSimpArgs false
set_option maxRecDepth 20000
section
variable {W : World} {g : Nat} {L : List Tm}
theorem OwnI.ints {base : Nat} {a : Option Addr} {n cap : Nat} {ks : List Int} {w : World} (h : OwnI base (.slice a n cap) ks w) : n = ks.length ∧ IntsAt w a cap ks := by
 obtain ⟨a', cap', e, hi⟩ := h.at
 injection e with e1 e2 e3
 subst e1; subst e3
 exact ⟨e2, hi⟩
theorem lit_own (w : World) (xs : List Int) (hm : xs.length ≤ maxLen) : OwnI w.heap.size (.slice (some ⟨w.heap.size, 0, none⟩) xs.length xs.length) xs (w.alloc (.cells (intsR xs).toArray 3)) :=
 OwnI.lit (base := w.heap.size) (xs := xs) (Nat.le_refl _) (heap_alloc_new w _) hm
theorem can_least (hK : Known W g L) {dh kem : Bool} {ks : List Int} {C : Int → Bool} (hC : Least L ks dh kem C) (hin : ∀ x, x ∈ ks → InL L x) {name : Int} (hm : InL L name) (a : Option Addr) (cap n : Nat) (hl : n = ks.length) (h : IntsAt W a cap ks) :
  Calls Tryz.prog 38 #[.pointer (some ⟨g, 0, none⟩), .slice a n cap, .agg #[.bool dh, .bool kem], .int .i64 name] W fun e W' => e = .returned (.tuple #[.bool (C name), .int .i64 0]) ∧ Below W.heap.size W W' := by
 subst hl
 refine (can_k hK a cap ks h dh kem name).mono ?_
 rintro e w ⟨hb, ⟨⟨x, hx, hn⟩, _⟩ | ⟨_, hn, _⟩ | ⟨_, _, C', hC', rfl⟩⟩
 ·exact absurd (hin x hx) hn
 ·exact absurd hm hn
 ·rw [hC'.one hC name]; exact ⟨rfl, hb⟩
end
theorem cannot {L : List Tm} {dh kem : Bool} {ks : List Int} {C D : Int → Bool} (hC : Least L ks dh kem C) (hD : Keeps L ks dh kem D) {n : Int} (hn : D n = false) : C n = false := by
 cases h : C n
 ·rfl
 ·have := hC.2 D hD n h
  rw [hn] at this; cases this
end Go.Proofs.YtgeonppckeiceaaGreatDoor
namespace Go.Proofs.YtgeonppckeiceaaGreatDoor
open Go.RowKit
set_option linter.unusedVariables false
set_option linter.unusedSimpArgs false
set_option maxRecDepth 20000
def fy1 : Tm := ⟨2, ⟨#[]⟩, 1, 0, 0, 0⟩
def fy2 : Tm := ⟨2, ⟨#[]⟩, 2, 0, 0, 0⟩
def L5 : List Tm := [fy1, fy2, pubT 1, pubT 2, shareT 1 2]
theorem tm_of {L : List Tm} {n : Int} {t : Tm} (h : Named L n t) : tm L n = t := by
 have a := h.get
 rw [getT_tm (show InL L n from h.in)] at a
 injection a
theorem hasT_of {L : List Tm} {C : Int → Bool} {t : Tm} {p : Int} (h : Named L p t) : hasT L C t = C p := by unfold hasT; rw [h.1]
def Tr.ok (kn : Int → Bool) (dh kem : Bool) : Tr → Bool
 | .none => false
 | .mk K _ N A B C => if K = 1 ∨ K = 3 ∨ K = 5 ∨ K = 6 then true else if K = 2 then kn N else if K = 4 then dh || A.ok kn dh kem || B.ok kn dh kem else if K = 7 then kem || A.ok kn dh kem || B.ok kn dh kem
  else if K = 8 ∨ K = 11 then A.ok kn dh kem && B.ok kn dh kem else if K = 9 then A.ok kn dh kem else if K = 10 then !A.ok kn dh kem || C.ok kn dh kem else false
theorem rule_ok {L : List Tm} {D : Int → Bool} {kn : Int → Bool} {dh kem : Bool} {K N a b c : Int} {S : ByteArray} {A B C : Tr} (hA : D a = A.ok kn dh kem) (hB : D b = B.ok kn dh kem) (hC : D c = C.ok kn dh kem)
  (h : ruleB L D dh kem ⟨K, S, N, a, b, c⟩ = true) : (Tr.mk K S N A B C).ok kn dh kem = true := by
 unfold ruleB at h
 unfold Tr.ok
 simp only [hA, hB, hC] at h
 by_cases h1 : K = 1
 ·simp [h1]
 by_cases h3 : K = 3
 ·simp [h3]
 by_cases h5 : K = 5
 ·simp [h5]
 by_cases h6 : K = 6
 ·simp [h6]
 by_cases h9 : K = 9
 ·simpa [h9] using h
 by_cases h8 : K = 8
 ·simpa [h8] using h
 by_cases h11 : K = 11
 ·simpa [h11] using h
 by_cases h10 : K = 10
 ·simp [h10] at h
  simp [h10, h.2]
 by_cases h4 : K = 4
 ·simp [h4] at h
  simp [h4]
  rcases h with (h | h) | h
  ·exact .inl (.inr h.1)
  ·exact .inr h.1
  ·exact .inl (.inl h.1.1)
 by_cases h7 : K = 7
 ·simp [h7] at h
  simp [h7]
  rcases h with h | h
  ·exact .inr h.1
  ·rcases h.2 with q | q
   ·exact .inl (.inr q)
   ·exact .inl (.inl q)
 ·simp [h1, h3, h5, h6, h9, h8, h11, h10, h4, h7] at h
theorem open_ok {D : Int → Bool} {kn : Int → Bool} {dh kem : Bool} {K N a b c m : Int} {S : ByteArray} {A B C : Tr} (hA : D a = A.ok kn dh kem) (hB : D b = B.ok kn dh kem) (hC : D c = C.ok kn dh kem)
  (ht : (Tr.mk K S N A B C).ok kn dh kem = true) (h : openB D ⟨K, S, N, a, b, c⟩ m = true) : D m = true := by
 unfold openB at h
 unfold Tr.ok at ht
 simp only [Bool.and_eq_true, Bool.or_eq_true, decide_eq_true_eq, beq_iff_eq] at h
 rcases h with ⟨h1, h2⟩ | ⟨⟨h1, h2⟩, h3⟩
 ·simp [h1] at ht
  rcases h2 with rfl | rfl
  ·rw [hA]; exact ht.1
  ·rw [hB]; exact ht.2
 ·rw [hA] at h3
  simp [h1, h3] at ht
  rw [← h2, hC]; exact ht
theorem ok_keeps {L : List Tm} (hf : Gd L) {ks : List Int} {kn : Int → Bool} {dh kem : Bool} (hk : ∀ a, a ∈ ks → ∃ t, Nm L t a ∧ t.ok kn dh kem = true) : ∃ D, Keeps L ks dh kem D ∧ ∀ n t, Nm L t n → D n = t.ok kn dh kem := by
 classical
 have V : ∀ n t, Nm L t n → decide (∃ t, Nm L t n ∧ t.ok kn dh kem = true) = t.ok kn dh kem := fun n t h => by
  cases e : t.ok kn dh kem
  ·refine decide_eq_false fun ⟨u, hu, q⟩ => ?_
   rw [h.inj hu, q] at e; cases e
  ·exact decide_eq_true ⟨t, h, e⟩
 refine ⟨fun n => decide (∃ t, Nm L t n ∧ t.ok kn dh kem = true), ⟨V 0 .none .none, fun a ha => decide_eq_true (hk a ha), fun n hn => ?_⟩, V⟩
 obtain ⟨t, ht⟩ := hf.all n.toNat n (Nat.le_refl _) (by have := hn.1; omega) hn.2
 cases t with
 | none => have := ht.fun .none; have := hn.1; omega
 | mk K S N A B C =>
  obtain ⟨a, b, c, ha, hb, hc, hnm⟩ := ht.at
  have e := tm_of hnm
  refine ⟨fun h => ?_, fun h m hm => ?_⟩
  ·rw [e] at h
   show decide _ = true
   rw [V n _ ht]
   exact rule_ok (V a A ha) (V b B hb) (V c C hc) h
  ·rw [e] at hm
   have h' : decide (∃ t, Nm L t n ∧ t.ok kn dh kem = true) = true := h
   rw [V n _ ht] at h'
   exact open_ok (V a A ha) (V b B hb) (V c C hc) h' hm
theorem can_not {L : List Tm} (hf : Gd L) {ks : List Int} {kn : Int → Bool} {dh kem : Bool} {C : Int → Bool} (hC : Least L ks dh kem C) (hk : ∀ a, a ∈ ks → ∃ t, Nm L t a ∧ t.ok kn dh kem = true) {n : Int} {t : Tr} (ht : Nm L t n) (ho : t.ok kn dh kem = false) : C n = false := by
 obtain ⟨D, h1, h2⟩ := ok_keeps hf hk
 exact cannot hC h1 (by rw [h2 n t ht, ho])
def Cn (L : List Tm) (C : Int → Bool) (t : Tr) : Prop := ∀ n, Nm L t n → C n = true
section
variable {L : List Tm} {dh kem : Bool} {C : Int → Bool} {a b : Tr} {p x : Int}
theorem Cn.known (h : Nm L a x) (hc : C x = true) : Cn L C a := fun n hn => by rw [← h.fun hn]; exact hc
theorem Cn.text (hs : KStepC L dh kem C C) (S : ByteArray) : Cn L C (.text S) := fun n h => by
 obtain ⟨_, _, _, _, _, _, hn⟩ := h.at
 exact (hs n hn.in).1 (by rw [tm_of hn]; simp [ruleB])
theorem Cn.hash (hs : KStepC L dh kem C C) (ha : Cn L C a) (hb : Cn L C b) : Cn L C (.hash a b) := fun n h => by
 obtain ⟨_, _, _, h1, h2, _, hn⟩ := h.at
 exact (hs n hn.in).1 (by rw [tm_of hn]; simp [ruleB, ha _ h1, hb _ h2])
theorem Cn.key (hs : KStepC L dh kem C C) (ha : Cn L C a) (k : Int) : Cn L C (.key a k) := fun n h => by
 obtain ⟨_, _, _, h1, _, _, hn⟩ := h.at
 exact (hs n hn.in).1 (by rw [tm_of hn]; simp [ruleB, ha _ h1])
theorem pub_has (hp : Nm L (.pub b) p) (hc : C p = true) {y : Int} (hy : Nm L b y) : hasT L C (pubT y) = true := by
 obtain ⟨y', _, _, h1, h2, h3, hn⟩ := hp.at
 rw [← h1.fun hy, ← hc]
 have e2 := h2.fun .none
 have e3 := h3.fun .none
 subst e2 e3
 exact hasT_of hn
theorem kpub_has (hp : Nm L (.kpub b) p) (hc : C p = true) {y : Int} (hy : Nm L b y) : hasT L C (kpubT y) = true := by
 obtain ⟨y', _, _, h1, h2, h3, hn⟩ := hp.at
 rw [← h1.fun hy, ← hc]
 have e2 := h2.fun .none
 have e3 := h3.fun .none
 subst e2 e3
 exact hasT_of hn
theorem box_has (hp : Nm L (.box a b) p) (hc : C p = true) {x y : Int} (hx : Nm L a x) (hy : Nm L b y) : hasT L C (boxT x y) = true := by
 obtain ⟨x', y', _, h1, h2, h3, hn⟩ := hp.at
 rw [← h1.fun hx, ← h2.fun hy, ← hc]
 have e3 := h3.fun .none
 subst e3
 exact hasT_of hn
theorem Cn.sh (hs : KStepC L dh kem C C) (ha : Cn L C a) (hp : Nm L (.pub b) p) (hc : C p = true) (x y : Int) : Cn L C (shTr x y a b) := by
 unfold shTr
 split
 ·intro n h
  obtain ⟨_, _, _, h1, h2, _, hn⟩ := h.at
  exact (hs n hn.in).1 (by rw [tm_of hn]; simp [ruleB, ha _ h1, pub_has hp hc h2])
 ·intro n h
  obtain ⟨_, _, _, h1, h2, _, hn⟩ := h.at
  exact (hs n hn.in).1 (by rw [tm_of hn]; simp [ruleB, ha _ h2, pub_has hp hc h1])
theorem Cn.sh' (hs : KStepC L dh kem C C) (hb : Cn L C b) (hp : Nm L (.pub a) p) (hc : C p = true) (x y : Int) : Cn L C (shTr x y a b) := by
 unfold shTr
 split
 ·intro n h
  obtain ⟨_, _, _, h1, h2, _, hn⟩ := h.at
  exact (hs n hn.in).1 (by rw [tm_of hn]; simp [ruleB, hb _ h2, pub_has hp hc h1])
 ·intro n h
  obtain ⟨_, _, _, h1, h2, _, hn⟩ := h.at
  exact (hs n hn.in).1 (by rw [tm_of hn]; simp [ruleB, hb _ h1, pub_has hp hc h2])
theorem Cn.broken (hs : KStepC L true kem C C) {q : Int} (hp : Nm L (.pub a) p) (hc : C p = true) (hq : Nm L (.pub b) q) (hd : C q = true) (x y : Int) : Cn L C (shTr x y a b) := by
 unfold shTr
 split
 ·intro n h
  obtain ⟨_, _, _, h1, h2, _, hn⟩ := h.at
  exact (hs n hn.in).1 (by rw [tm_of hn]; simp [ruleB, pub_has hp hc h1, pub_has hq hd h2])
 ·intro n h
  obtain ⟨_, _, _, h1, h2, _, hn⟩ := h.at
  exact (hs n hn.in).1 (by rw [tm_of hn]; simp [ruleB, pub_has hp hc h2, pub_has hq hd h1])
theorem Cn.kem_d (hs : KStepC L dh kem C C) (hb : Cn L C b) (hp : Nm L (.kpub a) p) (hc : C p = true) : Cn L C (.kem a b) := fun n h => by
 obtain ⟨_, _, _, h1, h2, _, hn⟩ := h.at
 exact (hs n hn.in).1 (by rw [tm_of hn]; simp [ruleB, hb _ h2, kpub_has hp hc h1])
theorem Cn.kem_a (hs : KStepC L dh kem C C) (ha : Cn L C a) (hp : Nm L (.box a b) p) (hc : C p = true) : Cn L C (.kem a b) := fun n h => by
 obtain ⟨_, _, _, h1, h2, _, hn⟩ := h.at
 exact (hs n hn.in).1 (by rw [tm_of hn]; simp [ruleB, ha _ h1, box_has hp hc h1 h2])
theorem Cn.kem_k (hs : KStepC L dh true C C) (hp : Nm L (.box a b) p) (hc : C p = true) : Cn L C (.kem a b) := fun n h => by
 obtain ⟨_, _, _, h1, h2, _, hn⟩ := h.at
 exact (hs n hn.in).1 (by rw [tm_of hn]; simp [ruleB, box_has hp hc h1 h2])
theorem Cn.turn (hs : KStepC L dh kem C C) {s : Ys} (h : Cn L C s.CK) (ha : Cn L C a) : Cn L C (s.turn a).CK := (Cn.hash hs h ha).key hs 1
end
def Nb (L : List Tm) : Prop := ∀ t, t ∈ L → U64 t.N
theorem nb_put {L : List Tm} {most : Int} {t : Tm} (h : Nb L) (ht : U64 t.N) : Nb (putF L most t).2.2 := by
 rcases putF_cases L most t with ⟨hp, _⟩ | ⟨j, _, hp, _⟩ | ⟨_, hp, _⟩ | ⟨_, hp, _⟩
 all_goals rw [hp]
 ·exact h
 ·exact h
 ·exact h
 ·intro u hu
  rcases List.mem_append.1 hu with q | q
  ·exact h u q
  ·rw [List.mem_singleton.1 q]; exact ht
def Ho {α : Type} (m : G α) (Q : α → Prop) : Prop := ∀ most L, Nb L → Nb (m most L).2 ∧ ∀ x, (m most L).1 = .ok x → Q x
theorem Ho.to {α β : Type} {m : G α} {k : α → G β} {Q : α → Prop} {R : β → Prop} (h : Ho m Q) (g : ∀ x, Q x → Ho (k x) R) : Ho (m.to k) R := fun most L hL => by
 have a := h most L hL
 unfold G.to
 cases e : m most L with
 | mk r L' =>
  rw [e] at a
  cases r with
  | ok x => exact g x (a.2 x rfl) most L' a.1
  | error c => exact ⟨a.1, fun x q => by cases q⟩
theorem Ho.of {α : Type} {x : α} {Q : α → Prop} (h : Q x) : Ho (G.of x) Q := fun most L hL => ⟨hL, fun y q => by injection q with q; rw [← q]; exact h⟩
theorem Ho.bad {α : Type} {e : Int} {Q : α → Prop} : Ho (G.bad e) Q := fun most L hL => ⟨hL, fun y q => by cases q⟩
theorem Ho.tt {α : Type} {m : G α} {Q : α → Prop} (h : Ho m Q) : Ho m (fun _ => True) := fun most L hL => ⟨(h most L hL).1, fun _ _ => trivial⟩
theorem ho_put {t : Tm} (ht : U64 t.N) : Ho (putG t) (fun _ => True) := fun most L hL => ⟨nb_put hL ht, fun _ _ => trivial⟩
theorem nb_mix {L : List Tm} {most k i : Int} (h : Nb L) : Nb (mixF L most k i).2.2.2 := by
 have h1 := nb_put (most := most) (t := hashT k i) h u0
 have h2 := nb_put (most := most) (t := keyT (putF L most (hashT k i)).1 1) h1 u1
 have h3 := nb_put (most := most) (t := keyT (putF L most (hashT k i)).1 2) h2 u2
 unfold mixF
 split
 ·exact h1
 ·dsimp only
  split
  ·exact h2
  ·split
   ·exact h3
   ·exact h3
theorem ho_say (y : Sy) (x : Int) : Ho (sayG y x) (fun z => z.N = y.N) := fun most L hL => by
 have h1 := nb_put (most := most) (t := hashT y.H x) hL u0
 unfold sayG sayF
 dsimp only
 split
 ·rename_i q
  refine ⟨h1, fun z e => ?_⟩
  try dsimp only at e
  cases e
 ·refine ⟨h1, fun z e => ?_⟩
  injection e with e
  rw [← e]
theorem ho_turn (y : Sy) (x : Int) : Ho (turnG y x) (fun z => z.N = 0) := fun most L hL => by
 have h1 := nb_mix (most := most) (k := y.CK) (i := x) hL
 unfold turnG turnF
 dsimp only
 split
 ·rename_i q
  refine ⟨h1, fun z e => ?_⟩
  try dsimp only at e
  cases e
 ·refine ⟨h1, fun z e => ?_⟩
  injection e with e
  rw [← e]
theorem ho_start (S : ByteArray) : Ho (startG S) (fun z => z.N = 0) := fun most L hL => by
 have h1 := nb_put (most := most) (t := textT S) hL u0
 unfold startG beginF
 dsimp only
 split
 ·rename_i q
  refine ⟨h1, fun z e => ?_⟩
  try dsimp only at e
  cases e
 ·refine ⟨h1, fun z e => ?_⟩
  injection e with e
  rw [← e]
theorem ho_seal (y : Sy) (x : Int) (hy : U64 y.N) : Ho (sealG y x) (fun z => z.1.N = y.N + 1) := fun most L hL => by
 have h1 := nb_put (most := most) (t := sealT y.K y.N y.H x) hL hy
 have h2 := nb_put (most := most) (t := hashT y.H (putF L most (sealT y.K y.N y.H x)).1) h1 u0
 unfold sealG sealF
 dsimp only
 split
 ·exact ⟨hL, fun z e => by cases e⟩
 ·split
  ·rename_i q
   refine ⟨h1, fun z e => ?_⟩
   try dsimp only at e
   cases e
  ·split
   ·rename_i q
    refine ⟨h2, fun z e => ?_⟩
    try dsimp only at e
    cases e
   ·refine ⟨h2, fun z e => ?_⟩
    injection e with e
    rw [← e]
theorem ho_unseal (y : Sy) (x : Int) : Ho (unsealG y x) (fun z => z.1.N = y.N + 1) := fun most L hL => by
 have h1 := nb_put (most := most) (t := hashT y.H x) hL u0
 unfold unsealG unsealF
 dsimp only
 split
 ·exact ⟨hL, fun z e => by cases e⟩
 ·split
  ·rename_i q
   refine ⟨hL, fun z e => ?_⟩
   try dsimp only at e
   cases e
  ·split
   ·rename_i q
    refine ⟨h1, fun z e => ?_⟩
    try dsimp only at e
    cases e
   ·refine ⟨h1, fun z e => ?_⟩
    injection e with e
    rw [← e]
theorem ho_split (y : Sy) : Ho (splitG y) (fun _ => True) := fun most L hL => by
 have h1 := nb_put (most := most) (t := textT ⟨#[]⟩) hL u0
 have h2 := nb_mix (most := most) (k := y.CK) (i := (putF L most (textT ⟨#[]⟩)).1) h1
 unfold splitG splitF
 dsimp only
 refine ⟨?_, fun _ _ => trivial⟩
 split
 ·exact h1
 ·exact h2
theorem ho_share (x p : Int) : Ho (shareG x p) (fun _ => True) := fun most L hL => by
 unfold shareG agreeF
 dsimp only
 refine ⟨?_, fun _ _ => trivial⟩
 split
 ·exact nb_put hL u0
 ·exact hL
theorem ho_wrap (p d : Int) : Ho (wrapG p d) (fun _ => True) := fun most L hL => by
 have h1 := nb_put (most := most) (t := boxT (getT L p).1.A d) hL u0
 have h2 := nb_put (most := most) (t := kemT (getT L p).1.A d) h1 u0
 unfold wrapG wrapF
 dsimp only
 refine ⟨?_, fun _ _ => trivial⟩
 split
 ·split
  ·exact h1
  ·split
   ·exact h2
   ·exact h2
 ·exact hL
theorem ho_unwrap (x c : Int) : Ho (unwrapG x c) (fun _ => True) := fun most L hL => by
 unfold unwrapG kopenF
 dsimp only
 refine ⟨?_, fun _ _ => trivial⟩
 split
 ·split
  ·exact nb_put hL u0
  ·exact hL
 ·exact hL
theorem ho_agree (y : Sy) (x p : Int) : Ho (agreeG y x p) (fun z => z.N = 0) := (ho_share x p).to fun s _ => ho_turn y s
theorem ho_box (y : Sy) (p d : Int) : Ho (boxG y p d) (fun z => z.1.N = 0) := (ho_wrap p d).to fun b _ => (ho_say y b.1).to fun y _ => (ho_turn y b.2).to fun y hy => .of hy
theorem ho_unbox (y : Sy) (x c : Int) : Ho (unboxG y x c) (fun z => z.N = 0) := (ho_say y c).to fun y _ => (ho_unwrap x c).to fun s _ => ho_turn y s
theorem ho_pub (x : Int) : Ho (putG (pubT x)) (fun _ => True) := ho_put (t := pubT x) u0
theorem ho_kpub (x : Int) : Ho (putG (kpubT x)) (fun _ => True) := ho_put (t := kpubT x) u0
theorem ho_text (S : ByteArray) : Ho (putG (textT S)) (fun _ => True) := ho_put (t := textT S) u0
theorem ho_publics (me : Int × Int) : Ho (publicsG me) (fun _ => True) := (ho_pub _).to fun a _ => (ho_kpub _).to fun b _ => .of trivial
theorem ho_first (offer : ByteArray) (slot : Int) (p : Int × Int) : Ho (firstG offer slot p) (fun _ => True) :=
 (ho_start _).to fun y _ => (ho_text _).to fun o _ => (ho_say y o).to fun y _ => (ho_text _).to fun c _ => (ho_say y c).to fun y _ => (ho_say y p.1).to fun y _ => (ho_say y p.2).tt
theorem ho_begin (me pub : Int × Int) (psk : Int) (offer : ByteArray) (slot : Int) (st : ByteArray) (d0 d1 d2 : Int) : Ho (beginG me pub psk offer slot st d0 d1 d2) (fun _ => True) :=
 (ho_first _ _ _).to fun y _ => (ho_pub _).to fun e _ => (ho_say y e).to fun y _ => (ho_kpub _).to fun ek _ => (ho_say y ek).to fun y _ => (ho_agree y d0 pub.1).to fun y _ => (ho_box y pub.2 d2).to fun b hb => (ho_pub _).to fun p _ =>
 (ho_seal b.1 p (by rw [hb]; exact u0)).to fun c1 _ => (ho_agree c1.1 me.1 pub.1).to fun y _ => (ho_turn y psk).to fun y hy => (ho_text _).to fun t _ => (ho_seal y t (by rw [hy]; exact u0)).to fun c2 _ => .of trivial
theorem ho_open (me : Int × Int) (ps : List Int) (psk : Nat → Int) (offer : ByteArray) (slot : Int) (e ek box c1 c2 : Int) : Ho (openG me ps psk offer slot e ek box c1 c2) (fun _ => True) :=
 (ho_publics me).to fun p _ => (ho_first _ _ _).to fun y _ => (ho_say y e).to fun y _ => (ho_say y ek).to fun y _ => (ho_agree y me.1 e).to fun y _ => (ho_unbox y me.2 box).to fun y _ => (ho_unseal y c1).to fun q _ => by
   split
   ·exact .bad
   ·exact (ho_agree q.1 me.1 q.2).to fun y _ => (ho_turn y _).to fun y _ => (ho_unseal y c2).to fun r _ => .of trivial
theorem ho_answer (y : Sy) (oe pub ek : Int) (v : ByteArray) (d0 d1 : Int) : Ho (answerG y oe pub ek v d0 d1) (fun _ => True) :=
 (ho_pub _).to fun e _ => (ho_say y e).to fun y _ => (ho_agree y d0 oe).to fun y _ => (ho_agree y d0 pub).to fun y _ => (ho_box y ek d1).to fun b hb => (ho_text _).to fun t _ => (ho_seal b.1 t (by rw [hb]; exact u0)).to fun c _ => (ho_split c.1).to fun k _ => .of trivial
theorem ho_finish (me : Int) (y : Sy) (pe pk : Int) (e box c1 : Int) : Ho (finishG me y pe pk e box c1) (fun _ => True) :=
 (ho_say y e).to fun y _ => (ho_agree y pe e).to fun y _ => (ho_agree y me e).to fun y _ => (ho_unbox y pk box).to fun y _ => (ho_unseal y c1).tt
section
variable {L L' : List Tm} {most e : Int}
theorem Nb.begin (h : Nb L) {me : Int × Int} {p : Pr} {fr slot d0 d1 d2 : Int} {offer : ByteArray} {stamp : Nat} {m : Mg} {q : Pnd} (hb : hBegin most L me p fr offer slot stamp d0 d1 d2 = (m, q, e, L')) : Nb L' := by
 have g := (ho_begin me (p.dh, p.kem) (p.psk slot) offer slot (Ms.putS stamp) d0 d1 d2 most L h).1
 have e1 : L' = (hBegin most L me p fr offer slot stamp d0 d1 d2).2.2.2 := by rw [hb]
 rw [e1]
 unfold hBegin
 split
 ·exact h
 ·split
  ·rename_i r M q
   rw [q] at g
   split
   ·exact g
   ·exact g
  ·rename_i r M q
   rw [q] at g
   exact g
theorem Nb.open (h : Nb L) {me : Int × Int} {ps : List Pr} {offer : ByteArray} {m : Mg} {o : Opd} (hb : hOpen most L me ps offer m = (o, e, L')) : Nb L' := by
 have g := (ho_open me (ps.map Pr.dh) (fun i => (ps.getD i zeroPr).psk (m.i 4)) m.s (m.i 4) (m.i 6) (m.i 7) (m.i 8) (m.i 9) (m.i 10) most L h).1
 have e1 : L' = (hOpen most L me ps offer m).2.2 := by rw [hb]
 rw [e1]
 unfold hOpen
 split
 ·exact h
 ·split
  ·exact h
  ·split
   ·rename_i r M q
    rw [q] at g
    split
    ·exact g
    ·exact g
   ·rename_i r M q
    rw [q] at g
    exact g
theorem Nb.answer (h : Nb L) {o : Opd} {fr tt d0 d1 : Int} {m : Mg} {s : Ses} (hb : hAnswer most L o fr tt d0 d1 = (m, s, e, L')) : Nb L' := by
 have g := (ho_answer o.y o.e o.pub o.ek (verS o.version) d0 d1 most L h).1
 have e1 : L' = (hAnswer most L o fr tt d0 d1).2.2.2 := by rw [hb]
 rw [e1]
 unfold hAnswer
 split
 ·rename_i r M q
  rw [q] at g
  split
  ·exact g
  ·exact g
 ·rename_i r M q
  rw [q] at g
  exact g
theorem Nb.finish (h : Nb L) {me : Int} {p : Pnd} {m : Mg} {s : Ses} (hb : hFinish most L me p m = (s, e, L')) : Nb L' := by
 have g := (ho_finish me p.y p.e p.ek (m.i 6) (m.i 8) (m.i 9) most L h).1
 have e1 : L' = (hFinish most L me p m).2.2 := by rw [hb]
 rw [e1]
 unfold hFinish
 split
 ·exact h
 ·split
  ·rename_i r M q
   rw [q] at g
   split
   ·split
    ·split
     ·rename_i k L2 q2
      have g2 := (ho_split r.1 most M g).1
      rw [q2] at g2
      exact g2
     ·rename_i k L2 q2
      have g2 := (ho_split r.1 most M g).1
      rw [q2] at g2
      exact g2
    ·exact g
   ·exact g
  ·rename_i r M q
   rw [q] at g
   exact g
theorem Nb.fine (h : Nb L) (hg : Gd L) (hl : L.length ≤ 100000) : Fine L := by
 refine ⟨hg.sound, ?_, fun t ht => ?_⟩
 ·exact fun k hk => hg.uniq k hk
 ·obtain ⟨k, hk, e⟩ := List.getElem_of_mem ht
  have hm := (may_iff _ _).1 (hg.sound k hk)
  have e' : L.getD k zeroT = t := by simp [List.getD, hk, e]
  rw [e'] at hm
  obtain ⟨m1, m2, _, _, m5, m6, _⟩ := hm
  have P : ∀ j, j < 3 → 0 ≤ prt t.A t.B t.C j ∧ prt t.A t.B t.C j ≤ (L.length : Int) := fun j hj => by
   have b := m6 j hj
   unfold BadP at b
   by_cases q : j < many t.K
   ·have z : ¬ (prt t.A t.B t.C j < 1 ∨ (L.length : Int) < prt t.A t.B t.C j) := fun z => b (.inl ⟨q, z⟩)
    omega
   ·have : prt t.A t.B t.C j = 0 := by
     by_cases z : prt t.A t.B t.C j = 0
     ·exact z
     ·exact absurd (.inr ⟨by omega, z⟩) b
    omega
  have a := P 0 (by omega)
  have b := P 1 (by omega)
  have c := P 2 (by omega)
  simp [prt] at a b c
  have ml : (1000 : Nat) ≤ maxLen := by decide
  exact ⟨by omega, i64_small (by omega) (by omega), h t ht, i64_small (by omega) (by omega), i64_small (by omega) (by omega), i64_small (by omega) (by omega)⟩
end
theorem nb18 : Nb L18 := by
 intro t ht
 simp only [L18, List.mem_append, List.mem_singleton] at ht
 rcases ht with (((ht | rfl) | rfl) | rfl) | rfl
 ·simp only [nonces, List.mem_map, List.mem_range] at ht
  obtain ⟨i, hi, rfl⟩ := ht
  exact u64_small (x := 100 + (i : Int)) (by omega) (by omega)
 all_goals exact u0
end Go.Proofs.YtgeonppckeiceaaGreatDoor
