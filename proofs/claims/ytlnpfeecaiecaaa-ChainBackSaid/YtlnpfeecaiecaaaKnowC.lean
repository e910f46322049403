/- Stores that are filled: all that the mind wants to know of them. What the program's All and Can answer where all is well, and where not; what can be made, reckoned. The fixed calls of stage 8: what they tell of their five terms. -/
import Derived.Test.YtlnpfeecaiecaaaKnowAllC
import Derived.Test.YtlnpfeecaiecaaaStores
namespace Go.Proofs.Ytlnpfeecaiecaaa
open Go.RowKit
set_option linter.unusedVariables false
set_option linter.unusedSimpArgs false
set_option maxRecDepth 20000

/-- Terms that may be, each once, well formed. -/
structure Fine (L : List Tm) : Prop where
  sound : Sound L
  uniq : Uniq L
  wf : ∀ t, t ∈ L → Wf t
theorem Fine.nil : Fine [] := ⟨Sound.nil, Uniq.nil, by simp⟩
theorem Fine.put {L : List Tm} (h : Fine L) (most : Int) (t : Tm) (ht : Wf t) : Fine (putF L most t).2.2 := by
  refine ⟨h.sound.put most t, h.uniq.put most t, fun u hu => ?_⟩
  have hc : (putF L most t).2.2 = L ∨ (putF L most t).2.2 = L ++ [t] := by
    unfold putF
    split
    · split
      · exact .inl rfl
      · split
        · exact .inl rfl
        · exact .inr rfl
    · exact .inl rfl
  rcases hc with e | e
  · rw [e] at hu; exact h.wf u hu
  · rw [e] at hu
    rcases List.mem_append.1 hu with q | q
    · exact h.wf u q
    · rw [List.mem_singleton.1 q]; exact ht
theorem Fine.of {L L' : List Tm} {most : Int} {t : Tm} {a e : Int} (h : Fine L) (ht : Wf t) (hp : putF L most t = (a, e, L')) : Fine L' := by
  have := h.put most t ht
  rw [hp] at this
  exact this
theorem Pair.known {base g : Nat} {most : Int} {Q2 : (Nat → Prop) → List Tm → World → Prop} {L L2 : List Tm} {K : Nat → Prop} {w0 w : World} (h : Pair base (PSq base g most) Q2 L L2 K w0 w) (hf : Fine L) : Known w g L := by
  have hfa := h.facts
  obtain ⟨F1, F2, h1, _⟩ := h
  exact ⟨⟨base, F1, most, h1⟩, hfa.1, hf.sound, hf.uniq, hf.wf, by omega⟩
theorem StoreAt.below {w w' : World} {g : Nat} {L : List Tm} (h : StoreAt w g L) (hb : Below w.heap.size w w') : StoreAt w' g L := by
  obtain ⟨b, F, most, hp⟩ := h
  exact ⟨b, F, most, PS.below hp hb⟩
theorem Known.below {w w' : World} {g : Nat} {L : List Tm} (h : Known w g L) (hb : Below w.heap.size w w') : Known w' g L := ⟨h.st.below hb, h.fit, h.sound, h.uniq, h.wf, h.most⟩
/-- Blocks that came behind the stores are kept too. -/
theorem Pair.keepNew {base : Nat} {Q1 Q2 : (Nat → Prop) → List Tm → World → Prop} {L1 L2 : List Tm} {K : Nat → Prop} {w0 w w' : World} (g1 : Good base Q1) (g2 : Good base Q2) (h : Pair base Q1 Q2 L1 L2 K w0 w) (hb : Below w.heap.size w w') {q : Nat} (h1 : w.heap.size ≤ q) (h2 : q < w'.heap.size) : Pair base Q1 Q2 L1 L2 (fun k => K k ∨ k = q) w0 w' := by
  have hp := h.below g1 g2 hb
  obtain ⟨F1, F2, a1, a2, a3, a4, a5, a6⟩ := h
  have b1 := fun k hk => g1.bounds a1 k hk
  have b2 := fun k hk => g2.bounds a2 k hk
  refine ⟨F1, F2, g1.frame a1 (S := fun _ => False) (.of_below hb) (fun _ _ q => q), g2.frame a2 (S := fun _ => False) (.of_below hb) (fun _ _ q => q), a3, fun k hk => ?_, a5, ?_⟩
  · rcases hk with r | r
    · exact ⟨(a4 k r).1, (a4 k r).2.1, Nat.lt_of_lt_of_le (a4 k r).2.2 hb.size⟩
    · subst r
      exact ⟨fun e => by have := (b1 k e).2; omega, fun e => by have := (b2 k e).2; omega, h2⟩
  · rw [a5]; exact hp.belowW

set_option maxHeartbeats 4000000 in
set_option maxRecDepth 100000 in
theorem stores_fine (n : Nat) (a1 : Option Addr) (len1 cap1 : Nat) (T1 : Nat → Tm) (w : World) (hn : n ≤ 1000) (hT0 : Terms w a1 len1 cap1 T1) :
    Calls Try.prog 9 #[.slice a1 len1 cap1, .int .i64 n] w fun e w' => ∃ g1 g2, ∃ L : List Tm, e = .returned (.tuple #[.pointer (some ⟨g1, 0, none⟩), .pointer (some ⟨g2, 0, none⟩)]) ∧ L.length ≤ n ∧ Fine L ∧
      Pair w.heap.size (PSq w.heap.size g1 1000) (RSq w.heap.size g2 1000) L L (fun _ => False) w w' := by
  obtain ⟨hcm, hlc, b, off, hT'⟩ := hT0
  have hT := Lib.hid hT'
  clear hT'
  unfold maxLen at hcm
  go_enter Try.func9, Try.ntmps9
  go_wp2_with fail
  refine (Pair.new1 (base := w.heap.size) (w0 := w) rfl (Below.refl _ _) (by omega) (by omega)).mono ?_
  rintro e w1 ⟨g1, rfl, hp⟩
  go_wp2_with fail
  refine (hp.new2 (by omega) (by omega)).mono ?_
  rintro e w2 ⟨g2, rfl, hp2⟩
  have HP0 := Lib.hid hp2
  clear hp hp2
  have gP := PSq.good w.heap.size g1 1000
  have gR := RSq.good w.heap.size g2 1000
  go_wp2_with fail
  go_loopw [10] (fun i wr => ∃ k, ∃ L : List Tm, k ≤ n ∧ i = .int .i64 (k : Nat) ∧ Hid (L.length ≤ k) ∧ Hid (Fine L) ∧ Hid (Pair w.heap.size (PSq w.heap.size g1 1000) (RSq w.heap.size g2 1000) L L (fun _ => False) w wr)) (fun i _ => n - (intOf i).toNat)
  case atStart => exact ⟨0, [], Nat.zero_le _, rfl, Lib.hid (Nat.le_refl _), Lib.hid Fine.nil, HP0⟩
  case round =>
    obtain ⟨k, L, hk, rfl, HL, HSd, HP⟩ := hrel
    clear HP0
    by_cases hlt : k < len1
    · have hlt1 : (k : Int) < (len1 : Int) := by omega
      by_cases h40 : k < n
      · have h41 : (k : Int) < n := by omega
        obtain ⟨rfl, hwf, hcl⟩ := hT.out k hlt
        have hbw : b < w.heap.size := block_lt_of_cell (hcl 0 _ rfl)
        have hcut := Lib.hid (fun W => cut_c (T1 k) W hwf)
        have HWF0 := Lib.hid (cutT_wf hwf)
        obtain ⟨⟨K, S, N, A, B, C⟩, ht⟩ : ∃ u, u = cutT (T1 k) := ⟨_, rfl⟩
        rw [← ht] at hcut HWF0
        have HWF := HWF0
        obtain ⟨⟨K', S', N', A', B', C'⟩, ht'⟩ : ∃ u, u = T1 k := ⟨_, rfl⟩
        rw [← ht'] at hcut hcl
        have HCL := Lib.hid hcl
        have hbl := HP.out.belowW
        have q0 := hcl 0 _ rfl
        have q1 := hcl 1 _ rfl
        have q2 := hcl 2 _ rfl
        have q3 := hcl 3 _ rfl
        have q4 := hcl 4 _ rfl
        have q5 := hcl 5 _ rfl
        rw [← hbl.cell (by exact hbw)] at q0 q1 q2 q3 q4 q5
        simp at q0 q1 q2 q3 q4 q5
        have Hk := Lib.hid h40
        obtain ⟨an, er, L', hpf⟩ : ∃ an er L', putF L 1000 ⟨K, S, N, A, B, C⟩ = (an, er, L') := ⟨_, _, _, rfl⟩
        have HPF := Lib.hid hpf
        have HL' : Hid (L'.length ≤ k + 1) := Lib.hid (by
          have h1 := HL.out
          have h2 := putF_length L 1000 ⟨K, S, N, A, B, C⟩
          rw [hpf] at h2
          simp only at h2
          omega)
        have HSd' : Hid (Fine L') := Lib.hid (by have := HSd.out.put 1000 ⟨K, S, N, A, B, C⟩ HWF.out; rw [hpf] at this; exact this)
        clear hcl ht ht' hbl HWF0 hwf hk hpf
        go_wp2_with fail
        refine (hcut.out _).mono ?_
        rintro e w3 ⟨rfl, hb3⟩
        have HP3 := Lib.hid (HP.out.below gP gR hb3)
        clear hb3 HP q0 q1 q2 q3 q4 q5
        go_wp2_with fail
        refine (HP3.out.putP gR ⟨K, S, N, A, B, C⟩ HWF.out HPF.out).mono ?_
        rintro e w4 ⟨rfl, hP4, _⟩
        have HP4 := Lib.hid hP4
        clear hP4 HP3
        have hbl := HP4.out.belowW
        have q0 := HCL.out 0 _ rfl
        have q1 := HCL.out 1 _ rfl
        have q2 := HCL.out 2 _ rfl
        have q3 := HCL.out 3 _ rfl
        have q4 := HCL.out 4 _ rfl
        have q5 := HCL.out 5 _ rfl
        rw [← hbl.cell (by exact hbw)] at q0 q1 q2 q3 q4 q5
        simp at q0 q1 q2 q3 q4 q5
        clear hbl
        go_wp2_with fail
        refine (hcut.out _).mono ?_
        rintro e w5 ⟨rfl, hb5⟩
        have HP5 := Lib.hid (HP4.out.below gP gR hb5)
        clear hb5 HP4 q0 q1 q2 q3 q4 q5
        go_wp2_with fail
        refine (ref_c ⟨K, S, N, A, B, C⟩ _).mono ?_
        rintro e w6 ⟨rfl, hb6⟩
        have HP6 := Lib.hid (HP5.out.below gP gR hb6)
        clear hb6 HP5
        go_wp2_with fail
        refine (HP6.out.swap.putR gP ⟨K, S, N, A, B, C⟩ HWF.out HPF.out).mono ?_
        rintro e w7 ⟨rfl, hP7, _⟩
        have HP7 := Lib.hid hP7.swap
        clear hP7 HP6
        go_wp2_with fail
        go_roundw
        case rel => exact ⟨k + 1, L', by have := Hk.out; omega, by go_num, HL', HSd', HP7⟩
        case measure => have := Hk.out; simp [intOf]; omega
      · have h61 : decide (k < n) = false := by simpa using h40
        have HK := Lib.hid hk
        clear hk h40
        go_wp2
        go_ret2
        exact ⟨g1, g2, L, rfl, by have := HL.out; have := HK.out; omega, HSd.out, HP.out⟩
    · have hlt1 : decide (k < len1) = false := by simpa using hlt
      have HK := Lib.hid hk
      clear hlt hk
      go_wp2
      go_ret2
      exact ⟨g1, g2, L, rfl, by have := HL.out; have := HK.out; omega, HSd.out, HP.out⟩
end Go.Proofs.Ytlnpfeecaiecaaa

namespace Go.Proofs.Ytlnpfeecaiecaaa
open Go.RowKit
set_option linter.unusedVariables false
set_option linter.unusedSimpArgs false
set_option maxRecDepth 20000

section
variable {W : World} {g : Nat} {L : List Tm}
theorem OwnI.ints {base : Nat} {a : Option Addr} {n cap : Nat} {ks : List Int} {w : World} (h : OwnI base (.slice a n cap) ks w) : n = ks.length ∧ IntsAt w a cap ks := by
  obtain ⟨a', cap', e, hi⟩ := h.at
  injection e with e1 e2 e3
  subst e1; subst e3
  exact ⟨e2, hi⟩
theorem lit_ints (w : World) (xs : List Int) (hm : xs.length ≤ maxLen) : IntsAt (w.alloc (.cells (intsR xs).toArray 3)) (some ⟨w.heap.size, 0, none⟩) xs.length xs :=
  (OwnI.ints (OwnI.lit (base := w.heap.size) (xs := xs) (Nat.le_refl _) (heap_alloc_new w _) hm)).2
theorem lit_own (w : World) (xs : List Int) (hm : xs.length ≤ maxLen) : OwnI w.heap.size (.slice (some ⟨w.heap.size, 0, none⟩) xs.length xs.length) xs (w.alloc (.cells (intsR xs).toArray 3)) :=
  OwnI.lit (base := w.heap.size) (xs := xs) (Nat.le_refl _) (heap_alloc_new w _) hm
theorem lit1 (w : World) (x : Int) : IntsAt (w.alloc (.cells #[.int .i64 x] 3)) (some ⟨w.heap.size, 0, none⟩) 1 [x] := lit_ints w [x] (by simp [maxLen])
theorem lit2 (w : World) (x y : Int) : IntsAt (w.alloc (.cells #[.int .i64 x, .int .i64 y] 3)) (some ⟨w.heap.size, 0, none⟩) 2 [x, y] := lit_ints w [x, y] (by simp [maxLen])
theorem lit3 (w : World) (x y z : Int) : IntsAt (w.alloc (.cells #[.int .i64 x, .int .i64 y, .int .i64 z] 3)) (some ⟨w.heap.size, 0, none⟩) 3 [x, y, z] := lit_ints w [x, y, z] (by simp [maxLen])
theorem lit4 (w : World) (x y z u : Int) : IntsAt (w.alloc (.cells #[.int .i64 x, .int .i64 y, .int .i64 z, .int .i64 u] 3)) (some ⟨w.heap.size, 0, none⟩) 4 [x, y, z, u] := lit_ints w [x, y, z, u] (by simp [maxLen])

/-- All, of what is there. -/
def Alls (W : World) (ns : List Int) (e : Ending) (W' : World) : Prop := ∃ (a : Option Addr) (n cap : Nat), e = .returned (.tuple #[.slice a n cap, .int .i64 0]) ∧ n = ns.length ∧ OwnI W.heap.size (.slice a n cap) ns W' ∧ Below W.heap.size W W'
theorem all_least (hK : Known W g L) {dh kem : Bool} {ks : List Int} {C : Int → Bool} (hC : Least L ks dh kem C) (hin : ∀ x, x ∈ ks → InL L x) (a : Option Addr) (cap n : Nat) (hn : n = ks.length) (h : IntsAt W a cap ks) :
    Calls Try.prog 23 #[.pointer (some ⟨g, 0, none⟩), .slice a n cap, .agg #[.bool dh, .bool kem]] W (Alls W (namesIn L C)) := by
  subst hn
  refine (all_k hK a cap ks h dh kem).mono ?_
  rintro e w ⟨hb, ⟨⟨x, hx, hn⟩, _⟩ | ⟨_, C', v, hC', rfl, ho⟩⟩
  · exact absurd (hin x hx) hn
  · rw [namesIn_congr (hC'.one hC)] at ho
    obtain ⟨a', c', rfl, _⟩ := ho.at
    exact ⟨a', _, c', rfl, rfl, ho, hb⟩
theorem all_bad (hK : Known W g L) (dh kem : Bool) {ks : List Int} {x : Int} (hx : x ∈ ks) (hn : ¬ InL L x) (a : Option Addr) (cap n : Nat) (hl : n = ks.length) (h : IntsAt W a cap ks) :
    Calls Try.prog 23 #[.pointer (some ⟨g, 0, none⟩), .slice a n cap, .agg #[.bool dh, .bool kem]] W fun e W' => e = .returned (.tuple #[.slice none 0 0, .int .i64 1]) ∧ Below W.heap.size W W' := by
  subst hl
  refine (all_k hK a cap ks h dh kem).mono ?_
  rintro e w ⟨hb, ⟨_, rfl⟩ | ⟨hin, _⟩⟩
  · exact ⟨rfl, hb⟩
  · exact absurd (hin x hx) hn
end

/-- Looks in a row; whether nothing more is found. -/
def looks (L : List Tm) (dh kem : Bool) (M xs : List Int) : List Int := xs.foldl (lookF L dh kem) M
theorem looks_le {L : List Tm} {dh kem : Bool} {C : Int → Bool} (hC : StepC L dh kem C C) : ∀ (xs M : List Int), Le (has M) C → (∀ x, x ∈ xs → InL L x) → Le (has (looks L dh kem M xs)) C
  | [], M, h, _ => h
  | x :: xs, M, h, hx => looks_le hC xs (lookF L dh kem M x) (lookF_le hC h (hx x (by simp))) (fun y hy => hx y (by simp [hy]))
theorem looks_pre (L : List Tm) (dh kem : Bool) : ∀ (xs M : List Int), M <+: looks L dh kem M xs
  | [], M => List.prefix_refl _
  | x :: xs, M => lookF_pre.trans (looks_pre L dh kem xs (lookF L dh kem M x))
def stepOk (L : List Tm) (dh kem : Bool) (M : List Int) : Bool := (upto L.length).all fun n => (!ruleB L (has M) dh kem (tm L n) || has M n) && (!(has M n) || (openL (has M) (tm L n)).all (has M))
theorem stepOk_step {L : List Tm} {dh kem : Bool} {M : List Int} (h : stepOk L dh kem M = true) : StepC L dh kem (has M) (has M) := fun n hn => by
  have h1 := List.all_eq_true.1 h n (mem_upto.2 hn)
  simp only [Bool.and_eq_true, Bool.or_eq_true, Bool.not_eq_true', List.all_eq_true] at h1
  refine ⟨fun q => ?_, fun q m r => ?_⟩
  · rcases h1.1 with a | a
    · rw [q] at a; cases a
    · exact a
  · rcases h1.2 with a | a
    · rw [q] at a; cases a
    · exact a m (openL_iff.2 r)
/-- What can be made, reckoned by looks. -/
theorem names_are {L : List Tm} {dh kem : Bool} {ks : List Int} {C : Int → Bool} (hC : Least L ks dh kem C) (xs : List Int) {R : List Int} (hx : ∀ x, x ∈ xs → InL L x) (hs : stepOk L dh kem (looks L dh kem ks xs) = true) (hR : namesIn L (has (looks L dh kem ks xs)) = R) : namesIn L C = R := by
  rw [← hR]
  refine namesIn_congr fun n => (least_list hC (fun a ha => ?_) ?_ (stepOk_step hs) n).symm
  · exact has_iff.1 (pre_le (looks_pre L dh kem xs ks) a (has_iff.2 ha))
  · exact looks_le hC.1.step xs ks (fun n hn => hC.1.known n (has_iff.1 hn)) hx
theorem can_be {L : List Tm} {dh kem : Bool} {ks : List Int} {C : Int → Bool} (hC : Least L ks dh kem C) (xs : List Int) (hx : ∀ x, x ∈ xs → InL L x) {n : Int} (hn : has (looks L dh kem ks xs) n = true) : C n = true :=
  looks_le hC.1.step xs ks (fun n hn => hC.1.known n (has_iff.1 hn)) hx n hn
/-- What is outside of a set that is kept can't be made. -/
theorem cannot {L : List Tm} {dh kem : Bool} {ks : List Int} {C D : Int → Bool} (hC : Least L ks dh kem C) (hD : Keeps L ks dh kem D) {n : Int} (hn : D n = false) : C n = false := by
  cases h : C n
  · rfl
  · have := hC.2 D hD n h
    rw [hn] at this; cases this
end Go.Proofs.Ytlnpfeecaiecaaa

namespace Go.Proofs.Ytlnpfeecaiecaaa
open Go.RowKit
set_option linter.unusedVariables false
set_option linter.unusedSimpArgs false
set_option maxRecDepth 20000

def fy1 : Tm := ⟨2, ⟨#[]⟩, 1, 0, 0, 0⟩
def fy2 : Tm := ⟨2, ⟨#[]⟩, 2, 0, 0, 0⟩
theorem wy1 : Wf fy1 := ⟨wf_emp, k2, u1, k0, k0, k0⟩
theorem wy2 : Wf fy2 := ⟨wf_emp, k2, u2, k0, k0, k0⟩
theorem py1 : putF [] 30 fy1 = (1, 0, [fy1]) := by simp [putF, Tm.may, May, below3, BadP, many, prt, nameOf, eqB, tl0, sz0, List.findIdx?_cons, zeroT, pubT, shareT, fy1, fy2, secF, getT, agreeF]
theorem py2 : putF [fy1] 30 fy2 = (2, 0, [fy1, fy2]) := by simp [putF, Tm.may, May, below3, BadP, many, prt, nameOf, eqB, tl0, sz0, List.findIdx?_cons, zeroT, pubT, shareT, fy1, fy2, secF, getT, agreeF]
theorem py3 : putF [fy1, fy2] 30 (pubT 1) = (3, 0, [fy1, fy2, pubT 1]) := by simp [putF, Tm.may, May, below3, BadP, many, prt, nameOf, eqB, tl0, sz0, List.findIdx?_cons, zeroT, pubT, shareT, fy1, fy2, secF, getT, agreeF]
theorem py4 : putF [fy1, fy2, pubT 1] 30 (pubT 2) = (4, 0, [fy1, fy2, pubT 1, pubT 2]) := by simp [putF, Tm.may, May, below3, BadP, many, prt, nameOf, eqB, tl0, sz0, List.findIdx?_cons, zeroT, pubT, shareT, fy1, fy2, secF, getT, agreeF]
theorem py5 : agreeF [fy1, fy2, pubT 1, pubT 2] 30 1 4 = (5, 0, [fy1, fy2, pubT 1, pubT 2, shareT 1 2]) := by simp [putF, Tm.may, May, below3, BadP, many, prt, nameOf, eqB, tl0, sz0, List.findIdx?_cons, zeroT, pubT, shareT, fy1, fy2, secF, getT, agreeF]
theorem py6 : putF [fy1, fy2, pubT 1, pubT 2] 30 (shareT 1 2) = (5, 0, [fy1, fy2, pubT 1, pubT 2, shareT 1 2]) := by simp [putF, Tm.may, May, below3, BadP, many, prt, nameOf, eqB, tl0, sz0, List.findIdx?_cons, zeroT, pubT, shareT, fy1, fy2, secF, getT, agreeF]
def L5 : List Tm := [fy1, fy2, pubT 1, pubT 2, shareT 1 2]
theorem wf_p (x : Int) (hx : I64 x) : Wf (pubT x) := ⟨wf_emp, k3, u0, hx, k0, k0⟩
theorem wf_s (x y : Int) (hx : I64 x) (hy : I64 y) : Wf (shareT x y) := ⟨wf_emp, k4, u0, hx, hy, k0⟩
theorem fine5 : Fine L5 := ((((Fine.nil.of wy1 py1).of wy2 py2).of (wf_p 1 k1) py3).of (wf_p 2 k2) py4).of (wf_s 1 2 k1 k2) py6
theorem in5 {x : Int} (h1 : 1 ≤ x) (h2 : x ≤ 5) : InL L5 x := ⟨h1, h2⟩
theorem ns1 : stepOk L5 false false (looks L5 false false [3, 4] []) = true ∧ namesIn L5 (has (looks L5 false false [3, 4] [])) = [3, 4] := by decide +kernel
theorem ns2 : stepOk L5 true false (looks L5 true false [3, 4] [5]) = true ∧ namesIn L5 (has (looks L5 true false [3, 4] [5])) = [3, 4, 5] := by decide +kernel
theorem ns3 : stepOk L5 false false (looks L5 false false [1, 4] [3, 5]) = true ∧ namesIn L5 (has (looks L5 false false [1, 4] [3, 5])) = [1, 3, 4, 5] := by decide +kernel
theorem ns4 : has (looks L5 false false [2, 3] [5]) 5 = true := by decide +kernel
end Go.Proofs.Ytlnpfeecaiecaaa
