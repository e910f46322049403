/- The program's All and Can. -/
import Derived.Test.YtlnpfeecaiecaaaKnowNew
import Derived.Test.YtlnpfeecaiecaaaKnowThink
import Derived.Test.YtlnpfeecaiecaaaKnowT0
import Derived.Test.YtlnpfeecaiecaaaKnowSort
import Derived.Test.YtlnpfeecaiecaaaKnowR5
namespace Go.Proofs.Ytlnpfeecaiecaaa
open Go.RowKit
open Go.Maps
set_option linter.unusedVariables false
set_option linter.unusedSimpArgs false
set_option maxRecDepth 20000

theorem all_of {L : List Tm} {ks : List Int} (h : ks.all (allB L) = true) : ∀ x, x ∈ ks → InL L x := fun x hx => allB_iff.1 (List.all_eq_true.1 h x hx)
theorem not_all_of {L : List Tm} {ks : List Int} (h : ks.all (allB L) = false) : ∃ x, x ∈ ks ∧ ¬ InL L x := by
  obtain ⟨x, hx, hn⟩ := List.all_eq_false.1 h
  exact ⟨x, hx, fun q => hn (allB_iff.2 q)⟩
/-- What is known is read as before while the mind is turned. -/
theorem Mind.known {W w : World} {g : Nat} {L : List Tm} {dh kem : Bool} {B : MB} {nm : Tm → Int} {H : Nat → List Int} {vs : Nat → Value} {v : Value} {M : List Int} (h : Mind W g L dh kem B nm H vs v M w) {a : Option Addr} {cap : Nat} {ks : List Int} (hi : IntsAt W a cap ks) :
    ∀ W', Chg (SM B v) w W' → IntsAt W' a cap ks := fun W' hc => hi.below (h.below.trans (hc.below (fun k hk => by
  rcases hk with e | e | e
  · rw [e]; exact h.lo.1
  · rw [e]; exact h.lo.2.1
  · exact (World.ownsRow.lt h.row k e.symm).1) h.below.size))
/-- What think has found, where nothing more is found. -/
theorem thought_all {L : List Tm} {ks M' : List Int} {dh kem : Bool} (hF : Fit L) (hk : ∀ x, x ∈ ks → InL L x) (hm : Mid L dh kem (addAll [] ks) M') : ∃ C, Least L ks dh kem C ∧ Le (has M') C ∧ ((StepC L dh kem (has M') (has M')) → ∀ n, has M' n = C n) := by
  obtain ⟨C, hC⟩ := least_is hF hk dh kem
  have hle : Le (has M') C := hm.2 C hC.1.step (fun n hn => by
    rw [has_addAll, has_nil, Bool.false_or] at hn
    exact hC.1.known n (has_iff.1 hn))
  refine ⟨C, hC, hle, fun hst n => least_list hC (fun a ha => ?_) hle hst n⟩
  have : has (addAll [] ks) a = true := by rw [has_addAll, has_nil, Bool.false_or]; exact has_iff.2 ha
  exact has_iff.1 (pre_le hm.1 a this)
theorem hang_all (L : List Tm) : ∀ n, InL L n → ∀ on, on ∈ asks L n → n ∈ hangs L L.length on.toNat := fun n hn on ho => hangs_mem hn.1 hn.2 on ho
theorem hang_in (L : List Tm) : ∀ i y, y ∈ hangs L L.length i → InL L y := fun i y hy => hangs_in hy

/-- The store of the program, with all that is known of its terms. -/
structure Known (w : World) (g : Nat) (L : List Tm) : Prop where
  st : StoreAt w g L
  fit : Fit L
  sound : Sound L
  uniq : Uniq L
  wf : ∀ t, t ∈ L → Wf t
  most : L.length ≤ 1048576

set_option maxHeartbeats 8000000 in
set_option maxRecDepth 100000 in
theorem all_k {W : World} {g : Nat} {L : List Tm} (hK : Known W g L) (a : Option Addr) (cap : Nat) (ks : List Int) (h : IntsAt W a cap ks) (dh kem : Bool) :
    Calls Try.prog 23 #[.pointer (some ⟨g, 0, none⟩), .slice a ks.length cap, .agg #[.bool dh, .bool kem]] W (AllPost W.heap.size L ks dh kem W) := by
  have hlen := h.len
  have HI := Lib.hid h
  have HK := Lib.hid hK
  have HTHERE : Hid (∀ w', Below W.heap.size W w' → Calls Try.prog 36 #[.pointer (some ⟨g, 0, none⟩), .slice a ks.length cap] w' fun e W' => e = .returned (.bool (ks.all (allB L))) ∧ Below w'.heap.size w' W') := Lib.hid (fun w' hb => there_k hK.st a cap ks w' hb (h.below hb))
  have HHAVE : Hid (∀ (B : MB) (H : Nat → List Int) (vs : Nat → Value) (v : Value) (M : List Int) (w' : World), MindF W g L dh kem B H vs v M w' → (∀ x, x ∈ ks → InL L x) → Calls Try.prog 38 #[.pointer (some ⟨B.m, 0, none⟩), .slice a ks.length cap] w' (Had W g L dh kem B (noteOf L L.length) H vs v (addAll M ks) w')) := Lib.hid (fun B H vs v M w' hm hx => have_any hm a cap ks (hm.known h) hx)
  obtain ⟨b, hbb⟩ : ∃ b, b = ks.all (allB L) := ⟨_, rfl⟩
  rw [← hbb] at HTHERE
  have HBB := Lib.hid hbb
  obtain ⟨n, hn⟩ : ∃ n, n = ks.length := ⟨_, rfl⟩
  rw [← hn] at hlen HTHERE HHAVE ⊢
  obtain ⟨W1, hW1⟩ : ∃ W1, W1 = W.alloc (.cells #[.bool dh, .bool kem] 63) := ⟨_, rfl⟩
  have hb1 : Below W.heap.size W W1 := by rw [hW1]; exact (Below.refl _ _).alloc (Nat.le_refl _) _
  have z : ∀ j, W1.cell? ⟨W.heap.size, j, none⟩ = #[Value.bool dh, .bool kem][j]? := fun j => by rw [hW1]; exact cell_of_row _ _ j _ _ _ (heap_alloc_new W _)
  have hF1 : HeldF W.heap.size dh kem W1 := ⟨by simpa using z 0, by simpa using z 1⟩
  have HF1 := Lib.hid hF1
  have HB1 := Lib.hid hb1
  clear z h hK hbb hn hF1 hb1
  go_enter Try.func23, Try.ntmps23
  go_wp2_with fail
  rw [← hW1]
  clear hW1
  refine (HTHERE.out W1 HB1.out).mono ?_
  rintro e w2 ⟨rfl, hb2⟩
  have HB2 : Hid (Below W.heap.size W w2) := Lib.hid (HB1.out.trans (hb2.mono HB1.out.size))
  have HF2 : Hid (HeldF W.heap.size dh kem w2) := Lib.hid (HF1.out.below hb2)
  clear hb2 HB1 HF1 HTHERE
  cases b
  · go_wp2_with fail
    go_ret2
    exact ⟨HB2.out, .inl ⟨not_all_of HBB.out.symm, rfl⟩⟩
  · have HIN : Hid (∀ x, x ∈ ks → InL L x) := Lib.hid (all_of HBB.out.symm)
    obtain ⟨z0, z1⟩ := HF2.out
    go_wp2_with fail
    refine (newMind_k HK.out.st HK.out.sound HK.out.uniq HK.out.wf HK.out.most w2 HB2.out).mono ?_
    rintro e w3 ⟨B, vs, rfl, hm3⟩
    have HM3 := Lib.hid hm3
    clear hm3 z0 z1 HF2
    go_wp2_with fail
    refine (HHAVE.out B _ vs _ [] w3 HM3.out HIN.out).mono ?_
    rintro e w4 ⟨v4, rfl, hm4, hc4, hn4⟩
    have HM4 := Lib.hid hm4
    clear hm4 hc4 hn4 HM3
    go_wp2_with fail
    refine (think_k HK.out.st HK.out.fit HK.out.sound (hang_all L) (hang_in L) 0 (Nat.zero_le _) w4 HM4.out).mono ?_
    rintro e w5 ⟨v5, M5, rfl, hm5, hmid, hor⟩
    have HM5 := Lib.hid hm5
    have HST : Hid (StepC L dh kem (has M5) (has M5)) := Lib.hid (hor.elim id (fun q => by
      have := hm5.inL 0 (has_iff.1 q)
      unfold InL at this
      omega))
    obtain ⟨C, hC, hle, heq⟩ := thought_all HK.out.fit HIN.out hmid
    have HC := Lib.hid hC
    have HEQ : Hid (∀ n, has M5 n = C n) := Lib.hid (heq HST.out)
    have HSORT := Lib.hid (sort_k hm5.row (by have := hm5.len; have := hm5.most; omega))
    obtain ⟨_, _, c16, _⟩ := hm5.cells
    have hne : ∀ k, SM B v5 k → ¬ False := fun _ _ => id
    have HMV : Hid (¬ some B.m = v5.ownBlock) := Lib.hid (fun e => by have := hm5.apart 4 0 B.m e.symm rfl; omega)
    have hmb : B.m < w5.heap.size := (hm5.at 0 B.m rfl).2
    have HMB := Lib.hid hmb
    have C16 := Lib.hid c16
    obtain ⟨a5, c5, rfl, _⟩ := hm5.row.at
    clear hm5 hmid hor hC hle heq hne HM4
    go_wp2_with fail
    refine HSORT.out.mono ?_
    rintro e w6 ⟨rfl, ho6, hc6⟩
    have d16 : w6.cell? ⟨B.m, 16, none⟩ = some (.slice a5 M5.length c5) := by rw [World.cell?_of_block (a := ⟨B.m, 16, none⟩) (hc6.block B.m HMB.out HMV.out)]; exact C16.out
    have HO6 := Lib.hid ho6
    have HB6 : Hid (Below W.heap.size W w6) := Lib.hid (HM5.out.below.trans (hc6.below (fun k hk => (World.ownsRow.lt HM5.out.row k hk.symm).1) HM5.out.below.size))
    clear ho6 hc6 c16 hmb
    go_wp2_with fail
    go_ret2
    refine ⟨HB6.out, .inr ⟨HIN.out, C, _, HC.out, rfl, ?_⟩⟩
    have e : sorted M5 = namesIn L C := sorted_names HM5.out.nodup (fun x => ⟨fun q => ⟨HM5.out.inL x q, by rw [← HEQ.out]; exact has_iff.2 q⟩, fun q => has_iff.1 (by rw [HEQ.out]; exact q.2)⟩)
    rw [← e]
    exact HO6.out

end Go.Proofs.Ytlnpfeecaiecaaa
