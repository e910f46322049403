/- AlarmTimes: what is due is due at its time, not ahead of it; nothing is due twice. No condition. -/
import Derived.Test.YtcnfchjiiglijaaRows
import Derived.Test.YtcnfchjiiglijaaAlarmO
import Derived.WalkKit
import Derived.ProofKit
import Derived.OpenShut
import Derived.ShutString
import Derived.ChangeOld
import Derived.Below
import Derived.Test.YtcnfchjiiglijaaAlarmMovesW
import Derived.Test.YtcnfchjiiglijaaArrs
import Derived.Test.YtcnfchjiiglijaaAlsD
namespace Go.Proofs.Ytcnfchjiiglijaa.alarmTimes
open Go.ChangeShapes Go.WideShapes Go.ChangeAt Go.RowKit
open Go.ChangeMaps (open_string shut_string)
open Go.Proofs.Ytcnfchjiiglijaa
set_option linter.unusedVariables false
set_option linter.unusedSimpArgs false
set_option maxRecDepth 20000

theorem own : ownKnob Try.prog.godebug = none := by kernel_rfl
theorem laidOut : laidOutB Try.prog = true := by kernel_rfl
/-- Each alarm's time stands in the row, at the place of its number. -/
structure Tim (S : List On) (M : List Int) : Prop where
  once : NoTwice S
  at_ : ∀ o, o ∈ S → ∃ i : Nat, i < M.length ∧ o.id = (i : Int) ∧ M.getD i 0 = o.at_
theorem Tim.nil : Tim [] [] := ⟨List.nodup_nil, fun o ho => by cases ho⟩
theorem getD_app {M : List Int} {x : Int} {i : Nat} (h : i < M.length) : (M ++ [x]).getD i 0 = M.getD i 0 := by
  simp only [List.getD_eq_getElem?_getD]
  rw [List.getElem?_append_left h]
theorem getD_last (M : List Int) (x : Int) : (M ++ [x]).getD M.length 0 = x := by
  simp only [List.getD_eq_getElem?_getD]
  rw [List.getElem?_append_right (Nat.le_refl _)]
  simp
theorem Tim.new {S : List On} {M : List Int} (h : Tim S M) : hasD (M.length : Int) S = false := by
  cases hb : hasD (M.length : Int) S with
  | false => rfl
  | true =>
    obtain ⟨o, ho, e⟩ := has_iff.1 hb
    obtain ⟨i, hi, e2, _⟩ := h.at_ o ho
    omega
theorem Tim.put {S : List On} {M : List Int} (h : Tim S M) (t : Int) : Tim (insD ⟨(M.length : Int), t⟩ (dropD (M.length : Int) S)) (M ++ [t]) := by
  refine ⟨put_nt h.once, fun o ho => ?_⟩
  rcases (put_mem h.once o).1 ho with q | ⟨q, _⟩
  · rw [q]
    exact ⟨M.length, by simp, rfl, getD_last M t⟩
  · obtain ⟨i, hi, e1, e2⟩ := h.at_ o q
    exact ⟨i, by simp; omega, e1, by rw [getD_app hi]; exact e2⟩
theorem Tim.tail {o : On} {S : List On} {M : List Int} (h : Tim (o :: S) M) {i : Nat} (e : o.id = (i : Int)) (x : Int) : Tim S (M.set i x) := by
  have hn := h.once
  unfold NoTwice at hn
  rw [List.map_cons, List.nodup_cons] at hn
  refine ⟨hn.2, fun p hp => ?_⟩
  obtain ⟨j, hj, e1, e2⟩ := h.at_ p (List.mem_cons_of_mem _ hp)
  refine ⟨j, by simpa using hj, e1, ?_⟩
  have : i ≠ j := fun q => hn.1 (by rw [e, q, ← e1]; exact List.mem_map.2 ⟨p, hp, rfl⟩)
  simp only [List.getD_eq_getElem?_getD] at e2 ⊢
  rw [List.getElem?_set_ne this]
  exact e2
theorem rowat_off {k : IntKind} {S : Nat → Prop} {w w' : World} {a : Option Addr} {cap : Nat} {ks : List Int} (h : RowAt k w a cap ks) (hc : Chg S w w') (hn : ∀ p, a = some p → ¬ S p.block) : RowAt k w' a cap ks := by
  obtain ⟨h1, h2, b, off, h3⟩ := h
  refine ⟨h1, h2, b, off, fun j hj => ?_⟩
  obtain ⟨e, c⟩ := h3 j hj
  refine ⟨e, ?_⟩
  have := hc.block b (block_lt_of_cell c) (hn _ e)
  simp only [World.cell?, this]
  exact c
section
variable {w0 w : World} {F : Nat → Prop} {p : Nat} {L : List On} {most : Int} {u : Value} {M : List Int}
/-- A number of the row set anew. -/
theorem or_set (h : OR w0 F w p L most u M) {i : Nat} (hi : i < M.length) (x : Int) : ∃ g c, u = .slice (some ⟨g, 0, none⟩) M.length c ∧ g < w.heap.size ∧ w.cell? ⟨g, i, none⟩ = some (.int .u64 (M.getD i 0)) ∧ w.frozen? ⟨g, i, none⟩ = false ∧
    OR w0 F (w.setCell ⟨g, i, none⟩ (.int .u64 x)) p L most u (M.set i x) ∧ Chg (fun k => k = g) w (w.setCell ⟨g, i, none⟩ (.int .u64 x)) := by
  have h' : w.ownsRow w0.heap.size 29 1 u M.length (valsR .u64 M) := h.row
  rcases h'.2 with ⟨hv, hn⟩ | ⟨g, cap, cur, hv, hg, hh, h1, h2, h3, h4⟩
  · omega
  · subst hv
    have hs := (World.ownsRow.stored h' i (.int .u64 x)).1
    have hc := Chg.setCell w g i (.int .u64 x)
    have hce := World.ownsRow.cellAt h' i (by omega)
    refine ⟨g, cap, rfl, blk_lt hh, ?_, World.ownsRow.frozenAt h' i, h.turn (u' := .slice (some ⟨g, 0, none⟩) M.length cap) ?_ ⟨hc.os, hc.tape, hc.output, hc.size, fun k hk hn => hc.block k hk (fun e => hn (by rw [e]; rfl))⟩, hc⟩
    · rw [hce]
      unfold valsR
      rw [List.getElem?_map, List.getElem?_eq_getElem hi, List.getD_eq_getElem?_getD, List.getElem?_eq_getElem hi]
      rfl
    · unfold Own
      rw [List.length_set]
      have e : valsR .u64 (M.set i x) = (valsR .u64 M).set i (.int .u64 x) := by unfold valsR; rw [List.map_set]
      rw [e]
      exact hs
end
theorem own_form {base : Nat} {v : Value} {M : List Int} {w : World} {k : Nat} (h : Own 29 .u64 base v M w) (hk : M.length = k + 1) : ∃ g c, v = .slice (some ⟨g, 0, none⟩) (k + 1) c := by
  have h' : w.ownsRow base 29 1 v M.length (valsR .u64 M) := h
  rcases h'.2 with ⟨hv, hn⟩ | ⟨g, cap, cur, hv, _⟩
  · omega
  · exact ⟨g, cap, by rw [hv, hk]⟩
theorem u8_mod30 {x : Int} (h : 0 ≤ x ∧ x ≤ 255) : 0 ≤ x.tmod 30 ∧ x.tmod 30 ≤ 29 := by
  rw [Int.tmod_eq_emod_of_nonneg h.1]; omega
/-- What is due, ahead of what is left. -/
theorem due_split (now : Int) (R : List On) : ∃ P, R = P ++ restD now R ∧ dueD now R = P.map On.id ∧ ∀ o, o ∈ P → o.at_ ≤ now :=
  ⟨R.takeWhile (fun o => decide (o.at_ ≤ now)), (List.takeWhile_append_dropWhile).symm, rfl, fun o ho => by
    have := List.all_eq_true.1 (List.all_takeWhile (p := fun o : On => decide (o.at_ ≤ now)) (l := R)) o ho
    simpa using this⟩
theorem i64_of {x : Int} (h : 0 ≤ x) (k : x ≤ 9223372036854775807) : IntKind.i64.wrap x = x := by simp [IntKind.wrap, IntKind.signed, IntKind.bits]; omega
set_option maxHeartbeats 4000000 in
set_option maxRecDepth 100000 in
theorem walk (a0 : Option Addr) (len0 cap0 : Nat) (Z0 : Nat → Nat → Int) (w : World) (w0 : Arrs .u8 2 w a0 len0 cap0 Z0) :
    Calls Try.prog 5 #[.slice a0 len0 cap0] w fun e w' => e = .returned (.bool true) ∧ Below w.heap.size w w' := by
  obtain ⟨hcm, hlc, b, off, hz⟩ := w0
  have HZ := Lib.hid hz
  unfold maxLen at hcm
  clear hz
  go_enter Try.func5, Try.ntmps5
  go_wp2_with fail
  refine (new_s 100 100 w w (Below.refl _ _) rfl).mono ?_
  rintro e w1 ⟨p, F1, rfl, ha, hfn, hb⟩
  have HA0 := Lib.hid ha
  clear ha hfn hb
  go_wp2_with fail
  have HOR := Lib.hid (OR.start HA0.out)
  generalize w1.alloc (.cells #[] 29) = w2 at HOR ⊢
  generalize w1.heap.size = g2 at HOR ⊢
  clear HA0
  go_loopw [4, 5] (fun v i wr => ∃ (k : Nat) (u : Value) (L : List On) (M : List Int) (F : Nat → Prop), u = v ∧ k ≤ 20 ∧ i = .int .i64 (k : Nat) ∧ (∃ g c, u = .slice (some ⟨g, 0, none⟩) k c) ∧ Hid (OR w F wr p L 100 u M) ∧ Hid (Tim L M ∧ M.length = k ∧ L.length = k ∧ ∀ o, o ∈ L → 0 ≤ o.at_ ∧ o.at_ ≤ 29)) (fun _ i _ => 20 - (intOf i).toNat)
  case atStart => exact ⟨0, _, [], [], F1, rfl, Nat.zero_le _, rfl, ⟨_, _, rfl⟩, HOR, Lib.hid ⟨Tim.nil, rfl, rfl, fun o ho => by cases ho⟩⟩
  case round =>
    clear HOR
    obtain ⟨k, u, L, M, F, rfl, hk, rfl, hform, HA, HT⟩ := hrel
    by_cases hlt : k < len0
    · have hlt1 : (k : Int) < (len0 : Int) := by omega
      by_cases h20 : k < 20
      · have h21 : (k : Int) < 20 := by omega
        obtain ⟨rfl, hcl⟩ := HZ.out k hlt
        obtain ⟨q0, wf0⟩ := hcl 0 (by omega)
        obtain ⟨q1, wf1⟩ := hcl 1 (by omega)
        have hbw : b < w.heap.size := block_lt_of_cell q0
        obtain ⟨u0, hu0⟩ : ∃ u, u = Z0 k 0 := ⟨_, rfl⟩
        rw [← hu0] at q0 wf0
        obtain ⟨u1, hu1⟩ : ∃ u, u = Z0 k 1 := ⟨_, rfl⟩
        rw [← hu1] at q1 wf1
        have y1 := Go.bounds_u8 wf1
        obtain ⟨t, ht⟩ : ∃ x, u1.tmod 30 = x := ⟨_, rfl⟩
        obtain ⟨ht0, ht1⟩ : 0 ≤ t ∧ t ≤ 29 := by rw [← ht]; exact u8_mod30 y1
        obtain ⟨y10, y11⟩ := y1
        have iw0 : IntKind.u64.wrap t = t := wrap_u64 (by omega) (by omega)
        have iw1 : IntKind.u64.wrap (k : Int) = (k : Int) := wrap_u64 (by omega) (by omega)
        have iw2 : IntKind.u8.wrap t = t := by simp [IntKind.wrap, IntKind.signed, IntKind.bits]; omega
        have HK : Hid (k < 20) := Lib.hid h20
        have HTB : Hid (U64 (k : Int) ∧ U64 t ∧ 0 ≤ t ∧ t ≤ 29) := Lib.hid ⟨⟨by omega, by omega⟩, ⟨by omega, by omega⟩, ht0, ht1⟩
        have hc8 := Row8.of (show Row8 b (off + k * 2) u0 u1 w from ⟨q0, q1⟩) HA.out.low hbw
        have g1 := hc8.2
        obtain ⟨L1, hL1⟩ : ∃ X, X = insD ⟨(k : Int), t⟩ (dropD (k : Int) L) := ⟨_, rfl⟩
        obtain ⟨hti, hml, hll, hsm⟩ := HT.out
        have hnew := hti.new
        rw [hml] at hnew
        have HP : Hid (putD 100 (k : Int) t L = (L1, 0)) := Lib.hid (by rw [hL1]; exact put_fits (.inr (by rw [hll]; omega)))
        have HT1 : Hid (Tim L1 (M ++ [t]) ∧ (M ++ [t]).length = k + 1 ∧ L1.length = k + 1 ∧ ∀ o, o ∈ L1 → 0 ≤ o.at_ ∧ o.at_ ≤ 29) := Lib.hid ⟨by have := hti.put t; rw [hml] at this; rw [hL1]; exact this, by simp [hml], by rw [hL1, put_len, hnew, hll]; rfl, fun o ho => by
          rw [hL1] at ho
          rcases (put_mem hti.once o).1 ho with q | ⟨q, _⟩
          · rw [q]; exact ⟨ht0, ht1⟩
          · exact hsm o q⟩
        clear hu0 wf0 q0 hu1 wf1 q1 hcl hk h20 hbw hc8 hL1 hti hml hll hsm hnew hform
        go_wp2_with fail
        refine (put_r HA.out (k : Int) t 0 L1 0 (by rw [HT.out.2.2.1]; have := HK.out; omega) HTB.out.1 HTB.out.2.1 HP.out rfl).mono ?_
        rintro e wy ⟨F', rfl, hp⟩
        have HA2 := Lib.hid hp
        have HSZ : Hid (w.heap.size ≤ wy.heap.size) := Lib.hid hp.low.size
        clear hp
        go_wp2_with (at_builtin; refine wpList_appG rfl (.tmp 38) (.tmp 40) 35 29 .u64 8 Try.underlying35 infoU (by decide) rfl w.heap.size _ M t _ rfl (HA2.out.row.below (below_alloc _ _)) wy.heap.size 1 rfl (heap_alloc_new wy _) (by have := HT.out.2.1; have := HK.out; omega) (by have := HSZ.out; simp; omega) ?_; intro v5 w5 hA hG; have HA5 := Lib.hid (OR.turn (HA2.out.below (below_alloc wy _)) hA hG); have HF5 : Hid (∃ g c, v5 = .slice (some ⟨g, 0, none⟩) (k + 1) c) := Lib.hid (own_form hA (by rw [List.length_append, HT.out.2.1]; rfl)); clear hA hG)
        go_roundw
        case rel => exact ⟨k + 1, _, L1, M ++ [t], F', rfl, HK.out, by go_num, HF5.out, HA5, HT1⟩
        case measure => have := HK.out; simp [intOf]; omega
      · have h21 : decide ((k : Int) < 20) = false := by simp; omega
        clear hlt h20 HZ
        obtain ⟨g, cu, rfl⟩ := hform
        have hn : M.length = k := HT.out.2.1
        generalize k = n at *
        have HN : Hid (n ≤ 20) := Lib.hid (by omega)
        have hn64 : n ≤ 9223372036854775807 := by have := HN.out; omega
        have HT2 : Hid (Tim L M ∧ M.length = n ∧ L.length = n ∧ ∀ o, o ∈ L → 0 ≤ o.at_ ∧ o.at_ ≤ 29) := Lib.hid ⟨HT.out.1, hn, by have := HT.out.2.2.1; have := HT.out.2.1; omega, HT.out.2.2.2⟩
        clear hn hk HT
        go_wp2_with fail
        go_loopw [7, 8] (fun s t wx => ∃ (sn now : Nat) (R : List On) (N : List Int) (G : Nat → Prop), now ≤ 30 ∧ s = .int .i64 (sn : Nat) ∧ t = .int .u64 (now : Nat) ∧ Hid (OR w G wx p R 100 (.slice (some ⟨g, 0, none⟩) n cu) N) ∧ Hid (Tim R N ∧ N.length = n ∧ sn + R.length = n ∧ ∀ o, o ∈ R → (now : Int) ≤ o.at_ ∧ o.at_ ≤ 29)) (fun _ t _ => 30 - (intOf t).toNat)
        case atStart => exact ⟨0, 0, L, M, F, by omega, rfl, rfl, HA, Lib.hid ⟨HT2.out.1, HT2.out.2.1, by have := HT2.out.2.2.1; omega, HT2.out.2.2.2⟩⟩
        case round =>
          clear HA HT2 L M F
          obtain ⟨sn, now, R, N, G, hnow, rfl, rfl, HA, HT⟩ := hrel
          by_cases h30 : now < 30
          · have h31 : (now : Int) < 30 := by omega
            obtain ⟨P, hP, hdu, hle⟩ := due_split (now : Int) R
            obtain ⟨R', hR'⟩ : ∃ X, restD (now : Int) R = X := ⟨_, rfl⟩
            obtain ⟨ks, hks⟩ : ∃ X, P.map On.id = X := ⟨_, rfl⟩
            rw [hR'] at hP
            rw [hks] at hdu
            have HD := Lib.hid (And.intro hR' hdu)
            have HRL : Hid (R.length ≤ 1000) := Lib.hid (by have := HT.out.2.2.1; have := HN.out; omega)
            have hlate : ∀ o, o ∈ R' → (now : Int) + 1 ≤ o.at_ ∧ o.at_ ≤ 29 := fun o ho => by
              have h1 := rest_late HA.out.al.al.rise.1 o (by rw [hR']; exact ho)
              have h2 := (HT.out.2.2.2 o (by rw [hP]; exact List.mem_append_right _ ho)).2
              omega
            have heq : ∀ o, o ∈ P → o.at_ = (now : Int) := fun o ho => by
              have h1 := hle o ho
              have h2 := (HT.out.2.2.2 o (by rw [hP]; exact List.mem_append_left _ ho)).1
              omega
            have HLT := Lib.hid (And.intro hlate heq)
            have HKS := Lib.hid hks
            have HPR := Lib.hid hP
            have HNW : Hid (now < 30 ∧ U64 (now : Int)) := Lib.hid ⟨h30, ⟨by omega, by omega⟩⟩
            clear hP hdu hle hR' hks hlate heq h30 hnow
            go_wp2_with fail
            refine (due_r HA.out (now : Int) R' ks HRL.out HNW.out.2 HD.out.1 HD.out.2).mono ?_
            rintro e wy ⟨G', a', c', rfl, hr', hp, hab⟩
            have hlen := hr'.len
            obtain ⟨m, hm⟩ : ∃ m, ks.length = m := ⟨_, rfl⟩
            rw [hm] at hlen ⊢
            have HM := Lib.hid hm
            have HA2 := Lib.hid hp
            have HXR := Lib.hid hr'
            have HAB := Lib.hid hab
            have HGW : Hid (∀ k b, (Value.slice (some ⟨g, 0, none⟩) n cu).ownBlock = some k → a' = some b → k ≠ b.block) := Lib.hid (fun k b hk hb => by have h1 := (World.ownsRow.lt HA.out.row k hk).2; have h2 := hab b hb; omega)
            clear hr' hp hab hm HA
            go_wp2_with fail
            go_loopw [7, 10] (fun s i wz => ∃ (j : Nat) (Q : List On) (K : List Int), j ≤ m ∧ s = .int .i64 ((sn + j : Nat)) ∧ i = .int .i64 (j : Nat) ∧ Hid (OR w G' wz p R' 100 (.slice (some ⟨g, 0, none⟩) n cu) K) ∧ Hid (RowAt .u64 wz a' c' ks) ∧ Hid (Tim (Q ++ R') K ∧ K.length = n ∧ Q.length + j = m ∧ Q.map On.id = ks.drop j ∧ ∀ o, o ∈ Q → o.at_ = (now : Int))) (fun _ i _ => m - (intOf i).toNat)
            case atStart => exact ⟨0, P, N, Nat.zero_le _, rfl, rfl, HA2, HXR, Lib.hid ⟨by rw [← HPR.out]; exact HT.out.1, HT.out.2.1, by rw [← HM.out, ← HKS.out]; simp, HKS.out, HLT.out.2⟩⟩
            case round =>
              clear HA2 HXR
              obtain ⟨j, Q, K, hj, rfl, rfl, HA, HXR, HQ⟩ := hrel
              by_cases hjm : j < m
              · have hj1 : (j : Int) < (m : Int) := by omega
                have hj0 : (0 : Int) ≤ (j : Int) := by omega
                cases Q with
                | nil => exact absurd HQ.out.2.2.1 (by simp; omega)
                | cons o Q2 =>
                  obtain ⟨hti, hkl, hql, hqm, hqa⟩ := HQ.out
                  obtain ⟨i, hi, hid, hat⟩ := hti.at_ o (by simp)
                  rw [hkl] at hi
                  have hnow := hqa o (by simp)
                  obtain ⟨_, _, b3, o3, hx0⟩ := HXR.out
                  obtain ⟨rfl, hx⟩ := hx0 j (by rw [HM.out]; exact hjm)
                  have hzx : ks.getD j 0 = (i : Int) := by
                    have e1 : ks.drop j = ks.getD j 0 :: ks.drop (j + 1) := by
                      rw [List.drop_eq_getElem_cons (by rw [HM.out]; exact hjm), List.getD_eq_getElem?_getD, List.getElem?_eq_getElem (by rw [HM.out]; exact hjm)]
                      rfl
                    rw [e1, List.map_cons] at hqm
                    injection hqm with e2 _
                    rw [← e2]; exact hid
                  rw [hzx] at hx
                  obtain ⟨g9, c9, hu, hgl, hgc, hgf, hor, hch⟩ := or_set HA.out (i := i) (by rw [hkl]; exact hi) 99
                  injection hu with e1 e2 e3
                  injection e1 with e1
                  injection e1 with e1
                  subst e1
                  rw [hat, hnow] at hgc
                  clear e2 e3
                  have HOR2 := Lib.hid hor
                  have HT2 : Hid (Tim (Q2 ++ R') (K.set i 99) ∧ (K.set i 99).length = n ∧ Q2.length + (j + 1) = m ∧ Q2.map On.id = ks.drop (j + 1) ∧ ∀ o, o ∈ Q2 → o.at_ = (now : Int)) := Lib.hid ⟨hti.tail hid 99, by rw [List.length_set]; exact hkl, by simp only [List.length_cons] at hql; omega, by
                    rw [List.map_cons, List.drop_eq_getElem_cons (by rw [HM.out]; exact hjm)] at hqm
                    injection hqm, fun o ho => hqa o (List.mem_cons_of_mem _ ho)⟩
                  have hgb : g ≠ b3 := HGW.out g _ rfl rfl
                  have HXR2 : Hid (RowAt .u64 (wr.setCell ⟨g, i, none⟩ (.int .u64 99)) (some ⟨b3, o3, none⟩) c' ks) := Lib.hid (rowat_off HXR.out hch (fun p hp => by
                    injection hp with hp
                    rw [← hp]
                    exact fun e => hgb e.symm))
                  have HJ := Lib.hid hjm
                  have i1 : (i : Int) < (n : Int) := by omega
                  have i0 : (0 : Int) ≤ (i : Int) := by omega
                  have iwn : IntKind.u64.wrap (n : Int) = (n : Int) := wrap_u64 (by omega) (by have := HN.out; omega)
                  have t1 : decide ((n : Int) ≤ (i : Int)) = false := decide_eq_false (by omega)
                  have t2 : decide (n ≤ i) = false := decide_eq_false (by omega)
                  have t3 : ((now : Int) != (now : Int)) = false := by simp
                  have hs1 : ((sn + j : Nat) : Int) ≤ 1000 := by have := HT.out.2.2.1; have := HN.out; have h5 := congrArg List.length HPR.out; rw [List.length_append] at h5; have h6 := HM.out; rw [← HKS.out, List.length_map] at h6; omega
                  have hs0 : (0 : Int) ≤ ((sn + j : Nat) : Int) := by omega
                  obtain ⟨sj, hsj⟩ : ∃ x, sn + j = x := ⟨_, rfl⟩
                  have HSJ := Lib.hid hsj
                  rw [hsj] at hs1 hs0 ⊢
                  clear hx0 hti hkl hql hqm hqa hi hid hat hnow hzx hor hch hgb hjm hj hsj hgl
                  go_wp2_with fail
                  go_roundw
                  case rel =>
                    have h9 : sn + (j + 1) = sj + 1 := by have := HSJ.out; omega
                    exact ⟨j + 1, Q2, K.set i 99, HJ.out, by rw [h9]; rfl, by go_num, HOR2, HXR2, HT2⟩
                  case measure => have := HJ.out; simp [intOf]; omega
              · obtain rfl : j = m := by omega
                have hj1 : decide (j < j) = false := decide_eq_false (Nat.lt_irrefl _)
                have hq0 : Q = [] := List.eq_nil_of_length_eq_zero (by have := HQ.out.2.2.1; omega)
                subst hq0
                have HTN : Hid (Tim R' K ∧ K.length = n ∧ (sn + j) + R'.length = n) := Lib.hid ⟨HQ.out.1, HQ.out.2.1, by have := HT.out.2.2.1; have h5 := congrArg List.length HPR.out; rw [List.length_append] at h5; have h6 := HM.out; rw [← HKS.out, List.length_map] at h6; omega⟩
                have iwn : IntKind.u64.wrap ((now : Int) + 1) = (now : Int) + 1 := wrap_u64 (by omega) (by have := HNW.out.1; omega)
                clear hj hjm
                go_wp2_with fail
                go_roundw
                case rel => exact ⟨sn + j, now + 1, R', K, G', HNW.out.1, rfl, by go_num, HA, Lib.hid ⟨HTN.out.1, HTN.out.2.1, HTN.out.2.2, fun o ho => by have := HLT.out.1 o ho; push_cast; omega⟩⟩
                case measure => have := HNW.out.1; simp [intOf]; omega
          · obtain rfl : now = 30 := by omega
            have hR0 : R = [] := by
              cases R with
              | nil => rfl
              | cons o r => exact absurd (HT.out.2.2.2 o (by simp)) (by push_cast; omega)
            subst hR0
            have hsn : sn = n := by have := HT.out.2.2.1; simpa using this
            subst hsn
            have t1 : ((sn : Int) == (sn : Int)) = true := by simp
            go_wp2_with fail
            refine (len_r HA.out 0 (by simp) rfl).mono ?_
            rintro e wq ⟨rfl, hp⟩
            have HA3 := Lib.hid hp
            clear hp
            go_wp2_with fail
            refine (fixed_any _).mono ?_
            rintro e wv ⟨rfl, hb⟩
            have HA4 := Lib.hid (HA3.out.below hb)
            clear hb
            go_wp2_with fail
            go_ret
            exact ⟨rfl, HA4.out.low⟩
    · have hlt1 : decide (k < len0) = false := by simpa using hlt
      clear hlt HZ
      obtain ⟨g, cu, rfl⟩ := hform
      have hn : M.length = k := HT.out.2.1
      generalize k = n at *
      have HN : Hid (n ≤ 20) := Lib.hid (by omega)
      have hn64 : n ≤ 9223372036854775807 := by have := HN.out; omega
      have HT2 : Hid (Tim L M ∧ M.length = n ∧ L.length = n ∧ ∀ o, o ∈ L → 0 ≤ o.at_ ∧ o.at_ ≤ 29) := Lib.hid ⟨HT.out.1, hn, by have := HT.out.2.2.1; have := HT.out.2.1; omega, HT.out.2.2.2⟩
      clear hn hk HT
      go_wp2_with fail
      go_loopw [7, 8] (fun s t wx => ∃ (sn now : Nat) (R : List On) (N : List Int) (G : Nat → Prop), now ≤ 30 ∧ s = .int .i64 (sn : Nat) ∧ t = .int .u64 (now : Nat) ∧ Hid (OR w G wx p R 100 (.slice (some ⟨g, 0, none⟩) n cu) N) ∧ Hid (Tim R N ∧ N.length = n ∧ sn + R.length = n ∧ ∀ o, o ∈ R → (now : Int) ≤ o.at_ ∧ o.at_ ≤ 29)) (fun _ t _ => 30 - (intOf t).toNat)
      case atStart => exact ⟨0, 0, L, M, F, by omega, rfl, rfl, HA, Lib.hid ⟨HT2.out.1, HT2.out.2.1, by have := HT2.out.2.2.1; omega, HT2.out.2.2.2⟩⟩
      case round =>
        clear HA HT2 L M F
        obtain ⟨sn, now, R, N, G, hnow, rfl, rfl, HA, HT⟩ := hrel
        by_cases h30 : now < 30
        · have h31 : (now : Int) < 30 := by omega
          obtain ⟨P, hP, hdu, hle⟩ := due_split (now : Int) R
          obtain ⟨R', hR'⟩ : ∃ X, restD (now : Int) R = X := ⟨_, rfl⟩
          obtain ⟨ks, hks⟩ : ∃ X, P.map On.id = X := ⟨_, rfl⟩
          rw [hR'] at hP
          rw [hks] at hdu
          have HD := Lib.hid (And.intro hR' hdu)
          have HRL : Hid (R.length ≤ 1000) := Lib.hid (by have := HT.out.2.2.1; have := HN.out; omega)
          have hlate : ∀ o, o ∈ R' → (now : Int) + 1 ≤ o.at_ ∧ o.at_ ≤ 29 := fun o ho => by
            have h1 := rest_late HA.out.al.al.rise.1 o (by rw [hR']; exact ho)
            have h2 := (HT.out.2.2.2 o (by rw [hP]; exact List.mem_append_right _ ho)).2
            omega
          have heq : ∀ o, o ∈ P → o.at_ = (now : Int) := fun o ho => by
            have h1 := hle o ho
            have h2 := (HT.out.2.2.2 o (by rw [hP]; exact List.mem_append_left _ ho)).1
            omega
          have HLT := Lib.hid (And.intro hlate heq)
          have HKS := Lib.hid hks
          have HPR := Lib.hid hP
          have HNW : Hid (now < 30 ∧ U64 (now : Int)) := Lib.hid ⟨h30, ⟨by omega, by omega⟩⟩
          clear hP hdu hle hR' hks hlate heq h30 hnow
          go_wp2_with fail
          refine (due_r HA.out (now : Int) R' ks HRL.out HNW.out.2 HD.out.1 HD.out.2).mono ?_
          rintro e wy ⟨G', a', c', rfl, hr', hp, hab⟩
          have hlen := hr'.len
          obtain ⟨m, hm⟩ : ∃ m, ks.length = m := ⟨_, rfl⟩
          rw [hm] at hlen ⊢
          have HM := Lib.hid hm
          have HA2 := Lib.hid hp
          have HXR := Lib.hid hr'
          have HAB := Lib.hid hab
          have HGW : Hid (∀ k b, (Value.slice (some ⟨g, 0, none⟩) n cu).ownBlock = some k → a' = some b → k ≠ b.block) := Lib.hid (fun k b hk hb => by have h1 := (World.ownsRow.lt HA.out.row k hk).2; have h2 := hab b hb; omega)
          clear hr' hp hab hm HA
          go_wp2_with fail
          go_loopw [7, 10] (fun s i wz => ∃ (j : Nat) (Q : List On) (K : List Int), j ≤ m ∧ s = .int .i64 ((sn + j : Nat)) ∧ i = .int .i64 (j : Nat) ∧ Hid (OR w G' wz p R' 100 (.slice (some ⟨g, 0, none⟩) n cu) K) ∧ Hid (RowAt .u64 wz a' c' ks) ∧ Hid (Tim (Q ++ R') K ∧ K.length = n ∧ Q.length + j = m ∧ Q.map On.id = ks.drop j ∧ ∀ o, o ∈ Q → o.at_ = (now : Int))) (fun _ i _ => m - (intOf i).toNat)
          case atStart => exact ⟨0, P, N, Nat.zero_le _, rfl, rfl, HA2, HXR, Lib.hid ⟨by rw [← HPR.out]; exact HT.out.1, HT.out.2.1, by rw [← HM.out, ← HKS.out]; simp, HKS.out, HLT.out.2⟩⟩
          case round =>
            clear HA2 HXR
            obtain ⟨j, Q, K, hj, rfl, rfl, HA, HXR, HQ⟩ := hrel
            by_cases hjm : j < m
            · have hj1 : (j : Int) < (m : Int) := by omega
              have hj0 : (0 : Int) ≤ (j : Int) := by omega
              cases Q with
              | nil => exact absurd HQ.out.2.2.1 (by simp; omega)
              | cons o Q2 =>
                obtain ⟨hti, hkl, hql, hqm, hqa⟩ := HQ.out
                obtain ⟨i, hi, hid, hat⟩ := hti.at_ o (by simp)
                rw [hkl] at hi
                have hnow := hqa o (by simp)
                obtain ⟨_, _, b3, o3, hx0⟩ := HXR.out
                obtain ⟨rfl, hx⟩ := hx0 j (by rw [HM.out]; exact hjm)
                have hzx : ks.getD j 0 = (i : Int) := by
                  have e1 : ks.drop j = ks.getD j 0 :: ks.drop (j + 1) := by
                    rw [List.drop_eq_getElem_cons (by rw [HM.out]; exact hjm), List.getD_eq_getElem?_getD, List.getElem?_eq_getElem (by rw [HM.out]; exact hjm)]
                    rfl
                  rw [e1, List.map_cons] at hqm
                  injection hqm with e2 _
                  rw [← e2]; exact hid
                rw [hzx] at hx
                obtain ⟨g9, c9, hu, hgl, hgc, hgf, hor, hch⟩ := or_set HA.out (i := i) (by rw [hkl]; exact hi) 99
                injection hu with e1 e2 e3
                injection e1 with e1
                injection e1 with e1
                subst e1
                rw [hat, hnow] at hgc
                clear e2 e3
                have HOR2 := Lib.hid hor
                have HT2 : Hid (Tim (Q2 ++ R') (K.set i 99) ∧ (K.set i 99).length = n ∧ Q2.length + (j + 1) = m ∧ Q2.map On.id = ks.drop (j + 1) ∧ ∀ o, o ∈ Q2 → o.at_ = (now : Int)) := Lib.hid ⟨hti.tail hid 99, by rw [List.length_set]; exact hkl, by simp only [List.length_cons] at hql; omega, by
                  rw [List.map_cons, List.drop_eq_getElem_cons (by rw [HM.out]; exact hjm)] at hqm
                  injection hqm, fun o ho => hqa o (List.mem_cons_of_mem _ ho)⟩
                have hgb : g ≠ b3 := HGW.out g _ rfl rfl
                have HXR2 : Hid (RowAt .u64 (wr.setCell ⟨g, i, none⟩ (.int .u64 99)) (some ⟨b3, o3, none⟩) c' ks) := Lib.hid (rowat_off HXR.out hch (fun p hp => by
                  injection hp with hp
                  rw [← hp]
                  exact fun e => hgb e.symm))
                have HJ := Lib.hid hjm
                have i1 : (i : Int) < (n : Int) := by omega
                have i0 : (0 : Int) ≤ (i : Int) := by omega
                have iwn : IntKind.u64.wrap (n : Int) = (n : Int) := wrap_u64 (by omega) (by have := HN.out; omega)
                have t1 : decide ((n : Int) ≤ (i : Int)) = false := decide_eq_false (by omega)
                have t2 : decide (n ≤ i) = false := decide_eq_false (by omega)
                have t3 : ((now : Int) != (now : Int)) = false := by simp
                have hs1 : ((sn + j : Nat) : Int) ≤ 1000 := by have := HT.out.2.2.1; have := HN.out; have h5 := congrArg List.length HPR.out; rw [List.length_append] at h5; have h6 := HM.out; rw [← HKS.out, List.length_map] at h6; omega
                have hs0 : (0 : Int) ≤ ((sn + j : Nat) : Int) := by omega
                obtain ⟨sj, hsj⟩ : ∃ x, sn + j = x := ⟨_, rfl⟩
                have HSJ := Lib.hid hsj
                rw [hsj] at hs1 hs0 ⊢
                clear hx0 hti hkl hql hqm hqa hi hid hat hnow hzx hor hch hgb hjm hj hsj hgl
                go_wp2_with fail
                go_roundw
                case rel =>
                  have h9 : sn + (j + 1) = sj + 1 := by have := HSJ.out; omega
                  exact ⟨j + 1, Q2, K.set i 99, HJ.out, by rw [h9]; rfl, by go_num, HOR2, HXR2, HT2⟩
                case measure => have := HJ.out; simp [intOf]; omega
            · obtain rfl : j = m := by omega
              have hj1 : decide (j < j) = false := decide_eq_false (Nat.lt_irrefl _)
              have hq0 : Q = [] := List.eq_nil_of_length_eq_zero (by have := HQ.out.2.2.1; omega)
              subst hq0
              have HTN : Hid (Tim R' K ∧ K.length = n ∧ (sn + j) + R'.length = n) := Lib.hid ⟨HQ.out.1, HQ.out.2.1, by have := HT.out.2.2.1; have h5 := congrArg List.length HPR.out; rw [List.length_append] at h5; have h6 := HM.out; rw [← HKS.out, List.length_map] at h6; omega⟩
              have iwn : IntKind.u64.wrap ((now : Int) + 1) = (now : Int) + 1 := wrap_u64 (by omega) (by have := HNW.out.1; omega)
              clear hj hjm
              go_wp2_with fail
              go_roundw
              case rel => exact ⟨sn + j, now + 1, R', K, G', HNW.out.1, rfl, by go_num, HA, Lib.hid ⟨HTN.out.1, HTN.out.2.1, HTN.out.2.2, fun o ho => by have := HLT.out.1 o ho; push_cast; omega⟩⟩
              case measure => have := HNW.out.1; simp [intOf]; omega
        · obtain rfl : now = 30 := by omega
          have hR0 : R = [] := by
            cases R with
            | nil => rfl
            | cons o r => exact absurd (HT.out.2.2.2 o (by simp)) (by push_cast; omega)
          subst hR0
          have hsn : sn = n := by have := HT.out.2.2.1; simpa using this
          subst hsn
          have t1 : ((sn : Int) == (sn : Int)) = true := by simp
          go_wp2_with fail
          refine (len_r HA.out 0 (by simp) rfl).mono ?_
          rintro e wq ⟨rfl, hp⟩
          have HA3 := Lib.hid hp
          clear hp
          go_wp2_with fail
          refine (fixed_any _).mono ?_
          rintro e wv ⟨rfl, hb⟩
          have HA4 := Lib.hid (HA3.out.below hb)
          clear hb
          go_wp2_with fail
          go_ret
          exact ⟨rfl, HA4.out.low⟩

set_option maxRecDepth 100000 in
theorem lifted (os : Os) (started : os.Started) (H : Type) (enc : TypeId × Value → H) :
    ReturnsInHanded {} Try.checked os 5 .any (Rows.alarmTimesSpec.pre6 enc Try.prog Try.f5 Rows.alarmTimesRow.domain false) (Rows.alarmTimesSpec.post enc Try.prog Try.f5 false true false false) := by
  refine returnsInHanded_of_change (C := Try.checked) own started (by kernel_rfl) Try.func5
    (ChangeSpec.witness6 (enc := enc) (C := Try.checked) false ⟨#[], #[.slice none 0 0], []⟩ 8 (by kernel_rfl) (by kernel_rfl) (by kernel_rfl) (by kernel_rfl)) ?_
  intro W base args ds gs before hval0 hW hcnd _
  have hval : ∀ (j : Nat) t v, Try.f5.params[j]? = some t → args[j]? = some v → Value.okWide Try.prog W .any base t v := hval0
  have hW' := hW
  obtain ⟨p, q, hA0, hV, rfl, hfz, hnd⟩ := hW
  have hA : DataW.TrodAll enc Try.prog W 0 (fun _ => true) true Try.f5.params.toList args.toList ds p := hA0
  rw [Try.params5] at hA hval
  obtain ⟨v0, vs0, d0, ds0, p0, q0, hargs, rfl, rfl, h0, r0⟩ := trodAll_cons hA
  obtain ⟨rfl, rfl, rfl⟩ := trodAll_nil r0
  obtain rfl : args = #[v0] := by cases args; simp_all
  obtain ⟨rfl, rfl⟩ := trodVars_none hV
  obtain ⟨a0, len0, cap0, rfl⟩ := okWide_slice Try.underlying42 (hval 0 42 v0 rfl rfl)
  have k0 := h0
  have lt0 : ∀ x ∈ p0, x.block < W.heap.size := by obtain ⟨m, hm⟩ := k0; exact DataW.trod_lt m _ _ _ hm
  obtain ⟨Z0, w0⟩ : ∃ Z, Arrs .u8 2 W a0 len0 cap0 Z := by
    obtain ⟨fuel, hf⟩ := h0
    exact open_arrs Try.underlying42 Try.underlying43 Try.underlying5 (by kernel_rfl) (by kernel_rfl) (by omega) (by simpa [Value.cells] using hf)
  clear hA0 hval0
  refine (walk a0 len0 cap0 Z0 W w0).mono fun e W' ⟨he, bel⟩ => ?_
  subst he
  exact ⟨_, rfl, _, _, _, [], _, [], hW', trodAll_mk1 (shut_bool Try.underlying4 _), (trodAll_cons_mk (Below.trod laidOut (by kernel_rfl) (of_decide_eq_true (by kernel_rfl)) k0 bel lt0) trodAll_mk0), rfl, bel.frame _, fun h => by cases h⟩

theorem over : Rows.alarmTimesRow.holds Try.pinned (OpenSpec.ofChange Rows.alarmTimesSpec) :=
  OpenClaim.holds_of_wide 5 Try.f5 rfl rfl rfl rfl rfl rfl rfl ⟨rfl, rfl, rfl, rfl, rfl⟩ rfl rfl rfl rfl rfl (by kernel_rfl) Try.func5 (by kernel_rfl)
    (of_decide_eq_true (by kernel_rfl)) (by unfold Func.isWrapper; first | (rw [if_pos (by decide +kernel)]; kernel_rfl) | (rw [if_neg (by decide +kernel)]; exact ⟨rfl, rfl⟩))
    (fun os started H enc _ => lifted os started H enc)

theorem proved : Rows.AlarmTimesSaid := over
#print axioms proved
end Go.Proofs.Ytcnfchjiiglijaa.alarmTimes
