/- Both stores, filled with the terms of a row. -/
import Derived.Test.YtlnpfeecaiecaaaPair
namespace Go.Proofs.Ytlnpfeecaiecaaa
open Go.RowKit
set_option linter.unusedVariables false
set_option maxRecDepth 20000

theorem may_iff (n : Nat) (t : Tm) : t.may n = true ↔ May n t.K t.S t.N t.A t.B t.C := by unfold Tm.may; simp
theorem may_mono {n m : Nat} {t : Tm} (h : n ≤ m) (k : t.may n = true) : t.may m = true := by
  rw [may_iff] at k ⊢
  unfold May at k ⊢
  obtain ⟨k1, k2, k3, k4, k5, k6, k7⟩ := k
  refine ⟨k1, k2, k3, k4, k5, fun j hj hb => k6 j hj ?_, k7⟩
  unfold BadP at hb ⊢
  omega
/-- All terms may be. -/
def Sound (L : List Tm) : Prop := ∀ k, k < L.length → (L.getD k zeroT).may L.length = true
theorem Sound.nil : Sound [] := fun k hk => absurd hk (Nat.not_lt_zero _)
theorem Sound.put {L : List Tm} (h : Sound L) (most : Int) (t : Tm) : Sound (putF L most t).2.2 := by
  rcases putF_cases L most t with ⟨hp, hm⟩ | ⟨j, hj, hp, hjt, hm, hn⟩ | ⟨hr, hp, hm, hn⟩ | ⟨hr, hp, hm, hn⟩
  all_goals rw [hp]
  · exact h
  · exact h
  · exact h
  · intro k hk
    have hk' : k < L.length + 1 := by simpa using hk
    rcases Nat.lt_succ_iff_lt_or_eq.1 hk' with q | q
    · show ((L ++ [t]).getD k zeroT).may (L ++ [t]).length = true
      rw [getD_snoc_lt L t k q]
      exact may_mono (by simp) (h k q)
    · show ((L ++ [t]).getD k zeroT).may (L ++ [t]).length = true
      rw [q, getD_snoc_eq]
      exact may_mono (by simp) hm

theorem ref_c (t : Tm) (w : World) : Calls Try.prog 28 #[t.v] w fun e w' => e = .returned t.v ∧ Below w.heap.size w w' := ref_any t.K t.S t.N t.A t.B t.C w
theorem Pair.new2 {base g1 : Nat} {m1 most : Int} {L1 : List Tm} {K : Nat → Prop} {w0 w : World} (h : Pair base (PSq base g1 m1) NoS L1 [] K w0 w) (h1 : 0 ≤ most) (h2 : most ≤ 1048576) :
    Calls Try.prog 26 #[.int .i64 most] w fun e w' => ∃ g, e = .returned (.tuple #[.pointer (some ⟨g, 0, none⟩), .int .i64 0]) ∧ Pair base (PSq base g1 m1) (RSq base g most) L1 [] K w0 w' := by
  have hbl := h.base_le
  refine (new_good base most w h1 h2 hbl).mono ?_
  rintro e w' ⟨rfl, hr, hb, hsz⟩
  obtain ⟨F1, F2, p1, p2, p3, p4, p5, p6⟩ := h
  refine ⟨_, rfl, F1, fun k => k = w.heap.size, (PSq.good base g1 m1).frame p1 (S := fun _ => False) (.of_below hb) (fun _ _ q => q), ⟨_, hr, rfl, ?_, ?_, h2, ?_, by simpa using h1⟩, ?_, ?_, p5, p6.trans (hb.mono hbl)⟩
  · intro k hk; simp [Value.ownBlock] at hk
  · intro k hk; exact ⟨by omega, by omega⟩
  · intro k hk; simp at hk
  · intro k hk e; have := ((PSq.good base g1 m1).bounds p1 k hk).2; omega
  · intro k hk
    have := p4 k hk
    exact ⟨this.1, by omega, by omega⟩

theorem putF_length (L : List Tm) (most : Int) (t : Tm) : (putF L most t).2.2.length ≤ L.length + 1 := by
  rcases putF_cases L most t with ⟨hp, _⟩ | ⟨j, hj, hp, hjt, _, _⟩ | ⟨hr, hp, _, _⟩ | ⟨hr, hp, _, _⟩
  all_goals rw [hp]
  all_goals simp

set_option maxHeartbeats 4000000 in
set_option maxRecDepth 100000 in
theorem stores_made (n : Nat) (a1 : Option Addr) (len1 cap1 : Nat) (T1 : Nat → Tm) (w : World) (hn : n ≤ 1000) (hT0 : Terms w a1 len1 cap1 T1) :
    Calls Try.prog 9 #[.slice a1 len1 cap1, .int .i64 n] w fun e w' => ∃ g1 g2, ∃ L : List Tm, e = .returned (.tuple #[.pointer (some ⟨g1, 0, none⟩), .pointer (some ⟨g2, 0, none⟩)]) ∧ L.length ≤ n ∧ Sound L ∧
      Pair w.heap.size (PSq w.heap.size g1 1000) (RSq w.heap.size g2 1000) L L (fun _ => False) w w' := by
  obtain ⟨hcm, hlc, b, off, hT'⟩ := hT0
  have hT := Lib.hid hT'
  clear hT'
  unfold maxLen at hcm
  go_enter Try.func9, Try.ntmps9
  go_wp2_with fail
  refine (Pair.new1 (base := w.heap.size) (w0 := w) rfl (Below.refl _ _) (by omega) (by omega)).mono ?_
  rintro e w1 ⟨g1, rfl, hp⟩
  go_wp2_with fail
  refine (hp.new2 (by omega) (by omega)).mono ?_
  rintro e w2 ⟨g2, rfl, hp2⟩
  have HP0 := Lib.hid hp2
  clear hp hp2
  have gP := PSq.good w.heap.size g1 1000
  have gR := RSq.good w.heap.size g2 1000
  go_wp2_with fail
  go_loopw [10] (fun i wr => ∃ k, ∃ L : List Tm, k ≤ n ∧ i = .int .i64 (k : Nat) ∧ Hid (L.length ≤ k) ∧ Hid (Sound L) ∧ Hid (Pair w.heap.size (PSq w.heap.size g1 1000) (RSq w.heap.size g2 1000) L L (fun _ => False) w wr)) (fun i _ => n - (intOf i).toNat)
  case atStart => exact ⟨0, [], Nat.zero_le _, rfl, Lib.hid (Nat.le_refl _), Lib.hid Sound.nil, HP0⟩
  case round =>
    obtain ⟨k, L, hk, rfl, HL, HSd, HP⟩ := hrel
    clear HP0
    by_cases hlt : k < len1
    · have hlt1 : (k : Int) < (len1 : Int) := by omega
      by_cases h40 : k < n
      · have h41 : (k : Int) < n := by omega
        obtain ⟨rfl, hwf, hcl⟩ := hT.out k hlt
        have hbw : b < w.heap.size := block_lt_of_cell (hcl 0 _ rfl)
        have hcut := Lib.hid (fun W => cut_c (T1 k) W hwf)
        have HWF0 := Lib.hid (cutT_wf hwf)
        obtain ⟨⟨K, S, N, A, B, C⟩, ht⟩ : ∃ u, u = cutT (T1 k) := ⟨_, rfl⟩
        rw [← ht] at hcut HWF0
        have HWF := HWF0
        obtain ⟨⟨K', S', N', A', B', C'⟩, ht'⟩ : ∃ u, u = T1 k := ⟨_, rfl⟩
        rw [← ht'] at hcut hcl
        have HCL := Lib.hid hcl
        have hbl := HP.out.belowW
        have q0 := hcl 0 _ rfl
        have q1 := hcl 1 _ rfl
        have q2 := hcl 2 _ rfl
        have q3 := hcl 3 _ rfl
        have q4 := hcl 4 _ rfl
        have q5 := hcl 5 _ rfl
        rw [← hbl.cell (by exact hbw)] at q0 q1 q2 q3 q4 q5
        simp at q0 q1 q2 q3 q4 q5
        have Hk := Lib.hid h40
        obtain ⟨an, er, L', hpf⟩ : ∃ an er L', putF L 1000 ⟨K, S, N, A, B, C⟩ = (an, er, L') := ⟨_, _, _, rfl⟩
        have HPF := Lib.hid hpf
        have HL' : Hid (L'.length ≤ k + 1) := Lib.hid (by
          have h1 := HL.out
          have h2 := putF_length L 1000 ⟨K, S, N, A, B, C⟩
          rw [hpf] at h2
          simp only at h2
          omega)
        have HSd' : Hid (Sound L') := Lib.hid (by have := HSd.out.put 1000 ⟨K, S, N, A, B, C⟩; rw [hpf] at this; exact this)
        clear hcl ht ht' hbl HWF0 hwf hk hpf
        go_wp2_with fail
        refine (hcut.out _).mono ?_
        rintro e w3 ⟨rfl, hb3⟩
        have HP3 := Lib.hid (HP.out.below gP gR hb3)
        clear hb3 HP q0 q1 q2 q3 q4 q5
        go_wp2_with fail
        refine (HP3.out.putP gR ⟨K, S, N, A, B, C⟩ HWF.out HPF.out).mono ?_
        rintro e w4 ⟨rfl, hP4, _⟩
        have HP4 := Lib.hid hP4
        clear hP4 HP3
        have hbl := HP4.out.belowW
        have q0 := HCL.out 0 _ rfl
        have q1 := HCL.out 1 _ rfl
        have q2 := HCL.out 2 _ rfl
        have q3 := HCL.out 3 _ rfl
        have q4 := HCL.out 4 _ rfl
        have q5 := HCL.out 5 _ rfl
        rw [← hbl.cell (by exact hbw)] at q0 q1 q2 q3 q4 q5
        simp at q0 q1 q2 q3 q4 q5
        clear hbl
        go_wp2_with fail
        refine (hcut.out _).mono ?_
        rintro e w5 ⟨rfl, hb5⟩
        have HP5 := Lib.hid (HP4.out.below gP gR hb5)
        clear hb5 HP4 q0 q1 q2 q3 q4 q5
        go_wp2_with fail
        refine (ref_c ⟨K, S, N, A, B, C⟩ _).mono ?_
        rintro e w6 ⟨rfl, hb6⟩
        have HP6 := Lib.hid (HP5.out.below gP gR hb6)
        clear hb6 HP5
        go_wp2_with fail
        refine (HP6.out.swap.putR gP ⟨K, S, N, A, B, C⟩ HWF.out HPF.out).mono ?_
        rintro e w7 ⟨rfl, hP7, _⟩
        have HP7 := Lib.hid hP7.swap
        clear hP7 HP6
        go_wp2_with fail
        go_roundw
        case rel => exact ⟨k + 1, L', by have := Hk.out; omega, by go_num, HL', HSd', HP7⟩
        case measure => have := Hk.out; simp [intOf]; omega
      · have h61 : decide (k < n) = false := by simpa using h40
        have HK := Lib.hid hk
        clear hk h40
        go_wp2
        go_ret2
        exact ⟨g1, g2, L, rfl, by have := HL.out; have := HK.out; omega, HSd.out, HP.out⟩
    · have hlt1 : decide (k < len1) = false := by simpa using hlt
      have HK := Lib.hid hk
      clear hlt hk
      go_wp2
      go_ret2
      exact ⟨g1, g2, L, rfl, by have := HL.out; have := HK.out; omega, HSd.out, HP.out⟩
theorem stores_any (n : Nat) (a1 : Option Addr) (len1 cap1 : Nat) (T1 : Nat → Tm) (w : World) (hn : n ≤ 1000) (hT0 : Terms w a1 len1 cap1 T1) :
    Calls Try.prog 9 #[.slice a1 len1 cap1, .int .i64 n] w fun e w' => ∃ g1 g2, ∃ L : List Tm, e = .returned (.tuple #[.pointer (some ⟨g1, 0, none⟩), .pointer (some ⟨g2, 0, none⟩)]) ∧ L.length ≤ n ∧
      Pair w.heap.size (PSq w.heap.size g1 1000) (RSq w.heap.size g2 1000) L L (fun _ => False) w w' :=
  (stores_made n a1 len1 cap1 T1 w hn hT0).mono fun e w' ⟨g1, g2, L, h1, h2, _, h3⟩ => ⟨g1, g2, L, h1, h2, h3⟩
end Go.Proofs.Ytlnpfeecaiecaaa
