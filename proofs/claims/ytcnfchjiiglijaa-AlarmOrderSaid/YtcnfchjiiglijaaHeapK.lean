/- The library's heap at this program: up, down, Fix, Push, Pop and Remove over whatever the calls of one type of heap keep (St). -/
import Derived.Test.YtcnfchjiiglijaaHeapM
import Derived.WalkKit
import Derived.WalkSpells
import Derived.WalkLawsBesides
import Derived.StillTailTactics
import Derived.Deep.QuietTactic
import Derived.BigQuiet
namespace Go.Proofs.Ytcnfchjiiglijaa
open Go.RowKit
set_option linter.unusedVariables false
set_option linter.unusedSimpArgs false
set_option maxRecDepth 20000

theorem m_len (q : Nat) (w : World) : (method 206 53 (.pointer (some ⟨q, 0, none⟩)) "Len").run Try.prog w = .ok (23, .pointer (some ⟨q, 0, none⟩)) w := by kernel_rfl
theorem m_less (q : Nat) (w : World) : (method 206 53 (.pointer (some ⟨q, 0, none⟩)) "Less").run Try.prog w = .ok (55, .pointer (some ⟨q, 0, none⟩)) w := by kernel_rfl
theorem m_swap (q : Nat) (w : World) : (method 206 53 (.pointer (some ⟨q, 0, none⟩)) "Swap").run Try.prog w = .ok (58, .pointer (some ⟨q, 0, none⟩)) w := by kernel_rfl
theorem m_push (q : Nat) (w : World) : (method 206 53 (.pointer (some ⟨q, 0, none⟩)) "Push").run Try.prog w = .ok (57, .pointer (some ⟨q, 0, none⟩)) w := by kernel_rfl
theorem m_pop (q : Nat) (w : World) : (method 206 53 (.pointer (some ⟨q, 0, none⟩)) "Pop").run Try.prog w = .ok (56, .pointer (some ⟨q, 0, none⟩)) w := by kernel_rfl

section
variable (St : List On → World → Prop) (q : Nat)
def HLen : Prop := ∀ H w, St H w → Calls Try.prog 23 #[.pointer (some ⟨q, 0, none⟩)] w fun e w' => e = .returned (.int .i64 H.length) ∧ St H w'
def HLess : Prop := ∀ H w (i j : Nat), St H w → i < H.length → j < H.length → Calls Try.prog 55 #[.pointer (some ⟨q, 0, none⟩), .int .i64 i, .int .i64 j] w fun e w' => e = .returned (.bool (ltO (gt H i) (gt H j))) ∧ St H w'
def HSwap : Prop := ∀ H w (i j : Nat), St H w → i < H.length → j < H.length → i ≠ j → Calls Try.prog 58 #[.pointer (some ⟨q, 0, none⟩), .int .i64 i, .int .i64 j] w fun e w' => e = .returned (.tuple #[]) ∧ St (swapL H i j) w'
variable {St q}
set_option maxHeartbeats 2000000 in
theorem up_k (hless : Hid (HLess St q)) (hswap : Hid (HSwap St q)) (H : List On) (j : Nat) (w : World) (hs : Hid (St H w)) (hj : j < H.length) (hl : H.length ≤ 1048576) :
    Calls Try.prog 37 #[.iface 53 (.pointer (some ⟨q, 0, none⟩)), .int .i64 j] w fun e w' => e = .returned (.tuple #[]) ∧ St (upF j H) w' := by
  have h1 := m_less q
  have h2 := m_swap q
  go_enter Try.func37, Try.ntmps37
  go_wp2_with fail
  go_loopw [1] (fun jv wr => ∃ (k : Nat) (G : List On), jv = .int .i64 k ∧ k < G.length ∧ G.length = H.length ∧ Hid (St G wr) ∧ Hid (upF k G = upF j H)) (fun jv _ => (intOf jv).toNat)
  case atStart => exact ⟨j, H, rfl, hj, rfl, hs, Lib.hid rfl⟩
  case round =>
    obtain ⟨k, G, rfl, hk, hlen, HS, HU⟩ := hrel
    have HL := Lib.hid hlen
    have hk2 : (k : Int) ≤ 1048576 := by omega
    have hk3 : (0 : Int) ≤ (k : Int) := by omega
    clear hlen
    by_cases h0 : k = 0
    · subst h0
      have t0 : ((-1 : Int)).tdiv 2 = 0 := by decide
      have t1 : (((0 : Nat) : Int) - 1).tdiv 2 = ((0 : Nat) : Int) := by decide
      have t2 : (0 : Int) - 1 = -1 := by decide
      have HE : Hid (upF j H = G) := Lib.hid (by rw [← HU.out, up_zero])
      go_wp2_with fail
      go_end0
      exact ⟨rfl, by rw [HE.out]; exact HS.out⟩
    · obtain ⟨p, hp⟩ : ∃ p, (k - 1) / 2 = p := ⟨_, rfl⟩
      have hpk : p < k := by omega
      have t0 : ((k : Int) - 1).tdiv 2 = (p : Int) := by
        rw [← hp, show (k : Int) - 1 = ((k - 1 : Nat) : Int) by omega]
        exact (Int.ofNat_tdiv (k - 1) 2).symm
      have t1 : ((p : Int) == (k : Int)) = false := by simp; omega
      have t2 : (p == k) = false := by simp; omega
      cases hb : ltO (gt G k) (gt G p) with
      | false =>
        have HE : Hid (upF j H = G) := Lib.hid (by rw [← HU.out]; exact up_stop (by rw [hp]; exact hb))
        have HBQ := Lib.hid hb
        clear hb hp
        go_wp2_with fail
        refine (hless.out G _ k p HS.out hk (by omega)).mono ?_
        rintro e w2 ⟨rfl, hs2⟩
        rw [HBQ.out]
        have HS2 := Lib.hid hs2
        clear hs2
        go_wp2_with fail
        go_end0
        exact ⟨rfl, by rw [HE.out]; exact HS2.out⟩
      | true =>
        have HE : Hid (upF k G = upF p (swapL G p k)) := Lib.hid (by rw [← hp]; exact up_go h0 (by rw [hp]; exact hb))
        have HBQ := Lib.hid hb
        have HPK := Lib.hid hpk
        clear hb hp h0
        go_wp2_with fail
        refine (hless.out G _ k p HS.out hk (by omega)).mono ?_
        rintro e w2 ⟨rfl, hs2⟩
        rw [HBQ.out]
        have HS2 := Lib.hid hs2
        clear hs2
        go_wp2_with fail
        refine (hswap.out G _ p k HS2.out (by omega) hk (by have := HPK.out; omega)).mono ?_
        rintro e w3 ⟨rfl, hs3⟩
        have HS3 := Lib.hid hs3
        clear hs3
        go_wp2_with fail
        go_roundw
        case rel => exact ⟨p, swapL G p k, rfl, by rw [swap_len]; omega, by rw [swap_len]; exact HL.out, HS3, Lib.hid (by rw [← HE.out]; exact HU.out)⟩
        case measure => have := HPK.out; simp [intOf]; omega
set_option maxHeartbeats 4000000 in
theorem down_k (hless : Hid (HLess St q)) (hswap : Hid (HSwap St q)) (H : List On) (i n : Nat) (w : World) (hs : Hid (St H w)) (hn : n ≤ H.length) (hi : i ≤ 1048576) (hl : H.length ≤ 1048576) :
    Calls Try.prog 36 #[.iface 53 (.pointer (some ⟨q, 0, none⟩)), .int .i64 i, .int .i64 n] w fun e w' => e = .returned (.bool (decide (i < (downF i n H).2))) ∧ St (downF i n H).1 w' := by
  have h1 := m_less q
  have h2 := m_swap q
  have hn2 : (n : Int) ≤ 1048576 := by omega
  have hi0 : (0 : Int) ≤ (i : Int) := by omega
  have HIN : Hid (n - i ≤ n ∧ n ≤ H.length) := Lib.hid ⟨by omega, hn⟩
  clear hn
  go_enter Try.func36, Try.ntmps36
  go_wp2_with fail
  go_loopw [7] (fun iv wr => ∃ (k : Nat) (G : List On), iv = .int .i64 k ∧ (k ≤ 1048576) ∧ Hid (G.length = H.length) ∧ Hid (St G wr) ∧ Hid (downF k n G = downF i n H)) (fun iv _ => n - (intOf iv).toNat)
  case atStart => exact ⟨i, H, rfl, hi, Lib.hid rfl, hs, Lib.hid rfl⟩
  case round =>
    obtain ⟨k, G, rfl, hk, HL, HS, HU⟩ := hrel
    have hk2 : (k : Int) ≤ 1048576 := by omega
    have hk3 : (0 : Int) ≤ (k : Int) := by omega
    have fin : ∀ {r : List On × Nat}, downF k n G = (G, k) → Hid (decide (i < (downF i n H).2) = decide (i < k) ∧ (downF i n H).1 = G) := by
      intro r h
      rw [HU.out] at h
      exact Lib.hid (by rw [h]; exact ⟨rfl, rfl⟩)
    obtain ⟨a, ha⟩ : ∃ a, 2 * k + 1 = a := ⟨_, rfl⟩
    obtain ⟨b, hbd⟩ : ∃ b, a + 1 = b := ⟨_, rfl⟩
    have ha1 : 2 * (k : Int) + 1 = (a : Int) := by omega
    have hb1 : (a : Int) + 1 = (b : Int) := by omega
    have ha0 : decide ((a : Int) < 0) = false := by simp
    have ha2 : (a : Int) ≤ 2097153 := by omega
    by_cases hc : 2 * k + 1 < n
    · have e1 : decide ((n : Int) ≤ (a : Int)) = false := by simp; omega
      have e2 : decide (n ≤ a) = false := by simp; omega
      obtain ⟨c, hcd⟩ : ∃ c, child G n k = c := ⟨_, rfl⟩
      have HNL : Hid (k < a ∧ a < b ∧ a < n ∧ n ≤ G.length ∧ G.length ≤ 1048576 ∧ (b < n ∨ ¬ b < n)) := Lib.hid ⟨by omega, by omega, by omega, by rw [HL.out]; exact HIN.out.2, by rw [HL.out]; exact hl, by omega⟩
      by_cases h3 : b < n
      · have HNL2 : Hid (b < n) := Lib.hid h3
        cases hb2 : ltO (gt G b) (gt G a) with
        | true =>
          have hce : c = b := by
            rw [← hcd]; unfold child
            rw [if_pos ⟨by omega, by rw [show 2 * k + 2 = b by omega, ha]; exact hb2⟩]; omega
          have HB2 := Lib.hid hb2
          replace HNL : Hid (k < a ∧ k < b ∧ a < n ∧ b < n ∧ n ≤ G.length ∧ G.length ≤ 1048576) := Lib.hid (by have := HNL.out; omega)
          clear hb2
          have f3 : decide ((b : Int) < (n : Int)) = true := by simp; omega
          have f4 : decide (b < n) = true := by simpa using h3
          go_wp2_with fail
          refine (hless.out G _ b a HS.out (by have := HNL.out; omega) (by have := HNL.out; omega)).mono ?_
          rintro e w2 ⟨rfl, hs2⟩
          rw [HB2.out]
          have HS2 := Lib.hid hs2
          clear hs2 HS f3 f4 h3
          have HCE : Hid (child G n k = b) := Lib.hid (by rw [hcd, hce])
          cases hl2 : ltO (gt G b) (gt G k) with
          | false =>
            have HF := fin (r := (G, k)) (down_stop hc (by rw [HCE.out]; exact hl2))
            have HLQ := Lib.hid hl2
            clear hl2 hc fin hce hcd
            go_wp2_with fail
            refine (hless.out G _ b k HS2.out (by have := HNL.out; omega) (by have := HNL.out; omega)).mono ?_
            rintro e w3 ⟨rfl, hs3⟩
            rw [HLQ.out]
            have HS3 := Lib.hid hs3
            clear hs3
            go_wp2_with fail
            go_ret
            exact ⟨by rw [HF.out.1]; rfl, by rw [HF.out.2]; exact HS3.out⟩
          | true =>
            have HG2 : Hid (downF k n G = downF b n (swapL G k b)) := Lib.hid (by have := down_go hc (by rw [HCE.out]; exact hl2); rw [HCE.out] at this; exact this)
            have HLQ := Lib.hid hl2
            clear hl2 hc fin hce hcd
            go_wp2_with fail
            refine (hless.out G _ b k HS2.out (by have := HNL.out; omega) (by have := HNL.out; omega)).mono ?_
            rintro e w3 ⟨rfl, hs3⟩
            rw [HLQ.out]
            have HS3 := Lib.hid hs3
            clear hs3
            go_wp2_with fail
            refine (hswap.out G _ k b HS3.out (by have := HNL.out; omega) (by have := HNL.out; omega) (by have := HNL.out; omega)).mono ?_
            rintro e w4 ⟨rfl, hs4⟩
            have HS4 := Lib.hid hs4
            clear hs4
            go_wp2_with fail
            go_roundw
            case rel => exact ⟨b, swapL G k b, rfl, by have := HNL.out; omega, Lib.hid (by rw [swap_len]; exact HL.out), HS4, Lib.hid (by rw [← HG2.out]; exact HU.out)⟩
            case measure => have := HNL.out; simp [intOf]; omega
        | false =>
          have hce : c = a := by
            rw [← hcd]; unfold child
            rw [if_neg (fun q => by have q2 := q.2; rw [show 2 * k + 2 = b by omega, ha, hb2] at q2; cases q2)]; omega
          have HB2 := Lib.hid hb2
          replace HNL : Hid (k < a ∧ k < b ∧ a < n ∧ b < n ∧ n ≤ G.length ∧ G.length ≤ 1048576) := Lib.hid (by have := HNL.out; omega)
          clear hb2
          have f3 : decide ((b : Int) < (n : Int)) = true := by simp; omega
          have f4 : decide (b < n) = true := by simpa using h3
          go_wp2_with fail
          refine (hless.out G _ b a HS.out (by have := HNL.out; omega) (by have := HNL.out; omega)).mono ?_
          rintro e w2 ⟨rfl, hs2⟩
          rw [HB2.out]
          have HS2 := Lib.hid hs2
          clear hs2 HS f3 f4 h3
          have HCE : Hid (child G n k = a) := Lib.hid (by rw [hcd, hce])
          cases hl2 : ltO (gt G a) (gt G k) with
          | false =>
            have HF := fin (r := (G, k)) (down_stop hc (by rw [HCE.out]; exact hl2))
            have HLQ := Lib.hid hl2
            clear hl2 hc fin hce hcd
            go_wp2_with fail
            refine (hless.out G _ a k HS2.out (by have := HNL.out; omega) (by have := HNL.out; omega)).mono ?_
            rintro e w3 ⟨rfl, hs3⟩
            rw [HLQ.out]
            have HS3 := Lib.hid hs3
            clear hs3
            go_wp2_with fail
            go_ret
            exact ⟨by rw [HF.out.1]; rfl, by rw [HF.out.2]; exact HS3.out⟩
          | true =>
            have HG2 : Hid (downF k n G = downF a n (swapL G k a)) := Lib.hid (by have := down_go hc (by rw [HCE.out]; exact hl2); rw [HCE.out] at this; exact this)
            have HLQ := Lib.hid hl2
            clear hl2 hc fin hce hcd
            go_wp2_with fail
            refine (hless.out G _ a k HS2.out (by have := HNL.out; omega) (by have := HNL.out; omega)).mono ?_
            rintro e w3 ⟨rfl, hs3⟩
            rw [HLQ.out]
            have HS3 := Lib.hid hs3
            clear hs3
            go_wp2_with fail
            refine (hswap.out G _ k a HS3.out (by have := HNL.out; omega) (by have := HNL.out; omega) (by have := HNL.out; omega)).mono ?_
            rintro e w4 ⟨rfl, hs4⟩
            have HS4 := Lib.hid hs4
            clear hs4
            go_wp2_with fail
            go_roundw
            case rel => exact ⟨a, swapL G k a, rfl, by have := HNL.out; omega, Lib.hid (by rw [swap_len]; exact HL.out), HS4, Lib.hid (by rw [← HG2.out]; exact HU.out)⟩
            case measure => have := HNL.out; simp [intOf]; omega
      · have hce : c = a := by
          rw [← hcd]; unfold child
          rw [if_neg (fun q => h3 (by have := q.1; omega))]; omega
        replace HNL : Hid (k < a ∧ a < n ∧ n ≤ G.length ∧ G.length ≤ 1048576) := Lib.hid (by have := HNL.out; omega)
        have f3 : decide ((b : Int) < (n : Int)) = false := by simp; omega
        have f4 : decide (b < n) = false := by simpa using h3
        have HS2 := HS
        clear HS
        have HCE : Hid (child G n k = a) := Lib.hid (by rw [hcd, hce])
        cases hl2 : ltO (gt G a) (gt G k) with
        | false =>
          have HF := fin (r := (G, k)) (down_stop hc (by rw [HCE.out]; exact hl2))
          have HLQ := Lib.hid hl2
          clear hl2 hc fin hce hcd h3
          go_wp2_with fail
          refine (hless.out G _ a k HS2.out (by have := HNL.out; omega) (by have := HNL.out; omega)).mono ?_
          rintro e w3 ⟨rfl, hs3⟩
          rw [HLQ.out]
          have HS3 := Lib.hid hs3
          clear hs3
          go_wp2_with fail
          go_ret
          exact ⟨by rw [HF.out.1]; rfl, by rw [HF.out.2]; exact HS3.out⟩
        | true =>
          have HG2 : Hid (downF k n G = downF a n (swapL G k a)) := Lib.hid (by have := down_go hc (by rw [HCE.out]; exact hl2); rw [HCE.out] at this; exact this)
          have HLQ := Lib.hid hl2
          clear hl2 hc fin hce hcd h3
          go_wp2_with fail
          refine (hless.out G _ a k HS2.out (by have := HNL.out; omega) (by have := HNL.out; omega)).mono ?_
          rintro e w3 ⟨rfl, hs3⟩
          rw [HLQ.out]
          have HS3 := Lib.hid hs3
          clear hs3
          go_wp2_with fail
          refine (hswap.out G _ k a HS3.out (by have := HNL.out; omega) (by have := HNL.out; omega) (by have := HNL.out; omega)).mono ?_
          rintro e w4 ⟨rfl, hs4⟩
          have HS4 := Lib.hid hs4
          clear hs4
          go_wp2_with fail
          go_roundw
          case rel => exact ⟨a, swapL G k a, rfl, by have := HNL.out; omega, Lib.hid (by rw [swap_len]; exact HL.out), HS4, Lib.hid (by rw [← HG2.out]; exact HU.out)⟩
          case measure => have := HNL.out; simp [intOf]; omega
    · have e1 : decide ((n : Int) ≤ (a : Int)) = true := by simp; omega
      have e2 : decide (n ≤ a) = true := by simp; omega
      have HF := fin (r := (G, k)) (down_end hc)
      clear hc fin ha hbd
      go_wp2_with fail
      go_ret
      exact ⟨by rw [HF.out.1]; rfl, by rw [HF.out.2]; exact HS.out⟩
def HPush (St : List On → World → Prop) (q : Nat) (vx : Value) (x : On) (H : List On) : Prop := ∀ w, St H w → Calls Try.prog 57 #[.pointer (some ⟨q, 0, none⟩), vx] w fun e w' => e = .returned (.tuple #[]) ∧ St (H ++ [x]) w'
def HPop (St : List On → World → Prop) (q : Nat) (PV : On → Value → World → Prop) : Prop := ∀ H w, St H w → 0 < H.length → Calls Try.prog 56 #[.pointer (some ⟨q, 0, none⟩)] w fun e w' => (∃ v, e = .returned v ∧ PV (gt H (H.length - 1)) v w') ∧ St (H.take (H.length - 1)) w'
theorem down_mend {i n : Nat} {H : List On} : (decide (i < (downF i n H).2) = true → mendF i n H = (downF i n H).1) ∧ (decide (i < (downF i n H).2) = false → mendF i n H = upF i (downF i n H).1) := by
  unfold mendF
  constructor
  · intro h; rw [if_pos (by simpa using h)]
  · intro h; rw [if_neg (by simpa using h)]
set_option maxHeartbeats 2000000 in
theorem fix_k (hlen : Hid (HLen St q)) (hless : Hid (HLess St q)) (hswap : Hid (HSwap St q)) (H : List On) (i : Nat) (w : World) (hs : Hid (St H w)) (hi : i < H.length) (hl : H.length ≤ 1048576) :
    Calls Try.prog 32 #[.iface 53 (.pointer (some ⟨q, 0, none⟩)), .int .i64 i] w fun e w' => e = .returned (.tuple #[]) ∧ St (mendF i H.length H) w' := by
  have h1 := m_len q
  have HI := Lib.hid (And.intro hi hl)
  have HD := Lib.hid (down_mend (i := i) (n := H.length) (H := H))
  have HDL : Hid ((downF i H.length H).1.length = H.length) := Lib.hid ((down_perm H.length H.length i H (by omega) (Nat.le_refl _)).length_eq)
  clear hi hl
  go_enter Try.func32, Try.ntmps32
  go_wp2_with fail
  refine (hlen.out H _ hs.out).mono ?_
  rintro e w1 ⟨rfl, hs1⟩
  have HS1 := Lib.hid hs1
  clear hs1
  go_wp2_with fail
  refine (down_k hless hswap H i H.length _ HS1 (Nat.le_refl _) (by have := HI.out; omega) HI.out.2).mono ?_
  rintro e w2 ⟨rfl, hs2⟩
  have HS2 := Lib.hid hs2
  clear hs2
  cases hb : decide (i < (downF i H.length H).2) with
  | true =>
    have HE := Lib.hid (HD.out.1 hb)
    clear hb
    go_wp2_with fail
    go_end0
    exact ⟨rfl, by rw [HE.out]; exact HS2.out⟩
  | false =>
    have HE := Lib.hid (HD.out.2 hb)
    clear hb
    go_wp2_with fail
    refine (up_k hless hswap _ i _ HS2 (by rw [HDL.out]; exact HI.out.1) (by rw [HDL.out]; exact HI.out.2)).mono ?_
    rintro e w3 ⟨rfl, hs3⟩
    have HS3 := Lib.hid hs3
    clear hs3
    go_wp2_with fail
    go_end0
    exact ⟨rfl, by rw [HE.out]; exact HS3.out⟩
set_option maxHeartbeats 2000000 in
theorem push_k {vx : Value} {x : On} (hlen : Hid (HLen St q)) (hless : Hid (HLess St q)) (hswap : Hid (HSwap St q)) (H : List On) (hpush : Hid (HPush St q vx x H)) (w : World) (hs : Hid (St H w)) (hl : H.length ≤ 1048575) :
    Calls Try.prog 33 #[.iface 53 (.pointer (some ⟨q, 0, none⟩)), vx] w fun e w' => e = .returned (.tuple #[]) ∧ St (upF H.length (H ++ [x])) w' := by
  have h1 := m_len q
  have h2 := m_push q
  obtain ⟨G, hG⟩ : ∃ G, H ++ [x] = G := ⟨_, rfl⟩
  have hGL : G.length = H.length + 1 := by rw [← hG]; simp
  have HGL := Lib.hid hGL
  have HGE := Lib.hid hG
  have HL := Lib.hid hl
  obtain ⟨m, hm⟩ : ∃ m, m = H.length := ⟨_, rfl⟩
  have HM := Lib.hid hm
  have t0 : ((m + 1 : Nat) : Int) - 1 = (m : Int) := by omega
  have t1 : (m : Int) + 1 - 1 = (m : Int) := by omega
  have t2 : (m : Int) ≤ 1048575 := by omega
  clear hG hGL hl hm
  go_enter Try.func33, Try.ntmps33
  go_wp2_with fail
  refine (hpush.out _ hs.out).mono ?_
  rintro e w1 ⟨rfl, hs1⟩
  rw [HGE.out] at hs1
  have HS1 := Lib.hid hs1
  clear hs1
  go_wp2_with fail
  refine (hlen.out G _ HS1.out).mono ?_
  rintro e w2 ⟨rfl, hs2⟩
  rw [HGL.out, ← HM.out]
  have HS2 := Lib.hid hs2
  clear hs2
  go_wp2_with fail
  refine (up_k hless hswap G m _ HS2 (by rw [HGL.out, HM.out]; omega) (by rw [HGL.out]; have := HL.out; omega)).mono ?_
  rintro e w3 ⟨rfl, hs3⟩
  have HS3 := Lib.hid hs3
  clear hs3
  go_wp2_with fail
  go_end0
  exact ⟨rfl, by rw [← HM.out, HGE.out]; exact HS3.out⟩
set_option maxHeartbeats 4000000 in
theorem remove_k {PV : On → Value → World → Prop} (hlen : Hid (HLen St q)) (hless : Hid (HLess St q)) (hswap : Hid (HSwap St q)) (hpop : Hid (HPop St q PV)) (H : List On) (i : Nat) (w : World) (hs : Hid (St H w)) (hi : i < H.length) (hl : H.length ≤ 1048576) :
    Calls Try.prog 31 #[.iface 53 (.pointer (some ⟨q, 0, none⟩)), .int .i64 i] w fun e w' => (∃ v, e = .returned v ∧ PV (gt H i) v w') ∧ St ((takeF i H).take (H.length - 1)) w' := by
  have h1 := m_len q
  have h2 := m_swap q
  have h3 := m_pop q
  obtain ⟨n, hn⟩ : ∃ n, H.length = n + 1 := ⟨H.length - 1, by omega⟩
  have HN := Lib.hid hn
  have HI : Hid (i < H.length ∧ H.length ≤ 1048576 ∧ i ≤ n) := Lib.hid ⟨hi, hl, by omega⟩
  have t0 : ((n + 1 : Nat) : Int) - 1 = (n : Int) := by omega
  have t1 : (n : Int) + 1 - 1 = (n : Int) := by omega
  have t2 : (n : Int) ≤ 1048576 := by omega
  have HTK : Hid ((takeF i H).length = n + 1 ∧ gt (takeF i H) n = gt H i) := Lib.hid ⟨by rw [take_len hi, hn], by have := take_last hi; rw [hn] at this; exact this⟩
  have fin : ∀ (w2 : World) (e2 : Ending) (w3 : World), ((∃ v, e2 = .returned v ∧ PV (gt (takeF i H) ((takeF i H).length - 1)) v w3) ∧ St ((takeF i H).take ((takeF i H).length - 1)) w3) → (∃ v, e2 = .returned v ∧ PV (gt H i) v w3) ∧ St ((takeF i H).take (H.length - 1)) w3 := by
    intro w2 e2 w3 h
    rw [HTK.out.1, Nat.add_sub_cancel, HTK.out.2] at h
    rw [HN.out, Nat.add_sub_cancel]
    exact h
  have HFIN := Lib.hid fin
  clear fin hl
  by_cases hne : n = i
  · have HT : Hid (takeF i H = H) := Lib.hid (by unfold takeF; rw [if_pos (by omega)])
    have f0 : ((n : Int) != (i : Int)) = false := by simp [hne]
    clear hne hi hn
    go_enter Try.func31, Try.ntmps31
    go_wp2_with fail
    refine (hlen.out H _ hs.out).mono ?_
    rintro e w1 ⟨rfl, hs1⟩
    rw [HN.out]
    have HS1 := Lib.hid hs1
    clear hs1
    go_wp2_with fail
    refine (hpop.out H _ HS1.out (by rw [HN.out]; omega)).mono ?_
    rintro e w2 ⟨⟨v, rfl, hv⟩, hs2⟩
    have HV := Lib.hid (And.intro hv hs2)
    clear hv hs2
    go_wp2_with fail
    go_ret
    exact HFIN.out w _ _ (by rw [HT.out]; exact ⟨⟨_, rfl, HV.out.1⟩, HV.out.2⟩)
  · have HT : Hid (takeF i H = mendF i n (swapL H i n)) := Lib.hid (by unfold takeF; rw [if_neg (by omega), hn, Nat.add_sub_cancel])
    have f0 : ((n : Int) != (i : Int)) = true := by simp; omega
    have HD := Lib.hid (down_mend (i := i) (n := n) (H := swapL H i n))
    have hsl : (swapL H i n).length = n + 1 := by rw [swap_len, hn]
    have HSL := Lib.hid hsl
    have HDL : Hid ((downF i n (swapL H i n)).1.length = n + 1) := Lib.hid (by rw [(down_perm n n i (swapL H i n) (by omega) (by omega)).length_eq, hsl])
    have HI2 : Hid (i < n ∧ n < H.length) := Lib.hid (by omega)
    clear hne hi hn hsl
    go_enter Try.func31, Try.ntmps31
    go_wp2_with fail
    refine (hlen.out H _ hs.out).mono ?_
    rintro e w1 ⟨rfl, hs1⟩
    rw [HN.out]
    have HS1 := Lib.hid hs1
    clear hs1
    go_wp2_with fail
    refine (hswap.out H _ i n HS1.out HI.out.1 HI2.out.2 (by have := HI2.out; omega)).mono ?_
    rintro e w2 ⟨rfl, hs2⟩
    have HS2 := Lib.hid hs2
    clear hs2
    go_wp2_with fail
    refine (down_k hless hswap (swapL H i n) i n _ HS2 (by rw [HSL.out]; omega) (by have := HI.out; omega) (by rw [HSL.out, ← HN.out]; exact HI.out.2.1)).mono ?_
    rintro e w3 ⟨rfl, hs3⟩
    have HS3 := Lib.hid hs3
    clear hs3
    cases hb : decide (i < (downF i n (swapL H i n)).2) with
    | true =>
      have HE := Lib.hid (HD.out.1 hb)
      clear hb
      go_wp2_with fail
      refine (hpop.out _ _ HS3.out (by rw [HDL.out]; omega)).mono ?_
      rintro e w4 ⟨⟨v, rfl, hv⟩, hs4⟩
      have HV := Lib.hid (And.intro hv hs4)
      clear hv hs4
      go_wp2_with fail
      go_ret
      exact HFIN.out w _ _ (by rw [HT.out, HE.out]; exact ⟨⟨_, rfl, HV.out.1⟩, HV.out.2⟩)
    | false =>
      have HE := Lib.hid (HD.out.2 hb)
      clear hb
      go_wp2_with fail
      refine (up_k hless hswap _ i _ HS3 (by rw [HDL.out]; have := HI2.out; omega) (by rw [HDL.out, ← HN.out]; exact HI.out.2.1)).mono ?_
      rintro e w4 ⟨rfl, hs4⟩
      have HS4 := Lib.hid hs4
      have HUL : Hid ((upF i (downF i n (swapL H i n)).1).length = n + 1) := Lib.hid (by rw [up_len _ _ (by rw [HDL.out]; have := HI2.out; omega), HDL.out])
      clear hs4
      go_wp2_with fail
      refine (hpop.out _ _ HS4.out (by rw [HUL.out]; omega)).mono ?_
      rintro e w5 ⟨⟨v, rfl, hv⟩, hs5⟩
      have HV := Lib.hid (And.intro hv hs5)
      clear hv hs5
      go_wp2_with fail
      go_ret
      exact HFIN.out w _ _ (by rw [HT.out, HE.out]; exact ⟨⟨_, rfl, HV.out.1⟩, HV.out.2⟩)
end
end Go.Proofs.Ytcnfchjiiglijaa
