/- Rows of names compared: the law's within, the document's Same. -/
import Derived.Test.YtlnpfeecaiecaaaKnowM
import Derived.BigQuiet
import Derived.Deep.RegionHeld3
namespace Go.Proofs.Ytlnpfeecaiecaaa
open Go.RowKit
set_option linter.unusedVariables false
set_option linter.unusedSimpArgs false
set_option maxRecDepth 20000

theorem take_eq_next {ks ms : List Int} {k : Nat} (h : ks.take k = ms.take k) (h1 : k < ks.length) (h2 : k < ms.length) (e : ks.getD k 0 = ms.getD k 0) : ks.take (k + 1) = ms.take (k + 1) := by rw [take_getD h1, take_getD h2, h, e]
set_option maxHeartbeats 2000000 in
set_option maxRecDepth 100000 in
theorem same_k (a b : Option Addr) (ca cb : Nat) (ks ms : List Int) (w : World) (ha : IntsAt w a ca ks) (hb : IntsAt w b cb ms) :
    Calls Try.prog 17 #[.slice a ks.length ca, .slice b ms.length cb] w fun e w' => e = .returned (.bool (decide (ks = ms))) ∧ ∃ q, w' = w.drewN q := by
  have hla := ha.len
  have hlb := hb.len
  obtain ⟨_, _, ba, oa, hca⟩ := ha
  obtain ⟨_, _, bb, ob, hcb⟩ := hb
  have HCA := Lib.hid hca
  have HCB := Lib.hid hcb
  obtain ⟨n, hn⟩ : ∃ n, n = ks.length := ⟨_, rfl⟩
  obtain ⟨m, hm⟩ : ∃ m, m = ms.length := ⟨_, rfl⟩
  rw [← hn, ← hm]
  rw [← hn] at hla
  rw [← hm] at hlb
  have HN := Lib.hid hn
  have HM := Lib.hid hm
  clear hca hcb hn hm
  by_cases hl : n = m
  · have e0 : ((n : Int) != (m : Int)) = false := by simp [hl]
    subst hl
    have e0 : ((n : Int) != (n : Int)) = false := by simp
    go_enter Try.func17, Try.ntmps17
    go_wp2
    go_loopw [5] (fun i wr => ∃ k q : Nat, k ≤ n ∧ i = .int .i64 k ∧ Hid (ks.take k = ms.take k) ∧ wr = w.drewN q) (fun i _ => n - (intOf i).toNat)
    case atStart => exact ⟨0, 0, Nat.zero_le _, rfl, Lib.hid (by simp), rfl⟩
    case round =>
      obtain ⟨k, q, hk, rfl, HJ, rfl⟩ := hrel
      by_cases hlt : k < n
      · obtain ⟨rfl, qa0⟩ := HCA.out k (by rw [← HN.out]; exact hlt)
        obtain ⟨rfl, qb0⟩ := HCB.out k (by rw [← HM.out]; exact hlt)
        have qa : (w.drewN q).cell? ⟨ba, oa + k, none⟩ = some (.int .i64 (ks.getD k 0)) := qa0
        have qb : (w.drewN q).cell? ⟨bb, ob + k, none⟩ = some (.int .i64 (ms.getD k 0)) := qb0
        obtain ⟨x, hx⟩ : ∃ x, x = ks.getD k 0 := ⟨_, rfl⟩
        obtain ⟨y, hy⟩ : ∃ y, y = ms.getD k 0 := ⟨_, rfl⟩
        rw [← hx] at qa
        rw [← hy] at qb
        have HX := Lib.hid hx
        have HY := Lib.hid hy
        have Hlt := Lib.hid hlt
        have hlt1 : (k : Int) < n := by omega
        clear hx hy hk hlt e0 qa0 qb0
        have hS0 : (w.drewN q).drew.cell? ⟨ba, oa + k, none⟩ = some (.int .i64 x) ∧ (w.drewN q).drew.cell? ⟨bb, ob + k, none⟩ = some (.int .i64 y) := ⟨qa, qb⟩
        obtain ⟨r, hr⟩ : ∃ r, r = (x != y) := ⟨_, rfl⟩
        have HR := Lib.hid hr
        go_wp2_with fail
        refine wp_region_held_drew (S := (fun w' => w'.cell? ⟨ba, oa + k, none⟩ = some (.int .i64 x) ∧ w'.cell? ⟨bb, ob + k, none⟩ = some (.int .i64 y))) (by kernel_rfl) hS0 (fun hHeld => ?_)
        refine wpAnyH_take (i := 0) (oi := ?o1) (v := ?v1) ?i1 (by kernel_rfl) (by kernel_rfl) (by kernel_rfl) ?q1 (Or.inl ⟨?w1, ?y1⟩) (by assumption) ?r1
        case' i1 => simp only [List.getElem?_toArray, List.getElem?_cons_succ, List.getElem?_cons_zero]
        case i1 => rfl
        case q1 => exact fun _ _ _ h => h
        case w1 => rfl
        case y1 => (intro w hSw; (try dsimp only at hSw); go_simp) <;> with_reducible rfl
        try simp only [Act.put, List.setIfInBounds_toArray, List.set_cons_zero, List.set_cons_succ]
        refine wpAnyH_take (i := 1) (oi := ?o2) (v := ?v2) ?i2 (by kernel_rfl) (by kernel_rfl) (by kernel_rfl) ?q2 (Or.inl ⟨?w2, ?y2⟩) (by assumption) ?r2
        case' i2 => simp only [List.getElem?_toArray, List.getElem?_cons_succ, List.getElem?_cons_zero]
        case i2 => rfl
        case q2 => exact fun _ _ _ h => h
        case w2 => rfl
        case y2 => (intro w hSw; (try dsimp only at hSw); go_simp) <;> with_reducible rfl
        try simp only [Act.put, List.setIfInBounds_toArray, List.set_cons_zero, List.set_cons_succ]
        refine wpAnyH_take (i := 2) (oi := ?o3) (v := ?v3) ?i3 (by kernel_rfl) (by kernel_rfl) (by kernel_rfl) ?q3 (Or.inl ⟨?w3, ?y3⟩) (by assumption) ?r3
        case' i3 => simp only [List.getElem?_toArray, List.getElem?_cons_succ, List.getElem?_cons_zero]
        case i3 => rfl
        case q3 => exact fun _ _ _ h => h
        case w3 => rfl
        case y3 => (intro w hSw; (try dsimp only at hSw); go_simp) <;> with_reducible rfl
        try simp only [Act.put, List.setIfInBounds_toArray, List.set_cons_zero, List.set_cons_succ]
        refine wpAnyH_take (i := 3) (oi := ?o4) (v := ?v4) ?i4 (by kernel_rfl) (by kernel_rfl) (by kernel_rfl) ?q4 (Or.inl ⟨?w4, ?y4⟩) (by assumption) ?r4
        case' i4 => simp only [List.getElem?_toArray, List.getElem?_cons_succ, List.getElem?_cons_zero]
        case i4 => rfl
        case q4 => exact fun _ _ _ h => h
        case w4 => rfl
        case y4 => (intro w hSw; (try dsimp only at hSw); go_simp) <;> with_reducible rfl
        try simp only [Act.put, List.setIfInBounds_toArray, List.set_cons_zero, List.set_cons_succ]
        refine wpAnyH_take (i := 4) (oi := ?o5) (v := ?v5) ?i5 (by kernel_rfl) (by kernel_rfl) (by kernel_rfl) ?q5 (Or.inl ⟨?w5, ?y5⟩) (by assumption) ?r5
        case' i5 => simp only [List.getElem?_toArray, List.getElem?_cons_succ, List.getElem?_cons_zero]
        case i5 => rfl
        case q5 => exact fun _ _ _ h => h
        case w5 => rfl
        case y5 => (intro w hSw; (try dsimp only at hSw); go_simp) <;> with_reducible rfl
        try simp only [Act.put, List.setIfInBounds_toArray, List.set_cons_zero, List.set_cons_succ]
        refine wpAnyH_take (i := 5) (oi := ?o6) (v := ?v6) ?i6 (by kernel_rfl) (by kernel_rfl) (by kernel_rfl) ?q6 (Or.inl ⟨?w6, ?y6⟩) (by assumption) ?r6
        case' i6 => simp only [List.getElem?_toArray, List.getElem?_cons_succ, List.getElem?_cons_zero]
        case i6 => rfl
        case q6 => exact fun _ _ _ h => h
        case w6 => rfl
        case y6 => (intro w hSw; (try dsimp only at hSw); go_simp) <;> with_reducible rfl
        try simp only [Act.put, List.setIfInBounds_toArray, List.set_cons_zero, List.set_cons_succ]
        refine wpAnyH_take (i := 6) (oi := ?o7) (v := ?v7) ?i7 (by kernel_rfl) (by kernel_rfl) (by kernel_rfl) ?q7 (Or.inl ⟨?w7, ?y7⟩) (by assumption) ?r7
        case' i7 => simp only [List.getElem?_toArray, List.getElem?_cons_succ, List.getElem?_cons_zero]
        case i7 => rfl
        case q7 => exact fun _ _ _ h => h
        case w7 => rfl
        case y7 => (intro w hSw; (try dsimp only at hSw); go_simp) <;> with_reducible rfl
        try simp only [Act.put, List.setIfInBounds_toArray, List.set_cons_zero, List.set_cons_succ]
        refine wpAnyH_take (i := 7) (oi := ?o8) (v := ?v8) ?i8 (by kernel_rfl) (by kernel_rfl) (by kernel_rfl) ?q8 (Or.inl ⟨?w8, ?y8⟩) (by assumption) ?r8
        case' i8 => simp only [List.getElem?_toArray, List.getElem?_cons_succ, List.getElem?_cons_zero]
        case i8 => rfl
        case q8 => exact fun _ _ _ h => h
        case w8 => rfl
        case y8 => (intro w hSw; (try dsimp only at hSw); go_simp) <;> with_reducible rfl
        try simp only [Act.put, List.setIfInBounds_toArray, List.set_cons_zero, List.set_cons_succ]
        refine wpAnyH_take (i := 8) (oi := ?o9) (v := ?v9) ?i9 (by kernel_rfl) (by kernel_rfl) (by kernel_rfl) ?q9 (Or.inl ⟨?w9, ?y9⟩) (by assumption) ?r9
        case' i9 => simp only [List.getElem?_toArray, List.getElem?_cons_succ, List.getElem?_cons_zero]
        case i9 => rfl
        case q9 => exact fun _ _ _ h => h
        case w9 => rfl
        case y9 => (intro w hSw; (try dsimp only at hSw); go_simp) <;> with_reducible rfl
        try simp only [Act.put, List.setIfInBounds_toArray, List.set_cons_zero, List.set_cons_succ]
        refine wpAnyH_done (by kernel_rfl) ?_ _
        rw [← hr]
        clear hr hS0 hHeld qa qb
        cases r
        · go_wp2_with fail
          go_roundw
          case rel => exact ⟨k + 1, q + 1, by have := Hlt.out; omega, by go_num, Lib.hid (take_eq_next HJ.out (by rw [← HN.out]; exact Hlt.out) (by rw [← HM.out]; exact Hlt.out) (by have := HR.out; rw [← HX.out, ← HY.out]; simpa using this.symm)), rfl⟩
          case measure => have := Hlt.out; simp [intOf]; omega
        · go_wp2_with fail
          go_ret
          have e : ¬ ks = ms := fun e => by
            have h1 := HR.out
            rw [HX.out, HY.out, e] at h1
            simp at h1
          rw [decide_eq_false e]
          exact ⟨rfl, q + 1, rfl⟩
      · obtain rfl : k = n := by omega
        have hlt1 : decide ((k : Int) < k) = false := by simp
        clear hlt hk e0
        go_wp2
        go_ret
        have e : ks = ms := by have := HJ.out; rw [HN.out, List.take_length] at this; rw [this, ← HN.out, HM.out, List.take_length]
        rw [decide_eq_true e]
        exact ⟨rfl, q, rfl⟩
  · have e0 : ((n : Int) != (m : Int)) = true := by simp; omega
    have HL := Lib.hid hl
    clear hl
    go_enter Try.func17, Try.ntmps17
    go_wp2
    go_ret
    have e : ¬ ks = ms := fun q => HL.out (by rw [HN.out, HM.out, q])
    rw [decide_eq_false e]
    exact ⟨rfl, 0, rfl⟩

end Go.Proofs.Ytlnpfeecaiecaaa
