/- Rows of names compared: the law's within, the document's Same. -/
import Derived.Test.YtdhfnbajmjmlbaaKnowM
import Derived.BigQuiet
import Derived.Deep.RegionHeld3
namespace Go.Proofs.Ytdhfnbajmjmlbaa
open Go.RowKit
set_option linter.unusedVariables false
set_option linter.unusedSimpArgs false
set_option maxRecDepth 20000

theorem take_eq_next {ks ms : List Int} {k : Nat} (h : ks.take k = ms.take k) (h1 : k < ks.length) (h2 : k < ms.length) (e : ks.getD k 0 = ms.getD k 0) : ks.take (k + 1) = ms.take (k + 1) := by rw [take_getD h1, take_getD h2, h, e]
set_option maxHeartbeats 2000000 in
set_option maxRecDepth 100000 in
theorem same_k (a b : Option Addr) (ca cb : Nat) (ks ms : List Int) (w : World) (ha : IntsAt w a ca ks) (hb : IntsAt w b cb ms) :
    Calls Try.prog 16 #[.slice a ks.length ca, .slice b ms.length cb] w fun e w' => e = .returned (.bool (decide (ks = ms))) ∧ ∃ q, w' = w.drewN q := by
  have hla := ha.len
  have hlb := hb.len
  obtain ⟨_, _, ba, oa, hca⟩ := ha
  obtain ⟨_, _, bb, ob, hcb⟩ := hb
  have HCA := Lib.hid hca
  have HCB := Lib.hid hcb
  obtain ⟨n, hn⟩ : ∃ n, n = ks.length := ⟨_, rfl⟩
  obtain ⟨m, hm⟩ : ∃ m, m = ms.length := ⟨_, rfl⟩
  rw [← hn, ← hm]
  rw [← hn] at hla
  rw [← hm] at hlb
  have HN := Lib.hid hn
  have HM := Lib.hid hm
  clear hca hcb hn hm
  by_cases hl : n = m
  · have e0 : ((n : Int) != (m : Int)) = false := by simp [hl]
    subst hl
    have e0 : ((n : Int) != (n : Int)) = false := by simp
    go_enter Try.func16, Try.ntmps16
    go_wp2
    go_loopw [5] (fun i wr => ∃ k q : Nat, k ≤ n ∧ i = .int .i64 k ∧ Hid (ks.take k = ms.take k) ∧ wr = w.drewN q) (fun i _ => n - (intOf i).toNat)
    case atStart => exact ⟨0, 0, Nat.zero_le _, rfl, Lib.hid (by simp), rfl⟩
    case round =>
      obtain ⟨k, q, hk, rfl, HJ, rfl⟩ := hrel
      by_cases hlt : k < n
      · obtain ⟨rfl, qa0⟩ := HCA.out k (by rw [← HN.out]; exact hlt)
        obtain ⟨rfl, qb0⟩ := HCB.out k (by rw [← HM.out]; exact hlt)
        have qa : (w.drewN q).cell? ⟨ba, oa + k, none⟩ = some (.int .i64 (ks.getD k 0)) := qa0
        have qb : (w.drewN q).cell? ⟨bb, ob + k, none⟩ = some (.int .i64 (ms.getD k 0)) := qb0
        obtain ⟨x, hx⟩ : ∃ x, x = ks.getD k 0 := ⟨_, rfl⟩
        obtain ⟨y, hy⟩ : ∃ y, y = ms.getD k 0 := ⟨_, rfl⟩
        rw [← hx] at qa
        rw [← hy] at qb
        have HX := Lib.hid hx
        have HY := Lib.hid hy
        have Hlt := Lib.hid hlt
        have hlt1 : (k : Int) < n := by omega
        clear hx hy hk hlt e0 qa0 qb0
        have hS0 : (w.drewN q).drew.cell? ⟨ba, oa + k, none⟩ = some (.int .i64 x) ∧ (w.drewN q).drew.cell? ⟨bb, ob + k, none⟩ = some (.int .i64 y) := ⟨qa, qb⟩
        obtain ⟨r, hr⟩ : ∃ r, r = (x != y) := ⟨_, rfl⟩
        have HR := Lib.hid hr
        go_wp2_with fail
        refine wp_region_held_drew (S := (fun w' => w'.cell? ⟨ba, oa + k, none⟩ = some (.int .i64 x) ∧ w'.cell? ⟨bb, ob + k, none⟩ = some (.int .i64 y))) (by kernel_rfl) hS0 (fun hHeld => ?_)
        refine wpAnyH_take (i := 0) (oi := ?o1) (v := ?v1) ?i1 (by kernel_rfl) (by kernel_rfl) (by kernel_rfl) ?q1 (Or.inl ⟨?w1, ?y1⟩) (by assumption) ?r1
        case' i1 => simp only [List.getElem?_toArray, List.getElem?_cons_succ, List.getElem?_cons_zero]
        case i1 => rfl
        case q1 => exact fun _ _ _ h => h
        case w1 => rfl
        case y1 => (intro w hSw; (try dsimp only at hSw); go_simp) <;> with_reducible rfl
        try simp only [Act.put, List.setIfInBounds_toArray, List.set_cons_zero, List.set_cons_succ]
        refine wpAnyH_take (i := 1) (oi := ?o2) (v := ?v2) ?i2 (by kernel_rfl) (by kernel_rfl) (by kernel_rfl) ?q2 (Or.inl ⟨?w2, ?y2⟩) (by assumption) ?r2
        case' i2 => simp only [List.getElem?_toArray, List.getElem?_cons_succ, List.getElem?_cons_zero]
        case i2 => rfl
        case q2 => exact fun _ _ _ h => h
        case w2 => rfl
        case y2 => (intro w hSw; (try dsimp only at hSw); go_simp) <;> with_reducible rfl
        try simp only [Act.put, List.setIfInBounds_toArray, List.set_cons_zero, List.set_cons_succ]
        refine wpAnyH_take (i := 2) (oi := ?o3) (v := ?v3) ?i3 (by kernel_rfl) (by kernel_rfl) (by kernel_rfl) ?q3 (Or.inl ⟨?w3, ?y3⟩) (by assumption) ?r3
        case' i3 => simp only [List.getElem?_toArray, List.getElem?_cons_succ, List.getElem?_cons_zero]
        case i3 => rfl
        case q3 => exact fun _ _ _ h => h
        case w3 => rfl
        case y3 => (intro w hSw; (try dsimp only at hSw); go_simp) <;> with_reducible rfl
        try simp only [Act.put, List.setIfInBounds_toArray, List.set_cons_zero, List.set_cons_succ]
        refine wpAnyH_take (i := 3) (oi := ?o4) (v := ?v4) ?i4 (by kernel_rfl) (by kernel_rfl) (by kernel_rfl) ?q4 (Or.inl ⟨?w4, ?y4⟩) (by assumption) ?r4
        case' i4 => simp only [List.getElem?_toArray, List.getElem?_cons_succ, List.getElem?_cons_zero]
        case i4 => rfl
        case q4 => exact fun _ _ _ h => h
        case w4 => rfl
        case y4 => (intro w hSw; (try dsimp only at hSw); go_simp) <;> with_reducible rfl
        try simp only [Act.put, List.setIfInBounds_toArray, List.set_cons_zero, List.set_cons_succ]
        refine wpAnyH_take (i := 4) (oi := ?o5) (v := ?v5) ?i5 (by kernel_rfl) (by kernel_rfl) (by kernel_rfl) ?q5 (Or.inl ⟨?w5, ?y5⟩) (by assumption) ?r5
        case' i5 => simp only [List.getElem?_toArray, List.getElem?_cons_succ, List.getElem?_cons_zero]
        case i5 => rfl
        case q5 => exact fun _ _ _ h => h
        case w5 => rfl
        case y5 => (intro w hSw; (try dsimp only at hSw); go_simp) <;> with_reducible rfl
        try simp only [Act.put, List.setIfInBounds_toArray, List.set_cons_zero, List.set_cons_succ]
        refine wpAnyH_take (i := 5) (oi := ?o6) (v := ?v6) ?i6 (by kernel_rfl) (by kernel_rfl) (by kernel_rfl) ?q6 (Or.inl ⟨?w6, ?y6⟩) (by assumption) ?r6
        case' i6 => simp only [List.getElem?_toArray, List.getElem?_cons_succ, List.getElem?_cons_zero]
        case i6 => rfl
        case q6 => exact fun _ _ _ h => h
        case w6 => rfl
        case y6 => (intro w hSw; (try dsimp only at hSw); go_simp) <;> with_reducible rfl
        try simp only [Act.put, List.setIfInBounds_toArray, List.set_cons_zero, List.set_cons_succ]
        refine wpAnyH_take (i := 6) (oi := ?o7) (v := ?v7) ?i7 (by kernel_rfl) (by kernel_rfl) (by kernel_rfl) ?q7 (Or.inl ⟨?w7, ?y7⟩) (by assumption) ?r7
        case' i7 => simp only [List.getElem?_toArray, List.getElem?_cons_succ, List.getElem?_cons_zero]
        case i7 => rfl
        case q7 => exact fun _ _ _ h => h
        case w7 => rfl
        case y7 => (intro w hSw; (try dsimp only at hSw); go_simp) <;> with_reducible rfl
        try simp only [Act.put, List.setIfInBounds_toArray, List.set_cons_zero, List.set_cons_succ]
        refine wpAnyH_take (i := 7) (oi := ?o8) (v := ?v8) ?i8 (by kernel_rfl) (by kernel_rfl) (by kernel_rfl) ?q8 (Or.inl ⟨?w8, ?y8⟩) (by assumption) ?r8
        case' i8 => simp only [List.getElem?_toArray, List.getElem?_cons_succ, List.getElem?_cons_zero]
        case i8 => rfl
        case q8 => exact fun _ _ _ h => h
        case w8 => rfl
        case y8 => (intro w hSw; (try dsimp only at hSw); go_simp) <;> with_reducible rfl
        try simp only [Act.put, List.setIfInBounds_toArray, List.set_cons_zero, List.set_cons_succ]
        refine wpAnyH_take (i := 8) (oi := ?o9) (v := ?v9) ?i9 (by kernel_rfl) (by kernel_rfl) (by kernel_rfl) ?q9 (Or.inl ⟨?w9, ?y9⟩) (by assumption) ?r9
        case' i9 => simp only [List.getElem?_toArray, List.getElem?_cons_succ, List.getElem?_cons_zero]
        case i9 => rfl
        case q9 => exact fun _ _ _ h => h
        case w9 => rfl
        case y9 => (intro w hSw; (try dsimp only at hSw); go_simp) <;> with_reducible rfl
        try simp only [Act.put, List.setIfInBounds_toArray, List.set_cons_zero, List.set_cons_succ]
        refine wpAnyH_done (by kernel_rfl) ?_ _
        rw [← hr]
        clear hr hS0 hHeld qa qb
        cases r
        · go_wp2_with fail
          go_roundw
          case rel => exact ⟨k + 1, q + 1, by have := Hlt.out; omega, by go_num, Lib.hid (take_eq_next HJ.out (by rw [← HN.out]; exact Hlt.out) (by rw [← HM.out]; exact Hlt.out) (by have := HR.out; rw [← HX.out, ← HY.out]; simpa using this.symm)), rfl⟩
          case measure => have := Hlt.out; simp [intOf]; omega
        · go_wp2_with fail
          go_ret
          have e : ¬ ks = ms := fun e => by
            have h1 := HR.out
            rw [HX.out, HY.out, e] at h1
            simp at h1
          rw [decide_eq_false e]
          exact ⟨rfl, q + 1, rfl⟩
      · obtain rfl : k = n := by omega
        have hlt1 : decide ((k : Int) < k) = false := by simp
        clear hlt hk e0
        go_wp2
        go_ret
        have e : ks = ms := by have := HJ.out; rw [HN.out, List.take_length] at this; rw [this, ← HN.out, HM.out, List.take_length]
        rw [decide_eq_true e]
        exact ⟨rfl, q, rfl⟩
  · have e0 : ((n : Int) != (m : Int)) = true := by simp; omega
    have HL := Lib.hid hl
    clear hl
    go_enter Try.func16, Try.ntmps16
    go_wp2
    go_ret
    have e : ¬ ks = ms := fun q => HL.out (by rw [HN.out, HM.out, q])
    rw [decide_eq_false e]
    exact ⟨rfl, 0, rfl⟩

set_option maxHeartbeats 2000000 in
set_option maxRecDepth 100000 in
theorem within_k (a b : Option Addr) (ca cb : Nat) (ks ms : List Int) (w : World) (ha : IntsAt w a ca ks) (hb : IntsAt w b cb ms) :
    Calls Try.prog 19 #[.slice a ks.length ca, .slice b ms.length cb] w fun e w' => e = .returned (.bool (ks.all (has ms))) ∧ ∃ q, w' = w.drewN q := by
  have hla := ha.len
  have hlb := hb.len
  obtain ⟨_, _, ba, oa, hca⟩ := ha
  obtain ⟨_, _, bb, ob, hcb⟩ := hb
  have HCA := Lib.hid hca
  have HCB := Lib.hid hcb
  obtain ⟨n, hn⟩ : ∃ n, n = ks.length := ⟨_, rfl⟩
  obtain ⟨m, hm⟩ : ∃ m, m = ms.length := ⟨_, rfl⟩
  rw [← hn, ← hm]
  rw [← hn] at hla
  rw [← hm] at hlb
  have HN := Lib.hid hn
  have HM := Lib.hid hm
  clear hca hcb hn hm
  go_enter Try.func19, Try.ntmps19
  go_wp2
  go_loopw [5, 6, 7] (fun i _ _ wr => ∃ k q : Nat, k ≤ n ∧ i = .int .i64 k ∧ Hid ((ks.take k).all (has ms) = true) ∧ wr = w.drewN q) (fun i _ _ _ => n - (intOf i).toNat)
  case atStart => exact ⟨0, 0, Nat.zero_le _, rfl, Lib.hid (by simp), rfl⟩
  case round =>
    obtain ⟨k, q, hk, rfl, HJ, rfl⟩ := hrel
    by_cases hlt : k < n
    · obtain ⟨rfl, qa⟩ := HCA.out k (by rw [← HN.out]; exact hlt)
      obtain ⟨x, hx⟩ : ∃ x, x = ks.getD k 0 := ⟨_, rfl⟩
      rw [← hx] at qa
      have HX := Lib.hid hx
      have Hlt := Lib.hid hlt
      have hlt1 : (k : Int) < n := by omega
      have HQA := Lib.hid qa
      have HS : Hid ((ks.take (k + 1)).all (has ms) = has ms x) := Lib.hid (by
        rw [take_getD (by rw [← HN.out]; exact hlt), List.all_append, HJ.out, hx]; simp)
      clear hx hk hlt qa
      go_wp2
      go_loopw [6, 7] (fun s6 i wr => ∃ (j q2 : Nat) (r : Bool), j ≤ m ∧ i = .int .i64 j ∧ s6 = .bool r ∧ Hid (r = has (ms.take j) x) ∧ wr = w.drewN q2) (fun _ i _ => m - (intOf i).toNat)
      case atStart => exact ⟨0, q, false, Nat.zero_le _, rfl, rfl, Lib.hid (by simp [has]), rfl⟩
      case round =>
        obtain ⟨j, q2, r, hj, rfl, rfl, HR, rfl⟩ := hrel
        by_cases hlt2 : j < m
        · obtain ⟨rfl, qb0⟩ := HCB.out j (by rw [← HM.out]; exact hlt2)
          have qb : (w.drewN q2).cell? ⟨bb, ob + j, none⟩ = some (.int .i64 (ms.getD j 0)) := qb0
          have qa : (w.drewN q2).cell? ⟨ba, oa + k, none⟩ = some (.int .i64 x) := HQA.out
          obtain ⟨y, hy⟩ : ∃ y, y = ms.getD j 0 := ⟨_, rfl⟩
          rw [← hy] at qb
          have HS2 : Hid (has (ms.take (j + 1)) x = (has (ms.take j) x || decide (x = y))) := Lib.hid (by rw [has_take (by rw [← HM.out]; exact hlt2), hy])
          have Hlt2 := Lib.hid hlt2
          have hlt3 : (j : Int) < m := by omega
          clear hy hj hlt2 qb0
          have hS0 : (w.drewN q2).drew.cell? ⟨ba, oa + k, none⟩ = some (.int .i64 x) ∧ (w.drewN q2).drew.cell? ⟨bb, ob + j, none⟩ = some (.int .i64 y) := ⟨qa, qb⟩
          cases r
          · obtain ⟨r2, hr2⟩ : ∃ r2, r2 = (y == x) := ⟨_, rfl⟩
            have HR2 := Lib.hid hr2
            go_wp2_with fail
            refine wp_region_held_drew (S := (fun w' => w'.cell? ⟨ba, oa + k, none⟩ = some (.int .i64 x) ∧ w'.cell? ⟨bb, ob + j, none⟩ = some (.int .i64 y))) (by kernel_rfl) hS0 (fun hHeld => ?_)
            refine wpAnyH_take (i := 0) (oi := ?o10) (v := ?v10) ?i10 (by kernel_rfl) (by kernel_rfl) (by kernel_rfl) ?q10 (Or.inl ⟨?w10, ?y10⟩) (by assumption) ?r10
            case' i10 => simp only [List.getElem?_toArray, List.getElem?_cons_succ, List.getElem?_cons_zero]
            case i10 => rfl
            case q10 => exact fun _ _ _ h => h
            case w10 => rfl
            case y10 => (intro w hSw; (try dsimp only at hSw); go_simp) <;> with_reducible rfl
            try simp only [Act.put, List.setIfInBounds_toArray, List.set_cons_zero, List.set_cons_succ]
            refine wpAnyH_take (i := 1) (oi := ?o11) (v := ?v11) ?i11 (by kernel_rfl) (by kernel_rfl) (by kernel_rfl) ?q11 (Or.inl ⟨?w11, ?y11⟩) (by assumption) ?r11
            case' i11 => simp only [List.getElem?_toArray, List.getElem?_cons_succ, List.getElem?_cons_zero]
            case i11 => rfl
            case q11 => exact fun _ _ _ h => h
            case w11 => rfl
            case y11 => (intro w hSw; (try dsimp only at hSw); go_simp) <;> with_reducible rfl
            try simp only [Act.put, List.setIfInBounds_toArray, List.set_cons_zero, List.set_cons_succ]
            refine wpAnyH_take (i := 2) (oi := ?o12) (v := ?v12) ?i12 (by kernel_rfl) (by kernel_rfl) (by kernel_rfl) ?q12 (Or.inl ⟨?w12, ?y12⟩) (by assumption) ?r12
            case' i12 => simp only [List.getElem?_toArray, List.getElem?_cons_succ, List.getElem?_cons_zero]
            case i12 => rfl
            case q12 => exact fun _ _ _ h => h
            case w12 => rfl
            case y12 => (intro w hSw; (try dsimp only at hSw); go_simp) <;> with_reducible rfl
            try simp only [Act.put, List.setIfInBounds_toArray, List.set_cons_zero, List.set_cons_succ]
            refine wpAnyH_take (i := 3) (oi := ?o13) (v := ?v13) ?i13 (by kernel_rfl) (by kernel_rfl) (by kernel_rfl) ?q13 (Or.inl ⟨?w13, ?y13⟩) (by assumption) ?r13
            case' i13 => simp only [List.getElem?_toArray, List.getElem?_cons_succ, List.getElem?_cons_zero]
            case i13 => rfl
            case q13 => exact fun _ _ _ h => h
            case w13 => rfl
            case y13 => (intro w hSw; (try dsimp only at hSw); go_simp) <;> with_reducible rfl
            try simp only [Act.put, List.setIfInBounds_toArray, List.set_cons_zero, List.set_cons_succ]
            refine wpAnyH_take (i := 4) (oi := ?o14) (v := ?v14) ?i14 (by kernel_rfl) (by kernel_rfl) (by kernel_rfl) ?q14 (Or.inl ⟨?w14, ?y14⟩) (by assumption) ?r14
            case' i14 => simp only [List.getElem?_toArray, List.getElem?_cons_succ, List.getElem?_cons_zero]
            case i14 => rfl
            case q14 => exact fun _ _ _ h => h
            case w14 => rfl
            case y14 => (intro w hSw; (try dsimp only at hSw); go_simp) <;> with_reducible rfl
            try simp only [Act.put, List.setIfInBounds_toArray, List.set_cons_zero, List.set_cons_succ]
            refine wpAnyH_take (i := 5) (oi := ?o15) (v := ?v15) ?i15 (by kernel_rfl) (by kernel_rfl) (by kernel_rfl) ?q15 (Or.inl ⟨?w15, ?y15⟩) (by assumption) ?r15
            case' i15 => simp only [List.getElem?_toArray, List.getElem?_cons_succ, List.getElem?_cons_zero]
            case i15 => rfl
            case q15 => exact fun _ _ _ h => h
            case w15 => rfl
            case y15 => (intro w hSw; (try dsimp only at hSw); go_simp) <;> with_reducible rfl
            try simp only [Act.put, List.setIfInBounds_toArray, List.set_cons_zero, List.set_cons_succ]
            refine wpAnyH_take (i := 6) (oi := ?o16) (v := ?v16) ?i16 (by kernel_rfl) (by kernel_rfl) (by kernel_rfl) ?q16 (Or.inl ⟨?w16, ?y16⟩) (by assumption) ?r16
            case' i16 => simp only [List.getElem?_toArray, List.getElem?_cons_succ, List.getElem?_cons_zero]
            case i16 => rfl
            case q16 => exact fun _ _ _ h => h
            case w16 => rfl
            case y16 => (intro w hSw; (try dsimp only at hSw); go_simp) <;> with_reducible rfl
            try simp only [Act.put, List.setIfInBounds_toArray, List.set_cons_zero, List.set_cons_succ]
            refine wpAnyH_take (i := 7) (oi := ?o17) (v := ?v17) ?i17 (by kernel_rfl) (by kernel_rfl) (by kernel_rfl) ?q17 (Or.inl ⟨?w17, ?y17⟩) (by assumption) ?r17
            case' i17 => simp only [List.getElem?_toArray, List.getElem?_cons_succ, List.getElem?_cons_zero]
            case i17 => rfl
            case q17 => exact fun _ _ _ h => h
            case w17 => rfl
            case y17 => (intro w hSw; (try dsimp only at hSw); go_simp) <;> with_reducible rfl
            try simp only [Act.put, List.setIfInBounds_toArray, List.set_cons_zero, List.set_cons_succ]
            refine wpAnyH_take (i := 8) (oi := ?o18) (v := ?v18) ?i18 (by kernel_rfl) (by kernel_rfl) (by kernel_rfl) ?q18 (Or.inl ⟨?w18, ?y18⟩) (by assumption) ?r18
            case' i18 => simp only [List.getElem?_toArray, List.getElem?_cons_succ, List.getElem?_cons_zero]
            case i18 => rfl
            case q18 => exact fun _ _ _ h => h
            case w18 => rfl
            case y18 => (intro w hSw; (try dsimp only at hSw); go_simp) <;> with_reducible rfl
            try simp only [Act.put, List.setIfInBounds_toArray, List.set_cons_zero, List.set_cons_succ]
            refine wpAnyH_take (i := 9) (oi := ?o19) (v := ?v19) ?i19 (by kernel_rfl) (by kernel_rfl) (by kernel_rfl) ?q19 (Or.inl ⟨?w19, ?y19⟩) (by assumption) ?r19
            case' i19 => simp only [List.getElem?_toArray, List.getElem?_cons_succ, List.getElem?_cons_zero]
            case i19 => rfl
            case q19 => exact fun _ _ _ h => h
            case w19 => rfl
            case y19 => (intro w hSw; (try dsimp only at hSw); go_simp) <;> with_reducible rfl
            try simp only [Act.put, List.setIfInBounds_toArray, List.set_cons_zero, List.set_cons_succ]
            refine wpAnyH_take (i := 10) (oi := ?o20) (v := ?v20) ?i20 (by kernel_rfl) (by kernel_rfl) (by kernel_rfl) ?q20 (Or.inl ⟨?w20, ?y20⟩) (by assumption) ?r20
            case' i20 => simp only [List.getElem?_toArray, List.getElem?_cons_succ, List.getElem?_cons_zero]
            case i20 => rfl
            case q20 => exact fun _ _ _ h => h
            case w20 => rfl
            case y20 => (intro w hSw; (try dsimp only at hSw); go_simp) <;> with_reducible rfl
            try simp only [Act.put, List.setIfInBounds_toArray, List.set_cons_zero, List.set_cons_succ]
            refine wpAnyH_take (i := 11) (oi := ?o21) (v := ?v21) ?i21 (by kernel_rfl) (by kernel_rfl) (by kernel_rfl) ?q21 (Or.inl ⟨?w21, ?y21⟩) (by assumption) ?r21
            case' i21 => simp only [List.getElem?_toArray, List.getElem?_cons_succ, List.getElem?_cons_zero]
            case i21 => rfl
            case q21 => exact fun _ _ _ h => h
            case w21 => rfl
            case y21 => (intro w hSw; (try dsimp only at hSw); go_simp) <;> with_reducible rfl
            try simp only [Act.put, List.setIfInBounds_toArray, List.set_cons_zero, List.set_cons_succ]
            refine wpAnyH_take (i := 12) (oi := ?o22) (v := ?v22) ?i22 (by kernel_rfl) (by kernel_rfl) (by kernel_rfl) ?q22 (Or.inl ⟨?w22, ?y22⟩) (by assumption) ?r22
            case' i22 => simp only [List.getElem?_toArray, List.getElem?_cons_succ, List.getElem?_cons_zero]
            case i22 => rfl
            case q22 => exact fun _ _ _ h => h
            case w22 => rfl
            case y22 => (intro w hSw; (try dsimp only at hSw); go_simp) <;> with_reducible rfl
            try simp only [Act.put, List.setIfInBounds_toArray, List.set_cons_zero, List.set_cons_succ]
            refine wpAnyH_done (by kernel_rfl) ?_ _
            rw [← hr2]
            clear hr2 hS0 hHeld qa qb
            go_wp2_with fail
            go_roundw
            case rel => exact ⟨j + 1, q2 + 1, r2, by have := Hlt2.out; omega, by go_num, rfl, Lib.hid (by
              rw [HS2.out, ← HR.out, HR2.out, Bool.false_or]
              by_cases e : y = x
              · simp [e]
              · have : ¬ x = y := fun q => e q.symm
                simp [e, this]), rfl⟩
            case measure => have := Hlt2.out; simp [intOf]; omega
          · go_wp2_with fail
            refine wp_region_held_drew (S := (fun w' => w'.cell? ⟨ba, oa + k, none⟩ = some (.int .i64 x) ∧ w'.cell? ⟨bb, ob + j, none⟩ = some (.int .i64 y))) (by kernel_rfl) hS0 (fun hHeld => ?_)
            refine wpAnyH_take (i := 0) (oi := ?o23) (v := ?v23) ?i23 (by kernel_rfl) (by kernel_rfl) (by kernel_rfl) ?q23 (Or.inl ⟨?w23, ?y23⟩) (by assumption) ?r23
            case' i23 => simp only [List.getElem?_toArray, List.getElem?_cons_succ, List.getElem?_cons_zero]
            case i23 => rfl
            case q23 => exact fun _ _ _ h => h
            case w23 => rfl
            case y23 => (intro w hSw; (try dsimp only at hSw); go_simp) <;> with_reducible rfl
            try simp only [Act.put, List.setIfInBounds_toArray, List.set_cons_zero, List.set_cons_succ]
            refine wpAnyH_take (i := 1) (oi := ?o24) (v := ?v24) ?i24 (by kernel_rfl) (by kernel_rfl) (by kernel_rfl) ?q24 (Or.inl ⟨?w24, ?y24⟩) (by assumption) ?r24
            case' i24 => simp only [List.getElem?_toArray, List.getElem?_cons_succ, List.getElem?_cons_zero]
            case i24 => rfl
            case q24 => exact fun _ _ _ h => h
            case w24 => rfl
            case y24 => (intro w hSw; (try dsimp only at hSw); go_simp) <;> with_reducible rfl
            try simp only [Act.put, List.setIfInBounds_toArray, List.set_cons_zero, List.set_cons_succ]
            refine wpAnyH_take (i := 2) (oi := ?o25) (v := undef) ?i25 (by kernel_rfl) (by kernel_rfl) (by kernel_rfl) ?q25 (Or.inr ⟨?w25, rfl⟩) (by assumption) ?r25
            case' i25 => simp only [List.getElem?_toArray, List.getElem?_cons_succ, List.getElem?_cons_zero]
            case i25 => rfl
            case q25 => exact fun _ _ _ h => h
            case w25 => rfl
            try simp only [Act.put, List.setIfInBounds_toArray, List.set_cons_zero, List.set_cons_succ]
            refine wpAnyH_take (i := 3) (oi := ?o26) (v := undef) ?i26 (by kernel_rfl) (by kernel_rfl) (by kernel_rfl) ?q26 (Or.inr ⟨?w26, rfl⟩) (by assumption) ?r26
            case' i26 => simp only [List.getElem?_toArray, List.getElem?_cons_succ, List.getElem?_cons_zero]
            case i26 => rfl
            case q26 => exact fun _ _ _ h => h
            case w26 => rfl
            try simp only [Act.put, List.setIfInBounds_toArray, List.set_cons_zero, List.set_cons_succ]
            refine wpAnyH_take (i := 4) (oi := ?o27) (v := undef) ?i27 (by kernel_rfl) (by kernel_rfl) (by kernel_rfl) ?q27 (Or.inr ⟨?w27, rfl⟩) (by assumption) ?r27
            case' i27 => simp only [List.getElem?_toArray, List.getElem?_cons_succ, List.getElem?_cons_zero]
            case i27 => rfl
            case q27 => exact fun _ _ _ h => h
            case w27 => rfl
            try simp only [Act.put, List.setIfInBounds_toArray, List.set_cons_zero, List.set_cons_succ]
            refine wpAnyH_take (i := 5) (oi := ?o28) (v := undef) ?i28 (by kernel_rfl) (by kernel_rfl) (by kernel_rfl) ?q28 (Or.inr ⟨?w28, rfl⟩) (by assumption) ?r28
            case' i28 => simp only [List.getElem?_toArray, List.getElem?_cons_succ, List.getElem?_cons_zero]
            case i28 => rfl
            case q28 => exact fun _ _ _ h => h
            case w28 => rfl
            try simp only [Act.put, List.setIfInBounds_toArray, List.set_cons_zero, List.set_cons_succ]
            refine wpAnyH_take (i := 6) (oi := ?o29) (v := undef) ?i29 (by kernel_rfl) (by kernel_rfl) (by kernel_rfl) ?q29 (Or.inr ⟨?w29, rfl⟩) (by assumption) ?r29
            case' i29 => simp only [List.getElem?_toArray, List.getElem?_cons_succ, List.getElem?_cons_zero]
            case i29 => rfl
            case q29 => exact fun _ _ _ h => h
            case w29 => rfl
            try simp only [Act.put, List.setIfInBounds_toArray, List.set_cons_zero, List.set_cons_succ]
            refine wpAnyH_take (i := 7) (oi := ?o30) (v := undef) ?i30 (by kernel_rfl) (by kernel_rfl) (by kernel_rfl) ?q30 (Or.inr ⟨?w30, rfl⟩) (by assumption) ?r30
            case' i30 => simp only [List.getElem?_toArray, List.getElem?_cons_succ, List.getElem?_cons_zero]
            case i30 => rfl
            case q30 => exact fun _ _ _ h => h
            case w30 => rfl
            try simp only [Act.put, List.setIfInBounds_toArray, List.set_cons_zero, List.set_cons_succ]
            refine wpAnyH_take (i := 8) (oi := ?o31) (v := undef) ?i31 (by kernel_rfl) (by kernel_rfl) (by kernel_rfl) ?q31 (Or.inr ⟨?w31, rfl⟩) (by assumption) ?r31
            case' i31 => simp only [List.getElem?_toArray, List.getElem?_cons_succ, List.getElem?_cons_zero]
            case i31 => rfl
            case q31 => exact fun _ _ _ h => h
            case w31 => rfl
            try simp only [Act.put, List.setIfInBounds_toArray, List.set_cons_zero, List.set_cons_succ]
            refine wpAnyH_take (i := 9) (oi := ?o32) (v := undef) ?i32 (by kernel_rfl) (by kernel_rfl) (by kernel_rfl) ?q32 (Or.inr ⟨?w32, rfl⟩) (by assumption) ?r32
            case' i32 => simp only [List.getElem?_toArray, List.getElem?_cons_succ, List.getElem?_cons_zero]
            case i32 => rfl
            case q32 => exact fun _ _ _ h => h
            case w32 => rfl
            try simp only [Act.put, List.setIfInBounds_toArray, List.set_cons_zero, List.set_cons_succ]
            refine wpAnyH_take (i := 10) (oi := ?o33) (v := undef) ?i33 (by kernel_rfl) (by kernel_rfl) (by kernel_rfl) ?q33 (Or.inr ⟨?w33, rfl⟩) (by assumption) ?r33
            case' i33 => simp only [List.getElem?_toArray, List.getElem?_cons_succ, List.getElem?_cons_zero]
            case i33 => rfl
            case q33 => exact fun _ _ _ h => h
            case w33 => rfl
            try simp only [Act.put, List.setIfInBounds_toArray, List.set_cons_zero, List.set_cons_succ]
            refine wpAnyH_take (i := 11) (oi := ?o34) (v := ?v34) ?i34 (by kernel_rfl) (by kernel_rfl) (by kernel_rfl) ?q34 (Or.inl ⟨?w34, ?y34⟩) (by assumption) ?r34
            case' i34 => simp only [List.getElem?_toArray, List.getElem?_cons_succ, List.getElem?_cons_zero]
            case i34 => rfl
            case q34 => exact fun _ _ _ h => h
            case w34 => rfl
            case y34 => (intro w hSw; (try dsimp only at hSw); go_simp) <;> with_reducible rfl
            try simp only [Act.put, List.setIfInBounds_toArray, List.set_cons_zero, List.set_cons_succ]
            refine wpAnyH_take (i := 12) (oi := ?o35) (v := ?v35) ?i35 (by kernel_rfl) (by kernel_rfl) (by kernel_rfl) ?q35 (Or.inl ⟨?w35, ?y35⟩) (by assumption) ?r35
            case' i35 => simp only [List.getElem?_toArray, List.getElem?_cons_succ, List.getElem?_cons_zero]
            case i35 => rfl
            case q35 => exact fun _ _ _ h => h
            case w35 => rfl
            case y35 => (intro w hSw; (try dsimp only at hSw); go_simp) <;> with_reducible rfl
            try simp only [Act.put, List.setIfInBounds_toArray, List.set_cons_zero, List.set_cons_succ]
            refine wpAnyH_done (by kernel_rfl) ?_ _
            clear hS0 hHeld qa qb
            go_wp2_with fail
            go_roundw
            case rel => exact ⟨j + 1, q2 + 1, true, by have := Hlt2.out; omega, by go_num, rfl, Lib.hid (by rw [HS2.out, ← HR.out]; simp), rfl⟩
            case measure => have := Hlt2.out; simp [intOf]; omega
        · obtain rfl : j = m := by omega
          have hlt3 : decide ((j : Int) < j) = false := by simp
          have HRR : Hid (r = has ms x) := Lib.hid (by have := HR.out; rw [HM.out, List.take_length] at this; exact this)
          clear hlt2 hj HR
          cases r
          · go_wp2
            go_ret
            have e : ks.all (has ms) = false := by
              rw [List.all_eq_false]
              exact ⟨_, getD_mem (ks := ks) (k := k) (by rw [← HN.out]; exact Hlt.out), by rw [← HX.out, ← HRR.out]; decide⟩
            rw [e]
            exact ⟨rfl, q2, rfl⟩
          · go_wp2
            go_roundw
            case rel => exact ⟨k + 1, q2, by have := Hlt.out; omega, by go_num, Lib.hid (by rw [HS.out, ← HRR.out]), rfl⟩
            case measure => have := Hlt.out; simp [intOf]; omega
    · obtain rfl : k = n := by omega
      have hlt1 : decide ((k : Int) < k) = false := by simp
      clear hlt hk
      go_wp2
      go_ret
      have e : ks.all (has ms) = true := by have := HJ.out; rw [HN.out, List.take_length] at this; exact this
      rw [e]
      exact ⟨rfl, q, rfl⟩
end Go.Proofs.Ytdhfnbajmjmlbaa
