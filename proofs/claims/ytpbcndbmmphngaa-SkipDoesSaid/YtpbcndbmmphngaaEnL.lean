/- Entries: rows compared, the law's One and Refs, the document's Keys. -/
import Derived.Test.YtpbcndbmmphngaaEnP
namespace Go.Proofs.Ytpbcndbmmphngaa
open Go.RowKit
set_option linter.unusedVariables false
set_option linter.unusedSimpArgs false
set_option maxRecDepth 20000
theorem take_eq_next {ks ms : List Int} {k : Nat} (h : ks.take k = ms.take k) (h1 : k < ks.length) (h2 : k < ms.length) (e : ks.getD k 0 = ms.getD k 0) : ks.take (k + 1) = ms.take (k + 1) := by rw [take_getD h1, take_getD h2, h, e]
set_option maxHeartbeats 2000000 in
set_option maxRecDepth 100000 in
theorem same_k (a b : Option Addr) (ca cb : Nat) (ks ms : List Int) (w : World) (ha : RowAt .i64 w a ca ks) (hb : RowAt .i64 w b cb ms) :
    Calls Try.prog 17 #[.slice a ks.length ca, .slice b ms.length cb] w fun e w' => e = .returned (.bool (decide (ks = ms))) ∧ ∃ q, w' = w.drewN q := by
  have hla := ha.len
  have hlb := hb.len
  obtain ⟨_, _, ba, oa, hca⟩ := ha
  obtain ⟨_, _, bb, ob, hcb⟩ := hb
  have HCA := Lib.hid hca
  have HCB := Lib.hid hcb
  obtain ⟨n, hn⟩ : ∃ n, n = ks.length := ⟨_, rfl⟩
  obtain ⟨m, hm⟩ : ∃ m, m = ms.length := ⟨_, rfl⟩
  rw [← hn, ← hm]
  rw [← hn] at hla
  rw [← hm] at hlb
  have HN := Lib.hid hn
  have HM := Lib.hid hm
  clear hca hcb hn hm
  by_cases hl : n = m
  · have e0 : ((n : Int) != (m : Int)) = false := by simp [hl]
    subst hl
    have e0 : ((n : Int) != (n : Int)) = false := by simp
    go_enter Try.func17, Try.ntmps17
    go_wp2
    go_loopw [5] (fun i wr => ∃ k q : Nat, k ≤ n ∧ i = .int .i64 k ∧ Hid (ks.take k = ms.take k) ∧ wr = w.drewN q) (fun i _ => n - (intOf i).toNat)
    case atStart => exact ⟨0, 0, Nat.zero_le _, rfl, Lib.hid (by simp), rfl⟩
    case round =>
      obtain ⟨k, q, hk, rfl, HJ, rfl⟩ := hrel
      by_cases hlt : k < n
      · obtain ⟨rfl, qa0⟩ := HCA.out k (by rw [← HN.out]; exact hlt)
        obtain ⟨rfl, qb0⟩ := HCB.out k (by rw [← HM.out]; exact hlt)
        have qa : (w.drewN q).cell? ⟨ba, oa + k, none⟩ = some (.int .i64 (ks.getD k 0)) := qa0
        have qb : (w.drewN q).cell? ⟨bb, ob + k, none⟩ = some (.int .i64 (ms.getD k 0)) := qb0
        obtain ⟨x, hx⟩ : ∃ x, x = ks.getD k 0 := ⟨_, rfl⟩
        obtain ⟨y, hy⟩ : ∃ y, y = ms.getD k 0 := ⟨_, rfl⟩
        rw [← hx] at qa
        rw [← hy] at qb
        have HX := Lib.hid hx
        have HY := Lib.hid hy
        have Hlt := Lib.hid hlt
        have hlt1 : (k : Int) < n := by omega
        clear hx hy hk hlt e0 qa0 qb0
        have hS0 : (w.drewN q).drew.cell? ⟨ba, oa + k, none⟩ = some (.int .i64 x) ∧ (w.drewN q).drew.cell? ⟨bb, ob + k, none⟩ = some (.int .i64 y) := ⟨qa, qb⟩
        obtain ⟨r, hr⟩ : ∃ r, r = (x != y) := ⟨_, rfl⟩
        have HR := Lib.hid hr
        go_wp2_with fail
        refine wp_region_held_drew (S := (fun w' => w'.cell? ⟨ba, oa + k, none⟩ = some (.int .i64 x) ∧ w'.cell? ⟨bb, ob + k, none⟩ = some (.int .i64 y))) (by kernel_rfl) hS0 (fun hHeld => ?_)
        refine wpAnyH_take (i := 0) (oi := ?o1) (v := ?v1) ?i1 (by kernel_rfl) (by kernel_rfl) (by kernel_rfl) ?q1 (Or.inl ⟨?w1, ?y1⟩) (by assumption) ?r1
        case' i1 => simp only [List.getElem?_toArray, List.getElem?_cons_succ, List.getElem?_cons_zero]
        case i1 => rfl
        case q1 => exact fun _ _ _ h => h
        case w1 => rfl
        case y1 => (intro w hSw; (try dsimp only at hSw); go_simp) <;> with_reducible rfl
        try simp only [Act.put, List.setIfInBounds_toArray, List.set_cons_zero, List.set_cons_succ]
        refine wpAnyH_take (i := 1) (oi := ?o2) (v := ?v2) ?i2 (by kernel_rfl) (by kernel_rfl) (by kernel_rfl) ?q2 (Or.inl ⟨?w2, ?y2⟩) (by assumption) ?r2
        case' i2 => simp only [List.getElem?_toArray, List.getElem?_cons_succ, List.getElem?_cons_zero]
        case i2 => rfl
        case q2 => exact fun _ _ _ h => h
        case w2 => rfl
        case y2 => (intro w hSw; (try dsimp only at hSw); go_simp) <;> with_reducible rfl
        try simp only [Act.put, List.setIfInBounds_toArray, List.set_cons_zero, List.set_cons_succ]
        refine wpAnyH_take (i := 2) (oi := ?o3) (v := ?v3) ?i3 (by kernel_rfl) (by kernel_rfl) (by kernel_rfl) ?q3 (Or.inl ⟨?w3, ?y3⟩) (by assumption) ?r3
        case' i3 => simp only [List.getElem?_toArray, List.getElem?_cons_succ, List.getElem?_cons_zero]
        case i3 => rfl
        case q3 => exact fun _ _ _ h => h
        case w3 => rfl
        case y3 => (intro w hSw; (try dsimp only at hSw); go_simp) <;> with_reducible rfl
        try simp only [Act.put, List.setIfInBounds_toArray, List.set_cons_zero, List.set_cons_succ]
        refine wpAnyH_take (i := 3) (oi := ?o4) (v := ?v4) ?i4 (by kernel_rfl) (by kernel_rfl) (by kernel_rfl) ?q4 (Or.inl ⟨?w4, ?y4⟩) (by assumption) ?r4
        case' i4 => simp only [List.getElem?_toArray, List.getElem?_cons_succ, List.getElem?_cons_zero]
        case i4 => rfl
        case q4 => exact fun _ _ _ h => h
        case w4 => rfl
        case y4 => (intro w hSw; (try dsimp only at hSw); go_simp) <;> with_reducible rfl
        try simp only [Act.put, List.setIfInBounds_toArray, List.set_cons_zero, List.set_cons_succ]
        refine wpAnyH_take (i := 4) (oi := ?o5) (v := ?v5) ?i5 (by kernel_rfl) (by kernel_rfl) (by kernel_rfl) ?q5 (Or.inl ⟨?w5, ?y5⟩) (by assumption) ?r5
        case' i5 => simp only [List.getElem?_toArray, List.getElem?_cons_succ, List.getElem?_cons_zero]
        case i5 => rfl
        case q5 => exact fun _ _ _ h => h
        case w5 => rfl
        case y5 => (intro w hSw; (try dsimp only at hSw); go_simp) <;> with_reducible rfl
        try simp only [Act.put, List.setIfInBounds_toArray, List.set_cons_zero, List.set_cons_succ]
        refine wpAnyH_take (i := 5) (oi := ?o6) (v := ?v6) ?i6 (by kernel_rfl) (by kernel_rfl) (by kernel_rfl) ?q6 (Or.inl ⟨?w6, ?y6⟩) (by assumption) ?r6
        case' i6 => simp only [List.getElem?_toArray, List.getElem?_cons_succ, List.getElem?_cons_zero]
        case i6 => rfl
        case q6 => exact fun _ _ _ h => h
        case w6 => rfl
        case y6 => (intro w hSw; (try dsimp only at hSw); go_simp) <;> with_reducible rfl
        try simp only [Act.put, List.setIfInBounds_toArray, List.set_cons_zero, List.set_cons_succ]
        refine wpAnyH_take (i := 6) (oi := ?o7) (v := ?v7) ?i7 (by kernel_rfl) (by kernel_rfl) (by kernel_rfl) ?q7 (Or.inl ⟨?w7, ?y7⟩) (by assumption) ?r7
        case' i7 => simp only [List.getElem?_toArray, List.getElem?_cons_succ, List.getElem?_cons_zero]
        case i7 => rfl
        case q7 => exact fun _ _ _ h => h
        case w7 => rfl
        case y7 => (intro w hSw; (try dsimp only at hSw); go_simp) <;> with_reducible rfl
        try simp only [Act.put, List.setIfInBounds_toArray, List.set_cons_zero, List.set_cons_succ]
        refine wpAnyH_take (i := 7) (oi := ?o8) (v := ?v8) ?i8 (by kernel_rfl) (by kernel_rfl) (by kernel_rfl) ?q8 (Or.inl ⟨?w8, ?y8⟩) (by assumption) ?r8
        case' i8 => simp only [List.getElem?_toArray, List.getElem?_cons_succ, List.getElem?_cons_zero]
        case i8 => rfl
        case q8 => exact fun _ _ _ h => h
        case w8 => rfl
        case y8 => (intro w hSw; (try dsimp only at hSw); go_simp) <;> with_reducible rfl
        try simp only [Act.put, List.setIfInBounds_toArray, List.set_cons_zero, List.set_cons_succ]
        refine wpAnyH_take (i := 8) (oi := ?o9) (v := ?v9) ?i9 (by kernel_rfl) (by kernel_rfl) (by kernel_rfl) ?q9 (Or.inl ⟨?w9, ?y9⟩) (by assumption) ?r9
        case' i9 => simp only [List.getElem?_toArray, List.getElem?_cons_succ, List.getElem?_cons_zero]
        case i9 => rfl
        case q9 => exact fun _ _ _ h => h
        case w9 => rfl
        case y9 => (intro w hSw; (try dsimp only at hSw); go_simp) <;> with_reducible rfl
        try simp only [Act.put, List.setIfInBounds_toArray, List.set_cons_zero, List.set_cons_succ]
        refine wpAnyH_done (by kernel_rfl) ?_ _
        rw [← hr]
        clear hr hS0 hHeld qa qb
        cases r
        · go_wp2_with fail
          go_roundw
          case rel => exact ⟨k + 1, q + 1, by have := Hlt.out; omega, by go_num, Lib.hid (take_eq_next HJ.out (by rw [← HN.out]; exact Hlt.out) (by rw [← HM.out]; exact Hlt.out) (by have := HR.out; rw [← HX.out, ← HY.out]; simpa using this.symm)), rfl⟩
          case measure => have := Hlt.out; simp [intOf]; omega
        · go_wp2_with fail
          go_ret
          have e : ¬ ks = ms := fun e => by
            have h1 := HR.out
            rw [HX.out, HY.out, e] at h1
            simp at h1
          rw [decide_eq_false e]
          exact ⟨rfl, q + 1, rfl⟩
      · obtain rfl : k = n := by omega
        have hlt1 : decide ((k : Int) < k) = false := by simp
        clear hlt hk e0
        go_wp2
        go_ret
        have e : ks = ms := by have := HJ.out; rw [HN.out, List.take_length] at this; rw [this, ← HN.out, HM.out, List.take_length]
        rw [decide_eq_true e]
        exact ⟨rfl, q, rfl⟩
  · have e0 : ((n : Int) != (m : Int)) = true := by simp; omega
    have HL := Lib.hid hl
    clear hl
    go_enter Try.func17, Try.ntmps17
    go_wp2
    go_ret
    have e : ¬ ks = ms := fun q => HL.out (by rw [HN.out, HM.out, q])
    rw [decide_eq_false e]
    exact ⟨rfl, 0, rfl⟩


theorem OwnE.rowE {t : TypeId} {base : Nat} {a : Option Addr} {n cap : Nat} {fs : List En} {w : World} (h : OwnE t base (.slice a n cap) fs w) : n = fs.length ∧ RowE w a cap fs := by
  obtain ⟨a', cap', e, hi⟩ := h.at
  injection e with e1 e2 e3
  subst e1; subst e3
  exact ⟨e2, hi⟩
set_option maxHeartbeats 4000000 in
set_option maxRecDepth 100000 in
theorem rsame_e (a1 a2 : Option Addr) (n c1 c2 : Nat) (fs : List En) (w : World) (hn : n = fs.length) (h1 : RowE w a1 c1 fs) (h2 : RowE w a2 c2 fs) :
    Calls Try.prog 15 #[.slice a1 n c1, .slice a2 n c2] w fun e w' => e = .returned (.bool true) ∧ Below w.heap.size w w' := by
  have hlen := h1.len
  rw [← hn] at hlen
  have HR1 := Lib.hid h1
  have HR2 := Lib.hid h2
  have HN := Lib.hid hn
  clear h1 h2 hn
  go_enter Try.func15, Try.ntmps15
  go_wp2_with fail
  go_loopw [5] (fun i wr => ∃ (k : Nat), k ≤ n ∧ i = .int .i64 k ∧ Hid (Below w.heap.size w wr)) (fun i _ => n - (intOf i).toNat)
  case atStart => exact ⟨0, Nat.zero_le _, rfl, Lib.hid (Below.refl _ _)⟩
  case round =>
    obtain ⟨k, hk, rfl, HB⟩ := hrel
    by_cases hlt : k < n
    · have hlt' : (k : Int) < (n : Int) := by omega
      obtain ⟨b1, f1, rfl, c0, c1, c2, c3⟩ := erow_cell HR1.out (j := k) (by rw [← HN.out]; exact hlt)
      replace c0 := (HB.out.cell (block_lt_of_cell c0)).trans c0
      replace c1 := (HB.out.cell (block_lt_of_cell c1)).trans c1
      replace c2 := (HB.out.cell (block_lt_of_cell c2)).trans c2
      replace c3 := (HB.out.cell (block_lt_of_cell c3)).trans c3
      obtain ⟨b2, f2, rfl, d0, d1, d2, d3⟩ := erow_cell HR2.out (j := k) (by rw [← HN.out]; exact hlt)
      replace d0 := (HB.out.cell (block_lt_of_cell d0)).trans d0
      replace d1 := (HB.out.cell (block_lt_of_cell d1)).trans d1
      replace d2 := (HB.out.cell (block_lt_of_cell d2)).trans d2
      replace d3 := (HB.out.cell (block_lt_of_cell d3)).trans d3
      generalize fs.getD k zeroE = z at c0 c1 c2 c3 d0 d1 d2 d3
      obtain ⟨ep, key, nx, bt⟩ := z
      dsimp only at c0 c1 c2 c3 d0 d1 d2 d3
      have hq := fun u => (show (binOp .neq 40 (.agg #[.int .i64 ep, .int .i64 key, .int .u64 nx, .int .u64 bt]) (.agg #[.int .i64 ep, .int .i64 key, .int .u64 nx, .int .u64 bt])).run Try.prog u = .ok (.bool false) u by have := neqQ ⟨ep, key, nx, bt⟩ ⟨ep, key, nx, bt⟩ u; rw [eqE_self] at this; exact this)
      have hg := guardQ
      go_wp2
      go_quiet (fail)
      go_wp2
      go_roundw
      case rel => exact ⟨k + 1, by omega, by go_num, Lib.hid (HB.out.trans ((drewN_b _ _).mono HB.out.size))⟩
      case measure => simp [intOf]; omega
    · obtain rfl : k = n := by omega
      clear hlt
      go_wp2
      go_ret
      exact ⟨rfl, HB.out⟩
set_option maxHeartbeats 400000 in
theorem wref_e (x y : Int) (w : World) : Calls Try.prog 28 #[.agg #[.int .u64 x, .int .u64 y]] w fun e w' => e = .returned (.agg #[.int .u64 x, .int .u64 y]) ∧ Below w.heap.size w w' := by
  go_enter Try.func28, Try.ntmps28
  go_wp2
  exact bodyPost_ret (v := .agg #[.int .u64 x, .int .u64 y]) (by simp [results, Try.results28, go_sem]) rfl ⟨rfl, (below_alloc w _).trans ((below_alloc _ _).mono (below_alloc w _).size)⟩
set_option maxHeartbeats 2000000 in
set_option maxRecDepth 100000 in
theorem one_e (ep key nx bt : Int) (w : World) : Calls Try.prog 12 #[.agg #[.int .i64 ep, .int .i64 key, .int .u64 nx, .int .u64 bt]] w fun e w' => e = .returned (.agg #[.int .i64 ep, .int .i64 key, .int .u64 nx, .int .u64 bt]) ∧ Below w.heap.size w w' := by
  obtain ⟨B1, hB1⟩ : ∃ B1, B1 = w.heap.size := ⟨_, rfl⟩
  obtain ⟨o0, ho0⟩ : ∃ o0, o0 = w.alloc (.cells #[.int .i64 ep, .int .i64 key, .int .u64 nx, .int .u64 bt] 33 : Obj) := ⟨_, rfl⟩
  obtain ⟨o1, ho1⟩ : ∃ o1, o1 = o0.alloc (.cells #[.int .i64 0, .int .i64 0, .int .u64 0, .int .u64 0] 40 : Obj) := ⟨_, rfl⟩
  obtain ⟨B2, hB2⟩ : ∃ B2, B2 = o0.heap.size := ⟨_, rfl⟩
  have hb12 : B1 + 1 = B2 := by rw [hB2, ho0, hB1]; simp
  have HO := Lib.hid (And.intro ho0 (And.intro ho1 (And.intro hB1 hb12)))
  have HBL : Hid (Below w.heap.size w o1) := Lib.hid (by rw [ho1, ho0]; exact (below_alloc w _).trans ((below_alloc _ _).mono (below_alloc w _).size))
  have k0 : o0.heap[B1]? = some (.cells #[.int .i64 ep, .int .i64 key, .int .u64 nx, .int .u64 bt] 33 (0, 0)) := by rw [ho0, hB1]; exact heap_alloc_new w _
  have HK1 : Hid (o1.drew.heap[B1]? = some (.cells #[.int .i64 ep, .int .i64 key, .int .u64 nx, .int .u64 bt] 33 (0, 0))) := Lib.hid (by rw [ho1]; exact ((below_alloc o0 _).block _ (blk_lt k0)).trans k0)
  have HK2 : Hid (o1.drew.heap[B2]? = some (.cells #[.int .i64 0, .int .i64 0, .int .u64 0, .int .u64 0] 40 (0, 0))) := Lib.hid (by rw [ho1, hB2]; exact heap_alloc_new o0 _)
  have hne : B2 ≠ B1 := by omega
  have HB2 : Hid (w.heap.size ≤ B2) := Lib.hid (by omega)
  have HR : Hid (∀ w, Calls Try.prog 28 #[.agg #[.int .u64 nx, .int .u64 bt]] w fun e w' => e = .returned (.agg #[.int .u64 nx, .int .u64 bt]) ∧ Below w.heap.size w w') := Lib.hid (wref_e nx bt)
  clear ho0 ho1 hB1 hB2 hb12 k0
  go_enter Try.func12, Try.ntmps12
  go_upto_region 1 with fail
  rw [← HO.out.1, ← HO.out.2.1, ← HO.out.2.2.1, HO.out.2.2.2]
  obtain ⟨r0, r1, r2, r3, _, _, _, _⟩ := cells4 HK1.out
  refine wp_region_held_drew (S := fun w' => w'.cell? ⟨B1, 0, none⟩ = some (.int .i64 ep) ∧ w'.cell? ⟨B1, 1, none⟩ = some (.int .i64 key) ∧ w'.cell? ⟨B1, 2, none⟩ = some (.int .u64 nx) ∧ w'.cell? ⟨B1, 3, none⟩ = some (.int .u64 bt)) (by kernel_rfl) ⟨r0, r1, r2, r3⟩ (fun hHeld => ?_)
  refine wpAnyH_take (i := 0) (oi := ?o701) (v := ?v701) ?i701 (by kernel_rfl) (by kernel_rfl) (by kernel_rfl) ?q701 (Or.inl ⟨?w701, ?y701⟩) (by assumption) ?r701
  case' i701 => simp only [List.getElem?_toArray, List.getElem?_cons_succ, List.getElem?_cons_zero]
  case i701 => rfl
  case q701 => exact fun _ _ _ h => h
  case w701 => rfl
  case y701 => (intro w hSw; obtain ⟨z0, z1, z2, z3⟩ := hSw; go_simp) <;> with_reducible rfl
  try simp only [Act.put, List.setIfInBounds_toArray, List.set_cons_zero, List.set_cons_succ]
  refine wpAnyH_take (i := 1) (oi := ?o702) (v := ?v702) ?i702 (by kernel_rfl) (by kernel_rfl) (by kernel_rfl) ?q702 (Or.inl ⟨?w702, ?y702⟩) (by assumption) ?r702
  case' i702 => simp only [List.getElem?_toArray, List.getElem?_cons_succ, List.getElem?_cons_zero]
  case i702 => rfl
  case q702 => exact fun _ _ _ h => h
  case w702 => rfl
  case y702 => (intro w hSw; obtain ⟨z0, z1, z2, z3⟩ := hSw; go_simp) <;> with_reducible rfl
  try simp only [Act.put, List.setIfInBounds_toArray, List.set_cons_zero, List.set_cons_succ]
  refine wpAnyH_take (i := 2) (oi := ?o703) (v := ?v703) ?i703 (by kernel_rfl) (by kernel_rfl) (by kernel_rfl) ?q703 (Or.inl ⟨?w703, ?y703⟩) (by assumption) ?r703
  case' i703 => simp only [List.getElem?_toArray, List.getElem?_cons_succ, List.getElem?_cons_zero]
  case i703 => rfl
  case q703 => exact fun _ _ _ h => h
  case w703 => rfl
  case y703 => (intro w hSw; obtain ⟨z0, z1, z2, z3⟩ := hSw; go_simp) <;> with_reducible rfl
  try simp only [Act.put, List.setIfInBounds_toArray, List.set_cons_zero, List.set_cons_succ]
  refine wpAnyH_take (i := 3) (oi := ?o704) (v := ?v704) ?i704 (by kernel_rfl) (by kernel_rfl) (by kernel_rfl) ?q704 (Or.inl ⟨?w704, ?y704⟩) (by assumption) ?r704
  case' i704 => simp only [List.getElem?_toArray, List.getElem?_cons_succ, List.getElem?_cons_zero]
  case i704 => rfl
  case q704 => exact fun _ _ _ h => h
  case w704 => rfl
  case y704 => (intro w hSw; obtain ⟨z0, z1, z2, z3⟩ := hSw; go_simp) <;> with_reducible rfl
  try simp only [Act.put, List.setIfInBounds_toArray, List.set_cons_zero, List.set_cons_succ]
  refine wpAnyH_take (i := 4) (oi := ?o705) (v := ?v705) ?i705 (by kernel_rfl) (by kernel_rfl) (by kernel_rfl) ?q705 (Or.inl ⟨?w705, ?y705⟩) (by assumption) ?r705
  case' i705 => simp only [List.getElem?_toArray, List.getElem?_cons_succ, List.getElem?_cons_zero]
  case i705 => rfl
  case q705 => exact fun _ _ _ h => h
  case w705 => rfl
  case y705 => (intro w hSw; obtain ⟨z0, z1, z2, z3⟩ := hSw; go_simp) <;> with_reducible rfl
  try simp only [Act.put, List.setIfInBounds_toArray, List.set_cons_zero, List.set_cons_succ]
  refine wpAnyH_take (i := 5) (oi := ?o706) (v := ?v706) ?i706 (by kernel_rfl) (by kernel_rfl) (by kernel_rfl) ?q706 (Or.inl ⟨?w706, ?y706⟩) (by assumption) ?r706
  case' i706 => simp only [List.getElem?_toArray, List.getElem?_cons_succ, List.getElem?_cons_zero]
  case i706 => rfl
  case q706 => exact fun _ _ _ h => h
  case w706 => rfl
  case y706 => (intro w hSw; obtain ⟨z0, z1, z2, z3⟩ := hSw; go_simp) <;> with_reducible rfl
  try simp only [Act.put, List.setIfInBounds_toArray, List.set_cons_zero, List.set_cons_succ]
  refine wpAnyH_ready (rs := [6]) (by kernel_rfl) (by simp) ?_
  refine AllReadyH.cons (o := ?o707) ?i707 (fun K' hK => ?_) AllReadyH.nil
  case' i707 => simp only [List.getElem?_toArray, List.getElem?_cons_succ, List.getElem?_cons_zero]
  case i707 => rfl
  go_simp
  go_at_call 28
  refine (HR.out _).mono ?_
  rintro e1 w2 ⟨rfl, hb2⟩
  have HB3 := Lib.hid (HBL.out.trans ((Below.trans (b := o1.drew) (drew_b o1) hb2).mono HBL.out.size))
  have HK12 : Hid (w2.heap[B1]? = some (.cells #[.int .i64 ep, .int .i64 key, .int .u64 nx, .int .u64 bt] 33 (0, 0))) := Lib.hid ((hb2.block _ (blk_lt HK1.out)).trans HK1.out)
  have HK22 : Hid (w2.heap[B2]? = some (.cells #[.int .i64 0, .int .i64 0, .int .u64 0, .int .u64 0] 40 (0, 0))) := Lib.hid ((hb2.block _ (blk_lt HK2.out)).trans HK2.out)
  clear hb2
  go_wp2_with fail
  refine hK.out _ _ ⟨(cells4 HK12.out).1, (cells4 HK12.out).2.1, (cells4 HK12.out).2.2.1, (cells4 HK12.out).2.2.2.1⟩ (fun hHeld => ?_)
  clear hK K'
  try simp only [Act.put, List.setIfInBounds_toArray, List.set_cons_zero, List.set_cons_succ]
  clear r0 r1 r2 r3
  refine wpAnyH_take (i := 7) (oi := ?o708) (v := ?v708) ?i708 (by kernel_rfl) (by kernel_rfl) (by kernel_rfl) ?q708 (Or.inl ⟨?w708, ?y708⟩) (by assumption) ?r708
  case' i708 => simp only [List.getElem?_toArray, List.getElem?_cons_succ, List.getElem?_cons_zero]
  case i708 => rfl
  case q708 => exact fun _ _ _ h => h
  case w708 => rfl
  case y708 => (intro w hSw; go_simp) <;> with_reducible rfl
  try simp only [Act.put, List.setIfInBounds_toArray, List.set_cons_zero, List.set_cons_succ]
  obtain ⟨s0, s1, s2, s3, t0, t1, t2, t3⟩ := cells4 HK22.out
  have hoth : ((((w2.setCell ⟨B2, 0, none⟩ (.int .i64 ep)).setCell ⟨B2, 1, none⟩ (.int .i64 key)).setCell ⟨B2, 2, none⟩ (.int .u64 nx)).setCell ⟨B2, 3, none⟩ (.int .u64 bt)).heap[B1]? = w2.heap[B1]? := four_other hne.symm
  have HK13 := Lib.hid (hoth.trans HK12.out)
  clear hoth
  refine wpAnyH_ready (rs := [8]) (by kernel_rfl) (by simp) ?_
  refine AllReadyH.cons (o := ?o709) ?i709 (fun K' hK => ?_) AllReadyH.nil
  case' i709 => simp only [List.getElem?_toArray, List.getElem?_cons_succ, List.getElem?_cons_zero]
  case i709 => rfl
  go_simp
  refine hK.out _ _ ⟨(cells4 HK13.out).1, (cells4 HK13.out).2.1, (cells4 HK13.out).2.2.1, (cells4 HK13.out).2.2.2.1⟩ (fun hHeld => ?_)
  clear hK K'
  try simp only [Act.put, List.setIfInBounds_toArray, List.set_cons_zero, List.set_cons_succ]
  refine wpAnyH_done (by kernel_rfl) ?_ _
  clear hHeld
  have hr4 := four_set (a := .int .i64 ep) (b := .int .i64 key) (c := .int .u64 nx) (d := .int .u64 bt) HK22.out
  obtain ⟨u0, u1, u2, u3, _, _, _, _⟩ := cells4 hr4
  clear hr4 s0 s1 s2 s3 t0 t1 t2 t3
  go_wp2_with fail
  exact bodyPost_ret (v := .agg #[.int .i64 ep, .int .i64 key, .int .u64 nx, .int .u64 bt]) (by simp [results, Try.results12, go_sem, u0, u1, u2, u3]) rfl ⟨rfl, four_below HB3.out HB2.out _ _ _ _⟩
set_option maxHeartbeats 4000000 in
set_option maxRecDepth 100000 in
theorem refs_e (a : Option Addr) (n cap : Nat) (fs : List En) (w : World) (hn : n = fs.length) (h : RowE w a cap fs) (hm : n ≤ 1000) :
    Calls Try.prog 16 #[.agg #[.slice a n cap]] w fun e w' => ∃ v, e = .returned v ∧ NewE 40 w.heap.size v fs w' ∧ Below w.heap.size w w' := by
  have HN := Lib.hid hn
  obtain ⟨o0, ho0⟩ : ∃ o0, o0 = w.alloc (.cells #[.slice a n cap] 26 : Obj) := ⟨_, rfl⟩
  have hb0 : Below w.heap.size w o0 := by rw [ho0]; exact below_alloc _ _
  have HK : Hid (o0.heap[w.heap.size]? = some (.cells #[.slice a n cap] 26 (0, 0))) := Lib.hid (by rw [ho0]; exact heap_alloc_new w _)
  have HR1 : Hid (RowE o0 a cap fs) := Lib.hid (h.below hb0)
  have HO := Lib.hid ho0
  have HO0 : Hid (OwnE 40 o0.heap.size (.slice (some ⟨o0.heap.size, 0, none⟩) 0 0) (fs.take 0) (o0.alloc (.cells #[] 40))) := Lib.hid (OwnE.new _ _ (Nat.le_refl _))
  have HB0 : Hid (Below o0.heap.size o0 (o0.alloc (.cells #[] 40))) := Lib.hid (below_alloc _ _)
  have HBZ := Lib.hid hb0
  clear h hn ho0 hb0
  go_enter Try.func16, Try.ntmps16
  go_upto_region 1 with fail
  rw [← HO.out]
  go_wp2_with fail
  go_loopw [3, 4] (fun v i wr => ∃ (k : Nat), k ≤ n ∧ i = .int .i64 k ∧ Hid (OwnE 40 o0.heap.size v (fs.take k) wr) ∧ Hid (Below o0.heap.size o0 wr)) (fun _ i _ => n - (intOf i).toNat)
  case atStart => exact ⟨0, Nat.zero_le _, rfl, HO0, HB0⟩
  case round =>
    clear HO0 HB0
    obtain ⟨k, hk, rfl, HO1, HB⟩ := hrel
    obtain ⟨q0, _⟩ := cell1 ((HB.out.block _ (blk_lt HK.out)).trans HK.out)
    by_cases hlt : k < n
    · have hlt' : (k : Int) < (n : Int) := by omega
      obtain ⟨b1, f1, rfl, c0, c1, c2, c3⟩ := erow_cell HR1.out (j := k) (by rw [← HN.out]; exact hlt)
      replace c0 := (HB.out.cell (block_lt_of_cell c0)).trans c0
      replace c1 := (HB.out.cell (block_lt_of_cell c1)).trans c1
      replace c2 := (HB.out.cell (block_lt_of_cell c2)).trans c2
      replace c3 := (HB.out.cell (block_lt_of_cell c3)).trans c3
      have HT : Hid (fs.take (k + 1) = fs.take k ++ [fs.getD k zeroE]) := Lib.hid (take_getE (by rw [← HN.out]; exact hlt))
      have HL : Hid ((fs.take k).length + 1 < 100000) := Lib.hid (by rw [List.length_take]; omega)
      generalize fs.getD k zeroE = z at c0 c1 c2 c3 HT
      obtain ⟨ep, key, nx, bt⟩ := z
      dsimp only at c0 c1 c2 c3
      have HK1 := Lib.hid hlt
      clear hlt hk
      go_wp2_with fail
      refine (one_e ep key nx bt _).mono ?_
      rintro e w1 ⟨rfl, hb⟩
      have HO2 := Lib.hid (HO1.out.below hb)
      have HB1 := Lib.hid (HB.out.trans (hb.mono HB.out.size))
      clear hb c0 c1 c2 c3 HO1 HB q0
      go_wp2_with (at_builtin; refine wpList_appE rfl (.tmp 13) (.tmp 20) 27 40 Try.underlying27 infoQ rfl o0.heap.size _ (fs.take k) [(⟨ep, key, nx, bt⟩ : En)] _ rfl (HO2.out.below (below_alloc _ _)) w1.heap.size 0 1 1 rfl rfl (news_one w1 (⟨ep, key, nx, bt⟩ : En) _) (by decide) HL.out (by have := HB1.out.size; simp; omega) ?_; intro v' w2 hA; have HA := Lib.hid hA; clear hA)
      go_roundw
      case rel => exact ⟨k + 1, by have := HK1.out; omega, by go_num, Lib.hid (by rw [HT.out]; exact HA.out.own), Lib.hid (HB1.out.trans ((below_alloc w1 (.cells #[.int .i64 ep, .int .i64 key, .int .u64 nx, .int .u64 bt] 40)).mono HB1.out.size |>.trans HA.out.low))⟩
      case measure => have := HK1.out; simp [intOf]; omega
    · obtain rfl : k = n := by omega
      have HE : Hid (fs.take k = fs) := Lib.hid (by rw [List.take_of_length_le (by rw [← HN.out]; exact Nat.le_refl _)])
      clear hlt
      go_wp2_with fail
      go_ret
      exact ⟨_, rfl, by have := HO1.out; rw [HE.out] at this; exact this.newE.mono HBZ.out.size, HBZ.out.trans (HB.out.mono HBZ.out.size)⟩
def keyOf (l : List En) (k : Nat) : Int := (l.getD k zeroE).key
theorem keys_take {fs : List En} {k : Nat} (h : k < fs.length) : keysE (fs.take (k + 1)) = keysE (fs.take k) ++ [(fs.getD k zeroE).key] := by
  rw [take_getE h]; simp [keysE]
set_option maxHeartbeats 4000000 in
set_option maxRecDepth 100000 in
theorem rkeys_e (a : Option Addr) (n cap : Nat) (fs : List En) (w : World) (hn : n = fs.length) (h : RowE w a cap fs) (hm : n ≤ 1000) :
    Calls Try.prog 19 #[.slice a n cap] w fun e w' => ∃ v, e = .returned v ∧ Own 3 .i64 w.heap.size v (keysE fs) w' ∧ Below w.heap.size w w' := by
  have HR1 := Lib.hid h
  have HN := Lib.hid hn
  clear h hn
  have HO0 : Hid (Own 3 .i64 w.heap.size (.slice (some ⟨w.heap.size, 0, none⟩) 0 0) (keysE (fs.take 0)) (w.alloc (.cells #[] 3))) := Lib.hid (Own.new _ _ _ (Nat.le_refl _))
  have HB0 : Hid (Below w.heap.size w (w.alloc (.cells #[] 3))) := Lib.hid (below_alloc _ _)
  go_enter Try.func19, Try.ntmps19
  go_wp2_with fail
  go_loopw [3, 4] (fun v i wr => ∃ (k : Nat), k ≤ n ∧ i = .int .i64 k ∧ Hid (Own 3 .i64 w.heap.size v (keysE (fs.take k)) wr) ∧ Hid (Below w.heap.size w wr)) (fun _ i _ => n - (intOf i).toNat)
  case atStart => exact ⟨0, Nat.zero_le _, rfl, HO0, HB0⟩
  case round =>
    clear HO0 HB0
    obtain ⟨k, hk, rfl, HO, HB⟩ := hrel
    by_cases hlt : k < n
    · have hlt' : (k : Int) < (n : Int) := by omega
      obtain ⟨b1, f1, rfl, c0, c1, c2, c3⟩ := erow_cell HR1.out (j := k) (by rw [← HN.out]; exact hlt)
      replace c1 := (HB.out.cell (block_lt_of_cell c1)).trans c1
      have HT : Hid (keysE (fs.take (k + 1)) = keysE (fs.take k) ++ [(fs.getD k zeroE).key]) := Lib.hid (keys_take (by rw [← HN.out]; exact hlt))
      have HL : Hid ((keysE (fs.take k)).length < 100000) := Lib.hid (by simp [keysE]; omega)
      generalize fs.getD k zeroE = z at c1 HT
      obtain ⟨ep, key, nx, bt⟩ := z
      dsimp only at c1 HT
      have HK1 := Lib.hid hlt
      clear hlt hk c0 c2 c3
      go_wp2_with (at_builtin; refine wpList_app rfl (.tmp 12) (.tmp 18) 51 3 .i64 8 Try.underlying51 infoI (by decide) rfl w.heap.size _ (keysE (fs.take k)) key _ rfl (HO.out.below (below_alloc _ _)) wr.heap.size 1 rfl (heap_alloc_new wr _) HL.out (by have := HB.out.size; simp; omega) ?_; intro v' w2 hA; have HA := Lib.hid hA; clear hA)
      go_roundw
      case rel => exact ⟨k + 1, by have := HK1.out; omega, by go_num, Lib.hid (by rw [HT.out]; exact HA.out.own), Lib.hid (HB.out.trans ((below_alloc wr (.cells #[.int .i64 key] 3)).mono HB.out.size |>.trans HA.out.low))⟩
      case measure => have := HK1.out; simp [intOf]; omega
    · obtain rfl : k = n := by omega
      have HE : Hid (fs.take k = fs) := Lib.hid (by rw [List.take_of_length_le (by rw [← HN.out]; exact Nat.le_refl _)])
      clear hlt
      go_wp2
      go_ret
      exact ⟨_, rfl, by have := HO.out; rw [HE.out] at this; exact this, HB.out⟩
end Go.Proofs.Ytpbcndbmmphngaa
