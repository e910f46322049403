/- The calls whose answers the document fixes. -/
import Derived.Test.YtifpahjlmnimnaaMsgL
namespace Go.Proofs.Ytifpahjlmnimnaa
open Go.RowKit
set_option linter.unusedVariables false
set_option linter.unusedSimpArgs false
set_option maxRecDepth 100000

def dM : Ms := ⟨fun j => match j with | 0 => 4 | 2 => 5 | 9 => 300 | 12 => 2 | _ => 0, ⟨#[]⟩⟩
def iM : Ms := ⟨fun j => match j with | 0 => 1 | 1 => 7 | 4 => 1 | 6 => 1 | 7 => 2 | 8 => 3 | 9 => 4 | 10 => 5 | _ => 0, ⟨#[2, 1]⟩⟩
def dE : Ms := ⟨fun j => match j with | 0 => 4 | 2 => 5 | 6 => 1 | 9 => 300 | 12 => 2 | _ => 0, ⟨#[]⟩⟩
theorem dM_norm : Norm dM := fun j hj => by
  match j, hj with
  | 0, h => omega
  | 1, h => omega
  | 2, h => omega
  | 3, _ => rfl
  | 4, h => omega
  | 5, h => omega
  | 6, h => omega
  | 7, h => omega
  | 8, h => omega
  | 9, h => omega
  | 10, h => omega
  | 11, h => omega
  | 12, h => omega
  | n + 13, _ => rfl
theorem iM_norm : Norm iM := fun j hj => by
  match j, hj with
  | 0, h => omega
  | 1, h => omega
  | 2, h => omega
  | 3, _ => rfl
  | 4, h => omega
  | 5, h => omega
  | 6, h => omega
  | 7, h => omega
  | 8, h => omega
  | 9, h => omega
  | 10, h => omega
  | 11, h => omega
  | 12, h => omega
  | n + 13, _ => rfl
theorem dM_right : rightM dM = true := (right4_iff dM rfl).2 ⟨by decide, by decide, by decide, by decide, rfl, rfl, rfl, rfl, rfl, rfl, rfl, rfl⟩
theorem iM_right : rightM iM = true := (right1_iff iM rfl).2 ⟨by decide, by decide +kernel, by decide, by decide, by decide, by decide, by decide, by decide, rfl, rfl, rfl, rfl⟩
theorem dE_right : rightM dE = false := by
  cases h : rightM dE with
  | false => rfl
  | true => exact absurd ((right4_iff dE rfl).1 h).2.2.2.2.2.2.2.2.1 (by decide)
theorem zero_right : rightM (zeroM 0) = false := right_nofds rfl
theorem dM_wf : dM.Wf := right_wf dM_right
theorem iM_wf : iM.Wf := right_wf iM_right
theorem dE_wf : dE.Wf := ⟨fun j hj => by
  simp only [nCell, Bool.and_eq_true, decide_eq_true_eq, Bool.not_eq_true', beq_eq_false_iff_ne, ne_eq] at hj
  match j, hj with
  | 0, _ => rfl
  | 1, _ => rfl
  | 2, _ => rfl
  | 3, h => exact absurd rfl h.2
  | 4, _ => rfl
  | 5, _ => rfl
  | 6, _ => rfl
  | 7, _ => rfl
  | 8, _ => rfl
  | 9, _ => rfl
  | 10, _ => rfl
  | 11, _ => rfl
  | 12, _ => rfl
  | n + 13, h => omega, by decide⟩
theorem dM_enc : encM dM = ⟨#[4, 5, 0, 2, 130, 44]⟩ := by
  apply list_ext
  rw [enc_list dM_right]
  decide +kernel
theorem iM_enc : encM iM = ⟨#[1, 7, 2, 2, 1, 1, 1, 2, 3, 4, 5]⟩ := by
  apply list_ext
  rw [enc_list iM_right]
  decide +kernel
theorem dM_dec : decM ⟨#[4, 5, 0, 2, 130, 44]⟩ = (dM, 0) := by rw [← dM_enc]; exact dec_enc dM_norm dM_right
theorem iM_dec : decM ⟨#[1, 7, 2, 2, 1, 1, 1, 2, 3, 4, 5]⟩ = (iM, 0) := by rw [← iM_enc]; exact dec_enc iM_norm iM_right
theorem ix_dec : decM (⟨#[1, 7, 2, 2, 1, 1, 1, 2, 3, 4, 5]⟩ ++ ⟨#[120]⟩) = (zeroM 0, 3) := dec_more iM_norm iM_right _ 120 (by rw [iM_enc, app_list])
theorem eql_d (w : World) : (binOp .eql 24 (.agg #[.int .i64 4, .int .u64 0, .int .u64 5, .string ⟨#[]⟩, .int .i64 0, .int .i64 0, .int .i64 0, .int .i64 0, .int .i64 0, .int .i64 300, .int .i64 0, .int .u64 0, .int .u64 2]) (.agg #[.int .i64 4, .int .u64 0, .int .u64 5, .string ⟨#[]⟩, .int .i64 0, .int .i64 0, .int .i64 0, .int .i64 0, .int .i64 0, .int .i64 300, .int .i64 0, .int .u64 0, .int .u64 2])).run Try.prog w = .ok (.bool true) w := by
  have := eqlP dM dM w
  rw [eqM_self] at this
  exact this
theorem eql_i (w : World) : (binOp .eql 24 (.agg #[.int .i64 1, .int .u64 7, .int .u64 0, .string ⟨#[2, 1]⟩, .int .i64 1, .int .i64 0, .int .i64 1, .int .i64 2, .int .i64 3, .int .i64 4, .int .i64 5, .int .u64 0, .int .u64 0]) (.agg #[.int .i64 1, .int .u64 7, .int .u64 0, .string ⟨#[2, 1]⟩, .int .i64 1, .int .i64 0, .int .i64 1, .int .i64 2, .int .i64 3, .int .i64 4, .int .i64 5, .int .u64 0, .int .u64 0])).run Try.prog w = .ok (.bool true) w := by
  have := eqlP iM iM w
  rw [eqM_self] at this
  exact this
theorem a5_dec : decM ⟨#[5]⟩ = (zeroM 0, 3) := by kernel_rfl
theorem a45_dec : decM ⟨#[4, 5]⟩ = (zeroM 0, 2) := by kernel_rfl
theorem a350_dec : decM ⟨#[3, 5, 0]⟩ = (zeroM 0, 3) := by kernel_rfl

theorem decode_l (s : ByteArray) (w : World) (hs : s.size ≤ 1000000) (M : Ms) (E : Nat) (er : Int) (cs : Array Value) (hd : decM s = (M, E)) (he : (E : Int) = er) (hc : M.cl = cs) :
    Calls Try.prog 10 #[.string s] w fun e w' => e = .returned (.tuple #[.agg cs, .int .i64 er]) ∧ Below w.heap.size w w' := by
  subst he hc
  exact decode_k s w hs M E (Lib.hid hd)
theorem rdecode_l (s : ByteArray) (w : World) (hs : s.size ≤ 1000000) (M : Ms) (E : Nat) (er : Int) (cs : Array Value) (hd : decM s = (M, E)) (he : (E : Int) = er) (hc : M.cl = cs) :
    Calls Try.prog 11 #[.string s] w fun e w' => e = .returned (.tuple #[.agg cs, .int .i64 er]) ∧ Below w.heap.size w w' := by
  subst he hc
  exact rdecode_k s w hs M E (Lib.hid hd)
theorem same_p (v : Value) (a2 : Option Addr) (n c2 : Nat) (zs : List Int) (w : World) (hn : n = zs.length) (h1 : ∃ a c, v = .slice a n c ∧ RowAt .i64 w a c zs) (h2 : RowAt .i64 w a2 c2 zs) :
    Calls Try.prog 17 #[v, .slice a2 n c2] w fun e w' => e = .returned (.bool true) ∧ Below w.heap.size w w' := by
  obtain ⟨a, c, rfl, h1⟩ := h1
  exact same_true a a2 n c c2 zs w hn h1 h2
set_option maxHeartbeats 8000000 in
theorem fixed_any (w : World) :
    Calls Try.prog 20 #[] w fun e w' => e = .returned (.bool true) ∧ Below w.heap.size w w' := by
  go_enter Try.func20, Try.ntmps20
  have HBB : Hid (Below w.heap.size w w) := Lib.hid (Below.refl _ _)
  go_wp2_with fail
  obtain ⟨u0, hu0⟩ : ∃ x, x = (w.alloc (.cells #[.int .i64 4, .int .u64 0, .int .u64 5, .string ⟨#[]⟩, .int .i64 0, .int .i64 0, .int .i64 0, .int .i64 0, .int .i64 0, .int .i64 300, .int .i64 0, .int .u64 0, .int .u64 2] 24)).alloc (.cells #[.int .i64 1, .int .u64 7, .int .u64 0, .string ⟨#[2, 1]⟩, .int .i64 1, .int .i64 0, .int .i64 1, .int .i64 2, .int .i64 3, .int .i64 4, .int .i64 5, .int .u64 0, .int .u64 0] 24) := ⟨_, rfl⟩
  have Hd : Hid (MsgAt u0 w.heap.size dM) := Lib.hid (by
    rw [hu0]
    exact MsgAt.below (show MsgAt (w.alloc _) w.heap.size dM from heap_alloc_new w _) (below_alloc _ _))
  have Hi : Hid (MsgAt u0 (w.heap.size + 1) iM) := Lib.hid (by
    rw [hu0]
    have := heap_alloc_new (w.alloc (.cells #[.int .i64 4, .int .u64 0, .int .u64 5, .string ⟨#[]⟩, .int .i64 0, .int .i64 0, .int .i64 0, .int .i64 0, .int .i64 0, .int .i64 300, .int .i64 0, .int .u64 0, .int .u64 2] 24)) (.cells #[.int .i64 1, .int .u64 7, .int .u64 0, .string ⟨#[2, 1]⟩, .int .i64 1, .int .i64 0, .int .i64 1, .int .i64 2, .int .i64 3, .int .i64 4, .int .i64 5, .int .u64 0, .int .u64 0] 24)
    rw [size_alloc] at this
    exact this)
  replace HBB : Hid (Below w.heap.size w u0) := Lib.hid (by rw [hu0]; exact ((Below.refl _ _).alloc (Nat.le_refl _) _).alloc (by simp) _)
  rw [← hu0]
  clear hu0
  obtain ⟨qd, hqd⟩ : ∃ q, q = w.heap.size := ⟨_, rfl⟩
  obtain ⟨qi, hqi⟩ : ∃ q, q = w.heap.size + 1 := ⟨_, rfl⟩
  rw [← hqd] at Hd
  rw [← hqi] at Hi
  rw [← hqi, ← hqd]
  clear hqi hqd
  refine (enc_k iM _ iM_wf _ (Lib.hid iM_enc)).mono ?_
  rintro e w1 ⟨rfl, hb⟩
  replace Hd := Lib.hid (Hd.out.below hb)
  replace Hi := Lib.hid (Hi.out.below hb)
  replace HBB := Lib.hid (HBB.out.trans (hb.mono HBB.out.size))
  clear hb
  go_wp2_with fail
  refine (decode_l _ _ (by decide) _ _ 0 #[.int .i64 4, .int .u64 0, .int .u64 5, .string ⟨#[]⟩, .int .i64 0, .int .i64 0, .int .i64 0, .int .i64 0, .int .i64 0, .int .i64 300, .int .i64 0, .int .u64 0, .int .u64 2] dM_dec rfl rfl).mono ?_
  rintro e w2 ⟨rfl, hb⟩
  replace Hd := Lib.hid (Hd.out.below hb)
  replace Hi := Lib.hid (Hi.out.below hb)
  replace HBB := Lib.hid (HBB.out.trans (hb.mono HBB.out.size))
  clear hb
  go_wp2_with fail
  obtain ⟨u3, hu3⟩ : ∃ x, x = w2.alloc (.cells #[.int .i64 4, .int .u64 0, .int .u64 5, .string ⟨#[]⟩, .int .i64 0, .int .i64 0, .int .i64 0, .int .i64 0, .int .i64 0, .int .i64 300, .int .i64 0, .int .u64 0, .int .u64 2] 24) := ⟨_, rfl⟩
  have Ha : Hid (MsgAt u3 w2.heap.size dM) := Lib.hid (by rw [hu3]; exact heap_alloc_new w2 _)
  replace Hd := Lib.hid (Hd.out.below (show Below w2.heap.size w2 u3 by rw [hu3]; exact below_alloc _ _))
  replace Hi := Lib.hid (Hi.out.below (show Below w2.heap.size w2 u3 by rw [hu3]; exact below_alloc _ _))
  have HQa : Hid (w.heap.size ≤ w2.heap.size) := Lib.hid HBB.out.size
  replace HBB := Lib.hid (HBB.out.trans ((show Below w2.heap.size w2 u3 by rw [hu3]; exact below_alloc _ _).mono HBB.out.size))
  rw [← hu3]
  clear hu3
  obtain ⟨qa, hqa⟩ : ∃ q, q = w2.heap.size := ⟨_, rfl⟩
  rw [← hqa] at Ha HQa
  rw [← hqa]
  clear hqa
  refine (decode_l _ _ (by decide) _ _ 0 #[.int .i64 1, .int .u64 7, .int .u64 0, .string ⟨#[2, 1]⟩, .int .i64 1, .int .i64 0, .int .i64 1, .int .i64 2, .int .i64 3, .int .i64 4, .int .i64 5, .int .u64 0, .int .u64 0] iM_dec rfl rfl).mono ?_
  rintro e w4 ⟨rfl, hb⟩
  replace Hd := Lib.hid (Hd.out.below hb)
  replace Hi := Lib.hid (Hi.out.below hb)
  replace Ha := Lib.hid (Ha.out.below hb)
  replace HBB := Lib.hid (HBB.out.trans (hb.mono HBB.out.size))
  clear hb
  go_wp2_with fail
  obtain ⟨u5, hu5⟩ : ∃ x, x = w4.alloc (.cells #[.int .i64 1, .int .u64 7, .int .u64 0, .string ⟨#[2, 1]⟩, .int .i64 1, .int .i64 0, .int .i64 1, .int .i64 2, .int .i64 3, .int .i64 4, .int .i64 5, .int .u64 0, .int .u64 0] 24) := ⟨_, rfl⟩
  have Hb : Hid (MsgAt u5 w4.heap.size iM) := Lib.hid (by rw [hu5]; exact heap_alloc_new w4 _)
  replace Hd := Lib.hid (Hd.out.below (show Below w4.heap.size w4 u5 by rw [hu5]; exact below_alloc _ _))
  replace Hi := Lib.hid (Hi.out.below (show Below w4.heap.size w4 u5 by rw [hu5]; exact below_alloc _ _))
  replace Ha := Lib.hid (Ha.out.below (show Below w4.heap.size w4 u5 by rw [hu5]; exact below_alloc _ _))
  have HQb : Hid (w.heap.size ≤ w4.heap.size) := Lib.hid HBB.out.size
  replace HBB := Lib.hid (HBB.out.trans ((show Below w4.heap.size w4 u5 by rw [hu5]; exact below_alloc _ _).mono HBB.out.size))
  rw [← hu5]
  clear hu5
  obtain ⟨qb, hqb⟩ : ∃ q, q = w4.heap.size := ⟨_, rfl⟩
  rw [← hqb] at Hb HQb
  rw [← hqb]
  clear hqb
  refine (decode_l _ _ (by decide) _ _ 3 #[.int .i64 0, .int .u64 0, .int .u64 0, .string ⟨#[]⟩, .int .i64 0, .int .i64 0, .int .i64 0, .int .i64 0, .int .i64 0, .int .i64 0, .int .i64 0, .int .u64 0, .int .u64 0] ix_dec rfl rfl).mono ?_
  rintro e w6 ⟨rfl, hb⟩
  replace Hd := Lib.hid (Hd.out.below hb)
  replace Hi := Lib.hid (Hi.out.below hb)
  replace Ha := Lib.hid (Ha.out.below hb)
  replace Hb := Lib.hid (Hb.out.below hb)
  replace HBB := Lib.hid (HBB.out.trans (hb.mono HBB.out.size))
  clear hb
  go_wp2_with fail
  obtain ⟨u7, hu7⟩ : ∃ x, x = w6.alloc (.cells #[.int .i64 0, .int .u64 0, .int .u64 0, .string ⟨#[]⟩, .int .i64 0, .int .i64 0, .int .i64 0, .int .i64 0, .int .i64 0, .int .i64 0, .int .i64 0, .int .u64 0, .int .u64 0] 24) := ⟨_, rfl⟩
  have Hc : Hid (MsgAt u7 w6.heap.size (zeroM 0)) := Lib.hid (by rw [hu7]; exact heap_alloc_new w6 _)
  replace Hd := Lib.hid (Hd.out.below (show Below w6.heap.size w6 u7 by rw [hu7]; exact below_alloc _ _))
  replace Hi := Lib.hid (Hi.out.below (show Below w6.heap.size w6 u7 by rw [hu7]; exact below_alloc _ _))
  replace Ha := Lib.hid (Ha.out.below (show Below w6.heap.size w6 u7 by rw [hu7]; exact below_alloc _ _))
  replace Hb := Lib.hid (Hb.out.below (show Below w6.heap.size w6 u7 by rw [hu7]; exact below_alloc _ _))
  have HQc : Hid (w.heap.size ≤ w6.heap.size) := Lib.hid HBB.out.size
  replace HBB := Lib.hid (HBB.out.trans ((show Below w6.heap.size w6 u7 by rw [hu7]; exact below_alloc _ _).mono HBB.out.size))
  rw [← hu7]
  clear hu7
  obtain ⟨qc, hqc⟩ : ∃ q, q = w6.heap.size := ⟨_, rfl⟩
  rw [← hqc] at Hc HQc
  rw [← hqc]
  clear hqc
  refine (decode_l _ _ (by decide) _ _ 3 #[.int .i64 0, .int .u64 0, .int .u64 0, .string ⟨#[]⟩, .int .i64 0, .int .i64 0, .int .i64 0, .int .i64 0, .int .i64 0, .int .i64 0, .int .i64 0, .int .u64 0, .int .u64 0] a5_dec rfl rfl).mono ?_
  rintro e w8 ⟨rfl, hb⟩
  replace Hd := Lib.hid (Hd.out.below hb)
  replace Hi := Lib.hid (Hi.out.below hb)
  replace Ha := Lib.hid (Ha.out.below hb)
  replace Hb := Lib.hid (Hb.out.below hb)
  replace HBB := Lib.hid (HBB.out.trans (hb.mono HBB.out.size))
  clear hb
  go_wp2_with fail
  obtain ⟨u9, hu9⟩ : ∃ x, x = w8.alloc (.cells #[.int .i64 0, .int .u64 0, .int .u64 0, .string ⟨#[]⟩, .int .i64 0, .int .i64 0, .int .i64 0, .int .i64 0, .int .i64 0, .int .i64 0, .int .i64 0, .int .u64 0, .int .u64 0] 24) := ⟨_, rfl⟩
  have Hf : Hid (MsgAt u9 w8.heap.size (zeroM 0)) := Lib.hid (by rw [hu9]; exact heap_alloc_new w8 _)
  replace Hd := Lib.hid (Hd.out.below (show Below w8.heap.size w8 u9 by rw [hu9]; exact below_alloc _ _))
  replace Hi := Lib.hid (Hi.out.below (show Below w8.heap.size w8 u9 by rw [hu9]; exact below_alloc _ _))
  replace Ha := Lib.hid (Ha.out.below (show Below w8.heap.size w8 u9 by rw [hu9]; exact below_alloc _ _))
  replace Hb := Lib.hid (Hb.out.below (show Below w8.heap.size w8 u9 by rw [hu9]; exact below_alloc _ _))
  have HQf : Hid (w.heap.size ≤ w8.heap.size) := Lib.hid HBB.out.size
  replace HBB := Lib.hid (HBB.out.trans ((show Below w8.heap.size w8 u9 by rw [hu9]; exact below_alloc _ _).mono HBB.out.size))
  rw [← hu9]
  clear hu9
  obtain ⟨qf, hqf⟩ : ∃ q, q = w8.heap.size := ⟨_, rfl⟩
  rw [← hqf] at Hf HQf
  rw [← hqf]
  clear hqf
  refine (decode_l _ _ (by decide) _ _ 2 #[.int .i64 0, .int .u64 0, .int .u64 0, .string ⟨#[]⟩, .int .i64 0, .int .i64 0, .int .i64 0, .int .i64 0, .int .i64 0, .int .i64 0, .int .i64 0, .int .u64 0, .int .u64 0] a45_dec rfl rfl).mono ?_
  rintro e w10 ⟨rfl, hb⟩
  replace Hd := Lib.hid (Hd.out.below hb)
  replace Hi := Lib.hid (Hi.out.below hb)
  replace Ha := Lib.hid (Ha.out.below hb)
  replace Hb := Lib.hid (Hb.out.below hb)
  replace HBB := Lib.hid (HBB.out.trans (hb.mono HBB.out.size))
  clear hb
  go_wp2_with fail
  obtain ⟨u11, hu11⟩ : ∃ x, x = w10.alloc (.cells #[.int .i64 0, .int .u64 0, .int .u64 0, .string ⟨#[]⟩, .int .i64 0, .int .i64 0, .int .i64 0, .int .i64 0, .int .i64 0, .int .i64 0, .int .i64 0, .int .u64 0, .int .u64 0] 24) := ⟨_, rfl⟩
  have Hg : Hid (MsgAt u11 w10.heap.size (zeroM 0)) := Lib.hid (by rw [hu11]; exact heap_alloc_new w10 _)
  replace Hd := Lib.hid (Hd.out.below (show Below w10.heap.size w10 u11 by rw [hu11]; exact below_alloc _ _))
  replace Hi := Lib.hid (Hi.out.below (show Below w10.heap.size w10 u11 by rw [hu11]; exact below_alloc _ _))
  replace Ha := Lib.hid (Ha.out.below (show Below w10.heap.size w10 u11 by rw [hu11]; exact below_alloc _ _))
  replace Hb := Lib.hid (Hb.out.below (show Below w10.heap.size w10 u11 by rw [hu11]; exact below_alloc _ _))
  have HQg : Hid (w.heap.size ≤ w10.heap.size) := Lib.hid HBB.out.size
  replace HBB := Lib.hid (HBB.out.trans ((show Below w10.heap.size w10 u11 by rw [hu11]; exact below_alloc _ _).mono HBB.out.size))
  rw [← hu11]
  clear hu11
  obtain ⟨qg, hqg⟩ : ∃ q, q = w10.heap.size := ⟨_, rfl⟩
  rw [← hqg] at Hg HQg
  rw [← hqg]
  clear hqg
  refine (decode_l _ _ (by decide) _ _ 3 #[.int .i64 0, .int .u64 0, .int .u64 0, .string ⟨#[]⟩, .int .i64 0, .int .i64 0, .int .i64 0, .int .i64 0, .int .i64 0, .int .i64 0, .int .i64 0, .int .u64 0, .int .u64 0] a350_dec rfl rfl).mono ?_
  rintro e w12 ⟨rfl, hb⟩
  replace Hd := Lib.hid (Hd.out.below hb)
  replace Hi := Lib.hid (Hi.out.below hb)
  replace Ha := Lib.hid (Ha.out.below hb)
  replace Hb := Lib.hid (Hb.out.below hb)
  replace HBB := Lib.hid (HBB.out.trans (hb.mono HBB.out.size))
  clear hb
  obtain ⟨k0, k1, k2, k3, k4, k5, k6, k7, k8, k9, k10, k11, k12⟩ := (show MsgAt (w12.alloc (.cells #[.int .i64 0, .int .u64 0, .int .u64 0, .string ⟨#[]⟩, .int .i64 0, .int .i64 0, .int .i64 0, .int .i64 0, .int .i64 0, .int .i64 0, .int .i64 0, .int .u64 0, .int .u64 0] 24)) qd dM from Hd.out.below (below_alloc _ _)).cells
  go_wp2_with fail
  clear k0 k1 k2 k3 k4 k5 k6 k7 k8 k9 k10 k11 k12
  obtain ⟨u13, hu13⟩ : ∃ x, x = w12.alloc (.cells #[.int .i64 0, .int .u64 0, .int .u64 0, .string ⟨#[]⟩, .int .i64 0, .int .i64 0, .int .i64 0, .int .i64 0, .int .i64 0, .int .i64 0, .int .i64 0, .int .u64 0, .int .u64 0] 24) := ⟨_, rfl⟩
  have Hh : Hid (MsgAt u13 w12.heap.size (zeroM 0)) := Lib.hid (by rw [hu13]; exact heap_alloc_new w12 _)
  replace Hd := Lib.hid (Hd.out.below (show Below w12.heap.size w12 u13 by rw [hu13]; exact below_alloc _ _))
  replace Hi := Lib.hid (Hi.out.below (show Below w12.heap.size w12 u13 by rw [hu13]; exact below_alloc _ _))
  replace Ha := Lib.hid (Ha.out.below (show Below w12.heap.size w12 u13 by rw [hu13]; exact below_alloc _ _))
  replace Hb := Lib.hid (Hb.out.below (show Below w12.heap.size w12 u13 by rw [hu13]; exact below_alloc _ _))
  have HQh : Hid (w.heap.size ≤ w12.heap.size) := Lib.hid HBB.out.size
  replace HBB := Lib.hid (HBB.out.trans ((show Below w12.heap.size w12 u13 by rw [hu13]; exact below_alloc _ _).mono HBB.out.size))
  rw [← hu13]
  clear hu13
  obtain ⟨qh, hqh⟩ : ∃ q, q = w12.heap.size := ⟨_, rfl⟩
  rw [← hqh] at Hh HQh
  rw [← hqh]
  clear hqh
  refine (enc_k dM _ dM_wf _ (Lib.hid dM_enc)).mono ?_
  rintro e w14 ⟨rfl, hb⟩
  replace Hd := Lib.hid (Hd.out.below hb)
  replace Hi := Lib.hid (Hi.out.below hb)
  replace Ha := Lib.hid (Ha.out.below hb)
  replace Hb := Lib.hid (Hb.out.below hb)
  replace HBB := Lib.hid (HBB.out.trans (hb.mono HBB.out.size))
  clear hb
  have ed := fun u => (show (binOp .eql 24 (.agg #[.int .i64 (dM.i 0), .int .u64 (dM.i 1), .int .u64 (dM.i 2), .string dM.s, .int .i64 (dM.i 4), .int .i64 (dM.i 5), .int .i64 (dM.i 6), .int .i64 (dM.i 7), .int .i64 (dM.i 8), .int .i64 (dM.i 9), .int .i64 (dM.i 10), .int .u64 (dM.i 11), .int .u64 (dM.i 12)]) (.agg #[.int .i64 (dM.i 0), .int .u64 (dM.i 1), .int .u64 (dM.i 2), .string dM.s, .int .i64 (dM.i 4), .int .i64 (dM.i 5), .int .i64 (dM.i 6), .int .i64 (dM.i 7), .int .i64 (dM.i 8), .int .i64 (dM.i 9), .int .i64 (dM.i 10), .int .u64 (dM.i 11), .int .u64 (dM.i 12)])).run Try.prog u = .ok (.bool true) u from eql_d u)
  have ei := fun u => (show (binOp .eql 24 (.agg #[.int .i64 (iM.i 0), .int .u64 (iM.i 1), .int .u64 (iM.i 2), .string iM.s, .int .i64 (iM.i 4), .int .i64 (iM.i 5), .int .i64 (iM.i 6), .int .i64 (iM.i 7), .int .i64 (iM.i 8), .int .i64 (iM.i 9), .int .i64 (iM.i 10), .int .u64 (iM.i 11), .int .u64 (iM.i 12)]) (.agg #[.int .i64 (iM.i 0), .int .u64 (iM.i 1), .int .u64 (iM.i 2), .string iM.s, .int .i64 (iM.i 4), .int .i64 (iM.i 5), .int .i64 (iM.i 6), .int .i64 (iM.i 7), .int .i64 (iM.i 8), .int .i64 (iM.i 9), .int .i64 (iM.i 10), .int .u64 (iM.i 11), .int .u64 (iM.i 12)])).run Try.prog u = .ok (.bool true) u from eql_i u)
  obtain ⟨kd0, kd1, kd2, kd3, kd4, kd5, kd6, kd7, kd8, kd9, kd10, kd11, kd12⟩ := Hd.out.cells
  obtain ⟨ka0, ka1, ka2, ka3, ka4, ka5, ka6, ka7, ka8, ka9, ka10, ka11, ka12⟩ := Ha.out.cells
  obtain ⟨kb0, kb1, kb2, kb3, kb4, kb5, kb6, kb7, kb8, kb9, kb10, kb11, kb12⟩ := Hb.out.cells
  obtain ⟨ki0, ki1, ki2, ki3, ki4, ki5, ki6, ki7, ki8, ki9, ki10, ki11, ki12⟩ := Hi.out.cells
  go_wp2_with fail
  clear kd0 kd1 kd2 kd3 kd4 kd5 kd6 kd7 kd8 kd9 kd10 kd11 kd12
  clear ka0 ka1 ka2 ka3 ka4 ka5 ka6 ka7 ka8 ka9 ka10 ka11 ka12
  clear kb0 kb1 kb2 kb3 kb4 kb5 kb6 kb7 kb8 kb9 kb10 kb11 kb12
  clear ki0 ki1 ki2 ki3 ki4 ki5 ki6 ki7 ki8 ki9 ki10 ki11 ki12
  clear ed ei
  refine (right_k dM _ dM_wf true (Lib.hid dM_right)).mono ?_
  rintro e w15 ⟨rfl, hb⟩
  replace Hd := Lib.hid (Hd.out.below hb)
  replace Hi := Lib.hid (Hi.out.below hb)
  replace Ha := Lib.hid (Ha.out.below hb)
  replace Hb := Lib.hid (Hb.out.below hb)
  replace HBB := Lib.hid (HBB.out.trans (hb.mono HBB.out.size))
  clear hb
  go_wp2_with fail
  refine (right_k (zeroM 0) _ (zeroM_wf 0 (by decide)) false (Lib.hid zero_right)).mono ?_
  rintro e w16 ⟨rfl, hb⟩
  replace Hd := Lib.hid (Hd.out.below hb)
  replace Hi := Lib.hid (Hi.out.below hb)
  replace Ha := Lib.hid (Ha.out.below hb)
  replace Hb := Lib.hid (Hb.out.below hb)
  replace HBB := Lib.hid (HBB.out.trans (hb.mono HBB.out.size))
  clear hb
  go_wp2_with fail
  refine (right_k dE _ dE_wf false (Lib.hid dE_right)).mono ?_
  rintro e w17 ⟨rfl, hb⟩
  replace Hd := Lib.hid (Hd.out.below hb)
  replace Hi := Lib.hid (Hi.out.below hb)
  replace Ha := Lib.hid (Ha.out.below hb)
  replace Hb := Lib.hid (Hb.out.below hb)
  replace HBB := Lib.hid (HBB.out.trans (hb.mono HBB.out.size))
  clear hb
  obtain ⟨ki0, ki1, ki2, ki3, ki4, ki5, ki6, ki7, ki8, ki9, ki10, ki11, ki12⟩ := Hi.out.cells
  go_wp2_with fail
  clear ki0 ki1 ki2 ki3 ki4 ki5 ki6 ki7 ki8 ki9 ki10 ki11 ki12
  refine (names_l iM _ iM_wf).mono ?_
  rintro e w18 ⟨a, n, cap, rfl, hn, hr, hb⟩
  obtain rfl : n = 5 := hn
  have HR := Lib.hid hr
  clear hr
  replace Hd := Lib.hid (Hd.out.below hb)
  replace Hi := Lib.hid (Hi.out.below hb)
  replace Ha := Lib.hid (Ha.out.below hb)
  replace Hb := Lib.hid (Hb.out.below hb)
  replace HBB := Lib.hid (HBB.out.trans (hb.mono HBB.out.size))
  clear hb
  go_wp2_with fail
  refine (same_true a _ 5 cap 5 [1, 2, 3, 4, 5] _ rfl (HR.out.below (below_alloc _ _)) (lit_row .i64 3 w18 [1, 2, 3, 4, 5] (by decide))).mono ?_
  rintro e wz ⟨rfl, hb⟩
  have HE := Lib.hid (HBB.out.trans (((below_alloc _ _).trans (hb.mono (below_alloc _ _).size)).mono HBB.out.size))
  clear hb
  go_wp2_with fail
  go_ret
  exact ⟨rfl, HE.out⟩
end Go.Proofs.Ytifpahjlmnimnaa
