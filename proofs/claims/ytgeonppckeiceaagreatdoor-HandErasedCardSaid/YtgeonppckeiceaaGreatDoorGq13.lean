/- What the calls upon messages answer, as functions; messages compared. -/
/- The closure that hands out a message's fields; the program's Right. -/
/- What the calls of a handshake tell: messages, pending and opened handshakes, sessions, errors. -/
/- Plain facts: what is put is read back, what is cut off is too short, what is read is what is put of it. No program is named here. No conditions but that numbers are of 64 bits. -/
/- A handshake of two endpoints that know each other, whole: what each call tells where there is room. -/
import Derived.Test.YtgeonppckeiceaaGreatDoorGq11
import Derived.Deep.AppendLies
import Derived.Laws.StructEq
import Derived.Test.YtgeonppckeiceaaGreatDoorGq01
import Derived.Test.YtgeonppckeiceaaGreatDoorGq12
import Derived.Test.YtgeonppckeiceaaGreatDoorGq10
import Derived.Test.YtgeonppckeiceaaGreatDoorGq05
namespace Go.Proofs.YtgeonppckeiceaaGreatDoor.Ms
open Go.RowKit
set_option linter.unusedVariables false
set_option linter.unusedSimpArgs false
set_option maxRecDepth 20000
def zeroM (k : Int) : Ms := ⟨fun j => if j = 0 then k else 0, ByteArray.empty⟩
def eqM (A B : Ms) : Bool := A.i 0 == B.i 0 && (A.i 1 == B.i 1 && (A.i 2 == B.i 2 && (A.s.toList == B.s.toList && (A.i 4 == B.i 4 && (A.i 5 == B.i 5 && (A.i 6 == B.i 6 && (A.i 7 == B.i 7 && (A.i 8 == B.i 8 && (A.i 9 == B.i 9 && (A.i 10 == B.i 10 && (A.i 11 == B.i 11 && (A.i 12 == B.i 12))))))))))))
theorem toList_iff {a b : ByteArray} : a.toList = b.toList ↔ a = b := by
 rw [ByteArray.toList_eq, ByteArray.toList_eq]
 constructor
 ·intro h; apply ByteArray.ext; apply Array.ext'; exact h
 ·rintro rfl; rfl
def goR : List Fd → Ms → Option Ms
 | [], M => some M
 | f :: r, M => if f.ok M = true then goR r (f.emp M) else none
def rightM (M : Ms) : Bool := match fds (M.i 0) with
 | [] => false
 | f :: r => match goR (f :: r) M with
  | none => false
  | some M' => eqM M' (zeroM (M'.i 0))
def namL : List Fd → Ms → List Int
 | [], _ => []
 | .nam j :: r, M => M.i j :: namL r M
 | _ :: r, M => namL r M
def namesM (M : Ms) : List Int := namL (fds (M.i 0)) M
theorem fds_none {k : Int} (h1 : k ≠ 1) (h2 : k ≠ 2) (h3 : k ≠ 3) (h4 : k ≠ 4) : fds k = [] := by
 unfold fds; split <;> first | contradiction | rfl
theorem fds_cases (k : Int) : k = 1 ∨ k = 2 ∨ k = 3 ∨ k = 4 ∨ (k ≠ 1 ∧ k ≠ 2 ∧ k ≠ 3 ∧ k ≠ 4 ∧ fds k = []) := by
 by_cases h1 : k = 1
 ·exact .inl h1
 by_cases h2 : k = 2
 ·exact .inr (.inl h2)
 by_cases h3 : k = 3
 ·exact .inr (.inr (.inl h3))
 by_cases h4 : k = 4
 ·exact .inr (.inr (.inr (.inl h4)))
 exact .inr (.inr (.inr (.inr ⟨h1, h2, h3, h4, fds_none h1 h2 h3 h4⟩)))
theorem fds_len (k : Int) : (fds k).length ≤ 8 := by
 unfold fds; split <;> decide
theorem right_nofds {M : Ms} (h : fds (M.i 0) = []) : rightM M = false := by unfold rightM; rw [h]
theorem right_go {M : Ms} (h : fds (M.i 0) ≠ []) : rightM M = (match goR (fds (M.i 0)) M with | none => false | some M' => eqM M' (zeroM (M'.i 0))) := by
 unfold rightM
 cases e : fds (M.i 0) with
 | nil => exact absurd e h
 | cons f r => rfl
theorem heldP : Tryz.prog.stoodInHeld 25 = false := by kernel_rfl
theorem guardP : Tryz.prog.eqGuardType Tryz.prog.depth 25 = false := by kernel_rfl
theorem fieldsP : Tryz.prog.underlying 25 = some (.struct (Tryz.prog.fieldsOf 25)) := by kernel_rfl
set_option maxHeartbeats 2000000 in
theorem eqInP (A B : Ms) (w : World) : (Op.equalIn 10000 25 A.v B.v).run Tryz.prog w = .ok (eqM A B) w := by
 unfold Ms.v Ms.cl
 rw [run_equalIn_agg _ _ _ _ _ fieldsP heldP]
 have hf : (Tryz.prog.fieldsOf 25).toList = (match Tryz.prog.underlying 25 with | some (.struct fs) => fs.toList | _ => []) := by kernel_rfl
 rw [hf, Tryz.underlying25]
 have i3 := fun (w : World) (a b : Int) => run_equalIn_int (P := Tryz.prog) w 9998 3 .i64 .i64 a b Tryz.underlying3
 have i30 := fun (w : World) (a b : Int) => run_equalIn_int (P := Tryz.prog) w 9998 23 .u64 .u64 a b Tryz.underlying23
 have i9 := fun (w : World) (a b : ByteArray) => run_equalIn_string (P := Tryz.prog) w 9998 9 a b Tryz.underlying9
 simp only [Op.eqFields, eqM]
 cases h0 : (A.i 0 == B.i 0)
 ·go_simp
 cases h1 : (A.i 1 == B.i 1)
 ·go_simp
 cases h2 : (A.i 2 == B.i 2)
 ·go_simp
 cases h3 : (A.s.toList == B.s.toList)
 ·go_simp
 cases h4 : (A.i 4 == B.i 4)
 ·go_simp
 cases h5 : (A.i 5 == B.i 5)
 ·go_simp
 cases h6 : (A.i 6 == B.i 6)
 ·go_simp
 cases h7 : (A.i 7 == B.i 7)
 ·go_simp
 cases h8 : (A.i 8 == B.i 8)
 ·go_simp
 cases h9 : (A.i 9 == B.i 9)
 ·go_simp
 cases h10 : (A.i 10 == B.i 10)
 ·go_simp
 cases h11 : (A.i 11 == B.i 11)
 ·go_simp
 cases h12 : (A.i 12 == B.i 12)
 ·go_simp
 go_simp
theorem eqlP (A B : Ms) (w : World) : (binOp .eql 25 A.v B.v).run Tryz.prog w = .ok (.bool (eqM A B)) w := by
 have h := eqInP A B w
 unfold Ms.v at h ⊢
 rw [run_eql_struct, h]; rfl
def Flds (B : Nat) (w : World) (q : Nat) (k : Int) (v : Value) : Prop := (v = .slice none 0 0 ∧ fds k = []) ∨
 ∃ b n, v = .slice (some ⟨b, 0, none⟩) n n ∧ n = (fds k).length ∧ 1 ≤ n ∧ B ≤ b ∧ w.heap[b]? = some (.cells (fdsV q k) 170 (0, 0))
theorem zeroF (w : World) : (zeroValue 165).run Tryz.prog w = .ok (.slice none 0 0) w := by kernel_rfl
theorem fields_get {W w : World} {q A : Nat} (h : FieldsAt W w q A) (k : Int) :
  Calls Tryz.prog 154 #[.int .i64 k, .pointer (some ⟨A, 0, none⟩)] w fun e w' => (∃ v, e = .returned v ∧ Flds W.heap.size w' q k v) ∧ w' = w := by
 obtain ⟨hb, hA, m, es, c, T, b1, b2, b3, b4, hbA, hm, hT, g1, g2, g3, g4, l1, l2, l3, l4, t1, t2, t3, t4, tn⟩ := h
 have hc := cell_at 0 hbA
 simp at hc
 have hl := run_look (P := Tryz.prog) Tryz.underlying235 Tryz.underlying3 (zeroF w) hm hT k
 have H : Hid ((lookT T k).getD (.slice none 0 0) = .slice none 0 0 ∧ fds k = [] ∨ ∃ b n, (lookT T k).getD (.slice none 0 0) = .slice (some ⟨b, 0, none⟩) n n ∧ n = (fds k).length ∧ 1 ≤ n ∧ W.heap.size ≤ b ∧ w.heap[b]? = some (.cells (fdsV q k) 170 (0, 0))) := by
  refine Lib.hid ?_
  rcases fds_cases k with rfl | rfl | rfl | rfl | ⟨h1, h2, h3, h4, h5⟩
  ·exact .inr ⟨b1, 8, by rw [t1]; rfl, rfl, by decide, l1, g1⟩
  ·exact .inr ⟨b2, 5, by rw [t2]; rfl, rfl, by decide, l2, g2⟩
  ·exact .inr ⟨b3, 2, by rw [t3]; rfl, rfl, by decide, l3, g3⟩
  ·exact .inr ⟨b4, 4, by rw [t4]; rfl, rfl, by decide, l4, g4⟩
  ·exact .inl ⟨by rw [tn k h1 h2 h3 h4]; rfl, h5⟩
 generalize (lookT T k).getD (.slice none 0 0) = v at hl H
 clear tn t1 t2 t3 t4 l1 l2 l3 l4 g1 g2 g3 g4 hT hm hbA hb hA
 go_enter Tryz.func154, Tryz.ntmps154
 go_wp2
 go_ret
 exact ⟨⟨_, rfl, H.out⟩, rfl⟩
theorem fld_cell {w : World} {b q : Nat} {k : Int} {j : Nat} {f : Fd} {r : List Fd} (h : w.heap[b]? = some (.cells (fdsV q k) 170 (0, 0))) (hj : (fds k).drop j = f :: r) : w.cell? ⟨b, j, none⟩ = some (.iface f.ty (f.rcv q)) := by
 have hf : (fds k)[j]? = some f := by
  have : ((fds k).drop j)[0]? = some f := by rw [hj]; rfl
  simpa using this
 rw [cell_at j h]
 simp [fdsV, hf, Fd.v]
theorem drop_next {k : Int} {j : Nat} {f : Fd} {r : List Fd} (hj : (fds k).drop j = f :: r) : (fds k).drop (j + 1) = r ∧ j < (fds k).length ∧ f.Fit := by
 have h1 : (fds k).drop (j + 1) = ((fds k).drop j).drop 1 := by rw [List.drop_drop]
 refine ⟨by rw [h1, hj]; rfl, ?_, fds_fit (k := k) (List.mem_of_mem_drop (hj ▸ List.mem_cons_self))⟩
 rcases Nat.lt_or_ge j (fds k).length with q | q
 ·exact q
 ·rw [List.drop_eq_nil_of_le q] at hj; cases hj
theorem MsgAt.cells {w : World} {q : Nat} {N : Ms} (h : MsgAt w q N) : w.cell? ⟨q, 0, none⟩ = some (.int .i64 (N.i 0)) ∧ w.cell? ⟨q, 1, none⟩ = some (.int .u64 (N.i 1)) ∧ w.cell? ⟨q, 2, none⟩ = some (.int .u64 (N.i 2)) ∧ w.cell? ⟨q, 3, none⟩ = some (.string N.s) ∧ w.cell? ⟨q, 4, none⟩ = some (.int .i64 (N.i 4)) ∧ w.cell? ⟨q, 5, none⟩ = some (.int .i64 (N.i 5)) ∧ w.cell? ⟨q, 6, none⟩ = some (.int .i64 (N.i 6)) ∧ w.cell? ⟨q, 7, none⟩ = some (.int .i64 (N.i 7)) ∧ w.cell? ⟨q, 8, none⟩ = some (.int .i64 (N.i 8)) ∧ w.cell? ⟨q, 9, none⟩ = some (.int .i64 (N.i 9)) ∧ w.cell? ⟨q, 10, none⟩ = some (.int .i64 (N.i 10)) ∧ w.cell? ⟨q, 11, none⟩ = some (.int .u64 (N.i 11)) ∧ w.cell? ⟨q, 12, none⟩ = some (.int .u64 (N.i 12)) :=
 ⟨cell_at 0 h, cell_at 1 h, cell_at 2 h, cell_at 3 h, cell_at 4 h, cell_at 5 h, cell_at 6 h, cell_at 7 h, cell_at 8 h, cell_at 9 h, cell_at 10 h, cell_at 11 h, cell_at 12 h⟩
theorem eql_zero (N : Ms) (b : Bool) (hb : Hid (eqM N (zeroM (N.i 0)) = b)) : ∀ w, (binOp .eql 25 (.agg #[.int .i64 (N.i 0), .int .u64 (N.i 1), .int .u64 (N.i 2), .string N.s, .int .i64 (N.i 4), .int .i64 (N.i 5), .int .i64 (N.i 6), .int .i64 (N.i 7), .int .i64 (N.i 8), .int .i64 (N.i 9), .int .i64 (N.i 10), .int .u64 (N.i 11), .int .u64 (N.i 12)]) (.agg #[.int .i64 (N.i 0), .int .u64 0, .int .u64 0, .string ⟨#[]⟩, .int .i64 0, .int .i64 0, .int .i64 0, .int .i64 0, .int .i64 0, .int .i64 0, .int .i64 0, .int .u64 0, .int .u64 0])).run Tryz.prog w = .ok (.bool b) w := fun w => by
 have h := eqlP N (zeroM (N.i 0)) w
 rw [hb.out] at h
 exact h
theorem Chg.out {w w1 w2 : World} {B q : Nat} (h : Below B w w1) (hc : Chg (fun k => k = q) w1 w2) (hq : B ≤ q) (hB : B ≤ w1.heap.size) : Below B w w2 := h.trans (hc.below (fun k e => by rw [e]; exact hq) hB)
set_option maxHeartbeats 4000000 in
set_option maxRecDepth 100000 in
theorem right_k (M : Ms) (w : World) (hM : M.Wf) (b : Bool) (hb : Hid (rightM M = b)) :
  Calls Tryz.prog 176 #[M.v] w fun e w' => e = .returned (.bool b) ∧ Below w.heap.size w w' := by
 have HWF := Lib.hid hM
 clear hM
 obtain ⟨q, hq⟩ : ∃ q, q = w.heap.size := ⟨_, rfl⟩
 obtain ⟨wa, hwa⟩ : ∃ wa, wa = w.alloc (.cells M.cl 25) := ⟨_, rfl⟩
 have HM : Hid (MsgAt wa q M) := Lib.hid (by rw [hwa, hq]; exact heap_alloc_new w _)
 have HBA : Hid (Below w.heap.size w wa) := Lib.hid (by rw [hwa]; exact below_alloc _ _)
 have HQ := Lib.hid hq
 unfold Ms.v
 unfold Ms.cl at hwa ⊢
 go_enter Tryz.func176, Tryz.ntmps176
 go_wp2_with fail
 rw [← hwa, ← hq]
 clear hwa hq
 refine wp_region_held_drew (S := fun w => Below wa.heap.size wa w) (by kernel_rfl) (drewN_below2 (Nat.le_refl _) 1) (fun hHeld => ?_)
 refine tk 1 (h := ?_)
 refine tk 2 (hy := fun w hSw => by ((have z0 := (HM.out.below hSw).of (j := 0) (k := .i64) ⟨by decide, rfl⟩; go_simp) <;> with_reducible rfl)) (h := ?_)
 refine rd 0 (h := fun K' hK => ?_)
 go_simp
 go_at_call 106
 refine (fieldsIn_any q _).mono ?_
 rintro e w1 ⟨A, rfl, hF⟩
 have HF := Lib.hid hF
 have HB1 := Lib.hid (hHeld.trans (hF.1.mono hHeld.size))
 have HW1 := Lib.hid hHeld.size
 clear hF
 go_wp2_with fail
 refine hK.out _ _ HB1.out (fun hHeld => ?_)
 clear hK K'
 try simp only [Act.put, p1, p2, p3]
 refine rd 3 (h := fun K' hK => ?_)
 go_simp
 go_at_call 154
 refine (fields_get HF.out _).mono ?_
 rintro e w2 ⟨⟨v, rfl, hV⟩, rfl⟩
 have HV := Lib.hid hV
 clear hV
 go_wp2_with fail
 refine hK.out _ _ HB1.out (fun hHeld => ?_)
 clear hK K'
 try simp only [Act.put, p1, p2, p3]
 refine tk 4 (h := ?_)
 refine wpAnyH_done (by kernel_rfl) ?_ _
 clear hHeld
 have HM2 : Hid (MsgAt w2 q M) := Lib.hid (HM.out.below HB1.out)
 have HB2 : Hid (Below w.heap.size w w2) := Lib.hid (HBA.out.trans (HB1.out.mono HBA.out.size))
 have HqB : Hid (q < wa.drew.heap.size) := Lib.hid (Nat.lt_of_lt_of_le HM.out.lt HW1.out)
 have HQ2 : Hid (w.heap.size ≤ w2.heap.size) := Lib.hid HB2.out.size
 have HK2 : Hid (q ≠ 0 ∨ q = 0) := Lib.hid (by omega)
 clear HF HB1 HBA HM HW1
 generalize wa.drew.heap.size = B at HV HqB
 rcases HV.out with ⟨rfl, hfn⟩ | ⟨x, n, rfl, hn, hn1, hx, hrow⟩
 ·have HE : Hid (false = b) := Lib.hid (by rw [← hb.out, right_nofds hfn])
  clear hfn HV
  go_wp2_with fail
  go_ret
  exact ⟨retB HE.out, HB2.out⟩
 ·have hn0 : ((n : Int) == 0) = false := by simp; omega
  have hnm : n ≤ 8 := by rw [hn]; exact fds_len _
  have HN := Lib.hid hn
  have HR : Hid (w2.heap[x]? = some (.cells (fdsV q (M.i 0)) 170 (0, 0))) := Lib.hid hrow
  have HX : Hid (x ≠ q) := Lib.hid (by have := HqB.out; omega)
  have HG : Hid (rightM M = (match goR (fds (M.i 0)) M with | none => false | some M' => eqM M' (zeroM (M'.i 0)))) := Lib.hid (right_go (fun e => by rw [e] at hn; simp at hn; omega))
  generalize hk : M.i 0 = k at HR HN HG
  have HKD := Lib.hid hk
  clear HV hn hx hrow hn1 HqB
  go_wp2_with fail
  go_loopw [5, 15] (fun _ i wr => ∃ (j : Nat) (N : Ms), j ≤ n ∧ i = .int .i64 j ∧ Hid (MsgAt wr q N) ∧ Hid N.Wf ∧ Hid (goR ((fds k).drop j) N = goR (fds k) M) ∧ Hid (Chg (fun t => t = q) w2 wr)) (fun _ i _ => n - (intOf i).toNat)
  case atStart => exact ⟨0, M, Nat.zero_le _, rfl, HM2, HWF, Lib.hid (by rw [List.drop_zero]), Lib.hid (Chg.of_below (Below.refl _ _))⟩
  case round =>
   obtain ⟨j, N, hj, rfl, HM3, HW3, HGO, HC⟩ := hrel
   clear HM2 HWF
   cases hd : (fds k).drop j with
   | nil =>
    have hjn : j = n := by
     have := List.drop_eq_nil_iff.1 hd
     rw [← HN.out] at this; omega
    subst hjn
    have HE : Hid (eqM N (zeroM (N.i 0)) = b) := Lib.hid (by
     have h1 := HGO.out
     rw [hd] at h1
     rw [← hb.out, HG.out, ← h1]; rfl)
    have hE := eql_zero N b HE
    have hgd := guardP
    obtain ⟨k0, k1, k2, k3, k4, k5, k6, k7, k8, k9, k10, k11, k12⟩ := HM3.out.cells
    clear hd HGO HM3 HE
    go_wp2
    go_ret
    exact ⟨rfl, Chg.out HB2.out HC.out (by have := HQ.out; omega) HQ2.out⟩
   | cons f r =>
    obtain ⟨hd2, hlt, hfit⟩ := drop_next hd
    rw [← HN.out] at hlt
    have hjlt : (j : Int) < (n : Int) := by omega
    have hcell := fld_cell (w := wr) (HC.out.blk HR.out HX.out) hd
    have hinv := meth_right f q
    have hinv2 := meth_empty f q
    have hinv3 := call_right f q
    have hinv4 := call_empty f q
    have HFT := Lib.hid hfit
    have HD2 := Lib.hid hd2
    have HGO2 : Hid (goR (fds k) M = if f.ok N = true then goR r (f.emp N) else none) := Lib.hid (by rw [← HGO.out, hd]; rfl)
    clear hd hd2 hfit HGO
    go_wp2_with fail
    cases hok : f.ok N with
    | false =>
     refine (Fd.right_c f HFT.out HM3.out HW3.out false (Lib.hid hok)).mono ?_
     rintro e w4 ⟨rfl, hb4⟩
     have HB4 := Lib.hid hb4
     have HE : Hid (false = b) := Lib.hid (by rw [← hb.out, HG.out, HGO2.out, hok]; rfl)
     clear hb4 hcell hok
     go_wp2_with fail
     go_ret
     exact ⟨retB HE.out, Chg.out HB2.out (HC.out.trans (Chg.of_below HB4.out)) (by have := HQ.out; omega) HQ2.out⟩
    | true =>
     refine (Fd.right_c f HFT.out HM3.out HW3.out true (Lib.hid hok)).mono ?_
     rintro e w4 ⟨rfl, hb4⟩
     have HM4 := Lib.hid (HM3.out.below hb4)
     have HC4 := Lib.hid (HC.out.trans (Chg.of_below hb4))
     have HGO3 : Hid (goR ((fds k).drop (j + 1)) (f.emp N) = goR (fds k) M) := Lib.hid (by rw [HD2.out, HGO2.out, hok]; rfl)
     clear hb4 hcell hok HM3 HC HGO2
     go_wp2_with fail
     refine (Fd.empty_c f HFT.out HM4.out).mono ?_
     rintro e w5 ⟨rfl, hc5, hm5⟩
     have HM5 := Lib.hid hm5
     have HC5 := Lib.hid (HC4.out.trans hc5)
     have HW5 := Lib.hid (f.emp_wf HW3.out)
     clear hc5 hm5 HM4 HC4
     go_wp2_with fail
     go_roundw
     case rel => exact ⟨j + 1, f.emp N, by omega, by go_num, HM5, HW5, HGO3, HC5⟩
     case measure => simp [intOf]; omega
end Go.Proofs.YtgeonppckeiceaaGreatDoor.Ms
namespace Go.Proofs.YtgeonppckeiceaaGreatDoor
open Go.RowKit
set_option linter.unusedVariables false
set_option linter.unusedSimpArgs false
abbrev Mg := Ms.Ms
def zeroMg : Mg := ⟨fun _ => 0, ByteArray.empty⟩
def initM (fr : Int) (offer : ByteArray) (slot e ek box c1 c2 : Int) : Mg := ⟨fun j => match j with | 0 => 1 | 1 => fr | 4 => slot | 6 => e | 7 => ek | 8 => box | 9 => c1 | 10 => c2 | _ => 0, offer⟩
def respM (fr tt e box c1 : Int) : Mg := ⟨fun j => match j with | 0 => 2 | 1 => fr | 2 => tt | 6 => e | 8 => box | 9 => c1 | _ => 0, ByteArray.empty⟩
structure Pnd where
 y : Sy
 e : Int
 ek : Int
 offer : ByteArray
def Pnd.v (p : Pnd) : Value := .agg #[.int .i64 p.y.CK, .int .i64 p.y.K, .int .i64 p.y.H, .int .u64 p.y.N, .int .i64 p.e, .int .i64 p.ek, .string p.offer]
def zeroPnd : Pnd := ⟨zeroY, 0, 0, ByteArray.empty⟩
structure Opd where
 y : Sy
 peer : Int
 version : Int
 stamp : Int
 e : Int
 ek : Int
 pub : Int
def Opd.v (o : Opd) : Value := .agg #[.int .i64 o.y.CK, .int .i64 o.y.K, .int .i64 o.y.H, .int .u64 o.y.N, .int .i64 o.peer, .int .i64 o.version, .int .u64 o.stamp, .int .i64 o.e, .int .i64 o.ek, .int .i64 o.pub]
def zeroOpd : Opd := ⟨zeroY, 0, 0, 0, 0, 0, 0⟩
structure Ses where
 h : Int
 send : Int
 recv : Int
 version : Int
def Ses.v (s : Ses) : Value := .agg #[.int .i64 s.h, .int .i64 s.send, .int .i64 s.recv, .int .i64 s.version]
def zeroSes : Ses := ⟨0, 0, 0, 0⟩
structure Pr where
 dh : Int
 kem : Int
 k0 : Int
 k1 : Int
def Pr.v (p : Pr) : Value := .agg #[.int .i64 p.dh, .int .i64 p.kem, .int .i64 p.k0, .int .i64 p.k1]
def Pr.psk (p : Pr) (slot : Int) : Int := if slot = 0 then p.k0 else p.k1
def zeroPr : Pr := ⟨0, 0, 0, 0⟩
def hPublics (most : Int) (L : List Tm) (me : Int × Int) : (Int × Int) × Int × List Tm := match publicsG me most L with
 | (.ok p, L') => (p, 0, L')
 | (.error e, L') => ((0, 0), e, L')
def hBegin (most : Int) (L : List Tm) (me : Int × Int) (p : Pr) (fr : Int) (offer : ByteArray) (slot : Int) (stamp : Nat) (d0 d1 d2 : Int) : Mg × Pnd × Int × List Tm :=
 if slot ≠ 0 ∧ slot ≠ 1 then (zeroMg, zeroPnd, 1, L) else match beginG me (p.dh, p.kem) (p.psk slot) offer slot (Ms.putS stamp) d0 d1 d2 most L with
  | (.ok r, L') => if Ms.rightM (initM fr offer slot r.e r.ek r.box r.c1 r.c2) = true then (initM fr offer slot r.e r.ek r.box r.c1 r.c2, ⟨r.y, d0, d1, offer⟩, 0, L') else (zeroMg, zeroPnd, 3, L')
  | (.error e, L') => (zeroMg, zeroPnd, e, L')
def stampF (L : List Tm) (x : Int) : Option Nat :=
 if (getT L x).1.K = 1 ∧ (Ms.getA (getT L x).1.S.data.toList 0).2.2 = 0 ∧ ((Ms.getA (getT L x).1.S.data.toList 0).2.1 : Int) = (getT L x).1.S.size then some (Ms.getA (getT L x).1.S.data.toList 0).1 else none
def hOpen (most : Int) (L : List Tm) (me : Int × Int) (ps : List Pr) (offer : ByteArray) (m : Mg) : Opd × Int × List Tm :=
 if m.i 0 ≠ 1 ∨ Ms.rightM m = false then (zeroOpd, 3, L) else
 if Ms.bestE offer.data.toList m.s.data.toList ≠ 0 then (zeroOpd, Ms.bestE offer.data.toList m.s.data.toList, L) else
 match openG me (ps.map Pr.dh) (fun i => (ps.getD i zeroPr).psk (m.i 4)) m.s (m.i 4) (m.i 6) (m.i 7) (m.i 8) (m.i 9) (m.i 10) most L with
 | (.ok r, L') => match stampF L' r.2.2.2 with
   | some n => (⟨r.1, r.2.2.1, Ms.bestV offer.data.toList m.s.data.toList, n, m.i 6, m.i 7, r.2.1⟩, 0, L')
   | none => (zeroOpd, 3, L')
 | (.error e, L') => (zeroOpd, e, L')
def verS (v : Int) : ByteArray := ⟨#[UInt8.ofNat (v % 256).toNat]⟩
def hAnswer (most : Int) (L : List Tm) (o : Opd) (fr tt d0 d1 : Int) : Mg × Ses × Int × List Tm := match answerG o.y o.e o.pub o.ek (verS o.version) d0 d1 most L with
 | (.ok r, L') => if Ms.rightM (respM fr tt r.e r.box r.c1) = true then (respM fr tt r.e r.box r.c1, ⟨r.y.H, r.send, r.recv, o.version⟩, 0, L') else (zeroMg, zeroSes, 3, L')
 | (.error e, L') => (zeroMg, zeroSes, e, L')
def byteF (L : List Tm) (x : Int) : Option UInt8 := if (getT L x).1.K = 1 then (match (getT L x).1.S.data.toList with | [c] => some c | _ => none) else none
def hFinish (most : Int) (L : List Tm) (me : Int) (p : Pnd) (m : Mg) : Ses × Int × List Tm :=
 if m.i 0 ≠ 2 ∨ Ms.rightM m = false then (zeroSes, 3, L) else
 match finishG me p.y p.e p.ek (m.i 6) (m.i 8) (m.i 9) most L with
 | (.ok r, L') => match byteF L' r.2 with
   | some c => if c ∈ p.offer.data.toList then (match splitG r.1 most L' with
     | (.ok k, L2) => (⟨r.1.H, k.1, k.2, c.toNat⟩, 0, L2)
     | (.error e, L2) => (zeroSes, e, L2)) else (zeroSes, 11, L')
   | none => (zeroSes, 3, L')
 | (.error e, L') => (zeroSes, e, L')
theorem init_right {fr slot e ek box c1 c2 : Int} {offer : ByteArray} (hf : 1 ≤ fr ∧ fr ≤ 4294967296) (ho : Ms.rightB offer.data.toList = true) (hs : 0 ≤ slot ∧ slot ≤ 1)
  (h1 : 1 ≤ e ∧ e ≤ 1048576) (h2 : 1 ≤ ek ∧ ek ≤ 1048576) (h3 : 1 ≤ box ∧ box ≤ 1048576) (h4 : 1 ≤ c1 ∧ c1 ≤ 1048576) (h5 : 1 ≤ c2 ∧ c2 ≤ 1048576) : Ms.rightM (initM fr offer slot e ek box c1 c2) = true := by
 simp [Ms.rightM, initM, Ms.fds, Ms.goR, Ms.Fd.ok, Ms.inIv, hf, ho, hs, h1, h2, h3, h4, h5, Ms.Fd.emp, Ms.Ms.set, Ms.Ms.setS, Ms.eqM, Ms.zeroM]
theorem resp_right {fr tt e box c1 : Int} (hf : 1 ≤ fr ∧ fr ≤ 4294967296) (ht : 1 ≤ tt ∧ tt ≤ 4294967296)
  (h1 : 1 ≤ e ∧ e ≤ 1048576) (h3 : 1 ≤ box ∧ box ≤ 1048576) (h4 : 1 ≤ c1 ∧ c1 ≤ 1048576) : Ms.rightM (respM fr tt e box c1) = true := by
 simp [Ms.rightM, respM, Ms.fds, Ms.goR, Ms.Fd.ok, Ms.inIv, hf, ht, h1, h3, h4, Ms.Fd.emp, Ms.Ms.set, Ms.Ms.setS, Ms.eqM, Ms.zeroM]
end Go.Proofs.YtgeonppckeiceaaGreatDoor
namespace Go.Proofs.YtgeonppckeiceaaGreatDoor.Ms
theorem byte_hi (m : Nat) : (UInt8.ofNat (128 + m % 128)).toNat = 128 + m % 128 := by
 rw [UInt8.toNat_ofNat']; omega
theorem byte_lo (m : Nat) : (UInt8.ofNat (m % 128)).toNat = m % 128 := by
 rw [UInt8.toNat_ofNat']; omega
theorem look_hi : ∀ (k m : Nat), m ≤ k → m ≤ 144115188075855871 → ∀ (r : List UInt8) (p : Nat), look (hi m ++ r) true 0 p = look r (decide (m = 0)) m (p + (hi m).length) := by
 intro k
 induction k with
 | zero =>
  intro m hk hm r p
  obtain rfl : m = 0 := by omega
  simp [hi_zero]
 | succ k ih =>
  intro m hk hm r p
  by_cases h0 : m = 0
  ·subst h0; simp [hi_zero]
  ·rw [hi_step m h0, List.append_assoc, ih (m / 128) (by omega) (by omega)]
   rw [List.singleton_append, look, byte_hi]
   rw [if_neg (by simp; omega), if_neg (by omega), if_neg (by omega)]
   have e1 : m / 128 * 128 + (128 + m % 128) % 128 = m := by omega
   have e2 : decide (m = 0) = false := by simpa using h0
   rw [e1, e2]
   simp [Nat.add_assoc]
theorem look_put (n : Nat) (hn : n ≤ 18446744073709551615) (r : List UInt8) (p : Nat) : look (put n ++ r) true 0 p = (n, p + (put n).length, 0) := by
 rw [put, List.append_assoc, look_hi (n / 128) (n / 128) (Nat.le_refl _) (by omega), List.singleton_append, look, byte_lo]
 rw [if_neg (by simp; omega), if_neg (by omega), if_pos (by omega)]
 have e1 : n / 128 * 128 + n % 128 = n := by omega
 rw [e1]; simp [Nat.add_assoc]
end Go.Proofs.YtgeonppckeiceaaGreatDoor.Ms
namespace Go.Proofs.YtgeonppckeiceaaGreatDoor
open Go.RowKit
set_option linter.unusedVariables false
set_option linter.unusedSimpArgs false
theorem stamp_size {n : Nat} (h : n ≤ 18446744073709551615) : (Ms.putS n).size ≤ 1000 := by
 have := Ms.put_le n (by omega)
 have e : (Ms.putS n).size = (Ms.put n).length := by simp [Ms.putS, ByteArray.size]
 omega
theorem getA_put {n : Nat} (h : n ≤ 18446744073709551615) : Ms.getA (Ms.putS n).data.toList 0 = (n, (Ms.put n).length, 0) := by
 have e : (Ms.putS n).data.toList = Ms.put n := by simp [Ms.putS]
 rw [e]
 have := Ms.look_put n h [] 0
 rw [List.append_nil, Nat.zero_add] at this
 unfold Ms.getA
 simp [this]
theorem stampF_is {L : List Tm} {n : Nat} {x : Int} (h : n ≤ 18446744073709551615) (hx : Nm L (.text (Ms.putS n)) x) : stampF L x = some n := by
 obtain ⟨a, b, c, _, _, _, hn⟩ := hx.at
 unfold stampF
 rw [hn.get]
 simp only []
 rw [getA_put h, if_pos]
 refine ⟨by first | rfl | trivial, by first | rfl | trivial, ?_⟩
 simp [Ms.putS, ByteArray.size]
structure Ends (L : List Tm) (A1 A2 B1 B2 : Tr) (a1 a2 b1 b2 : Int) (pa pb : Pr) : Prop where
 sA1 : Nm L A1 a1
 sA2 : Nm L A2 a2
 sB1 : Nm L B1 b1
 sB2 : Nm L B2 b2
 pA1 : Nm L (.pub A1) pa.dh
 pA2 : Nm L (.kpub A2) pa.kem
 pB1 : Nm L (.pub B1) pb.dh
 pB2 : Nm L (.kpub B2) pb.kem
 n1 : A1 ≠ .none
 n2 : A2 ≠ .none
 n3 : B1 ≠ .none
 n4 : B2 ≠ .none
theorem Ends.ext {L L' : List Tm} {A1 A2 B1 B2 : Tr} {a1 a2 b1 b2 : Int} {pa pb : Pr} (h : Ends L A1 A2 B1 B2 a1 a2 b1 b2 pa pb) (e : Ext L L') : Ends L' A1 A2 B1 B2 a1 a2 b1 b2 pa pb :=
 ⟨h.sA1.ext e, h.sA2.ext e, h.sB1.ext e, h.sB2.ext e, h.pA1.ext e, h.pA2.ext e, h.pB1.ext e, h.pB2.ext e, h.n1, h.n2, h.n3, h.n4⟩
def Yb1 (offer : ByteArray) (slot : Int) (B1 B2 D0 D1 D2 : Tr) (d0 b1 : Int) : Ys := beginY1 offer slot B1 B2 D0 D1 D2 (shTr d0 b1 D0 B1)
def Yb2 (offer : ByteArray) (slot : Int) (A1 B1 B2 P D0 D1 D2 : Tr) (a1 d0 b1 : Int) : Ys := beginY2 (Yb1 offer slot B1 B2 D0 D1 D2 d0 b1) A1 (shTr a1 b1 A1 B1) P
section
variable {L : List Tm} {most : Int} {A1 A2 B1 B2 P D0 D1 D2 E0 E1 : Tr} {a1 a2 b1 b2 d0 d1 d2 e0 e1 fr slot : Int} {pa pb : Pr} {offer mine : ByteArray} {stamp : Nat}
structure InitIs (L : List Tm) (m : Mg) (p : Pnd) (A1 B1 B2 P D0 D1 D2 : Tr) (a1 b1 d0 d1 fr slot : Int) (offer : ByteArray) (stamp : Nat) : Prop where
 right : Ms.rightM m = true
 form : m = initM fr offer slot (m.i 6) (m.i 7) (m.i 8) (m.i 9) (m.i 10)
 e : Nm L (.pub D0) (m.i 6)
 ek : Nm L (.kpub D1) (m.i 7)
 box : Nm L (.box B2 D2) (m.i 8)
 c1 : Nm L ((Yb1 offer slot B1 B2 D0 D1 D2 d0 b1).box (.pub A1)) (m.i 9)
 c2 : Nm L ((Yb2 offer slot A1 B1 B2 P D0 D1 D2 a1 d0 b1).box (.text (Ms.putS stamp))) (m.i 10)
 y : StY L p.y ((Yb2 offer slot A1 B1 B2 P D0 D1 D2 a1 d0 b1).sealed (.text (Ms.putS stamp)))
 p1 : p.e = d0
 p2 : p.ek = d1
 p3 : p.offer = offer
theorem InitIs.ext {L' : List Tm} {m : Mg} {p : Pnd} (h : InitIs L m p A1 B1 B2 P D0 D1 D2 a1 b1 d0 d1 fr slot offer stamp) (e : Ext L L') : InitIs L' m p A1 B1 B2 P D0 D1 D2 a1 b1 d0 d1 fr slot offer stamp :=
 ⟨h.right, h.form, h.e.ext e, h.ek.ext e, h.box.ext e, h.c1.ext e, h.c2.ext e, h.y.ext e, h.p1, h.p2, h.p3⟩
theorem hBegin_tr (hf : Gd L) (h : Ends L A1 A2 B1 B2 a1 a2 b1 b2 pa pb) (hP : Nm L P (pb.psk slot)) (h0 : Nm L D0 d0) (h1 : Nm L D1 d1) (h2 : Nm L D2 d2) (nP : P ≠ .none) (n0 : D0 ≠ .none) (n1 : D1 ≠ .none) (n2 : D2 ≠ .none)
  (hs : slot = 0 ∨ slot = 1) (hfr : 1 ≤ fr ∧ fr ≤ 4294967296) (ho : Ms.rightB offer.data.toList = true) (hst : stamp ≤ 18446744073709551615) (hr : (L.length : Int) + 60 < most) (hm : most ≤ 1048576) :
  ∃ m p L', hBegin most L (a1, a2) pb fr offer slot stamp d0 d1 d2 = (m, p, 0, L') ∧ InitIs L' m p A1 B1 B2 P D0 D1 D2 a1 b1 d0 d1 fr slot offer stamp ∧ Up L L' 60 := by
 have hsz : offer.size ≤ 1000 := by
  have : offer.data.toList.length ≤ 8 := by
   unfold Ms.rightB at ho
   simp only [Bool.and_eq_true, decide_eq_true_eq] at ho
   exact ho.1.2
  have e : offer.size = offer.data.toList.length := rfl
  omega
 have hsp : (Ms.putS stamp).size ≤ 1000 := stamp_size hst
 obtain ⟨r, L', e1, sy, ne, nek, nb, nc1, nc2, up⟩ := begin_tr (most := most) (a2 := a2) (slot := slot) hf h.sA1 h.sB1 h.sB2 h.pB1 h.pB2 hP h0 h1 h2 h.n1 h.n3 h.n4 nP n0 n1 n2 hsz hsp (by omega)
 have hlen : (L'.length : Int) ≤ 1048576 := by have := up.len; omega
 have bd : ∀ {t : Tr} {x : Int}, Nm L' t x → t ≠ .none → 1 ≤ x ∧ x ≤ 1048576 := fun q hn => by have := q.in hn; omega
 have hR := init_right (slot := slot) hfr ho (by rcases hs with q | q <;> omega) (bd ne (by simp [Tr.pub])) (bd nek (by simp [Tr.kpub])) (bd nb (by simp [Tr.box])) (bd nc1 (by simp [Ys.box, Tr.seal])) (bd nc2 (by simp [Ys.box, Tr.seal]))
 refine ⟨initM fr offer slot r.e r.ek r.box r.c1 r.c2, ⟨r.y, d0, d1, offer⟩, L', ?_, ⟨hR, rfl, ne, nek, nb, nc1, nc2, sy, rfl, rfl, rfl⟩, up.mono (by omega)⟩
 unfold hBegin
 rw [if_neg (by rcases hs with q | q <;> omega), e1]
 simp only [hR, if_true]
theorem hOpen_tr {m : Mg} {p : Pnd} {ps : List Pr} {i : Nat} (hf : Gd L) (h : Ends L A1 A2 B1 B2 a1 a2 b1 b2 pa pb) (hI : InitIs L m p A1 B1 B2 P D0 D1 D2 a1 b1 d0 d1 fr slot offer stamp)
  (hP : Nm L P ((ps.getD i zeroPr).psk slot)) (h0 : Nm L D0 d0) (h2 : Nm L D2 d2) (nP : P ≠ .none) (n0 : D0 ≠ .none) (n1 : D1 ≠ .none) (n2 : D2 ≠ .none) (hw : whoF (ps.map Pr.dh) pa.dh = some i)
  (ho : offer.size ≤ 1000) (hb : Ms.bestE mine.data.toList offer.data.toList = 0) (hst : stamp ≤ 18446744073709551615) (hr : (L.length : Int) + 60 < most) :
  ∃ y L', hOpen most L (b1, b2) ps mine m = (⟨y, i, Ms.bestV mine.data.toList offer.data.toList, stamp, m.i 6, m.i 7, pa.dh⟩, 0, L') ∧ StY L' y ((Yb2 offer slot A1 B1 B2 P D0 D1 D2 a1 d0 b1).sealed (.text (Ms.putS stamp))) ∧ Up L L' 60 := by
 have e0 : m.i 0 = 1 := by rw [hI.form]; rfl
 have e4 : m.i 4 = slot := by rw [hI.form]; rfl
 have es : m.s = offer := by rw [hI.form]; rfl
 obtain ⟨y, t, L', e1, sy, nt, up⟩ := open_tr (most := most) (ps := ps.map Pr.dh) (psk := fun i => (ps.getD i zeroPr).psk slot) hf h.sA1 h.sB1 h.sB2 hP h0 ⟨d2, h2⟩ hI.e hI.ek hI.box hI.c1 hI.c2 h.pA1 hw h.n1 h.n3 h.n4 nP n0 n1 n2 ho (by omega)
 refine ⟨y, L', ?_, sy, up.mono (by omega)⟩
 unfold hOpen
 rw [if_neg (by rw [hI.right, e0]; simp), es, if_neg (by rw [hb]; simp), e4, e1]
 simp only [stampF_is hst nt]
structure RespIs (L : List Tm) (m : Mg) (s : Ses) (Y : Ys) (D1 E0 E1 : Tr) (v : Int) : Prop where
 right : Ms.rightM m = true
 kind : m.i 0 = 2
 e : Nm L (.pub E0) (m.i 6)
 box : Nm L (.box D1 E1) (m.i 8)
 c1 : Nm L (Y.box (.text (verS v))) (m.i 9)
 h : Nm L (Y.sealed (.text (verS v))).H s.h
 recv : Nm L (.key (.hash Y.CK (.text ⟨#[]⟩)) 1) s.recv
 send : Nm L (.key (.hash Y.CK (.text ⟨#[]⟩)) 2) s.send
 version : s.version = v
theorem RespIs.ext {L' : List Tm} {m : Mg} {s : Ses} {Y : Ys} {v : Int} (h : RespIs L m s Y D1 E0 E1 v) (e : Ext L L') : RespIs L' m s Y D1 E0 E1 v := ⟨h.right, h.kind, h.e.ext e, h.box.ext e, h.c1.ext e, h.h.ext e, h.recv.ext e, h.send.ext e, h.version⟩
def Yr (Y : Ys) (A1 D0 D1 E0 E1 : Tr) (a1 d0 e0 : Int) : Ys := answerY1 Y E0 E1 D1 (shTr e0 d0 E0 D0) (shTr e0 a1 E0 A1)
theorem hAnswer_tr {o : Opd} {Y : Ys} {tt : Int} (hf : Gd L) (sy : StY L o.y Y) (hA1 : Nm L A1 a1) (hD0 : Nm L D0 d0) (hD1 : Nm L D1 d1) (hE0 : Nm L E0 e0) (hE1 : Nm L E1 e1) (hoe : Nm L (.pub D0) o.e) (hpa : Nm L (.pub A1) o.pub) (hek : Nm L (.kpub D1) o.ek)
  (nA1 : A1 ≠ .none) (nD0 : D0 ≠ .none) (nD1 : D1 ≠ .none) (nE0 : E0 ≠ .none) (nE1 : E1 ≠ .none) (hfr : 1 ≤ fr ∧ fr ≤ 4294967296) (htt : 1 ≤ tt ∧ tt ≤ 4294967296) (hr : (L.length : Int) + 60 < most) (hm : most ≤ 1048576) :
  ∃ m s L', hAnswer most L o fr tt e0 e1 = (m, s, 0, L') ∧ RespIs L' m s (Yr Y A1 D0 D1 E0 E1 a1 d0 e0) D1 E0 E1 o.version ∧ m = respM fr tt (m.i 6) (m.i 8) (m.i 9) ∧ Up L L' 60 := by
 obtain ⟨r, L', g1, sy', ne, nb, nc1, nka, nkb, up⟩ := answer_tr (most := most) (v := verS o.version) hf sy hA1 hD0 hD1 hE0 hE1 hoe hpa hek nA1 nD0 nD1 nE0 nE1 (by show (1 : Nat) ≤ 1000; omega) (by omega)
 have hlen : (L'.length : Int) ≤ 1048576 := by have := up.len; omega
 have bd : ∀ {t : Tr} {x : Int}, Nm L' t x → t ≠ .none → 1 ≤ x ∧ x ≤ 1048576 := fun q hn => by have := q.in hn; omega
 have hR := resp_right hfr htt (bd ne (by simp [Tr.pub])) (bd nb (by simp [Tr.box])) (bd nc1 (by simp [Ys.box, Tr.seal]))
 refine ⟨respM fr tt r.e r.box r.c1, ⟨r.y.H, r.send, r.recv, o.version⟩, L', ?_, ⟨hR, rfl, ne, nb, nc1, sy'.h, nka, nkb, rfl⟩, rfl, up.mono (by omega)⟩
 unfold hAnswer
 rw [g1]
 simp only [hR, if_true]
theorem hFinish_tr {m : Mg} {s : Ses} {p : Pnd} {Y : Ys} {v : Int} (hf : Gd L) (sy : StY L p.y Y) (hA1 : Nm L A1 a1) (hD0 : Nm L D0 p.e) (hE0 : Nm L E0 e0) (hD1 : Nm L D1 p.ek)
  (hR : RespIs L m s (Yr Y A1 D0 D1 E0 E1 a1 p.e e0) D1 E0 E1 v) (nA1 : A1 ≠ .none) (nD0 : D0 ≠ .none) (nD1 : D1 ≠ .none) (nE0 : E0 ≠ .none) (nE1 : E1 ≠ .none) (hv : 0 ≤ v ∧ v ≤ 255) (hof : UInt8.ofNat v.toNat ∈ p.offer.data.toList) (hr : (L.length : Int) + 60 < most) :
  ∃ L', hFinish most L a1 p m = (⟨s.h, s.recv, s.send, v⟩, 0, L') ∧ Up L L' 60 := by
 obtain ⟨y, t, L1, g1, sy1, nt, up1⟩ := finish_tr (most := most) hf sy hA1 hD0 hD1 hE0 hR.e hR.box hR.c1 nA1 nD0 nD1 nE0 nE1 (by omega)
 have l1 := up1.len
 obtain ⟨ka, kb, L2, g2, na, nb, up2⟩ := splitG_tr (most := most) up1.gd sy1 (by omega)
 have ee := up1.ext.trans up2.ext
 have q1 := sy1.h.fun (hR.h.ext up1.ext)
 have q2 := na.fun (hR.recv.ext ee)
 have q3 := nb.fun (hR.send.ext ee)
 subst q2 q3
 have hb : byteF L1 t = some (UInt8.ofNat (v % 256).toNat) := by
  obtain ⟨a, b, c, _, _, _, hn⟩ := nt.at
  unfold byteF
  rw [hn.get]
  rfl
 have hvv : v % 256 = v := by omega
 rw [hvv] at hb
 refine ⟨L2, ?_, (up1.trans up2).mono (by omega)⟩
 unfold hFinish
 rw [if_neg (by rw [hR.right, hR.kind]; simp), g1]
 simp only [hb, hof, if_true, g2]
 rw [q1]
 congr 2
 have : (UInt8.ofNat v.toNat).toNat = v.toNat := by rw [UInt8.toNat_ofNat']; omega
 rw [this]
 omega
end
end Go.Proofs.YtgeonppckeiceaaGreatDoor
