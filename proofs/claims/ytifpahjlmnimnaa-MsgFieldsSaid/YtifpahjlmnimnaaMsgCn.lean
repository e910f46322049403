/- The program's Names. -/
import Derived.Test.YtifpahjlmnimnaaMsgCe
namespace Go.Proofs.Ytifpahjlmnimnaa
open Go.RowKit
set_option linter.unusedVariables false
set_option linter.unusedSimpArgs false
set_option maxRecDepth 20000

def Fd.isNam : Fd → Bool
  | .nam _ => true
  | _ => false
theorem assert_no (f : Fd) (q : Nat) (h : f.isNam = false) (w : World) : (Instr.typeAssert (.iface f.ty (f.rcv q)) 59 77 true).run Try.prog w = .ok (.tuple #[.agg #[.pointer none, .int .u64 0, .int .u64 0], .bool false]) w := by
  cases f with
  | nam j => cases h
  | int j lo hi => kernel_rfl
  | ses j lo hi => kernel_rfl
  | ver => kernel_rfl
theorem assert_yes (j q : Nat) (w : World) : (Instr.typeAssert (.iface (Fd.nam j).ty ((Fd.nam j).rcv q)) 59 77 true).run Try.prog w = .ok (.tuple #[.agg #[.pointer (some ⟨q, j, none⟩), .int .u64 1, .int .u64 1048576], .bool true]) w := by kernel_rfl
theorem nam_no (f : Fd) (r : List Fd) (M : Ms) (h : f.isNam = false) : namL (f :: r) M = namL r M := by
  cases f with
  | nam j => cases h
  | _ => rfl
theorem nam_len (l : List Fd) (M : Ms) : (namL l M).length ≤ l.length := by
  induction l with
  | nil => exact Nat.le_refl _
  | cons f r ih => cases f <;> simp [namL] <;> omega
/-- A row of numbers of the call's own, or nothing. -/
def RowsI (w : World) (v : Value) (L : List Int) : Prop := ∃ a cap, v = .slice a L.length cap ∧ RowAt .i64 w a cap L
theorem own_down {e : TypeId} {k : IntKind} {B C : Nat} {v : Value} {L : List Int} {w : World} (h : Own e k C v L w) (hb : B ≤ C) : Own e k B v L w := by
  obtain ⟨h1, h2⟩ := h
  refine ⟨h1, ?_⟩
  rcases h2 with h2 | ⟨g, cap, cur, e1, e2, e3⟩
  · exact .inl h2
  · exact .inr ⟨g, cap, cur, e1, Nat.le_trans hb e2, e3⟩
theorem two_new (w : World) (o1 o2 : Obj) : ((w.alloc o1).alloc o2).heap[w.heap.size + 1]? = some o2 := by
  have := heap_alloc_new (w.alloc o1) o2
  rw [size_alloc] at this
  exact this
set_option maxHeartbeats 4000000 in
set_option maxRecDepth 100000 in
theorem names_k (M : Ms) (w : World) (hM : M.Wf) :
    Calls Try.prog 18 #[M.v] w fun e w' => ∃ v, e = .returned v ∧ Own 3 .i64 w.heap.size v (namesM M) w' ∧ Below w.heap.size w w' := by
  have HWF := Lib.hid hM
  clear hM
  obtain ⟨q, hq⟩ : ∃ q, q = w.heap.size := ⟨_, rfl⟩
  obtain ⟨wa, hwa⟩ : ∃ wa, wa = w.alloc (.cells M.cl 24) := ⟨_, rfl⟩
  have HM : Hid (MsgAt wa q M) := Lib.hid (by rw [hwa, hq]; exact heap_alloc_new w _)
  have HBA : Hid (Below w.heap.size w wa) := Lib.hid (by rw [hwa]; exact below_alloc _ _)
  have HQ := Lib.hid hq
  unfold Ms.v
  unfold Ms.cl at hwa ⊢
  go_enter Try.func18, Try.ntmps18
  go_wp2_with fail
  rw [← hwa, ← hq]
  clear hwa hq
  refine wp_region_held_drew (S := fun w => Below wa.heap.size wa w) (by kernel_rfl) (drewN_below2 (Nat.le_refl _) 1) (fun hHeld => ?_)
  refine wpAnyH_take (i := 1) (oi := ?o10) (v := ?v10) ?i10 (by kernel_rfl) (by kernel_rfl) (by kernel_rfl) ?q10 (Or.inl ⟨?w10, ?y10⟩) (by assumption) ?r10
  case' i10 => simp only [List.getElem?_toArray, List.getElem?_cons_succ, List.getElem?_cons_zero]
  case i10 => rfl
  case q10 => exact fun _ _ _ h => h
  case w10 => rfl
  case y10 => (intro w hSw; go_simp) <;> with_reducible rfl
  try simp only [Act.put, List.setIfInBounds_toArray, List.set_cons_zero, List.set_cons_succ]
  refine wpAnyH_take (i := 2) (oi := ?o11) (v := ?v11) ?i11 (by kernel_rfl) (by kernel_rfl) (by kernel_rfl) ?q11 (Or.inl ⟨?w11, ?y11⟩) (by assumption) ?r11
  case' i11 => simp only [List.getElem?_toArray, List.getElem?_cons_succ, List.getElem?_cons_zero]
  case i11 => rfl
  case q11 => exact fun _ _ _ h => h
  case w11 => rfl
  case y11 => (intro w hSw; have z0 := (HM.out.below hSw).of (j := 0) (k := .i64) ⟨by decide, rfl⟩; go_simp) <;> with_reducible rfl
  try simp only [Act.put, List.setIfInBounds_toArray, List.set_cons_zero, List.set_cons_succ]
  refine wpAnyH_take (i := 5) (oi := ?o12) (v := ?v12) ?i12 (by kernel_rfl) (by kernel_rfl) (by kernel_rfl) ?q12 (Or.inl ⟨?w12, ?y12⟩) (by assumption) ?r12
  case' i12 => simp only [List.getElem?_toArray, List.getElem?_cons_succ, List.getElem?_cons_zero]
  case i12 => rfl
  case q12 => exact fun _ _ _ h => h
  case w12 => rfl
  case y12 => (intro w hSw; go_simp) <;> with_reducible rfl
  try simp only [Act.put, List.setIfInBounds_toArray, List.set_cons_zero, List.set_cons_succ]
  refine wpAnyH_ready (rs := [0]) (by kernel_rfl) (by simp) ?_
  refine AllReadyH.cons (o := ?o13) ?i13 (fun K' hK => ?_) AllReadyH.nil
  case' i13 => simp only [List.getElem?_toArray, List.getElem?_cons_succ, List.getElem?_cons_zero]
  case i13 => rfl
  go_simp
  go_at_call 22
  refine (fieldsIn_any q _).mono ?_
  rintro e w1 ⟨A, rfl, hF⟩
  have HF := Lib.hid hF
  have HB1 := Lib.hid (hHeld.trans (hF.1.mono hHeld.size))
  have HW1 := Lib.hid hHeld.size
  clear hF
  go_wp2_with fail
  refine hK.out _ _ HB1.out (fun hHeld => ?_)
  clear hK K'
  try simp only [Act.put, List.setIfInBounds_toArray, List.set_cons_zero, List.set_cons_succ]
  refine wpAnyH_ready (rs := [3]) (by kernel_rfl) (by simp) ?_
  refine AllReadyH.cons (o := ?o14) ?i14 (fun K' hK => ?_) AllReadyH.nil
  case' i14 => simp only [List.getElem?_toArray, List.getElem?_cons_succ, List.getElem?_cons_zero]
  case i14 => rfl
  go_simp
  go_at_call 36
  refine (fields_get HF.out _).mono ?_
  rintro e w2 ⟨⟨v, rfl, hV⟩, rfl⟩
  have HV := Lib.hid hV
  clear hV
  go_wp2_with fail
  refine hK.out _ _ HB1.out (fun hHeld => ?_)
  clear hK K'
  try simp only [Act.put, List.setIfInBounds_toArray, List.set_cons_zero, List.set_cons_succ]
  have HM2 : Hid (MsgAt w2 q M) := Lib.hid (HM.out.below HB1.out)
  have HB2 : Hid (Below w.heap.size w w2) := Lib.hid (HBA.out.trans (HB1.out.mono HBA.out.size))
  clear HF HBA HM HW1
  rcases HV.out with ⟨rfl, hfn⟩ | ⟨x, n, rfl, hn, hn1, hx, hrow⟩
  · have HE : Hid (namesM M = []) := Lib.hid (by unfold namesM; rw [hfn]; rfl)
    clear hfn HV
    refine wpAnyH_take (i := 4) (oi := ?o15) (v := ?v15) ?i15 (by kernel_rfl) (by kernel_rfl) (by kernel_rfl) ?q15 (Or.inl ⟨?w15, ?y15⟩) (by assumption) ?r15
    case' i15 => simp only [List.getElem?_toArray, List.getElem?_cons_succ, List.getElem?_cons_zero]
    case i15 => rfl
    case q15 => exact fun _ _ _ h => h
    case w15 => rfl
    case y15 => (intro w hSw; go_simp) <;> with_reducible rfl
    try simp only [Act.put, List.setIfInBounds_toArray, List.set_cons_zero, List.set_cons_succ]
    refine wpAnyH_done (by kernel_rfl) ?_ _
    clear hHeld
    go_wp2_with fail
    go_loopw [3, 5, 6, 7, 13] (fun s _ _ _ i wr => s = .slice none 0 0 ∧ i = .int .i64 0 ∧ wr = w2) (fun _ _ _ _ _ _ => 0)
    case atStart => exact ⟨rfl, rfl, rfl⟩
    case round =>
      obtain ⟨rfl, rfl, rfl⟩ := hrel
      go_wp2
      go_ret
      exact ⟨_, rfl, by rw [HE.out]; exact Own.nil _ _ _ _, HB2.out⟩
  · have hnm : n ≤ 8 := by rw [hn]; exact fds_len _
    have HN := Lib.hid hn
    clear hn
    refine wpAnyH_take (i := 4) (oi := ?o16) (v := ?v16) ?i16 (by kernel_rfl) (by kernel_rfl) (by kernel_rfl) ?q16 (Or.inl ⟨?w16, ?y16⟩) (by assumption) ?r16
    case' i16 => simp only [List.getElem?_toArray, List.getElem?_cons_succ, List.getElem?_cons_zero]
    case i16 => rfl
    case q16 => exact fun _ _ _ h => h
    case w16 => rfl
    case y16 => (intro w hSw; go_simp) <;> with_reducible rfl
    try simp only [Act.put, List.setIfInBounds_toArray, List.set_cons_zero, List.set_cons_succ]
    refine wpAnyH_done (by kernel_rfl) ?_ _
    clear hHeld
    have HR : Hid (w2.heap[x]? = some (.cells (fdsV q (M.i 0)) 59 (0, 0))) := Lib.hid hrow
    have HNM : Hid (namesM M = namL (fds (M.i 0)) M) := Lib.hid rfl
    clear HV HB1 hrow hx hn1
    generalize hk : M.i 0 = k at HR HN HNM
    have HKD := Lib.hid hk
    clear hk
    go_wp2_with fail
    go_loopw [3, 5, 6, 7, 13] (fun s _ _ _ i wr => ∃ (j : Nat) (L : List Int), j ≤ n ∧ i = .int .i64 j ∧ Hid (L.length ≤ j) ∧ Hid (L ++ namL ((fds k).drop j) M = namesM M) ∧ Hid (Own 3 .i64 w2.heap.size s L wr) ∧ Hid (Below w2.heap.size w2 wr)) (fun _ _ _ _ i _ => n - (intOf i).toNat)
    case atStart => exact ⟨0, [], Nat.zero_le _, rfl, Lib.hid (Nat.le_refl _), Lib.hid (by rw [List.drop_zero, HNM.out]; rfl), Lib.hid (Own.nil _ _ _ _), Lib.hid (Below.refl _ _)⟩
    case round =>
      obtain ⟨j, L, hj, rfl, HL, HE, HO, HC⟩ := hrel
      cases hd : (fds k).drop j with
      | nil =>
        have hjn : j = n := by
          have := List.drop_eq_nil_iff.1 hd
          rw [← HN.out] at this; omega
        subst hjn
        have HT : Hid (L = namesM M) := Lib.hid (by have h1 := HE.out; rw [hd] at h1; simpa [namL] using h1)
        clear hd HE
        go_wp2
        go_ret
        exact ⟨_, rfl, by rw [← HT.out]; exact own_down HO.out HB2.out.size, HB2.out.trans (HC.out.mono HB2.out.size)⟩
      | cons f r =>
        obtain ⟨hd2, hlt, hfit⟩ := drop_next hd
        rw [← HN.out] at hlt
        have hjlt : (j : Int) < (n : Int) := by omega
        have hcell := fld_cell (w := wr) ((HC.out.block _ (blk_lt HR.out)).trans HR.out) hd
        have HFT := Lib.hid hfit
        cases hnam : f.isNam with
        | false =>
          have hta := assert_no f q hnam
          have HE2 : Hid (L ++ namL ((fds k).drop (j + 1)) M = namesM M) := Lib.hid (by have h1 := HE.out; rw [hd, nam_no f r M hnam] at h1; rw [hd2]; exact h1)
          clear hd hd2 hfit HE hnam
          generalize f.ty = ft at hcell hta
          generalize f.rcv q = fr at hcell hta
          go_wp2
          go_roundw
          case rel => exact ⟨j + 1, L, by omega, by go_num, Lib.hid (by have := HL.out; omega), HE2, Lib.hid (HO.out.below (below_alloc _ _)), Lib.hid (HC.out.trans ((below_alloc _ _).mono HC.out.size))⟩
          case measure => simp [intOf]; omega
        | true =>
          obtain ⟨jn, rfl⟩ : ∃ jn, f = .nam jn := by
            cases f with
            | nam jn => exact ⟨jn, rfl⟩
            | _ => cases hnam
          have hta := assert_yes jn q
          have HE2 : Hid ((L ++ [M.i jn]) ++ namL ((fds k).drop (j + 1)) M = namesM M) := Lib.hid (by have h1 := HE.out; rw [hd] at h1; rw [hd2, ← h1]; simp [namL])
          have hz := fun o => cell_al ((HM2.out.below HC.out).of (nCell_n hfit)) o
          have HO2 := Lib.hid (fun o1 o2 => (HO.out.below (below_alloc wr o1)).below (below_alloc _ o2))
          have HBL := Lib.hid HC.out.size
          clear hd hd2 hfit HE hnam HO
          unfold Fd.rcv Fd.ty ptr at hta hcell
          dsimp only at hta hcell
          go_wp2_with (at_builtin; refine wpList_app rfl (.tmp 23) (.tmp 29) 38 3 .i64 8 Try.underlying38 infoI (by decide) rfl w2.heap.size _ L (M.i jn) _ rfl (HO2.out _ _) (wr.heap.size + 1) 1 rfl (two_new _ _ _) (by have := HL.out; omega) (by have := HBL.out; simp; omega) ?_; intro v' w' hA; have HA := Lib.hid hA; clear hA)
          go_roundw
          case rel => exact ⟨j + 1, L ++ [M.i jn], by omega, by go_num, Lib.hid (by have := HL.out; simp; omega), HE2, Lib.hid HA.out.own, Lib.hid ((HC.out.trans (((below_alloc _ _).trans ((below_alloc _ _).mono (below_alloc _ _).size)).mono HC.out.size)).trans HA.out.low)⟩
          case measure => simp [intOf]; omega
end Go.Proofs.Ytifpahjlmnimnaa
