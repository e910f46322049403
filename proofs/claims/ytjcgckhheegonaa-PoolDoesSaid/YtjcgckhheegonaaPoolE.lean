/- The program's pool: what is too old is forgotten. -/
import Derived.Test.YtjcgckhheegonaaPoolR
namespace Go.Proofs.Ytjcgckhheegonaa
open Go.RowKit
set_option linter.unusedVariables false
set_option linter.unusedSimpArgs false
set_option maxRecDepth 20000
theorem wrap_len {a b : Nat} (h : b ≤ a) (ha : a ≤ 1000) : IntKind.i64.wrap ((a : Int) - (b : Int)) = ((a - b : Nat) : Int) := by
  rw [i64_mil (by omega) (by omega)]; omega
theorem exp_count (now : Int) (l : List Ms) : l.length - (expM now l).length = expN now l := by
  have h := List.length_eq_countP_add_countP (p := oldM now) (l := l)
  have h2 : (expM now l).length = l.countP (fun m => !oldM now m) := by unfold expM; rw [List.countP_eq_length_filter]
  have h3 : l.countP (fun m => !oldM now m) = List.countP (fun a => decide ¬oldM now a = true) l := by
    congr 1
    funext m
    cases oldM now m <;> rfl
  unfold expN
  omega
/-- Which messages were struck so far: too old; what is too old and was not struck is still to come. -/
def Struck (now : Int) (l left : List Ms) (D : Ms → Bool) : Prop :=
  (∀ m, m ∈ l → D m = true → oldM now m = true) ∧ (∀ m, m ∈ l → oldM now m = true → D m = false → m ∈ left) ∧ ∀ m, m ∈ left → m ∈ l
theorem struck_start (now : Int) (l : List Ms) : Struck now l l (fun _ => false) := ⟨fun _ _ h => (by cases h), fun m hm _ _ => hm, fun m hm => hm⟩
theorem struck_end {now : Int} {l : List Ms} {D : Ms → Bool} (h : Struck now l [] D) : l.filter (fun m => !D m) = expM now l := by
  unfold expM
  apply List.filter_congr
  intro m hm
  cases ho : oldM now m with
  | true =>
    cases hd : D m with
    | true => rfl
    | false => have := h.2.1 m hm ho hd; simp at this
  | false =>
    cases hd : D m with
    | true => have := h.1 m hm hd; rw [ho] at this; cases this
    | false => rfl
theorem struck_stay {now : Int} {l left left' : List Ms} {D : Ms → Bool} {y : Ms} (h : Struck now l left D) (hp : left.Perm (y :: left')) (ho : oldM now y = false) : Struck now l left' D :=
  ⟨h.1, fun m hm h1 h2 => by
    rcases List.mem_cons.1 (hp.mem_iff.1 (h.2.1 m hm h1 h2)) with q | q
    · rw [q, ho] at h1; cases h1
    · exact q, fun m hm => h.2.2 m (hp.mem_iff.2 (List.mem_cons_of_mem _ hm))⟩
theorem struck_gone {now : Int} {l left left' : List Ms} {D : Ms → Bool} {y : Ms} (h : Struck now l left D) (hn : (l.map keyH).Nodup) (hp : left.Perm (y :: left')) (ho : oldM now y = true) : Struck now l (left'.filter (fun m => !(keyH m == keyH y))) (fun m => D m || keyH m == keyH y) := by
  have hy : y ∈ l := h.2.2 y (hp.mem_iff.2 (List.mem_cons_self ..))
  refine ⟨fun m hm h1 => ?_, fun m hm h1 h2 => ?_, fun m hm => h.2.2 m (hp.mem_iff.2 (List.mem_cons_of_mem _ (List.mem_filter.1 hm).1))⟩
  · rcases Bool.or_eq_true_iff.1 h1 with q | q
    · exact h.1 m hm q
    · rw [uniq hn hm hy (by simpa using q)]; exact ho
  · obtain ⟨q1, q2⟩ := Bool.or_eq_false_iff.1 h2
    rcases List.mem_cons.1 (hp.mem_iff.1 (h.2.1 m hm h1 q1)) with q | q
    · rw [q] at q2; simp at q2
    · exact List.mem_filter.2 ⟨q, by rw [q2]; rfl⟩
theorem filter_two {α : Type} (l : List α) (D : α → Bool) (q : α → Bool) : (l.filter (fun m => !D m)).filter (fun m => !q m) = l.filter (fun m => !(D m || q m)) := by
  rw [List.filter_filter]
  apply List.filter_congr
  intro m _
  cases D m <;> cases q m <;> rfl
theorem out_two {w u : World} {o : Obj} (h : Below (w.alloc o).heap.size (w.alloc o) u) : Below w.heap.size w u := (below_alloc w o).trans (h.mono (below_alloc w o).size)
theorem apart_r {a n : Nat} (h : a < n) : n ≠ a := by omega
theorem PAt.cells_chg {w u : World} {p bh bp : Nat} {s b : Int} {l : List Ms} {ps : List (Ms × Nat)} (h : PAt w p bh bp s b l ps) (hc : Chg (fun k => k = bh ∨ k = bp) w u) : u.cell? ⟨p, 2, none⟩ = some (.map (some bh)) ∧ u.cell? ⟨p, 3, none⟩ = some (.map (some bp)) := by
  have := hc.blk h.blk (fun e => by rcases e with e | e; exact h.apart.1 e; exact h.apart.2.1 e)
  exact ⟨by rw [cell_atA 2 this]; rfl, by rw [cell_atA 3 this]; rfl⟩
set_option maxHeartbeats 4000000 in
theorem exp_at {w : World} {p bh bp : Nat} {s b : Int} {l : List Ms} {ps : List (Ms × Nat)} (h : PAt w p bh bp s b l ps) (hlen : l.length ≤ 1000) (hsin : ∀ m, m ∈ l → U64 m.since) (now : Int) (hnow : U64 now) :
    Calls Try.prog 11 #[.pointer (some ⟨p, 0, none⟩), .int .u64 now] w fun e w' => e = .returned (.int .i64 (expN now l)) ∧ ∃ bh' bp' ps', w.heap.size ≤ bh' ∧ w.heap.size ≤ bp' ∧ PAt w' p bh' bp' s b (expM now l) ps' ∧ (∀ x, x ∈ ps' → x ∈ ps) ∧ Chg (fun k => k = p) w w' := by
  obtain ⟨_, _, c2, _, _, _⟩ := h.cells
  have HH := Lib.hid h
  have HN := Lib.hid h.heads.once
  have HSI := Lib.hid hsin
  have HNW := Lib.hid hnow
  have HLE := Lib.hid hlen
  clear h hsin hnow hlen
  go_enter Try.func11, Try.ntmps11
  go_wp2_with (first
    | (at_len; refine wpList_lenL rfl _ _ _ _ rfl Try.underlying58 rfl HH.out.heads ?_)
    | (go_at_call 21; refine (own_k HH.out).mono ?_; rintro e w1 ⟨bh', bp', rfl, hpa, hl1, hl2, hch⟩; obtain ⟨_, _, c2', _, _, _⟩ := hpa.cells; have HPA := Lib.hid hpa; have HL12 := Lib.hid (And.intro hl1 hl2); have HCH := Lib.hid hch; clear hpa hl1 hl2 hch)
    | (at_range; refine wpList_rangeL rfl _ _ _ _ rfl Try.underlying58 rfl HPA.out.heads ?_; intro w2 hr2 hb2 hs2)
    | go_in)
  go_frame
  have HR2 := Lib.hid hr2
  have HB2 := Lib.hid hb2
  clear hr2 hb2 hs2
  go_loopw [6, 7] (fun x6 x7 wr => ∃ (D : Ms → Bool) (left : List Ms), Struck now l left D ∧ Rng .u64 keyH encH wr bh' w1.heap.size (l.filter (fun m => !D m)) left ∧ MapL .u64 keyP encP wr bp' (ps.filter (fun x => !D x.1)) ∧ Chg (fun k => k = bh' ∨ k = bp') w1 wr) (fun x6 x7 wr => wr.rangeLeft bh' w1.heap.size)
  case atStart =>
    refine ⟨fun _ => false, l, struck_start now l, ?_, ?_, Chg.of_below HB2.out⟩
    · have e : l.filter (fun m => !(fun _ => false) m) = l := List.filter_eq_self.2 (fun _ _ => rfl)
      rw [e]; exact HR2.out
    · have e : ps.filter (fun x => !(fun _ => false) x.1) = ps := List.filter_eq_self.2 (fun _ _ => rfl)
      rw [e]; exact HPA.out.parts.below HB2.out
  case round =>
    clear HR2 HB2
    obtain ⟨D, left, hst, hrg, hmp, hc⟩ := hrel
    have HST := Lib.hid hst
    have HRG := Lib.hid hrg
    have HMP := Lib.hid hmp
    have HC := Lib.hid hc
    clear hst hrg hmp hc
    have HBP := Lib.hid (blk_lt HPA.out.blk)
    go_wp2_with (first | (at_next; refine wpList_nextL rfl _ rfl rfl HRG.out ?_ ?_) | go_in)
    · intro h0
      subst h0
      have HE := Lib.hid (struck_end HST.out)
      have HM8 : Hid (MapL .u64 keyH encH wr bh' (expM now l)) := Lib.hid (by rw [← HE.out]; exact HRG.out.map)
      have c28 : wr.cell? ⟨p, 2, none⟩ = some (.map (some bh')) := by rw [cell_atA 2 (HC.out.blk HPA.out.blk (fun e => by rcases e with e | e; exact HPA.out.apart.1 e; exact HPA.out.apart.2.1 e))]; rfl
      have hwl : IntKind.i64.wrap ((l.length : Int) - ((expM now l).length : Int)) = ((expN now l : Nat) : Int) := by
        rw [wrap_len (by unfold expM; exact List.length_filter_le _ _) HLE.out, exp_count]
      go_wp2_with (first | (at_len; refine wpList_lenL rfl _ _ _ _ rfl Try.underlying58 rfl HM8.out ?_) | go_in)
      have hfs : (ps.filter (fun x => !D x.1)).map Prod.fst = expM now l := by
        rw [← HE.out, ← HPA.out.fst, List.filter_map]; rfl
      have key : PAt wr p bh' bp' s b (expM now l) (ps.filter (fun x => !D x.1)) := ⟨HC.out.blk HPA.out.blk (fun e => by rcases e with e | e; exact HPA.out.apart.1 e; exact HPA.out.apart.2.1 e), HM8.out, HMP.out, hfs, fun x hx => (HPA.out.each x (List.mem_filter.1 hx).1).chg HC.out (fun e => by rcases e with e | e; exact (HPA.out.off x (List.mem_filter.1 hx).1).1 e; exact (HPA.out.off x (List.mem_filter.1 hx).1).2 e), HPA.out.ne, fun x hx => HPA.out.off x (List.mem_filter.1 hx).1⟩
      refine bodyPost_ret (v := .int .i64 (expN now l)) (by simp [results, Try.results11, go_sem]) rfl ?_
      exact ⟨rfl, bh', bp', _, HL12.out.1, HL12.out.2, key, fun x hx => (List.mem_filter.1 hx).1, HCH.out.wide HC.out (fun k e => by have := HL12.out; rcases e with e | e; exact .inr (by omega); exact .inr (by omega))⟩
    · intro y left' w3 hperm hr3 hc3 hs3 hen
      have HR3 := Lib.hid hr3
      have HP := Lib.hid hperm
      have HY : Hid (y ∈ l) := Lib.hid (HST.out.2.2 y (hperm.mem_iff.2 (List.mem_cons_self ..)))
      have HC3 : Hid (Chg (fun k => k = bh' ∨ k = bp') w1 w3) := Lib.hid (HC.out.wide hc3 (fun k e => .inr (Nat.le_of_eq e.symm)))
      have HM3 : Hid (MapL .u64 keyP encP w3 bp' (ps.filter (fun x => !D x.1))) := Lib.hid (HMP.out.chg hc3 (fun e => by have := HPA.out.parts.lt; omega))
      clear hperm hr3 hc3 hs3
      obtain ⟨ct, hct⟩ : ∃ ct, (headM y).ct = ct := ⟨_, rfl⟩
      obtain ⟨sn, hsn⟩ : ∃ sn, y.since = sn := ⟨_, rfl⟩
      obtain ⟨ky, hky⟩ : ∃ ky, keyH y = ky := ⟨_, rfl⟩
      have he : encH y = .agg #[.int .i64 ct, .int .u64 sn] := by unfold encH; rw [hct, hsn]
      rw [he, hky] at hen ⊢
      have HSN := Lib.hid hsn
      have HKY := Lib.hid hky
      clear hct hsn hky he
      obtain ⟨O, hO⟩ : ∃ O : Obj, O = .cells #[.int .i64 ct, .int .u64 sn] 66 (0, 0) := ⟨_, rfl⟩
      have HOB : ∀ b, oldM now y = b → Hid (oldM now y = b) := fun b h => Lib.hid h
      cases ho : oldM now y with
      | false =>
        have HO := Lib.hid ho
        clear ho HOB hO
        go_wp2_with (first
          | (go_at_call 22; refine (old_k ct sn now y HSN.out (by rw [← HSN.out]; exact HSI.out y HY.out) HNW.out false HO.out _).mono ?_; rintro e w5 ⟨rfl, hb5⟩; have HB5 := Lib.hid (out_two hb5); clear hb5)
          | go_in)
        go_roundw
        case rel => exact ⟨D, left', struck_stay HST.out HP.out HO.out, HR3.out.below HB5.out, HM3.out.below HB5.out, HC3.out.trans (Chg.of_below HB5.out)⟩
        case measure => rw [(HR3.out.below HB5.out).left_eq, HRG.out.left_eq, HP.out.length_eq]; exact Nat.lt_succ_self _
      | true =>
        have HO := Lib.hid ho
        clear ho HOB hO
        go_wp2_with (first
          | (go_at_call 22; refine (old_k ct sn now y HSN.out (by rw [← HSN.out]; exact HSI.out y HY.out) HNW.out true HO.out _).mono ?_; rintro e w5 ⟨rfl, hb5⟩; have HB5 := Lib.hid (out_two hb5); have HK5 := Lib.hid (HPA.out.cells_chg (HC3.out.trans (Chg.of_below HB5.out))); clear hb5)
          | (go_at_call 23; refine (forget_r p bh' bp' w1.heap.size ky (l.filter (fun m => !D m)) left' (ps.filter (fun x => !D x.1)) _ HK5.out.1 HK5.out.2 (HR3.out.below HB5.out) (HM3.out.below HB5.out) HPA.out.ne HPA.out.apart.1 (apart_r HPA.out.parts.lt)).mono ?_; rintro e w6 ⟨rfl, hr6, hm6, hc6⟩; have HR6 := Lib.hid hr6; have HM6 := Lib.hid hm6; have HC6 := Lib.hid hc6; clear hr6 hm6 hc6)
          | go_in)
        have e1 : ∀ q : List Ms, (q.filter (fun m => !D m)).filter (fun m => !(keyH m == ky)) = q.filter (fun m => !(D m || keyH m == ky)) := fun q => filter_two q D (fun m => keyH m == ky)
        have e2 : (ps.filter (fun x => !D x.1)).filter (fun x => !(keyP x == ky)) = ps.filter (fun x => !(D x.1 || keyH x.1 == ky)) := filter_two ps (fun x => D x.1) (fun x => keyP x == ky)
        have HR7 := HR6.out
        have HM7 := HM6.out
        rw [e1] at HR7
        rw [e2] at HM7
        have HRR := Lib.hid HR7
        have HMM := Lib.hid HM7
        clear HR7 HM7 e1 e2
        go_roundw
        case rel => exact ⟨fun m => D m || keyH m == ky, left'.filter (fun m => !(keyH m == ky)), by have := struck_gone HST.out HN.out HP.out HO.out; rw [HKY.out] at this; exact this, HRR.out, HMM.out, (HC3.out.trans (Chg.of_below HB5.out)).trans HC6.out⟩
        case measure => rw [HRR.out.left_eq, HRG.out.left_eq, HP.out.length_eq]; exact Nat.lt_succ_of_le (List.length_filter_le _ _)
end Go.Proofs.Ytjcgckhheegonaa
