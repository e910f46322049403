/- The document's All: it answers the names of the least set that has what is known and what is made of its own, or that one of them is no name. The document's Can: whether a name is in the least set, or what is wrong. -/
import Derived.Test.YtdhfnbajmjmlbaaKnowN
namespace Go.Proofs.Ytdhfnbajmjmlbaa
open Go.RowKit
set_option linter.unusedVariables false
set_option linter.unusedSimpArgs false
set_option maxRecDepth 20000

/-- A row's length, a bool's number: for a measure. -/
def lenV : Value → Nat
  | .slice _ n _ => n
  | _ => 0
def boolV : Value → Nat
  | .bool true => 1
  | _ => 0
/-- What All answers: the names, in a row that the call owns, or that one is no name. -/
def AllPost (base : Nat) (L : List Tm) (ks : List Int) (dh kem : Bool) (w : World) (e : Ending) (w' : World) : Prop :=
  Below w.heap.size w w' ∧ (((∃ x, x ∈ ks ∧ ¬ InL L x) ∧ e = .returned (.tuple #[.slice none 0 0, .int .i64 1])) ∨
    ((∀ x, x ∈ ks → InL L x) ∧ ∃ C v, Least L ks dh kem C ∧ e = .returned (.tuple #[v, .int .i64 0]) ∧ OwnI base v (namesIn L C) w'))

set_option maxHeartbeats 8000000 in
set_option maxRecDepth 100000 in
theorem all_any {g : Nat} {L : List Tm} {w : World} (hA : AtR g L w) (hF : Fit L) (hS : Sound L) (hU : Uniq L) (a : Option Addr) (cap : Nat) (ks : List Int) (h : IntsAt w a cap ks) (dh kem : Bool) :
    Calls Try.prog 13 #[.pointer (some ⟨g, 0, none⟩), .slice a ks.length cap, .bool dh, .bool kem] w (AllPost w.heap.size L ks dh kem w) := by
  have hlen := h.len
  have HI := Lib.hid h
  have HA := Lib.hid hA
  have HF := Lib.hid hF
  have HSd := Lib.hid hS
  have HU := Lib.hid hU
  obtain ⟨n, hn⟩ : ∃ n, n = ks.length := ⟨_, rfl⟩
  rw [← hn] at hlen ⊢
  have HN := Lib.hid hn
  obtain ⟨N, hN⟩ : ∃ N, N = L.length := ⟨_, rfl⟩
  have HL := Lib.hid hN
  have hN1 : N ≤ 1048576 := by rw [hN]; obtain ⟨_, _, _, q, _⟩ := hA; exact q
  have HIN : Hid (∀ W a cap M, IntsAt W a cap M → ∀ y, Calls Try.prog 35 #[.slice a M.length cap, .int .i64 y] W fun e w' => e = .returned (.bool (has M y)) ∧ W = w') := Lib.hid (fun W a cap M hi y => in_any a cap M y W hi)
  have HMK : Hid (∀ W a cap M, Below w.heap.size w W → IntsAt W a cap M → (∀ x, x ∈ M → InL L x) → ∀ k, k < N → Calls Try.prog 36 #[.pointer (some ⟨g, 0, none⟩), .slice a M.length cap, .bool dh, .bool kem, (tm L ((k : Int) + 1)).v] W fun e w' => e = .returned (.bool (ruleB L (has M) dh kem (tm L ((k : Int) + 1)))) ∧ Below W.heap.size W w') := Lib.hid (fun W a cap M hb hi hm k hk =>
    makes_any (hA.below hb) hS hU a cap M hi hm dh kem _ (by
      have := bare_tm hS (show InL L ((k : Int) + 1) from ⟨by omega, by omega⟩)
      exact ⟨this.1, this.2.1⟩))
  have HAP : Hid (∀ W a cap M, Below w.heap.size w W → IntsAt W a cap M → (∀ x, x ∈ M → InL L x) → ∀ y, Calls Try.prog 37 #[.pointer (some ⟨g, 0, none⟩), .slice a M.length cap, .int .i64 y] W fun e w' => e = .returned (.bool (apartB L M y)) ∧ Below W.heap.size W w') := Lib.hid (fun W a cap M hb hi hm y => apart_any (hA.below hb) a cap M y hi hm)
  obtain ⟨i0, hi0, hz0, hz1, hz2⟩ := info_parts info3
  clear h hA hF hS hU hn hN
  go_enter Try.func13, Try.ntmps13
  go_wp2_with fail
  have HO0 := Lib.hid (OwnI.new (base := w.heap.size) w (Nat.le_refl _))
  have HB0 : Hid (Below w.heap.size w (w.alloc (.cells #[] 3))) := Lib.hid ((Below.refl _ _).alloc (Nat.le_refl _) _)
  go_loopw [10, 11] (fun l i wr => ∃ (k : Nat) (M : List Int), k ≤ n ∧ i = .int .i64 k ∧ Hid (OwnI w.heap.size l M wr) ∧ Hid (Below w.heap.size w wr) ∧ Hid (Firsts L ks k M)) (fun _ i _ => n - (intOf i).toNat)
  case atStart => exact ⟨0, [], Nat.zero_le _, rfl, HO0, HB0, Lib.hid (Firsts.nil L ks)⟩
  case round =>
    clear HO0 HB0
    obtain ⟨k, M, hk, rfl, HO, HB, HJ⟩ := hrel
    by_cases hlt : k < n
    · obtain ⟨_, _, b, off, hc⟩ := HI.out.below HB.out
      obtain ⟨rfl, q0⟩ := hc k (by rw [← HN.out]; exact hlt)
      obtain ⟨y, hy⟩ : ∃ y, y = ks.getD k 0 := ⟨_, rfl⟩
      rw [← hy] at q0
      have HY := Lib.hid hy
      have Hlt := Lib.hid hlt
      have hlt1 : (k : Int) < n := by omega
      obtain ⟨aL, capL, c0, _⟩ := HA.out.below HB.out
      rw [← HL.out] at c0
      clear hy hk hlt hc
      by_cases hin : InL L y
      · have e1 : decide (y < 1) = false := by have := hin.1; simp; omega
        have e2 : decide (y > (N : Int)) = false := by have := hin.2; rw [← HL.out] at this; simp; omega
        have HY1 := Lib.hid hin
        clear hin
        go_wp2
        go_quiet (fail)
        have HB1 : Hid (Below w.heap.size w (wr.drewN nq)) := Lib.hid (HB.out.trans ((drewN_below wr nq).mono HB.out.size))
        have HO1 := Lib.hid (HO.out.below (drewN_below wr nq))
        have q0 : (wr.drewN nq).cell? ⟨b, off + k, none⟩ = some (.int .i64 y) := q0
        generalize wr.drewN nq = W at HB1 HO1 q0 ⊢
        clear HB HO c0 e1 e2
        obtain ⟨al, cl, rfl, hal⟩ := HO1.out.at
        have HAL := Lib.hid hal
        clear hal
        go_wp2_with fail
        refine (HIN.out W al cl M HAL.out y).mono ?_
        rintro e w1 ⟨rfl, rfl⟩
        by_cases hx : has M y = true
        · rw [hx]
          have HX := Lib.hid hx
          clear hx
          go_wp2_with fail
          go_roundw
          case rel => exact ⟨k + 1, M, by have := Hlt.out; omega, by go_num, HO1, HB1, Lib.hid (HJ.out.old (by rw [← HN.out]; exact Hlt.out) (by rw [← HY.out]; exact HX.out))⟩
          case measure => have := Hlt.out; simp [intOf]; omega
        · have hx' : has M y = false := by simpa using hx
          rw [hx']
          have HX := Lib.hid hx'
          clear hx hx'
          have HRow : Hid (W.ownsRow w.heap.size 3 1 (.slice al M.length cl) M.length (intsR M)) := HO1
          have hbs : w.heap.size ≤ W.heap.size := HB1.out.size
          have hml : M.length ≤ 1048576 := by have := HJ.out.len; rw [← HL.out] at this; omega
          have hbw : b < W.heap.size := block_lt_of_cell q0
          go_wp2_with (at_builtin; refine wpList_append_lies _ rfl _ _ 23 rfl w.heap.size 3 i0 (.int .i64 0) 1 8 Try.underlying23 hi0 hz0 hz1 hz2 rfl (by decide) _ _ _ rfl (HRow.out.alloc _) ⟨W.heap.size, 0, none⟩ 1 1 [.int .i64 y] rfl rfl (World.news_of_block (cs := #[.int .i64 y]) (t := 3) (fr := (0, 0)) (heap_alloc_new W _)) (by simp [Value.oneCell']) (by omega) (by unfold maxLen; omega) (by omega) (by simp; omega) (W.heap.size + 1) (by simp) ?_; intro g2 cap3 w3 hown2 hgrow2 hat2 hlt3)
          have HO2 : Hid (OwnI w.heap.size _ (M ++ [y]) w3) := Lib.hid (OwnI.app hown2)
          have HB2 : Hid (Below w.heap.size w w3) := Lib.hid (HB1.out.trans (HO1.out.grownB hbs hgrow2))
          clear hown2 hgrow2 hat2 hlt3 HRow hml hbs q0
          go_wp2_with fail
          go_roundw
          case rel => exact ⟨k + 1, M ++ [y], by have := Hlt.out; omega, by go_num, HO2, HB2, Lib.hid (by
            have := HJ.out.add (by rw [← HN.out]; exact Hlt.out) (by rw [← HY.out]; exact HY1.out) (by rw [← HY.out]; exact HX.out)
            rw [← HY.out] at this; exact this)⟩
          case measure => have := Hlt.out; simp [intOf]; omega
      · have hbad : Hid (∃ x, x ∈ ks ∧ ¬ InL L x) := Lib.hid ⟨y, by rw [HY.out]; exact getD_mem (by rw [← HN.out]; exact Hlt.out), hin⟩
        by_cases hy1 : y < 1
        · have e1 : decide (y < 1) = true := by simpa using hy1
          clear hin hy1
          go_wp2
          go_quiet (fail)
          have HB1 : Hid (Below w.heap.size w (wr.drewN nq)) := Lib.hid (HB.out.trans ((drewN_below wr nq).mono HB.out.size))
          go_wp2
          go_ret2
          exact ⟨HB1.out, .inl ⟨hbad.out, rfl⟩⟩
        · have e1 : decide (y < 1) = false := by simpa using hy1
          have e2 : decide (y > (N : Int)) = true := by
            have : ¬ (1 ≤ y ∧ y ≤ (L.length : Int)) := hin
            rw [← HL.out] at this; simp; omega
          clear hin hy1
          go_wp2
          go_quiet (fail)
          have HB1 : Hid (Below w.heap.size w (wr.drewN nq)) := Lib.hid (HB.out.trans ((drewN_below wr nq).mono HB.out.size))
          go_wp2
          go_ret2
          exact ⟨HB1.out, .inl ⟨hbad.out, rfl⟩⟩
    · obtain rfl : k = n := by omega
      clear hlt hk
      have hJ2 : Firsts L ks ks.length M := by have := HJ.out; rw [HN.out] at this; exact this
      obtain ⟨C, hC⟩ := least_is HF.out hJ2.all.1 dh kem
      have HC := Lib.hid hC
      have HUp : Hid (Up L ks C M) := Lib.hid (hJ2.up hC)
      have HAll := Lib.hid hJ2.all.1
      have hlt1 : decide ((k : Int) < k) = false := by simp
      clear hJ2 hC HJ HI
      have HO1 := HO
      have HB1 := HB
      clear HO HB
      go_wp2_with fail
      go_loopw [10, 12, 13] (fun l m _ wr => ∃ (M : List Int) (b : Bool), m = .bool b ∧ Hid (OwnI w.heap.size l M wr) ∧ Hid (Below w.heap.size w wr) ∧ Hid (Up L ks C M) ∧ Hid (b = false → StepC L dh kem (has M) (has M))) (fun l m _ _ => 2 * (N - lenV l) + boolV m)
      case atStart => exact ⟨M, true, rfl, HO1, HB1, HUp, Lib.hid (fun h => by cases h)⟩
      case round =>
        clear HO1 HB1 HUp
        obtain ⟨M, b, rfl, HO, HB, HUp, HSt⟩ := hrel
        obtain ⟨al, cl, rfl, hal⟩ := HO.out.at
        have HAL := Lib.hid hal
        clear hal
        cases b
        · go_wp2_with fail
          have HOb := Lib.hid (OwnI.new (base := w.heap.size) wr HB.out.size)
          have HBb : Hid (Below w.heap.size w (wr.alloc (.cells #[] 3))) := Lib.hid (HB.out.alloc HB.out.size _)
          have HOl : Hid (OwnI w.heap.size (.slice al M.length cl) M (wr.alloc (.cells #[] 3))) := Lib.hid (HO.out.below ((Below.refl _ _).alloc (Nat.le_refl _) _))
          have HNe : Hid (∀ b, (Value.slice (some ⟨wr.heap.size, 0, none⟩) 0 0).ownBlock = some b → (Value.slice al M.length cl).ownBlock ≠ some b) := Lib.hid (fun b hb e => by
            have := (HO.out.lt b e).2
            simp [Value.ownBlock] at hb; omega)
          have HIs : Hid (namesIn L C = (upto N).filter (has M)) := Lib.hid (by
            rw [HL.out]; unfold namesIn; congr 1; funext n; exact (HUp.out.is HC.out (HSt.out (by first | trivial | rfl)) n).symm)
          clear HO HB HAL HSt
          go_loopw [14, 15] (fun o i wr => ∃ (k : Nat), k ≤ N ∧ i = .int .i64 ((k : Int) + 1) ∧ Hid (OwnI w.heap.size o ((upto k).filter (has M)) wr) ∧ Hid (Below w.heap.size w wr) ∧ Hid (OwnI w.heap.size (.slice al M.length cl) M wr) ∧ Hid (∀ b, o.ownBlock = some b → (Value.slice al M.length cl).ownBlock ≠ some b)) (fun _ i _ => N + 1 - (intOf i).toNat)
          case atStart => exact ⟨0, Nat.zero_le _, rfl, HOb, HBb, HOl, HNe⟩
          case round =>
            clear HOb HBb HOl HNe
            obtain ⟨k, hk, rfl, HO, HB, HOl, HNe⟩ := hrel
            obtain ⟨aL, capL, c0, _⟩ := HA.out.below HB.out
            rw [← HL.out] at c0
            obtain ⟨ao, co, rfl, hao⟩ := HO.out.at
            clear hao
            by_cases hlt : k < N
            · have Hlt := Lib.hid hlt
              have hlt1 : (k : Int) + 1 ≤ N := by omega
              have HAL : Hid (IntsAt wr al cl M) := Lib.hid (by obtain ⟨a', c', e, h⟩ := HOl.out.at; injection e with e1 e2 e3; subst e1; subst e3; exact h)
              clear hlt hk
              go_wp2_with fail
              refine (HIN.out wr al cl M HAL.out _).mono ?_
              rintro e w1 ⟨rfl, rfl⟩
              clear c0 HAL
              by_cases hx : has M ((k : Int) + 1) = true
              · rw [hx]
                have HX := Lib.hid hx
                have hfl : ((upto k).filter (has M)).length ≤ 1048576 := by have := filter_upto_len (has M) k; have := Hlt.out; omega
                have HFl : Hid ((upto (k + 1)).filter (has M) = (upto k).filter (has M) ++ [(k : Int) + 1]) := Lib.hid (by rw [filter_upto, if_pos HX.out])
                clear hx
                obtain ⟨Mo, hMo⟩ : ∃ Mo, Mo = (upto k).filter (has M) := ⟨_, rfl⟩
                rw [← hMo] at HO HFl hfl HNe ⊢
                clear hMo
                have HRow : Hid (wr.ownsRow w.heap.size 3 1 (.slice ao Mo.length co) Mo.length (intsR Mo)) := HO
                have hbs : w.heap.size ≤ wr.heap.size := HB.out.size
                go_wp2_with (at_builtin; refine wpList_append_lies _ rfl _ _ 23 rfl w.heap.size 3 i0 (.int .i64 0) 1 8 Try.underlying23 hi0 hz0 hz1 hz2 rfl (by decide) _ _ _ rfl (HRow.out.alloc _) ⟨wr.heap.size, 0, none⟩ 1 1 [.int .i64 ((k : Int) + 1)] rfl rfl (World.news_of_block (cs := #[.int .i64 ((k : Int) + 1)]) (t := 3) (fr := (0, 0)) (heap_alloc_new wr _)) (by simp [Value.oneCell']) (by omega) (by unfold maxLen; omega) (by omega) (by simp; omega) (wr.heap.size + 1) (by simp) ?_; intro g2 cap3 w3 hown2 hgrow2 hat2 hlt3)
                have HO2 : Hid (OwnI w.heap.size _ (Mo ++ [(k : Int) + 1]) w3) := Lib.hid (OwnI.app hown2)
                have HB2 : Hid (Below w.heap.size w w3) := Lib.hid (HB.out.trans (HO.out.grownB hbs hgrow2))
                have HOl2 : Hid (OwnI w.heap.size (.slice al M.length cl) M w3) := Lib.hid (HOl.out.chg (HO.out.grown hgrow2) (fun b hb e => HNe.out b e.symm hb))
                have HNe2 : Hid (∀ b, (Value.slice (some ⟨g2, 0, none⟩) (Mo.length + 1) cap3).ownBlock = some b → (Value.slice al M.length cl).ownBlock ≠ some b) := Lib.hid (fun b hb e => by
                  have hb' : g2 = b := by simpa [Value.ownBlock] using hb
                  rcases hat2 with q | q
                  · have q' : (Value.slice ao Mo.length co).ownBlock = some g2 := q
                    exact HNe.out b (by rw [q', hb']) e
                  · have := (HOl.out.lt b e).2; omega)
                clear hown2 hgrow2 hat2 hlt3 HRow hbs hfl
                go_wp2_with fail
                go_roundw
                case rel => exact ⟨k + 1, by have := Hlt.out; omega, by go_num, by rw [HFl.out]; exact HO2, HB2, HOl2, HNe2⟩
                case measure => have := Hlt.out; simp [intOf]; omega
              · have hx' : has M ((k : Int) + 1) = false := by simpa using hx
                rw [hx']
                have HX := Lib.hid hx'
                clear hx hx'
                go_wp2_with fail
                go_roundw
                case rel => exact ⟨k + 1, by have := Hlt.out; omega, by go_num, by rw [filter_upto, if_neg (by rw [HX.out]; decide), List.append_nil]; exact HO, HB, HOl, HNe⟩
                case measure => have := Hlt.out; simp [intOf]; omega
            · obtain rfl : k = N := by omega
              have hlt1 : decide ((k : Int) + 1 ≤ k) = false := decide_eq_false (by omega)
              have HK := Lib.hid HIs.out
              clear hlt hk
              go_wp2_with fail
              go_ret2
              exact ⟨HB.out, .inr ⟨HAll.out, C, _, HC.out, rfl, by rw [HK.out]; exact HO.out⟩⟩
        · have HOa := HO
          have HBa := HB
          have HUa := HUp
          clear HO HB HUp HSt HAL
          go_wp2_with fail
          go_loopw [10, 12, 13] (fun l' m' nm wr' => ∃ (k : Nat) (M' : List Int) (b : Bool), k ≤ N ∧ nm = .int .i64 ((k : Int) + 1) ∧ m' = .bool b ∧ Hid (OwnI w.heap.size l' M' wr') ∧ Hid (Below w.heap.size w wr') ∧ Hid (Up L ks C M') ∧ Hid (M.length ≤ M'.length ∧ (b = true → M.length < M'.length)) ∧ Hid (b = false → Still L dh kem M' k)) (fun _ _ nm _ => N + 1 - (intOf nm).toNat)
          case atStart => exact ⟨0, M, false, Nat.zero_le _, rfl, rfl, HOa, HBa, HUa, Lib.hid ⟨Nat.le_refl _, fun h => by cases h⟩, Lib.hid (fun _ => Still.zero L dh kem M)⟩
          case round =>
            clear HOa HBa
            obtain ⟨k, M', b, hk, rfl, rfl, HO1, HB1, HUp1, HLn, HStl⟩ := hrel
            obtain ⟨al, cl, rfl, hal⟩ := HO1.out.at
            have HAL := Lib.hid hal
            obtain ⟨aL, capL, c0, _, hcell⟩ := HA.out.below HB1.out
            rw [← HL.out] at c0 hcell
            by_cases hlt : k < N
            · obtain ⟨bb, rfl, hq⟩ := hcell k hlt
              have hmk := HMK.out wr al cl M' HB1.out hal HUp1.out.2.1 k hlt
              have Hkin : Hid (InL L ((k : Int) + 1)) := Lib.hid ⟨by omega, by rw [← HL.out]; omega⟩
              rw [tm_nat] at hmk
              obtain ⟨⟨TK, TS, TN, TA, TB, TC⟩, ht⟩ : ∃ t, t = L.getD k zeroT := ⟨_, rfl⟩
              rw [← ht] at hq hmk
              have HT := Lib.hid ht
              have Hlt := Lib.hid hlt
              have hlt1 : (k : Int) + 1 ≤ N := by omega
              have hlt2 : (k : Int) < N := by omega
              have e4 : (k : Int) + 1 - 1 = k := by omega
              have r0 : wr.cell? ⟨bb, k * 6, none⟩ = some (.int .i64 TK) := hq 0 _ rfl
              have r1 : wr.cell? ⟨bb, k * 6 + 1, none⟩ = some (.string TS) := hq 1 _ rfl
              have r2 : wr.cell? ⟨bb, k * 6 + 2, none⟩ = some (.int .u64 TN) := hq 2 _ rfl
              have r3 : wr.cell? ⟨bb, k * 6 + 3, none⟩ = some (.int .i64 TA) := hq 3 _ rfl
              have r4 : wr.cell? ⟨bb, k * 6 + 4, none⟩ = some (.int .i64 TB) := hq 4 _ rfl
              have r5 : wr.cell? ⟨bb, k * 6 + 5, none⟩ = some (.int .i64 TC) := hq 5 _ rfl
              have HRt : Hid (ruleB L (has M') dh kem ⟨TK, TS, TN, TA, TB, TC⟩ = ruleB L (has M') dh kem (tm L ((k : Int) + 1))) := Lib.hid (by rw [tm_nat, HT.out])
              clear hq ht hlt hk hal hcell
              go_wp2_with fail
              refine (HIN.out wr al cl M' HAL.out _).mono ?_
              rintro e w1 ⟨rfl, rfl⟩
              by_cases hx : has M' ((k : Int) + 1) = true
              · rw [hx]
                have HX := Lib.hid hx
                clear hx hmk r0 r1 r2 r3 r4 r5 c0
                go_wp2_with fail
                go_roundw
                case rel => exact ⟨k + 1, M', b, by have := Hlt.out; omega, by go_num, rfl, HO1, HB1, HUp1, HLn, Lib.hid (fun h => (HStl.out h).next (.inl HX.out))⟩
                case measure => have := Hlt.out; simp [intOf]; omega
              · have hx' : has M' ((k : Int) + 1) = false := by simpa using hx
                rw [hx']
                have HX := Lib.hid hx'
                clear hx hx'
                go_wp2_with fail
                refine hmk.mono ?_
                rintro e w1 ⟨rfl, hb1⟩
                have HO2w := Lib.hid (HO1.out.below hb1)
                have HB2w : Hid (Below w.heap.size w w1) := Lib.hid (HB1.out.trans (hb1.mono HB1.out.size))
                have HAL2 := Lib.hid (HAL.out.below hb1)
                clear hb1 r0 r1 r2 r3 r4 r5 c0 HO1 HB1 HAL
                cases hr : ruleB L (has M') dh kem ⟨TK, TS, TN, TA, TB, TC⟩
                · have HR0 := Lib.hid hr
                  clear hr
                  go_wp2_with fail
                  refine (HAP.out w1 al cl M' HB2w.out HAL2.out HUp1.out.2.1 _).mono ?_
                  rintro e w2 ⟨rfl, hb2⟩
                  have HO3w := Lib.hid (HO2w.out.below hb2)
                  have HB3w : Hid (Below w.heap.size w w2) := Lib.hid (HB2w.out.trans (hb2.mono HB2w.out.size))
                  clear hb2 HO2w HB2w HAL2
                  cases ha : apartB L M' ((k : Int) + 1)
                  · have HA0 := Lib.hid ha
                    clear ha
                    go_wp2_with fail
                    go_roundw
                    case rel => exact ⟨k + 1, M', b, by have := Hlt.out; omega, by go_num, rfl, HO3w, HB3w, HUp1, HLn, Lib.hid (fun h => (HStl.out h).next (.inr ⟨by rw [← HRt.out]; exact HR0.out, HA0.out⟩))⟩
                    case measure => have := Hlt.out; simp [intOf]; omega
                  · have HA1 := Lib.hid ha
                    clear ha
                    have HRow : Hid (w2.ownsRow w.heap.size 3 1 (.slice al M'.length cl) M'.length (intsR M')) := HO3w
                    have hbs : w.heap.size ≤ w2.heap.size := HB3w.out.size
                    have hml : M'.length ≤ 1048576 := by have := HUp1.out.len; rw [← HL.out] at this; omega
                    have HUp2 : Hid (Up L ks C (M' ++ [(k : Int) + 1])) := Lib.hid (HUp1.out.add HF.out HC.out Hkin.out HX.out (.inr HA1.out))
                    clear hmk
                    go_wp2_with (at_builtin; refine wpList_append_lies _ rfl _ _ 23 rfl w.heap.size 3 i0 (.int .i64 0) 1 8 Try.underlying23 hi0 hz0 hz1 hz2 rfl (by decide) _ _ _ rfl (HRow.out.alloc _) ⟨w2.heap.size, 0, none⟩ 1 1 [.int .i64 ((k : Int) + 1)] rfl rfl (World.news_of_block (cs := #[.int .i64 ((k : Int) + 1)]) (t := 3) (fr := (0, 0)) (heap_alloc_new w2 _)) (by simp [Value.oneCell']) (by omega) (by unfold maxLen; omega) (by omega) (by simp; omega) (w2.heap.size + 1) (by simp) ?_; intro g2 cap3 w3 hown2 hgrow2 hat2 hlt3)
                    have HO2 : Hid (OwnI w.heap.size _ (M' ++ [(k : Int) + 1]) w3) := Lib.hid (OwnI.app hown2)
                    have HB2 : Hid (Below w.heap.size w w3) := Lib.hid (HB3w.out.trans (HO3w.out.grownB hbs hgrow2))
                    clear hown2 hgrow2 hat2 hlt3 HRow hml hbs
                    go_wp2_with fail
                    go_roundw
                    case rel => exact ⟨k + 1, M' ++ [(k : Int) + 1], true, by have := Hlt.out; omega, by go_num, rfl, HO2, HB2, HUp2, Lib.hid ⟨by have := HLn.out.1; rw [List.length_append]; omega, fun _ => by have := HLn.out.1; rw [List.length_append]; show _ < _ + 1; omega⟩, Lib.hid (fun h => by cases h)⟩
                    case measure => have := Hlt.out; simp [intOf]; omega

                · have HR1 := Lib.hid hr
                  clear hr
                  have HRow : Hid (w1.ownsRow w.heap.size 3 1 (.slice al M'.length cl) M'.length (intsR M')) := HO2w
                  have hbs : w.heap.size ≤ w1.heap.size := HB2w.out.size
                  have hml : M'.length ≤ 1048576 := by have := HUp1.out.len; rw [← HL.out] at this; omega
                  have HUp2 : Hid (Up L ks C (M' ++ [(k : Int) + 1])) := Lib.hid (HUp1.out.add HF.out HC.out Hkin.out HX.out (.inl (by rw [← HRt.out]; exact HR1.out)))
                  clear hmk
                  go_wp2_with (at_builtin; refine wpList_append_lies _ rfl _ _ 23 rfl w.heap.size 3 i0 (.int .i64 0) 1 8 Try.underlying23 hi0 hz0 hz1 hz2 rfl (by decide) _ _ _ rfl (HRow.out.alloc _) ⟨w1.heap.size, 0, none⟩ 1 1 [.int .i64 ((k : Int) + 1)] rfl rfl (World.news_of_block (cs := #[.int .i64 ((k : Int) + 1)]) (t := 3) (fr := (0, 0)) (heap_alloc_new w1 _)) (by simp [Value.oneCell']) (by omega) (by unfold maxLen; omega) (by omega) (by simp; omega) (w1.heap.size + 1) (by simp) ?_; intro g2 cap3 w3 hown2 hgrow2 hat2 hlt3)
                  have HO2 : Hid (OwnI w.heap.size _ (M' ++ [(k : Int) + 1]) w3) := Lib.hid (OwnI.app hown2)
                  have HB2 : Hid (Below w.heap.size w w3) := Lib.hid (HB2w.out.trans (HO2w.out.grownB hbs hgrow2))
                  clear hown2 hgrow2 hat2 hlt3 HRow hml hbs
                  go_wp2_with fail
                  go_roundw
                  case rel => exact ⟨k + 1, M' ++ [(k : Int) + 1], true, by have := Hlt.out; omega, by go_num, rfl, HO2, HB2, HUp2, Lib.hid ⟨by have := HLn.out.1; rw [List.length_append]; omega, fun _ => by have := HLn.out.1; rw [List.length_append]; show _ < _ + 1; omega⟩, Lib.hid (fun h => by cases h)⟩
                  case measure => have := Hlt.out; simp [intOf]; omega

            · obtain rfl : k = N := by omega
              have hlt1 : decide ((k : Int) + 1 ≤ k) = false := decide_eq_false (by omega)
              clear hlt hk hal hcell
              cases b
              all_goals
                go_wp2_with fail
                go_roundw
                case rel => exact ⟨M', _, rfl, HO1, HB1, HUp1, Lib.hid (fun h => by
                  first
                    | exact Still.step HF.out (by have := HStl.out (by first | trivial | rfl); rw [HL.out] at this; exact this)
                    | cases h)⟩
                case measure =>
                  have h1 := HLn.out
                  have h2 := HUp1.out.len
                  have h3 := HUa.out.len
                  rw [← HL.out] at h2 h3
                  first
                    | (have h4 := h1.2 (by first | trivial | rfl); simp [lenV, boolV]; omega)
                    | (simp [lenV, boolV]; omega)
end Go.Proofs.Ytdhfnbajmjmlbaa

namespace Go.Proofs.Ytdhfnbajmjmlbaa
open Go.RowKit
set_option linter.unusedVariables false
set_option linter.unusedSimpArgs false
set_option maxRecDepth 20000

theorem has_names {L : List Tm} (hf : Fit L) {ks : List Int} (hk : ∀ x, x ∈ ks → InL L x) {dh kem : Bool} {C : Int → Bool} (hC : Least L ks dh kem C) (n : Int) : has (namesIn L C) n = C n := by
  rw [Bool.eq_iff_iff, has_iff, mem_namesIn]
  exact ⟨fun h => h.2, fun h => ⟨hC.inL hf hk h, h⟩⟩
/-- What Can answers. -/
def CanPost (L : List Tm) (ks : List Int) (dh kem : Bool) (name : Int) (w : World) (e : Ending) (w' : World) : Prop :=
  Below w.heap.size w w' ∧ (((∃ x, x ∈ ks ∧ ¬ InL L x) ∧ e = .returned (.tuple #[.bool false, .int .i64 1])) ∨
    ((∀ x, x ∈ ks → InL L x) ∧ ¬ InL L name ∧ e = .returned (.tuple #[.bool false, .int .i64 5])) ∨
    ((∀ x, x ∈ ks → InL L x) ∧ InL L name ∧ ∃ C, Least L ks dh kem C ∧ e = .returned (.tuple #[.bool (C name), .int .i64 0])))

set_option maxHeartbeats 4000000 in
set_option maxRecDepth 100000 in
theorem can_any {g : Nat} {L : List Tm} {w : World} (hA : AtR g L w) (hF : Fit L) (hS : Sound L) (hU : Uniq L) (a : Option Addr) (cap : Nat) (ks : List Int) (h : IntsAt w a cap ks) (dh kem : Bool) (name : Int) :
    Calls Try.prog 15 #[.pointer (some ⟨g, 0, none⟩), .slice a ks.length cap, .bool dh, .bool kem, .int .i64 name] w (CanPost L ks dh kem name w) := by
  have HAll := Lib.hid (all_any hA hF hS hU a cap ks h dh kem)
  have HA := Lib.hid hA
  have HF := Lib.hid hF
  have hlen := h.len
  obtain ⟨n, hn⟩ : ∃ n, n = ks.length := ⟨_, rfl⟩
  rw [← hn] at hlen HAll ⊢
  clear h hA hF hS hU hn
  go_enter Try.func15, Try.ntmps15
  go_wp2_with fail
  refine HAll.out.mono ?_
  rintro e w1 ⟨hb, ⟨hbad, rfl⟩ | ⟨hin, C, v, hC, rfl, ho⟩⟩
  · have HB := Lib.hid hb
    have HBad := Lib.hid hbad
    clear hb hbad HAll
    go_wp2_with fail
    go_ret2
    exact ⟨HB.out, .inl ⟨HBad.out, rfl⟩⟩
  · have HB := Lib.hid hb
    have HIn := Lib.hid hin
    have HC := Lib.hid hC
    obtain ⟨al, cl, rfl, hal⟩ := OwnI.at ho
    have HAL := Lib.hid hal
    obtain ⟨aL, capL, c0, hl20, _⟩ := HA.out.below HB.out
    have HN : Hid (has (namesIn L C) name = C name) := Lib.hid (has_names HF.out hin hC name)
    obtain ⟨N, hN⟩ : ∃ N, N = L.length := ⟨_, rfl⟩
    rw [← hN] at c0 hl20
    have HL := Lib.hid hN
    clear hb hin hC ho hal HAll hN
    by_cases hnm : InL L name
    · have e1 : decide (name < 1) = false := by have := hnm.1; simp; omega
      have e2 : decide (name > (N : Int)) = false := by have := hnm.2; rw [← HL.out] at this; simp; omega
      have HNm := Lib.hid hnm
      clear hnm
      go_wp2_with fail
      refine (in_any al cl _ name w1 HAL.out).mono ?_
      rintro e w2 ⟨rfl, rfl⟩
      rw [HN.out]
      go_wp2_with fail
      go_ret2
      exact ⟨HB.out, .inr (.inr ⟨HIn.out, HNm.out, C, HC.out, rfl⟩)⟩
    · have HNm := Lib.hid hnm
      by_cases hy1 : name < 1
      · have e1 : decide (name < 1) = true := by simpa using hy1
        clear hnm hy1
        go_wp2_with fail
        go_ret2
        exact ⟨HB.out, .inr (.inl ⟨HIn.out, HNm.out, rfl⟩)⟩
      · have e1 : decide (name < 1) = false := by simpa using hy1
        have e2 : decide (name > (N : Int)) = true := by
          have : ¬ (1 ≤ name ∧ name ≤ (L.length : Int)) := hnm
          rw [← HL.out] at this; simp; omega
        clear hnm hy1
        go_wp2_with fail
        go_ret2
        exact ⟨HB.out, .inr (.inl ⟨HIn.out, HNm.out, rfl⟩)⟩
end Go.Proofs.Ytdhfnbajmjmlbaa
