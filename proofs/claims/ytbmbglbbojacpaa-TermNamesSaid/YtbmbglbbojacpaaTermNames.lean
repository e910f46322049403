/- TermNames: of every row of bytes, unlike Nonces have the names 1 and on as they come, and one that came has the name that it had. No condition. -/
import Derived.Test.YtbmbglbbojacpaaRows
import Derived.Test.YtbmbglbbojacpaaFixedB
import Derived.WalkKit
import Derived.ProofKit
import Derived.OpenShut
import Derived.ShutString
import Derived.ChangeOld
import Derived.Below
namespace Go.Proofs.Ytbmbglbbojacpaa.termNames
open Go.ChangeShapes Go.WideShapes Go.ChangeAt Go.RowKit
open Go.ChangeMaps (open_string shut_string)
open Go.Proofs.Ytbmbglbbojacpaa
set_option linter.unusedVariables false

theorem own : ownKnob Try.prog.godebug = none := by kernel_rfl
theorem laidOut : laidOutB Try.prog = true := by kernel_rfl

def IsRow (k : IntKind) (w : World) (a : Option Addr) (len cap : Nat) (zs : List Int) : Prop :=
  (a = none ∧ len = 0 ∧ cap = 0 ∧ zs = []) ∨
  ∃ x, a = some x ∧ len ≤ cap ∧ cap ≤ maxLen ∧ zs.length = cap ∧ (∀ i, i < zs.length → w.cell? (x.add i) = some (.int k (zs.getD i 0))) ∧ ∀ n ∈ zs, (Lit.int k n).wf = true


def nz (n : Nat) : Tm := ⟨2, ⟨#[]⟩, n, 0, 0, 0⟩
theorem nz_inj {a b : Nat} (h : nz a = nz b) : a = b := by simp only [nz, Tm.mk.injEq] at h; omega
theorem nz_wf (n : Nat) (h : n ≤ 255) : Wf (nz n) := by
  refine ⟨Nat.zero_le _, (by decide : (Lit.int .i64 2).wf = true), ?_, (by decide : (Lit.int .i64 0).wf = true), (by decide : (Lit.int .i64 0).wf = true), (by decide : (Lit.int .i64 0).wf = true)⟩
  have e1 : IntKind.u64.min = 0 := by decide
  have e2 : IntKind.u64.max = 18446744073709551615 := by decide
  simp only [nz, Lit.wf, e1, e2, Bool.and_eq_true, decide_eq_true_eq]
  omega
theorem nz_may (n : Nat) (x : Nat) : (nz x).may n = true := by
  unfold Tm.may
  apply decide_eq_true
  refine ⟨(by decide : (1 : Int) ≤ 2), (by decide : (2 : Int) ≤ 11), fun _ => tl0, fun h => absurd rfl h, Nat.zero_le _, ?_, fun h => absurd (show (2 : Int) = 4 from h) (by decide)⟩
  rw [below3]
  simp [BadP, many, nz, prt]
def bytesV (fs : List Nat) : List Value := fs.map fun (n : Nat) => Value.int .u8 n
theorem getD_map (fs : List Nat) (j : Nat) (h : j < fs.length) : (fs.map nz).getD j zeroT = nz (fs.getD j 0) := by simp [List.getD, h]
theorem name_zero (fs : List Nat) (x : Nat) (h : ∀ j, j < fs.length → fs.getD j 0 ≠ x) : nameOf (fs.map nz) (nz x) = 0 := by
  apply nameOf_zero
  intro j hj e
  have hj' : j < fs.length := by simpa using hj
  rw [getD_map fs j hj'] at e
  exact h j hj' (nz_inj e)
theorem name_at (fs : List Nat) (x j : Nat) (hn : fs.Nodup) (hj : j < fs.length) (h : fs.getD j 0 = x) : nameOf (fs.map nz) (nz x) = (j : Int) + 1 := by
  refine nameOf_of _ _ j (by simpa using hj) (by rw [getD_map fs j hj, h]) (fun i hi e => ?_)
  have hi' : i < fs.length := Nat.lt_trans hi hj
  rw [getD_map fs i hi'] at e
  have e2 := nz_inj e
  rw [← h] at e2
  simp only [List.getD, List.getElem?_eq_getElem hi', List.getElem?_eq_getElem hj, Option.getD_some] at e2
  have := (List.getElem_inj hn).1 e2
  omega
theorem put_new (fs : List Nat) (x : Nat) (hl : fs.length < 60) (h : ∀ j, j < fs.length → fs.getD j 0 ≠ x) : putF (fs.map nz) 300 (nz x) = ((fs.length : Int) + 1, 0, (fs ++ [x]).map nz) := by
  unfold putF
  rw [if_pos (nz_may _ _), name_zero fs x h, if_neg (by simp), if_neg (by simp; omega)]
  simp
theorem put_old (fs : List Nat) (x j : Nat) (hn : fs.Nodup) (hj : j < fs.length) (h : fs.getD j 0 = x) : putF (fs.map nz) 300 (nz x) = ((j : Int) + 1, 0, fs.map nz) := by
  unfold putF
  rw [if_pos (nz_may _ _), name_at fs x j hn hj h, if_pos (by omega)]
theorem get_at (fs : List Nat) (j : Nat) (hj : j < fs.length) : getT (fs.map nz) ((j : Int) + 1) = (nz (fs.getD j 0), true) := by
  unfold getT
  rw [if_pos (by simp; omega), show ((j : Int) + 1 - 1).toNat = j from by omega, getD_map fs j hj]
theorem nodup_snoc (fs : List Nat) (x : Nat) (hn : fs.Nodup) (h : ∀ j, j < fs.length → fs.getD j 0 ≠ x) : (fs ++ [x]).Nodup := by
  rw [List.nodup_append]
  refine ⟨hn, by simp, ?_⟩
  intro a ha b hb e
  simp at hb
  obtain ⟨j, hj, hja⟩ := List.getElem_of_mem ha
  exact h j hj (by simp [List.getD, hj, hja, e, hb])

/-- The world in a round: the store has L, the row has what came first. -/
def St (w : World) (g : Nat) (fv : Value) (L : List Tm) (fs : List Nat) (wr : World) : Prop :=
  (∃ F, PS w.heap.size g F L 300 wr ∧ ∀ k, fv.ownBlock = some k → ¬ F k) ∧ wr.ownsRow w.heap.size 5 1 fv fs.length (bytesV fs) ∧ Below w.heap.size w wr
theorem St.below {w wr w' : World} {g : Nat} {fv : Value} {L : List Tm} {fs : List Nat} (h : St w g fv L fs wr) (hb : Below wr.heap.size wr w') : St w g fv L fs w' := by
  obtain ⟨⟨F, h1, h2⟩, h3, h4⟩ := h
  exact ⟨⟨F, h1.below hb, h2⟩, (Chg.of_below (S := fun _ => False) hb).row h3 (fun _ _ q => q), h4.trans (hb.mono h4.size)⟩
theorem St.drewN {w wr : World} {g : Nat} {fv : Value} {L : List Tm} {fs : List Nat} (h : St w g fv L fs wr) (q : Nat) : St w g fv L fs (wr.drewN q) := h.below ⟨rfl, rfl, rfl, Nat.le_refl _, fun _ _ => rfl⟩
theorem St.app {w wr w3 : World} {g g2 cap : Nat} {fv : Value} {L : List Tm} {fs : List Nat} {x : Nat} (h : St w g fv L fs wr) (hown : w3.ownsRow w.heap.size 5 1 (.slice (some ⟨g2, 0, none⟩) (fs.length + 1) cap) (fs.length + 1) (bytesV fs ++ [.int .u8 x]))
    (hgrow : (wr.alloc (.cells #[.int .u8 x] 5)).grownBy w3 fv.ownBlock) (hat : fv.ownBlock = some g2 ∨ g2 = wr.heap.size + 1) : St w g (.slice (some ⟨g2, 0, none⟩) (fs.length + 1) cap) L (fs ++ [x]) w3 := by
  obtain ⟨⟨F, h1, h2⟩, h3, h4⟩ := h
  have C : Chg (fun k => some k = fv.ownBlock) wr w3 := (Chg.alloc wr _ _).trans (Chg.grown hgrow)
  refine ⟨⟨F, h1.chg C (fun k hk e => h2 k e.symm hk), ?_⟩, ?_, h4.trans (C.below (fun k hk => (h3.lt k hk.symm).1) h4.size)⟩
  · intro k hk q
    have hk : g2 = k := by simpa [Value.ownBlock] using hk
    subst hk
    rcases hat with hat | hat
    · exact h2 _ hat q
    · have := (h1.bounds _ q).2; omega
  · simpa [bytesV] using hown

theorem St.put_calls {w wr : World} {g : Nat} {fv : Value} {L L' : List Tm} {fs : List Nat} {a b : Int} (t : Tm) (h : St w g fv L fs wr) (ht : Wf t) (hf : putF L 300 t = (a, b, L')) :
    Calls Try.prog 13 #[.pointer (some ⟨g, 0, none⟩), t.v] wr fun e w' => e = .returned (.tuple #[.int .i64 a, .int .i64 b]) ∧ St w g fv L' fs w' := by
  obtain ⟨⟨F, h1, h2⟩, h3, h4⟩ := h
  refine (put_p t wr h1 ht).mono ?_
  rintro e w' ⟨rfl, p2, p3⟩
  rw [hf] at p2 ⊢
  refine ⟨rfl, ⟨_, p2, ?_⟩, p3.row h3 h2, h4.trans (p3.below (fun k hk => (h1.bounds k hk).1) h4.size)⟩
  intro k hk q
  rcases q with q | q
  · exact h2 k hk q
  · have := (h3.lt k hk).2; omega
theorem St.get_calls {w wr : World} {g : Nat} {fv : Value} {L : List Tm} {fs : List Nat} {x : Tm × Bool} (name : Int) (h : St w g fv L fs wr) (hx : getT L name = x) :
    Calls Try.prog 23 #[.pointer (some ⟨g, 0, none⟩), .int .i64 name] wr fun e w' => e = .returned (.tuple #[x.1.v, .bool x.2]) ∧ St w g fv L fs w' := by
  obtain ⟨⟨F, h1, h2⟩, h3, h4⟩ := h
  refine (get_p wr h1 name).mono ?_
  rintro e w' ⟨rfl, hb⟩
  rw [hx]
  exact ⟨rfl, St.below ⟨⟨F, h1, h2⟩, h3, h4⟩ hb⟩
theorem len_q {base g : Nat} {F : Nat → Prop} {L : List Tm} {most x : Int} {w : World} (h : PS base g F L most w) (hx : (L.length : Int) = x) (n : Nat) :
    Calls Try.prog 18 #[.pointer (some ⟨g, 0, none⟩)] (w.drewN n) fun e w' => e = .returned (.int .i64 x) ∧ ∃ m, w' = w.drewN m := by
  have h' : PS base g F L most (w.drewN n) := h.below ⟨rfl, rfl, rfl, Nat.le_refl _, fun _ _ => rfl⟩
  refine (len_p _ h').mono ?_
  rintro e w' ⟨rfl, rfl⟩
  rw [hx]
  exact ⟨rfl, n, rfl⟩
theorem St.len_q {w wr : World} {g : Nat} {fv : Value} {L : List Tm} {fs : List Nat} {x : Int} (h : St w g fv L fs wr) (hx : (L.length : Int) = x) (n : Nat) :
    Calls Try.prog 18 #[.pointer (some ⟨g, 0, none⟩)] (wr.drewN n) fun e w' => e = .returned (.int .i64 x) ∧ ∃ m, w' = wr.drewN m := by
  obtain ⟨⟨F, h1, h2⟩, h3, h4⟩ := h
  exact termNames.len_q h1 hx n
theorem nzv (x : Nat) : (nz x).v = .agg #[.int .i64 2, .string ⟨#[]⟩, .int .u64 x, .int .i64 0, .int .i64 0, .int .i64 0] := rfl
theorem nzneq (x : Nat) (w : World) : (binOp .neq 32 (.agg #[.int .i64 2, .string ⟨#[]⟩, .int .u64 x, .int .i64 0, .int .i64 0, .int .i64 0]) (.agg #[.int .i64 2, .string ⟨#[]⟩, .int .u64 x, .int .i64 0, .int .i64 0, .int .i64 0])).run Try.prog w = .ok (.bool false) w := by
  have h := neq_termP (nz x) (nz x) w
  rw [(eqB_iff _ _).2 rfl] at h
  exact h
theorem info5 : (Try.prog.info? 5).map (fun i => (i.zero, i.size, i.bytes)) = some (some (.int .u8 0), 1, 1) := by kernel_rfl

set_option maxHeartbeats 4000000 in
set_option maxRecDepth 100000 in
theorem walkN (b off len cap : Nat) (a : Option Addr) (f : Nat → Nat) (w : World) (hlc : len ≤ cap) (hcm : cap ≤ maxLen) (hf : Hid (∀ i, f i ≤ 255))
    (hcell : Hid (∀ i, i < len → a = some ⟨b, off, none⟩ ∧ w.cell? ⟨b, off + i, none⟩ = some (.int .u8 (f i)))) :
    Calls Try.prog 9 #[.slice a len cap] w fun e w' => e = .returned (.bool true) ∧ Below w.heap.size w w' := by
  unfold maxLen at hcm
  go_enter Try.func9, Try.ntmps9
  go_wp2_with fail
  refine (newP_good w.heap.size 300 w (by omega) (by omega) (Nat.le_refl _)).mono ?_
  rintro e w1 ⟨g, rfl, hp, hb⟩
  have HS0 : Hid (St w g (.slice (some ⟨w1.heap.size, 0, none⟩) 0 0) [] [] (w1.alloc (.cells #[] 5))) := Lib.hid
    ⟨⟨_, hp.below ((Below.refl _ _).alloc (Nat.le_refl _) _), fun k hk q => by have : w1.heap.size = k := by simpa [Value.ownBlock] using hk
                                                                               omega⟩,
     ⟨rfl, .inr ⟨w1.heap.size, 0, #[], rfl, hb.size, heap_alloc_new w1 _, Nat.le_refl _, Nat.zero_le _, rfl, rfl⟩⟩, hb.trans ((Below.refl _ _).alloc hb.size _)⟩
  clear hp hb
  go_wp2_with fail
  go_loopw [5, 6] (fun v i wr => ∃ k, ∃ fs : List Nat, k ≤ len ∧ k ≤ 60 ∧ i = .int .i64 (k : Nat) ∧ (∃ a' cap', v = .slice a' fs.length cap') ∧ Hid (St w g v (fs.map nz) fs wr) ∧ Hid (fs.length ≤ k ∧ fs.Nodup ∧ ∀ j, j < fs.length → fs.getD j 0 ≤ 255)) (fun _ i _ => 60 - (intOf i).toNat)
  case atStart => exact ⟨0, [], Nat.zero_le _, Nat.zero_le _, rfl, ⟨_, _, rfl⟩, HS0, Lib.hid ⟨Nat.le_refl _, List.nodup_nil, fun j hj => by simp at hj⟩⟩
  case round =>
    obtain ⟨k, fs, hk, hk60, rfl, ⟨a', cap', rfl⟩, HS, HF⟩ := hrel
    clear HS0
    by_cases hlt : k < len
    · have hlt1 : (k : Int) < (len : Int) := by omega
      by_cases h60 : k < 60
      · have h61 : (k : Int) < 60 := by omega
        obtain ⟨rfl, hc⟩ := hcell.out k hlt
        have hbw : b < w.heap.size := block_lt_of_cell hc
        have Hc := Lib.hid hc
        have hfl := HF.out.1
        obtain ⟨x, hx⟩ : ∃ x, x = f k := ⟨_, rfl⟩
        have hx5 : x ≤ 255 := by rw [hx]; exact hf.out k
        rw [← hx] at Hc
        clear hx hc
        have Hk := Lib.hid hk
        clear hk
        go_wp2
        go_loopw [7, 8] (fun n j wr => ∃ q, ∃ nn : Int, q ≤ fs.length ∧ j = .int .i64 (q : Nat) ∧ n = .int .i64 nn ∧ Hid ((nn = 0 ∧ ∀ i, i < q → fs.getD i 0 ≠ x) ∨ ∃ p, p < q ∧ nn = ((p : Nat) : Int) + 1 ∧ fs.getD p 0 = x) ∧ Hid (St w g (.slice a' fs.length cap') (fs.map nz) fs wr)) (fun _ j _ => fs.length - (intOf j).toNat)
        case atStart => exact ⟨0, 0, Nat.zero_le _, rfl, rfl, Lib.hid (.inl ⟨rfl, fun i h => absurd h (Nat.not_lt_zero _)⟩), HS⟩
        case round =>
          obtain ⟨q, nn, hq, rfl, rfl, HN, HQ⟩ := hrel
          clear HS
          by_cases hqt : q < fs.length
          · obtain ⟨gf, cf, hv, hgf1, hgf2⟩ := HQ.out.2.1.form (by omega)
            injection hv with v1 v2 v3
            subst v1 v3
            clear v2
            have cl : wr.cell? ⟨b, off + k, none⟩ = some (.int .u8 x) := by rw [HQ.out.2.2.cell hbw]; exact Hc.out
            have cf1 : wr.cell? ⟨gf, q, none⟩ = some (.int .u8 ((fs.getD q 0 : Nat) : Int)) := by
              have := HQ.out.2.1.cells (g := gf) rfl q (.int .u8 ((fs.getD q 0 : Nat) : Int)) (by simp [bytesV, List.getD, hqt])
              rwa [addr_add] at this
            have hq1 : (q : Int) < (fs.length : Int) := by omega
            obtain ⟨y, hy⟩ : ∃ y, y = fs.getD q 0 := ⟨_, rfl⟩
            rw [← hy] at cf1
            have Hy := Lib.hid hy
            have Hqt := Lib.hid hqt
            clear hy hq hqt
            by_cases he : y = x
            · have hb : ((y : Int) == (x : Int)) = true := beq_iff_eq.2 (by omega)
              have HE := Lib.hid he
              clear he
              go_wp2
              go_quiet (fail)
              go_wp2
              go_roundw
              case rel => exact ⟨q + 1, (q : Int) + 1, by have := Hqt.out; omega, by go_num, by go_num, Lib.hid (.inr ⟨q, by omega, rfl, Hy.out.symm.trans HE.out⟩), Lib.hid (HQ.out.drewN _)⟩
              case measure => have := Hqt.out; simp [intOf]; omega
            · have hb : ((y : Int) == (x : Int)) = false := beq_eq_false_iff_ne.2 (by omega)
              have HE := Lib.hid he
              clear he
              go_wp2
              go_quiet (fail)
              go_wp2
              go_roundw
              case rel => exact ⟨q + 1, nn, by have := Hqt.out; omega, by go_num, rfl, Lib.hid (by
                rcases HN.out with ⟨n1, n2⟩ | ⟨p, n1, n2, n3⟩
                · exact .inl ⟨n1, fun i hi => by
                    rcases Nat.lt_succ_iff_lt_or_eq.1 hi with h | rfl
                    · exact n2 i h
                    · rw [← Hy.out]; exact HE.out⟩
                · exact .inr ⟨p, by omega, n2, n3⟩), Lib.hid (HQ.out.drewN _)⟩
              case measure => have := Hqt.out; simp [intOf]; omega
          · obtain rfl : q = fs.length := by omega
            clear hqt hq
            have cl : wr.cell? ⟨b, off + k, none⟩ = some (.int .u8 x) := by rw [HQ.out.2.2.cell hbw]; exact Hc.out
            have hx64 : (x : Int) ≤ 255 := by omega
            by_cases hn0 : nn = 0
            · have hb0 : (nn == (0 : Int)) = true := by simpa using hn0
              have HZ : Hid (∀ i, i < fs.length → fs.getD i 0 ≠ x) := Lib.hid (by
                rcases HN.out with ⟨n1, n2⟩ | ⟨p, n1, n2, n3⟩
                · exact n2
                · omega)
              clear hn0 HN
              obtain ⟨i0, hi0, hz0, hz1, hz2⟩ := info_parts info5
              have hbs : w.heap.size ≤ wr.heap.size := HQ.out.2.2.size
              go_wp2_with (at_builtin; refine wpList_append_lies _ rfl _ _ 61 rfl w.heap.size 5 i0 (.int .u8 0) 1 1 Try.underlying61 hi0 hz0 hz1 hz2 rfl (by decide) _ _ _ rfl (HQ.out.2.1.alloc _) ⟨wr.heap.size, 0, none⟩ 1 1 [.int .u8 x] rfl rfl (World.news_of_block (cs := #[.int .u8 x]) (t := 5) (fr := (0, 0)) (heap_alloc_new wr _)) (by simp [Value.oneCell']) (by omega) (by unfold maxLen; omega) (by omega) (by simp; omega) (wr.heap.size + 1) (by simp) ?_; intro g2 cap3 w3 hown2 hgrow2 hat2 hlt3; have P1 := Lib.hid hown2; have P2 := Lib.hid hgrow2; have P3 := Lib.hid hat2; clear hown2 hgrow2 hat2; have cl3 := farc (Nat.lt_of_lt_of_le hbw hbs) P2.out (fun e => by have := (HQ.out.2.1.lt b e).1; omega) cl)
              have HS3 : Hid (St w g (.slice (some ⟨g2, 0, none⟩) (fs.length + 1) cap3) (fs.map nz) (fs ++ [x]) w3) := Lib.hid (HQ.out.app P1.out P2.out P3.out)
              clear P1 P2 P3 HQ cl cl3 hi0 hz0 hz1 hz2 hlt3
              refine (HS3.out.put_calls (nz x) (nz_wf x hx5) (put_new fs x (by omega) HZ.out)).mono ?_
              rintro e w4 ⟨rfl, hS4⟩
              have hG : getT ((fs ++ [x]).map nz) ((fs.length : Int) + 1) = (nz x, true) := by
                rw [get_at (fs ++ [x]) fs.length (by simp)]; simp [List.getD]
              have hfn : ((fs.length : Int) + 1 == ((fs.length + 1 : Nat) : Int)) = true := beq_iff_eq.2 (by omega)
              have HS4 := Lib.hid hS4
              clear hS4 HS3
              go_wp2_with fail
              refine (HS4.out.get_calls _ hG).mono ?_
              rintro e w5 ⟨rfl, hS5⟩
              rw [show ((nz x, true) : Tm × Bool).1.v = .agg #[.int .i64 2, .string ⟨#[]⟩, .int .u64 x, .int .i64 0, .int .i64 0, .int .i64 0] from rfl]
              have HS5 := Lib.hid hS5
              clear hS5 HS4 hG
              go_wp2_with fail
              have HS6 : Hid (St w g (.slice (some ⟨g2, 0, none⟩) (fs.length + 1) cap3) ((fs ++ [x]).map nz) (fs ++ [x]) (w5.alloc (.cells #[.int .i64 2, .string ⟨#[]⟩, .int .u64 x, .int .i64 0, .int .i64 0, .int .i64 0] 32))) := Lib.hid (HS5.out.below ((Below.refl _ _).alloc (Nat.le_refl _) _))
              have z : ∀ j, (w5.alloc (.cells #[.int .i64 2, .string ⟨#[]⟩, .int .u64 x, .int .i64 0, .int .i64 0, .int .i64 0] 32)).cell? ⟨w5.heap.size, j, none⟩ = #[Value.int .i64 2, .string ⟨#[]⟩, .int .u64 x, .int .i64 0, .int .i64 0, .int .i64 0][j]? := fun j => cell_of_row _ _ j _ _ _ (heap_alloc_new w5 _)
              have cl : (w5.alloc (.cells #[.int .i64 2, .string ⟨#[]⟩, .int .u64 x, .int .i64 0, .int .i64 0, .int .i64 0] 32)).cell? ⟨b, off + k, none⟩ = some (.int .u8 x) := by rw [HS6.out.2.2.cell hbw]; exact Hc.out
              generalize w5.alloc (.cells #[.int .i64 2, .string ⟨#[]⟩, .int .u64 x, .int .i64 0, .int .i64 0, .int .i64 0] 32) = w6 at HS6 z cl ⊢
              have z0 := z 0
              have z1 := z 1
              have z2 := z 2
              have z3 := z 3
              have z4 := z 4
              have z5 := z 5
              simp at z0 z1 z2 z3 z4 z5
              have hE := nzneq x
              have hgd := guard32
              have HLq : Hid (((((fs ++ [x]).map nz).length : Nat) : Int) = (fs.length : Int) + 1) := Lib.hid (by simp)
              clear z HS5
              go_quiet (first | (go_at_call 18; exact HS6.out.len_q HLq.out _))
              go_wp2
              go_roundw
              case rel => exact ⟨k + 1, fs ++ [x], by omega, by omega, by go_num, ⟨_, _, by rw [List.length_append]; rfl⟩, Lib.hid (HS6.out.drewN _), Lib.hid ⟨by rw [List.length_append]; simp; omega, nodup_snoc fs x HF.out.2.1 HZ.out, fun j hj => by
                have hj' : j < fs.length + 1 := by simpa using hj
                rcases Nat.lt_succ_iff_lt_or_eq.1 hj' with h | rfl
                · have := HF.out.2.2 j h; simpa [List.getD, List.getElem?_append_left h] using this
                · simpa [List.getD] using hx5⟩⟩
              case measure => simp [intOf]; omega
            · have hb0 : (nn == (0 : Int)) = false := beq_eq_false_iff_ne.2 hn0
              obtain ⟨p, hp1, hp2, hp3⟩ : ∃ p, p < fs.length ∧ nn = ((p : Nat) : Int) + 1 ∧ fs.getD p 0 = x := by
                rcases HN.out with ⟨n1, n2⟩ | ⟨p, n1, n2, n3⟩
                · exact absurd n1 hn0
                · exact ⟨p, n1, n2, n3⟩
              have HP := Lib.hid (put_old fs x p HF.out.2.1 hp1 hp3)
              have HG := Lib.hid (get_at fs p hp1)
              rw [hp3, ← hp2] at HG
              rw [← hp2] at HP
              clear hp1 hp2 hp3 hn0 HN
              go_wp2_with fail
              refine (HQ.out.put_calls (nz x) (nz_wf x hx5) HP.out).mono ?_
              rintro e w4 ⟨rfl, hS4⟩
              have hfn : (nn == nn) = true := beq_self_eq_true _
              have HS4 := Lib.hid hS4
              clear hS4 HQ cl
              go_wp2_with fail
              refine (HS4.out.get_calls _ HG.out).mono ?_
              rintro e w5 ⟨rfl, hS5⟩
              rw [show ((nz x, true) : Tm × Bool).1.v = .agg #[.int .i64 2, .string ⟨#[]⟩, .int .u64 x, .int .i64 0, .int .i64 0, .int .i64 0] from rfl]
              have HS5 := Lib.hid hS5
              clear hS5 HS4
              go_wp2_with fail
              have HS6 : Hid (St w g (.slice a' fs.length cap') (fs.map nz) fs (w5.alloc (.cells #[.int .i64 2, .string ⟨#[]⟩, .int .u64 x, .int .i64 0, .int .i64 0, .int .i64 0] 32))) := Lib.hid (HS5.out.below ((Below.refl _ _).alloc (Nat.le_refl _) _))
              have z : ∀ j, (w5.alloc (.cells #[.int .i64 2, .string ⟨#[]⟩, .int .u64 x, .int .i64 0, .int .i64 0, .int .i64 0] 32)).cell? ⟨w5.heap.size, j, none⟩ = #[Value.int .i64 2, .string ⟨#[]⟩, .int .u64 x, .int .i64 0, .int .i64 0, .int .i64 0][j]? := fun j => cell_of_row _ _ j _ _ _ (heap_alloc_new w5 _)
              have cl : (w5.alloc (.cells #[.int .i64 2, .string ⟨#[]⟩, .int .u64 x, .int .i64 0, .int .i64 0, .int .i64 0] 32)).cell? ⟨b, off + k, none⟩ = some (.int .u8 x) := by rw [HS6.out.2.2.cell hbw]; exact Hc.out
              generalize w5.alloc (.cells #[.int .i64 2, .string ⟨#[]⟩, .int .u64 x, .int .i64 0, .int .i64 0, .int .i64 0] 32) = w6 at HS6 z cl ⊢
              have z0 := z 0
              have z1 := z 1
              have z2 := z 2
              have z3 := z 3
              have z4 := z 4
              have z5 := z 5
              simp at z0 z1 z2 z3 z4 z5
              have hE := nzneq x
              have hgd := guard32
              have HLq : Hid ((((fs.map nz).length : Nat) : Int) = (fs.length : Int)) := Lib.hid (by simp)
              clear z HS5
              go_quiet (first | (go_at_call 18; exact HS6.out.len_q HLq.out _))
              go_wp2
              go_roundw
              case rel => exact ⟨k + 1, fs, by omega, by omega, by go_num, ⟨_, _, rfl⟩, Lib.hid (HS6.out.drewN _), Lib.hid ⟨by omega, HF.out.2⟩⟩
              case measure => simp [intOf]; omega
      · have h61 : decide ((k : Int) < 60) = false := by simp; omega
        clear hk
        go_wp2_with fail
        refine (fixed_any _).mono ?_
        rintro e w1 ⟨rfl, hb1⟩
        have hb4 := HS.out.2.2.trans (hb1.mono HS.out.2.2.size)
        clear hb1
        go_wp2
        go_ret
        exact ⟨rfl, hb4⟩
    · have hlt1 : decide (k < len) = false := by simpa using hlt
      clear hlt
      go_wp2_with fail
      refine (fixed_any _).mono ?_
      rintro e w1 ⟨rfl, hb1⟩
      have hb4 := HS.out.2.2.trans (hb1.mono HS.out.2.2.size)
      clear hb1
      go_wp2
      go_ret
      exact ⟨rfl, hb4⟩

set_option maxHeartbeats 2000000 in
theorem walk (a0 : Option Addr) (len0 cap0 : Nat) (z0 : List Int) (w : World) (w0 : IsRow .u8 w a0 len0 cap0 z0) :
    Calls Try.prog 9 #[.slice a0 len0 cap0] w fun e w' => e = .returned (.bool true) ∧ Below w.heap.size w w' := by
  rcases w0 with ⟨rfl, rfl, rfl, rfl⟩ | ⟨x, rfl, hl, hcm, hz, hcell, hwz⟩
  · exact walkN 0 0 0 0 none (fun _ => 0) w (Nat.le_refl _) (Nat.zero_le _) (Lib.hid (fun _ => Nat.zero_le _)) (Lib.hid (fun i hi => absurd hi (Nat.not_lt_zero _)))
  · by_cases h0 : len0 = 0
    · subst h0
      exact walkN 0 0 0 cap0 (some x) (fun _ => 0) w (Nat.zero_le _) hcm (Lib.hid (fun _ => Nat.zero_le _)) (Lib.hid (fun i hi => absurd hi (Nat.not_lt_zero _)))
    · obtain ⟨b, off, spot⟩ := x
      have hc := hcell 0 (by omega)
      have hspot : spot = none := by simpa [Addr.add] using World.cell?_spot hc
      subst hspot
      have hadd : ∀ i, (⟨b, off, none⟩ : Addr).add i = ⟨b, off + i, none⟩ := by
        intro i
        unfold Addr.add
        split
        · rename_i h; subst h; rfl
        · rfl
      have hr : ∀ i, 0 ≤ z0.getD i 0 ∧ z0.getD i 0 ≤ 255 := by
        intro i
        by_cases hi : i < z0.length
        · have h1 := hwz (z0.getD i 0) (by simp [List.getD, hi])
          have e1 : IntKind.u8.min = 0 := by decide
          have e2 : IntKind.u8.max = 255 := by decide
          simp only [Lit.wf, e1, e2, Bool.and_eq_true, decide_eq_true_eq] at h1
          exact h1
        · simp [List.getD, List.getElem?_eq_none (Nat.le_of_not_lt hi)]
      exact walkN b off len0 cap0 (some ⟨b, off, none⟩) (fun i => (z0.getD i 0).toNat) w hl hcm (Lib.hid (fun i => by have := hr i; omega)) (Lib.hid (fun i hi => ⟨rfl, by
        have h1 := hcell i (by omega)
        rw [hadd] at h1
        rw [h1, Int.toNat_of_nonneg (hr i).1]⟩))

set_option maxRecDepth 100000 in
theorem lifted (os : Os) (started : os.Started) (H : Type) (enc : TypeId × Value → H) :
    ReturnsInHanded {} Try.checked os 9 .any (Rows.termNamesSpec.pre6 enc Try.prog Try.f9 Rows.termNamesRow.domain false) (Rows.termNamesSpec.post enc Try.prog Try.f9 false true false false) := by
  refine returnsInHanded_of_change (C := Try.checked) own started (by kernel_rfl) Try.func9
    (ChangeSpec.witness6 (enc := enc) (C := Try.checked) false ⟨#[], #[.slice none 0 0], []⟩ 8 (by kernel_rfl) (by kernel_rfl) (by kernel_rfl) (by kernel_rfl)) ?_
  intro W base args ds gs before hval0 hW hcnd _
  have hval : ∀ (j : Nat) t v, Try.f9.params[j]? = some t → args[j]? = some v → Value.okWide Try.prog W .any base t v := hval0
  have hW' := hW
  obtain ⟨p, q, hA0, hV, rfl, hfz, hnd⟩ := hW
  have hA : DataW.TrodAll enc Try.prog W 0 (fun _ => true) true Try.f9.params.toList args.toList ds p := hA0
  rw [Try.params9] at hA hval
  obtain ⟨v0, vs0, d0, ds0, p0, q0, hargs, rfl, rfl, h0, r0⟩ := trodAll_cons hA
  obtain ⟨rfl, rfl, rfl⟩ := trodAll_nil r0
  obtain rfl : args = #[v0] := by cases args; simp_all
  obtain ⟨rfl, rfl⟩ := trodVars_none hV
  obtain ⟨a0, len0, cap0, rfl⟩ := okWide_slice Try.underlying61 (hval 0 61 v0 rfl rfl)
  have k0 := h0
  have lt0 : ∀ x ∈ p0, x.block < W.heap.size := by obtain ⟨m, hm⟩ := k0; exact DataW.trod_lt m _ _ _ hm
  obtain ⟨z0, w0⟩ : ∃ zs, IsRow .u8 W a0 len0 cap0 zs := by
    obtain ⟨fuel, hf⟩ := h0
    rcases open_ints Try.underlying61 Try.underlying5 (by kernel_rfl) hf with ⟨hcs, _⟩ | ⟨x, l, c, zs, hcs, _, hl, hm, hz, _, hcell, hwz⟩
    · simp [Value.cells] at hcs
      obtain ⟨rfl, rfl, rfl⟩ := hcs
      exact ⟨[], .inl ⟨rfl, rfl, rfl, rfl⟩⟩
    · simp [Value.cells] at hcs
      obtain ⟨rfl, rfl, rfl⟩ := hcs
      exact ⟨zs, .inr ⟨_, rfl, hl, hm, by simpa using hz, hcell, hwz⟩⟩
  clear hA0 hval0
  refine (walk a0 len0 cap0 z0 W w0).mono fun e W' ⟨he, bel⟩ => ?_
  subst he
  exact ⟨_, rfl, _, _, _, [], _, [], hW', trodAll_mk1 (shut_bool Try.underlying4 _), (trodAll_cons_mk (Below.trod laidOut (by kernel_rfl) (of_decide_eq_true (by kernel_rfl)) k0 bel lt0) trodAll_mk0), rfl, bel.frame _, fun h => by cases h⟩

theorem over : Rows.termNamesRow.holds Try.pinned (OpenSpec.ofChange Rows.termNamesSpec) :=
  OpenClaim.holds_of_wide 9 Try.f9 rfl rfl rfl rfl rfl rfl rfl ⟨rfl, rfl, rfl, rfl, rfl⟩ rfl rfl rfl rfl rfl (by kernel_rfl) Try.func9 (by kernel_rfl)
    (of_decide_eq_true (by kernel_rfl)) (by unfold Func.isWrapper; first | (rw [if_pos (by decide +kernel)]; kernel_rfl) | (rw [if_neg (by decide +kernel)]; exact ⟨rfl, rfl⟩))
    (fun os started H enc _ => lifted os started H enc)

theorem proved : Rows.TermNamesSaid := over
#print axioms proved
end Go.Proofs.Ytbmbglbbojacpaa.termNames
