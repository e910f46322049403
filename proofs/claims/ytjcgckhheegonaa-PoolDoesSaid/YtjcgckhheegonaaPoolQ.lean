/- The program's pool: maps.Copy; looked up; why a part can't be held. -/
import Derived.Test.YtjcgckhheegonaaPoolO
namespace Go.Proofs.Ytjcgckhheegonaa
open Go.RowKit
set_option linter.unusedVariables false
set_option linter.unusedSimpArgs false
set_option maxRecDepth 20000
set_option maxHeartbeats 2000000 in
theorem copy_k (bd bs : Nat) (ld ls : List Fr) (w : World) (hd : MapL .i64 Fr.ix encS w bd ld) (hs : MapL .i64 Fr.ix encS w bs ls) (hne : bd ≠ bs) (hdis : ∀ x, x ∈ ls → ∀ y, y ∈ ld → y.ix ≠ x.ix) :
    Calls Try.prog 38 #[.map (some bd), .map (some bs)] w fun e w' => e = .returned (.tuple #[]) ∧ MapL .i64 Fr.ix encS w' bd (ld ++ ls) ∧ Chg (fun j => j = bd) w w' := by
  have HD := Lib.hid hd
  have HS := Lib.hid hs
  have HX := Lib.hid hdis
  have HN := Lib.hid hs.once
  clear hd hs hdis
  go_enter Try.func38, Try.ntmps38
  go_wp2_with (first | (at_range; refine wpList_rangeL rfl _ _ _ _ rfl Try.underlying77 rfl HS.out ?_; intro w1 hr1 hb1 hs1) | go_in)
  go_frame
  have HR1 := Lib.hid hr1
  have HB1 := Lib.hid hb1
  clear hr1 hb1 hs1
  go_loopw [4, 5] (fun x4 x5 wr => ∃ left done : List Fr, ls.Perm (left ++ done) ∧ Rng .i64 Fr.ix encS wr bs w.heap.size ls left ∧ MapL .i64 Fr.ix encS wr bd (ld ++ done) ∧ Chg (fun j => j = bd) w wr) (fun x4 x5 wr => wr.rangeLeft bs w.heap.size)
  case atStart => exact ⟨ls, [], by rw [List.append_nil], HR1.out, by rw [List.append_nil]; exact HD.out.below HB1.out, Chg.of_below HB1.out⟩
  case round =>
    clear HR1 HB1
    obtain ⟨left, done, hp, hr, hm, hc⟩ := hrel
    have HP := Lib.hid hp
    have HR := Lib.hid hr
    have HM := Lib.hid hm
    have HC := Lib.hid hc
    clear hp hr hm hc
    go_wp2_with (first | (at_next; refine wpList_nextL rfl _ rfl rfl HR.out ?_ ?_) | go_in)
    · intro h0
      have HE : Hid (MapL .i64 Fr.ix encS wr bd (ld ++ ls)) := Lib.hid (HM.out.perm ((List.Perm.refl _).append (by have := HP.out; rw [h0] at this; exact this.symm)))
      clear h0
      go_wp2
      go_end0
      exact ⟨rfl, HE.out, HC.out⟩
    · intro y left' w2 hperm hr2 hc2 hs2 hen
      have HBD := Lib.hid HD.out.lt
      have HM2 : Hid (MapL .i64 Fr.ix encS w2 bd (ld ++ done)) := Lib.hid (HM.out.chg hc2 (fun e => by have := HBD.out; omega))
      have hnew : ∀ z, z ∈ ld ++ done → z.ix ≠ y.ix := by
        have hn : (ls.map Fr.ix).Nodup := HN.out
        have hp : ls.Perm (y :: left' ++ done) := HP.out.trans (hperm.append_right _)
        have hy : y ∈ ls := hp.mem_iff.2 (by simp)
        intro z hz
        rcases List.mem_append.1 hz with q | q
        · exact HX.out y hy z q
        · intro e
          have := (hp.map Fr.ix).nodup_iff.1 hn
          rw [List.cons_append, List.map_cons, List.nodup_cons] at this
          exact this.1 (by rw [← e]; exact List.mem_map.2 ⟨z, List.mem_append_right _ q, rfl⟩)
      have HNEW := Lib.hid hnew
      have HR2 := Lib.hid hr2
      have HP2 : Hid (ls.Perm (left' ++ (done ++ [y]))) := Lib.hid (HP.out.trans ((hperm.append_right _).trans (by rw [← List.append_assoc]; exact (List.perm_append_singleton y (left' ++ done)).symm)))
      have HC2 : Hid (Chg (fun j => j = bd) w w2) := Lib.hid (HC.out.wide hc2 (fun k e => .inr (Nat.le_of_eq e.symm)))
      have HL2 : Hid (left.length = left'.length + 1) := Lib.hid hperm.length_eq
      clear hnew hr2 hperm hc2 hs2
      go_wp2_with (first | (at_mapUpdate; refine wpList_putN rfl _ _ _ _ _ _ (.inl rfl) Try.underlying77 Try.underlying3 y _ _ rfl rfl rfl rfl rfl HM2.out HNEW.out ?_; intro w3 hm3 hc3) | go_in)
      go_frame
      have HR3 : Hid (Rng .i64 Fr.ix encS w3 bs w.heap.size ls left') := Lib.hid (HR2.out.chg hc3 (fun e => hne e.symm) (fun e => by have := HBD.out; omega))
      have HM3 := Lib.hid hm3
      have HC3 := Lib.hid (HC2.out.trans hc3)
      clear hm3 hc3
      go_roundw
      case rel => exact ⟨left', done ++ [y], HP2.out, HR3.out, by rw [← List.append_assoc]; exact HM3.out, HC3.out⟩
      case measure => rw [HR3.out.left_eq, HR.out.left_eq, HL2.out]; exact Nat.lt_succ_self _
set_option maxHeartbeats 1000000 in
theorem copy_nil (bd : Nat) (w : World) :
    Calls Try.prog 38 #[.map (some bd), .map none] w fun e w' => e = .returned (.tuple #[]) ∧ Below w.heap.size w w' := by
  have hrg := run_range_nilMap (P := Try.prog) w 77 _ _ Try.underlying77
  have hnx : ∀ ty, (Instr.next (.pointer (some ⟨w.heap.size, 0, none⟩)) false ty).run Try.prog (w.alloc (.mapIter none 0 #[] 0)) = _ := fun ty => run_next_nilMap _ ty 0 0 #[]
  go_enter Try.func38, Try.ntmps38
  go_wp2
  refine wp_loop_rounds 1 ?_
  rw [rounds_succ]
  go_wp2
  go_end0
  exact ⟨rfl, below_alloc _ _⟩
/-! ### Looked up -/
section
variable {w : World} {p bh bp : Nat} {s b : Int} {l : List Ms} {ps : List (Ms × Nat)}
theorem look_h (h : PAt w p bh bp s b l ps) (id : Int) : (findM id l = none ∧ ∀ W, Below w.heap.size w W → (Instr.lookup 58 (.map (some bh)) (.int .u64 id) true).run Try.prog W = .ok (.tuple #[.agg #[.int .i64 0, .int .u64 0], .bool false]) W) ∨
    ∃ m, findM id l = some m ∧ ∀ W, Below w.heap.size w W → (Instr.lookup 58 (.map (some bh)) (.int .u64 id) true).run Try.prog W = .ok (.tuple #[.agg #[.int .i64 (headM m).ct, .int .u64 m.since], .bool true]) W := by
  cases hf : findM id l with
  | none =>
    refine .inl ⟨rfl, fun W hW => ?_⟩
    rcases (h.heads.below hW).look2 Try.underlying58 Try.underlying32 (Try.zeroValue66 _) id with ⟨_, q⟩ | ⟨y, hy, e, _⟩
    · exact q
    · exact absurd e (find_no hf y hy)
  | some m =>
    obtain ⟨hm, hid⟩ := find_ok hf
    refine .inr ⟨m, rfl, fun W hW => ?_⟩
    rcases (h.heads.below hW).look2 Try.underlying58 Try.underlying32 (Try.zeroValue66 _) id with ⟨q, _⟩ | ⟨y, hy, e, q⟩
    · exact absurd hid (q m hm)
    · rw [uniq h.heads.once hy hm (e.trans hid.symm)] at q
      exact q
theorem look_h1 (h : PAt w p bh bp s b l ps) {id : Int} {m : Ms} (hm : m ∈ l) (e : (headM m).id = id) : ∀ W, Below w.heap.size w W → (Instr.lookup 58 (.map (some bh)) (.int .u64 id) false).run Try.prog W = .ok (.agg #[.int .i64 (headM m).ct, .int .u64 m.since]) W := fun W hW => by
  rcases (h.heads.below hW).look1 Try.underlying58 Try.underlying32 (Try.zeroValue66 _) id with ⟨q, _⟩ | ⟨y, hy, e2, q⟩
  · exact absurd e (q m hm)
  · rw [uniq h.heads.once hy hm (e2.trans e.symm)] at q
    exact q
theorem look_p0 (h : PAt w p bh bp s b l ps) {id : Int} (hf : findM id l = none) : ∀ W, Below w.heap.size w W → (Instr.lookup 59 (.map (some bp)) (.int .u64 id) false).run Try.prog W = .ok (.map none) W := fun W hW => by
  rcases (h.parts.below hW).look1 Try.underlying59 Try.underlying32 (Try.zeroValue77 _) id with ⟨_, q⟩ | ⟨y, hy, e, _⟩
  · exact q
  · exact absurd e (find_no hf y.1 (h.mem' hy))
theorem look_p1 (h : PAt w p bh bp s b l ps) {id : Int} {x : Ms × Nat} (hx : x ∈ ps) (e : (headM x.1).id = id) : ∀ W, Below w.heap.size w W → (Instr.lookup 59 (.map (some bp)) (.int .u64 id) false).run Try.prog W = .ok (.map (some x.2)) W := fun W hW => by
  rcases (h.parts.below hW).look1 Try.underlying59 Try.underlying32 (Try.zeroValue77 _) id with ⟨q, _⟩ | ⟨y, hy, e2, q⟩
  · exact absurd e (q x hx)
  · rw [uniq h.parts.once hy hx (e2.trans e.symm)] at q
    exact q
theorem look_i (fs : List Fr) (yb : Nat) (h : MapL .i64 Fr.ix encS w yb fs) (ix : Int) : ∃ u, ∀ W, Below w.heap.size w W → (Instr.lookup 77 (.map (some yb)) (.int .i64 ix) true).run Try.prog W = .ok (.tuple #[.string u, .bool (fs.any (fun g => g.ix == ix))]) W := by
  cases hb : fs.any (fun g => g.ix == ix) with
  | false =>
    refine ⟨⟨#[]⟩, fun W hW => ?_⟩
    rcases (h.below hW).look2 Try.underlying77 Try.underlying3 (Try.zeroValue9 _) ix with ⟨_, q⟩ | ⟨y, hy, e, _⟩
    · exact q
    · have h9 : fs.any (fun g => g.ix == ix) = true := List.any_eq_true.2 ⟨y, hy, beq_iff_eq.2 e⟩
      rw [hb] at h9; cases h9
  | true =>
    obtain ⟨y, hy, e⟩ := List.any_eq_true.1 hb
    have e : y.ix = ix := by simpa using e
    refine ⟨y.s, fun W hW => ?_⟩
    rcases (h.below hW).look2 Try.underlying77 Try.underlying3 (Try.zeroValue9 _) ix with ⟨q, _⟩ | ⟨z, hz, e2, q⟩
    · exact absurd e (q y hy)
    · rw [uniq h.once hz hy (e2.trans e.symm)] at q
      exact q
theorem look_i0 (ix : Int) (W : World) : (Instr.lookup 77 (.map none) (.int .i64 ix) true).run Try.prog W = .ok (.tuple #[.string ⟨#[]⟩, .bool false]) W := by
  have chk := chk_any (q := .i64) (P := Try.prog) Try.underlying3 ix W
  simp [Instr.lookup, run_underlying Try.underlying77, run_underlying Try.underlying3, chk, Instr.findKey, Instr.findNow, Try.zeroValue9, Result.andThen]
end
end Go.Proofs.Ytjcgckhheegonaa
