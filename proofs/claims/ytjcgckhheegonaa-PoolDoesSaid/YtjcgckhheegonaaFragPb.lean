/- The library's text builder at this program: what its copy check and its writes leave; the program's Join. -/
import Derived.Test.YtjcgckhheegonaaFragPw
import Derived.Test.YtjcgckhheegonaaShelfB
namespace Go.Proofs.Ytjcgckhheegonaa
open Go.RowKit
set_option linter.unusedVariables false
set_option linter.unusedSimpArgs false
set_option maxRecDepth 20000

theorem sizeTB : (Try.prog.info? 99).map (fun i => i.size) = some 2 := by kernel_rfl
theorem liesTB : liesAt Try.prog Try.prog.depth 99 (2 / Try.prog.cellsOf 99) 0 99 1 = true := by kernel_rfl
set_option maxHeartbeats 1000000 in
set_option maxRecDepth 100000 in
theorem check_used (b : Nat) (w : World) (h0 : w.cell? ⟨b, 0, none⟩ = some (.pointer (some ⟨b, 0, none⟩))) :
    Calls Try.prog 46 #[.pointer (some ⟨b, 0, none⟩)] w fun e w' => e = .returned (.tuple #[]) ∧ w' = w := by
  obtain ⟨j, hj, _⟩ := Option.map_eq_some_iff.1 sizeTB
  have hq := fun u => Lib.run_neq_ptr_same (P := Try.prog) u ⟨b, 0, none⟩ Try.underlying97 hj
  go_enter Try.func46, Try.ntmps46
  go_wp2
  go_end0
  exact ⟨rfl, rfl⟩
set_option maxHeartbeats 1000000 in
set_option maxRecDepth 100000 in
theorem check_fresh (b : Nat) (w : World) (h0 : w.cell? ⟨b, 0, none⟩ = some (.pointer none)) (hsh : w.shape? b = some (99, 2)) (hfz : w.frozen? ⟨b, 0, none⟩ = false) :
    Calls Try.prog 46 #[.pointer (some ⟨b, 0, none⟩)] w fun e w' => e = .returned (.tuple #[]) ∧ w' = w.setCell ⟨b, 0, none⟩ (.pointer (some ⟨b, 0, none⟩)) := by
  obtain ⟨j, hj, hjs⟩ := Option.map_eq_some_iff.1 sizeTB
  have hj0 : j.size ≠ 0 := by rw [hjs]; decide
  have hto := Lib.run_to_unsafe (P := Try.prog) w ⟨b, 0, none⟩ Try.underlying97 Try.underlying106 hj hj0 hsh (Nat.zero_lt_succ 1)
  have hfrom := Lib.run_from_unsafe (P := Try.prog) w ⟨b, 0, none⟩ Try.underlying106 Try.underlying97 hj hsh liesTB
  have hesc := Lib.run_noEscape (P := Try.prog) w (.pointer (some ⟨b, 0, none⟩))
  go_enter Try.func46, Try.ntmps46
  go_wp2
  rw [run_callFunc_extern Try.func47 (by kernel_rfl) (by kernel_rfl) (by kernel_rfl) (e := Extern.AbiNoEscape.same) (by kernel_rfl), hesc]
  simp only [Result.andThen]
  rw [Oper.upon_value]
  go_wp2
  go_end0
  exact ⟨rfl, rfl⟩
theorem check_k (B b : Nat) (bs : List Value) (w : World) (h : Lib.IsBuilder 99 5 B b bs w) :
    Calls Try.prog 46 #[.pointer (some ⟨b, 0, none⟩)] w fun e w' => e = .returned (.tuple #[]) ∧ Lib.BuilderAt 99 5 B b (.pointer (some ⟨b, 0, none⟩)) bs w' ∧ Below B w w' := by
  rcases h with h | h
  · refine (check_fresh b w h.cell0 h.shape h.frozen0).mono ?_
    rintro e w' ⟨rfl, rfl⟩
    exact ⟨rfl, h.used _, (Below.refl B w).setCell (p := ⟨b, 0, none⟩) h.1 _⟩
  · refine (check_used b w h.cell0).mono ?_
    rintro e w' ⟨rfl, rfl⟩
    exact ⟨rfl, h, Below.refl B _⟩
set_option maxHeartbeats 2000000 in
set_option maxRecDepth 100000 in
theorem write_k (B b : Nat) (bs : List Value) (s : ByteArray) (w : World) (h : Lib.IsBuilder 99 5 B b bs w) (hlen : bs.length + s.size ≤ 140737488355328) (hBw : B ≤ w.heap.size) :
    Calls Try.prog 43 #[.pointer (some ⟨b, 0, none⟩), .string s] w fun e w' => e = .returned (.tuple #[.int .i64 s.size, .nilIface]) ∧ Lib.BuilderAt 99 5 B b (.pointer (some ⟨b, 0, none⟩)) (bs ++ Lib.strCells s) w' ∧ Below B w w' := by
  obtain ⟨i0, hi, hz0, hz1, hz2⟩ := info_parts infoB
  have H := Lib.hid h
  clear h
  go_enter Try.func43, Try.ntmps43
  go_wp2_with fail
  refine (check_k B b bs _ H.out).mono ?_
  rintro e w1 ⟨rfl, h1, hb1⟩
  have HB1 := Lib.hid hb1
  obtain ⟨hB, v, hbk, hown, hne⟩ := h1
  have HE := Lib.hid hne
  have c1 : w1.cell? ⟨b, 1, none⟩ = some v := by rw [Lib.cell_of_heap hbk]; rfl
  clear H hb1 hne
  go_wp2_with (at_builtin; refine Lib.wpList_append_own_string _ rfl _ _ 50 9 rfl B 5 i0 Try.underlying50 Try.underlying9 hi hz0 hz1 hz2 _ _ _ rfl hown s rfl ?c3 ?c4 ?c5 ?_)
  case c3 => unfold maxLen; omega
  case c4 => omega
  case c5 => have := HB1.out.size; omega
  intro v' w2 hown' hgrow _
  have hlt := blk_lt hbk
  have hb2 : w2.heap[b]? = some (.cells #[.pointer (some ⟨b, 0, none⟩), v] 99 (0, 0)) := by
    rw [hgrow.block b hlt (fun e => HE.out e.symm)]
    exact hbk
  have d1 : w2.cell? ⟨b, 1, none⟩ = some v := by rw [Lib.cell_of_heap hb2]; rfl
  have f1 : w2.frozen? ⟨b, 1, none⟩ = false := Lib.frozen_of_heap hb2 1
  obtain ⟨ao, n', cap, rfl⟩ : ∃ ao n' cap, v' = .slice ao n' cap := by
    rcases hown'.2 with ⟨hv, _⟩ | ⟨g, cap, cur, hv, _⟩
    · exact ⟨_, _, _, hv⟩
    · exact ⟨_, _, _, hv⟩
  go_wp2
  go_ret2
  refine ⟨rfl, ?_, ?_⟩
  · exact Lib.BuilderAt.put hB hb2 (bs' := bs ++ Lib.strCells s) (by simpa [Lib.strCells_length] using hown') (by decide)
  · exact (HB1.out.grown hgrow (by have := HB1.out.size; omega) (fun k hk => (hown.lt k hk).1)).setCell (p := ⟨b, 1, none⟩) hB _
theorem isb_below {T e : TypeId} {B b : Nat} {bs : List Value} {w w' : World} (h : Lib.IsBuilder T e B b bs w) (hb : Below w.heap.size w w') : Lib.IsBuilder T e B b bs w' := by
  have key : ∀ p, Lib.BuilderAt T e B b p bs w → Lib.BuilderAt T e B b p bs w' := fun p ⟨hB, v, hbk, hown, hne⟩ => ⟨hB, v, (hb.block _ (blk_lt hbk)).trans hbk, (Chg.of_below (S := fun _ => False) hb).row hown (fun _ _ q => q), hne⟩
  exact h.imp (key _) (key _)
theorem strCells_app (a b : ByteArray) : Lib.strCells (a ++ b) = Lib.strCells a ++ Lib.strCells b := by
  simp [Lib.strCells]
set_option maxHeartbeats 8000000 in
set_option maxRecDepth 100000 in
theorem join_f (a : Option Addr) (n cap : Nat) (fs : List Fr) (w : World) (hn : n = fs.length) (h : RowF w a cap fs) (hz : ∀ j, j < fs.length → (fs.getD j zeroF).s.size ≤ 1000000) (t : ByteArray) (E : Nat) (hj : Hid (joinF fs = (t, E))) :
    Calls Try.prog 39 #[.slice a n cap] w fun e w' => e = .returned (.tuple #[.string t, .int .i64 E]) ∧ Below w.heap.size w w' := by
  have hlen := h.len
  rw [← hn] at hlen
  have HR1 := Lib.hid h
  have HN := Lib.hid hn
  have HJ := hj
  have HS0 : Hid (∀ j, j < fs.length → (fs.getD j zeroF).s.size ≤ maxLen) := Lib.hid (fun j hj => by have := hz j hj; unfold maxLen; omega)
  clear h hn hz hj
  cases hw : wholeF fs with
  | false =>
    have HJ2 := Lib.hid (join_notwhole hw)
    have HW := Lib.hid hw
    clear hw
    go_enter Try.func39, Try.ntmps39
    go_wp2_with fail
    refine (whole_f a n cap fs _ HN.out HR1.out HS0.out false HW).mono ?_
    rintro e w1 ⟨rfl, hb⟩
    have HB := Lib.hid hb
    clear hb
    go_wp2
    go_ret2
    exact ⟨jret HJ.out HJ2.out, HB.out⟩
  | true =>
    have HJ2 := Lib.hid (join_whole hw)
    have HW := Lib.hid hw
    have HOK := Lib.hid (whole_ok hw)
    clear hw
    go_enter Try.func39, Try.ntmps39
    go_wp2_with fail
    refine (whole_f a n cap fs _ HN.out HR1.out HS0.out true HW).mono ?_
    rintro e w1 ⟨rfl, hb⟩
    have HB1 := Lib.hid hb
    have HQ : Hid (w.heap.size ≤ w1.heap.size) := Lib.hid hb.size
    clear hb
    go_wp2_with fail
    obtain ⟨q, hq⟩ : ∃ q, q = w1.heap.size := ⟨_, rfl⟩
    obtain ⟨u, hu⟩ : ∃ u, u = w1.alloc (.cells #[.pointer none, .slice none 0 0] 99) := ⟨_, rfl⟩
    have HI0 : Hid (Lib.IsBuilder 99 5 w.heap.size q (Lib.strCells ⟨#[]⟩) u) := Lib.hid (by
      rw [hu, hq]
      exact .inl ⟨HQ.out, .slice none 0 0, heap_alloc_new w1 _, World.ownsRow_nil _ _ _ _, by simp [Value.ownBlock]⟩)
    have HB0 : Hid (Below w.heap.size w u) := Lib.hid (by rw [hu]; exact HB1.out.trans ((below_alloc w1 _).mono HQ.out))
    rw [← hu, ← hq]
    clear hu hq HB1 HQ
    go_loopw [12] (fun i wr => ∃ (k : Nat) (g : ByteArray), k ≤ n ∧ i = .int .i64 k ∧ Hid (g.size ≤ 1000 * k) ∧ Hid (g = catF (fs.take k) ⟨#[]⟩) ∧ Hid (Lib.IsBuilder 99 5 w.heap.size q (Lib.strCells g) wr) ∧ Hid (Below w.heap.size w wr)) (fun i _ => n - (intOf i).toNat)
    case atStart => exact ⟨0, ⟨#[]⟩, Nat.zero_le _, rfl, Lib.hid (Nat.le_refl _), Lib.hid rfl, HI0, HB0⟩
    case round =>
      clear HI0 HB0
      obtain ⟨k, g, hk, rfl, HG, HGC, HI, HB⟩ := hrel
      by_cases hlt : k < n
      · have hlt' : (k : Int) < (n : Int) := by omega
        have e1 : decide (k < n) = true := by simpa using hlt
        have HKN : Hid (k < fs.length) := Lib.hid (by rw [← HN.out]; exact hlt)
        have HK := Lib.hid hlt
        obtain ⟨bk, off, hqa, c0, c1, c2, c3⟩ := frow_cell HR1.out (j := k) HKN.out
        subst hqa
        replace c0 := (HB.out.cell (block_lt_of_cell c0)).trans c0
        replace c1 := (HB.out.cell (block_lt_of_cell c1)).trans c1
        replace c2 := (HB.out.cell (block_lt_of_cell c2)).trans c2
        replace c3 := (HB.out.cell (block_lt_of_cell c3)).trans c3
        obtain ⟨z, hz⟩ : ∃ z, fs.getD k zeroF = z := ⟨_, rfl⟩
        have HT : Hid (fs.take (k + 1) = fs.take k ++ [z]) := Lib.hid (by rw [← hz]; exact take_getF HKN.out)
        have HS1 : Hid (z.s.size ≤ 1000) := Lib.hid (by
          rw [← hz]
          exact (rightF_iff.1 (okAt_iff.1 (HOK.out.2.2 k HKN.out)).1).2.2.2.2.2.2.2)
        rw [hz] at c0 c1 c2 c3
        clear hz hlt hk
        obtain ⟨id, ix, ct, s⟩ := z
        dsimp only at c0 c1 c2 c3 HS1
        go_wp2_with fail
        have HIa := Lib.hid (isb_below HI.out (below_alloc wr (.cells #[.int .u64 id, .int .i64 ix, .int .i64 ct, .string s] 35)))
        refine (write_k w.heap.size q (Lib.strCells g) s _ HIa.out (by rw [Lib.strCells_length]; have := HG.out; have := HS1.out; have := HK.out; have := HOK.out.2.1; have := HN.out; omega) (by have := HB.out.size; simp; omega)).mono ?_
        rintro e w2 ⟨rfl, hi, hb⟩
        have HB2 : Hid (Below w.heap.size w w2) := Lib.hid (HB.out.trans (((below_alloc wr _).mono HB.out.size).trans hb))
        have HI2 : Hid (Lib.IsBuilder 99 5 w.heap.size q (Lib.strCells (g ++ s)) w2) := Lib.hid (by rw [strCells_app]; exact .inr hi)
        clear hi hb HIa HI c0 c1 c2 c3 HB
        go_wp2_with fail
        go_roundw
        case rel => exact ⟨k + 1, g ++ s, by have := HK.out; omega, by go_num, Lib.hid (by have := HG.out; have := HS1.out; rw [ByteArray.size_append]; omega), Lib.hid (by rw [HT.out, catF_app, ← HGC.out]), HI2, HB2⟩
        case measure => have := HK.out; simp [intOf]; omega
      · obtain rfl : k = n := by omega
        have e1 : decide (k < k) = false := decide_eq_false (Nat.lt_irrefl _)
        have HGF : Hid (g = catF fs ⟨#[]⟩) := Lib.hid (by rw [HGC.out, List.take_of_length_le (by rw [← HN.out]; exact Nat.le_refl _)])
        clear hlt hk
        go_wp2_with fail
        refine (Try.Builder_Len w.heap.size q (Lib.strCells g) _ HI.out).mono ?_
        rintro e w2 ⟨rfl, rfl⟩
        rw [Lib.strCells_length]
        by_cases hbig : 4096 < g.size
        · have g3 : decide (4096 < g.size) = true := by simpa using hbig
          have g4 : decide ((4096 : Int) < (g.size : Int)) = true := by simp; omega
          have HJ3 : Hid (joinF fs = (⟨#[]⟩, 4)) := Lib.hid (by rw [HJ2.out, ← HGF.out, if_pos hbig])
          clear hbig
          go_wp2
          go_ret2
          exact ⟨jret HJ.out HJ3.out, HB.out⟩
        · have g3 : decide (4096 < g.size) = false := by simpa using hbig
          have g4 : decide ((4096 : Int) < (g.size : Int)) = false := by simp; omega
          have HJ3 : Hid (joinF fs = (g, 0)) := Lib.hid (by rw [HJ2.out, ← HGF.out, if_neg hbig])
          clear hbig
          go_wp2_with fail
          refine (Try.Builder_String_any w.heap.size q g.data.toList _ HI.out HB.out.size).mono ?_
          rintro e w3 ⟨rfl, hb⟩
          have HB2 := Lib.hid (HB.out.trans hb)
          clear hb
          go_wp2
          go_ret2
          exact ⟨jret HJ.out HJ3.out, HB2.out⟩
end Go.Proofs.Ytjcgckhheegonaa
