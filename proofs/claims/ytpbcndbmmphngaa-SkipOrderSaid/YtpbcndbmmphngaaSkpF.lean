/- Entries: the program's closures, and the first entry of which one of them says yes. -/
import Derived.Test.YtpbcndbmmphngaaSkpR
namespace Go.Proofs.Ytpbcndbmmphngaa
open Go.RowKit
set_option linter.unusedVariables false
set_option linter.unusedSimpArgs false
set_option maxRecDepth 20000
/-- What a closure over one block tells of any entry, as long as that block holds what it held. -/
def Tells (f B : Nat) (o : Obj) (p : En → Bool) : Prop := (∀ (args : Array Value) (w : World), (callFunc f args).run Try.prog w = .ok (.enter f args) w) ∧ ∀ (ep key nx bt : Int) (u : World), u.heap[B]? = some o → Calls Try.prog f #[.agg #[.int .i64 ep, .int .i64 key, .int .u64 nx, .int .u64 bt], .pointer (some ⟨B, 0, none⟩)] u fun e u' => e = .returned (.bool (p ⟨ep, key, nx, bt⟩)) ∧ Below u.heap.size u u'
theorem of_k (K : Int) (w : World) :
    Calls Try.prog 23 #[.int .i64 K] w fun e w' => e = .returned (.func (.func 30) #[] #[.pointer (some ⟨w.heap.size, 0, none⟩)]) ∧ w' = w.alloc (.cells #[.int .i64 K] 3) := by
  have hmf : ∀ (fn : Fn) (first cap : Array Value) (w : World), (Instr.makeFunc fn first cap).run Try.prog w = .ok (.func fn first cap) w := fun _ _ _ _ => rfl
  go_enter Try.func23, Try.ntmps23
  go_wp2
  go_ret
  exact ⟨rfl, rfl⟩
theorem of_tells (K : Int) (B : Nat) : Tells 30 B (.cells #[.int .i64 K] 3 (0, 0)) (fun x => x.ep == K) := by
  refine ⟨fun args w => enters_of Try.func30 (by kernel_rfl) rfl args w, fun ep key nx bt u hu => ?_⟩
  have hlt := blk_lt hu
  have hne : ¬ B = u.heap.size := by omega
  have c0 := (cell1 hu).1
  have hb := Lib.hid (below_alloc u (.cells #[.int .i64 ep, .int .i64 key, .int .u64 nx, .int .u64 bt] 33 : Obj))
  have d0 : (u.alloc (.cells #[.int .i64 ep, .int .i64 key, .int .u64 nx, .int .u64 bt] 33 : Obj)).cell? ⟨B, 0, none⟩ = some (.int .i64 K) := (hb.out.cell hlt).trans c0
  clear hu hlt c0 hne
  go_enter Try.func30, Try.ntmps30
  go_wp2
  go_ret
  exact ⟨rfl, hb.out⟩
theorem above_tells (ep0 key0 nx0 bt0 : Int) (B : Nat) : Tells 24 B (.cells #[.int .i64 ep0, .int .i64 key0, .int .u64 nx0, .int .u64 bt0] 33 (0, 0)) (fun x => decide (ep0 < x.ep)) := by
  refine ⟨fun args w => enters_of Try.func24 (by kernel_rfl) rfl args w, fun ep key nx bt u hu => ?_⟩
  have hlt := blk_lt hu
  have c0 := (cells4 hu).1
  have hb := Lib.hid (below_alloc u (.cells #[.int .i64 ep, .int .i64 key, .int .u64 nx, .int .u64 bt] 33 : Obj))
  have d0 : (u.alloc (.cells #[.int .i64 ep, .int .i64 key, .int .u64 nx, .int .u64 bt] 33 : Obj)).cell? ⟨B, 0, none⟩ = some (.int .i64 ep0) := (hb.out.cell hlt).trans c0
  clear hu hlt c0
  go_enter Try.func24, Try.ntmps24
  go_wp2
  go_ret
  exact ⟨rfl, hb.out⟩
/-! The first place of which it is so. -/
def idxE (p : En → Bool) (fs : List En) : Int := if fs.findIdx p < fs.length then fs.findIdx p else -1
theorem idx_here {p : En → Bool} {fs : List En} {k : Nat} (hk : k < fs.length) (hb : ∀ x, x ∈ fs.take k → p x = false) (h : p (fs.getD k zeroE) = true) : fs.findIdx p = k := by
  have e : fs.getD k zeroE = fs[k] := by simp [List.getD, hk]
  rw [e] at h
  rw [List.findIdx_eq hk]
  refine ⟨h, fun j hj => ?_⟩
  have := hb (fs[j]'(by omega)) (by rw [List.mem_take_iff_getElem]; exact ⟨j, by omega, rfl⟩)
  simpa using this
theorem idx_none {p : En → Bool} {fs : List En} (hb : ∀ x, x ∈ fs → p x = false) : fs.findIdx p = fs.length := by
  rw [List.findIdx_eq_length]
  exact hb
set_option maxHeartbeats 4000000 in
set_option maxRecDepth 100000 in
theorem index_e {f B : Nat} {o : Obj} {p : En → Bool} (ht : Tells f B o p) (a : Option Addr) (n cap : Nat) (fs : List En) (w : World) (hn : n = fs.length) (h : RowE w a cap fs) (ho : w.heap[B]? = some o) :
    Calls Try.prog 29 #[.slice a n cap, .func (.func f) #[] #[.pointer (some ⟨B, 0, none⟩)]] w fun e w' => e = .returned (.int .i64 (idxE p fs)) ∧ Below w.heap.size w w' := by
  have eg := ht.1
  have HT := Lib.hid ht.2
  have HR := Lib.hid h
  have HN := Lib.hid hn
  have HO := Lib.hid ho
  have hn63 : n ≤ 9223372036854775807 := by rw [hn]; exact h.len
  clear ht h hn ho
  go_enter Try.func29, Try.ntmps29
  go_wp2_with fail
  go_loopw [8] (fun i wr => ∃ (k : Nat), k ≤ n ∧ i = .int .i64 k ∧ Hid (∀ x, x ∈ fs.take k → p x = false) ∧ Hid (Below w.heap.size w wr)) (fun i _ => n - (intOf i).toNat)
  case atStart => exact ⟨0, Nat.zero_le _, rfl, Lib.hid (by simp), Lib.hid (Below.refl _ _)⟩
  case round =>
    obtain ⟨k, hk, rfl, HX, HB⟩ := hrel
    by_cases hlt : k < n
    · have hlt' : (k : Int) < (n : Int) := by omega
      obtain ⟨b1, f1, rfl, c0, c1, c2, c3⟩ := erow_cell HR.out (j := k) (by rw [← HN.out]; exact hlt)
      replace c0 := (HB.out.cell (block_lt_of_cell c0)).trans c0
      replace c1 := (HB.out.cell (block_lt_of_cell c1)).trans c1
      replace c2 := (HB.out.cell (block_lt_of_cell c2)).trans c2
      replace c3 := (HB.out.cell (block_lt_of_cell c3)).trans c3
      have HI : Hid (p (fs.getD k zeroE) = true → fs.findIdx p = k) := Lib.hid (fun q => idx_here (by rw [← HN.out]; exact hlt) HX.out q)
      have HT1 : Hid (fs.take (k + 1) = fs.take k ++ [fs.getD k zeroE]) := Lib.hid (take_getE (by rw [← HN.out]; exact hlt))
      generalize fs.getD k zeroE = z at c0 c1 c2 c3 HI HT1
      obtain ⟨ep, key, nx, bt⟩ := z
      dsimp only at c0 c1 c2 c3 HI HT1
      have HK := Lib.hid hlt
      have HOr : Hid (wr.heap[B]? = some o) := Lib.hid ((HB.out.block _ (blk_lt HO.out)).trans HO.out)
      clear hlt hk
      cases hp : p ⟨ep, key, nx, bt⟩ with
      | true =>
        have HE : Hid (idxE p fs = (k : Int)) := Lib.hid (by unfold idxE; rw [HI.out hp, if_pos (by have := HK.out; have := HN.out; omega)])
        have HP := Lib.hid hp
        clear hp
        go_wp2_with fail
        refine (HT.out ep key nx bt _ HOr.out).mono ?_
        rintro e w2 ⟨rfl, hb2⟩
        have HB2 : Hid (Below w.heap.size w w2) := Lib.hid (HB.out.trans (hb2.mono HB.out.size))
        rw [HP.out]
        clear hb2
        go_wp2
        go_ret
        exact ⟨by rw [HE.out]; rfl, HB2.out⟩
      | false =>
        have HX2 : Hid (∀ x, x ∈ fs.take (k + 1) → p x = false) := Lib.hid (fun x hx => by
          rw [HT1.out] at hx
          rcases List.mem_append.1 hx with q | q
          · exact HX.out x q
          · rw [List.mem_singleton.1 q]; exact hp)
        have HP := Lib.hid hp
        clear hp
        go_wp2_with fail
        refine (HT.out ep key nx bt _ HOr.out).mono ?_
        rintro e w2 ⟨rfl, hb2⟩
        have HB2 : Hid (Below w.heap.size w w2) := Lib.hid (HB.out.trans (hb2.mono HB.out.size))
        rw [HP.out]
        clear hb2
        go_wp2_with fail
        go_roundw
        case rel => exact ⟨k + 1, by have := HK.out; omega, by go_num, HX2, HB2⟩
        case measure => have := HK.out; simp [intOf]; omega
    · obtain rfl : k = n := by omega
      have HE : Hid (idxE p fs = -1) := Lib.hid (by
        have e : fs.take k = fs := by rw [List.take_of_length_le (by rw [← HN.out]; exact Nat.le_refl _)]
        have hx := HX.out
        rw [e] at hx
        unfold idxE
        rw [idx_none hx, if_neg (by omega)])
      clear hlt
      go_wp2
      go_ret
      exact ⟨by rw [HE.out]; rfl, HB.out⟩
theorem first_e {f B : Nat} {o : Obj} {p : En → Bool} (ht : Tells f B o p) (a : Option Addr) (n cap : Nat) (fs : List En) (w : World) (hn : n = fs.length) (h : RowE w a cap fs) (ho : w.heap[B]? = some o) {m : Nat} (hm : fs.findIdx p = m) :
    Calls Try.prog 26 #[.slice a n cap, .func (.func f) #[] #[.pointer (some ⟨B, 0, none⟩)]] w fun e w' => e = .returned (.int .i64 m) ∧ Below w.heap.size w w' := by
  have HT := Lib.hid ht
  have HR := Lib.hid h
  have HN := Lib.hid hn
  have HO := Lib.hid ho
  have HM := Lib.hid hm
  clear ht h hn ho hm
  by_cases hlt : fs.findIdx p < fs.length
  · have HE : Hid (idxE p fs = (m : Int)) := Lib.hid (by unfold idxE; rw [if_pos hlt, HM.out])
    have h0 : ¬ ((m : Int) < 0) := by omega
    clear hlt
    go_enter Try.func26, Try.ntmps26
    go_wp2_with fail
    refine (index_e HT.out a n cap fs _ HN.out HR.out HO.out).mono ?_
    rintro e w2 ⟨rfl, hb2⟩
    have HB2 := Lib.hid hb2
    rw [HE.out]
    clear hb2
    go_wp2
    go_ret
    exact ⟨rfl, HB2.out⟩
  · have HE : Hid (idxE p fs = -1) := Lib.hid (by unfold idxE; rw [if_neg hlt])
    have HL : Hid (n = m) := Lib.hid (by have := List.findIdx_le_length (xs := fs) (p := p); have := HN.out; have := HM.out; omega)
    clear hlt
    go_enter Try.func26, Try.ntmps26
    go_wp2_with fail
    refine (index_e HT.out a n cap fs _ HN.out HR.out HO.out).mono ?_
    rintro e w2 ⟨rfl, hb2⟩
    have HB2 := Lib.hid hb2
    rw [HE.out]
    clear hb2
    go_wp2
    go_ret
    exact ⟨by rw [HL.out]; rfl, HB2.out⟩
end Go.Proofs.Ytpbcndbmmphngaa
