/- The calls whose answers the document fixes. -/
import Derived.Test.YtahlekcnleedhaaOffR3
namespace Go.Proofs.Ytahlekcnleedhaa
open Go.RowKit
set_option linter.unusedVariables false
set_option linter.unusedSimpArgs false
set_option maxRecDepth 100000

theorem mk3 : makeS [3, 1, 3] = [3, 1] ∧ makeE [3, 1, 3] = 0 := by decide +kernel
theorem mk0 : makeS [] = [] ∧ makeE [] = 1 := by decide +kernel
theorem mkz : makeS [0] = [] ∧ makeE [0] = 1 := by decide +kernel
theorem mk9 : makeS [1, 2, 3, 4, 5, 6, 7, 8, 9] = [] ∧ makeE [1, 2, 3, 4, 5, 6, 7, 8, 9] = 1 := by decide +kernel
theorem be1 : BestIs ⟨#[5, 3, 1]⟩ ⟨#[4, 3, 2, 1]⟩ 3 0 := by unfold BestIs; decide +kernel
theorem be2 : BestIs ⟨#[5]⟩ ⟨#[4]⟩ 0 11 := by unfold BestIs; decide +kernel
theorem be3 : BestIs ⟨#[]⟩ ⟨#[4]⟩ 0 3 := by unfold BestIs; decide +kernel
theorem ri1 : rightB (⟨#[3, 1]⟩ : ByteArray).data.toList = true := by decide +kernel
theorem ri2 : rightB (⟨#[1, 3]⟩ : ByteArray).data.toList = false := by decide +kernel
theorem ri3 : rightB (⟨#[3, 3]⟩ : ByteArray).data.toList = false := by decide +kernel
theorem ri4 : rightB (⟨#[3, 0]⟩ : ByteArray).data.toList = false := by decide +kernel
theorem bo1 : (⟨#[3, 1]⟩ : ByteArray).data.toList = bothS (⟨#[5, 3, 1]⟩ : ByteArray).data.toList (⟨#[3, 1]⟩ : ByteArray).data.toList := by decide +kernel

theorem make_lit (zs : List Int) (w : World) (hm : zs.length ≤ 1000) (hwf : zs.all (fun x => (Lit.int .i64 x).wf) = true) (t : ByteArray) (er : Int) (ht : t.data.toList = makeS zs) (he : makeE zs = er) :
    Calls Try.prog 9 #[.slice (some ⟨w.heap.size, 0, none⟩) zs.length zs.length] (w.alloc (.cells (valsR .i64 zs).toArray 3)) fun e w' => e = .returned (.tuple #[.string t, .int .i64 er]) ∧ Below w.heap.size w w' :=
  (make_any _ _ _ zs _ rfl (lit_row .i64 3 w zs (by unfold maxLen; omega)) (fun x hx => List.all_eq_true.1 hwf x hx) t er (Lib.hid ht) (Lib.hid he)).mono fun e w' ⟨h1, h2⟩ => ⟨h1, (below_alloc w _).trans (h2.mono (by simp))⟩
theorem sizeE (l : List UInt8) (h : l.length ≤ 100) : (⟨l.toArray⟩ : ByteArray).size ≤ maxLen := by
  rw [← text_size]; unfold maxLen; simp; omega

set_option maxHeartbeats 4000000 in
theorem fixed_any (w : World) :
    Calls Try.prog 17 #[] w fun e w' => e = .returned (.bool true) ∧ Below w.heap.size w w' := by
  go_enter Try.func17, Try.ntmps17
  go_wp2_with fail
  refine (make_lit [3, 1, 3] _ (by decide) (by decide) ⟨#[3, 1]⟩ 0 mk3.1.symm mk3.2).mono ?_
  rintro e w1 ⟨rfl, hb⟩
  have H1 := Lib.hid hb
  clear hb
  go_wp2_with fail
  refine (make_any _ _ _ [] _ rfl (RowAt.none _ _) (by simp) ⟨#[]⟩ 1 (Lib.hid mk0.1.symm) (Lib.hid mk0.2)).mono ?_
  rintro e w2 ⟨rfl, hb⟩
  have H2 := Lib.hid (H1.out.trans (hb.mono H1.out.size))
  clear hb H1
  go_wp2_with fail
  refine (make_lit [0] _ (by decide) (by decide) ⟨#[]⟩ 1 mkz.1.symm mkz.2).mono ?_
  rintro e w1 ⟨rfl, hb⟩
  have H1 := Lib.hid (H2.out.trans (hb.mono H2.out.size))
  clear hb H2
  go_wp2_with fail
  refine (make_lit [1, 2, 3, 4, 5, 6, 7, 8, 9] _ (by decide) (by decide) ⟨#[]⟩ 1 mk9.1.symm mk9.2).mono ?_
  rintro e w2 ⟨rfl, hb⟩
  have H2 := Lib.hid (H1.out.trans (hb.mono H1.out.size))
  clear hb H1
  go_wp2_with fail
  refine (best_any ⟨#[5, 3, 1]⟩ ⟨#[4, 3, 2, 1]⟩ _ (by decide) (by decide) 3 0 (Lib.hid be1)).mono ?_
  rintro e w1 ⟨rfl, hb⟩
  have H1 := Lib.hid (H2.out.trans (hb.mono H2.out.size))
  clear hb H2
  go_wp2_with fail
  refine (best_any ⟨#[5]⟩ ⟨#[4]⟩ _ (by decide) (by decide) 0 11 (Lib.hid be2)).mono ?_
  rintro e w2 ⟨rfl, hb⟩
  have H2 := Lib.hid (H1.out.trans (hb.mono H1.out.size))
  clear hb H1
  go_wp2_with fail
  refine (best_any ⟨#[]⟩ ⟨#[4]⟩ _ (by decide) (by decide) 0 3 (Lib.hid be3)).mono ?_
  rintro e w1 ⟨rfl, hb⟩
  have H1 := Lib.hid (H2.out.trans (hb.mono H2.out.size))
  clear hb H2
  go_wp2_with fail
  refine (right_any ⟨#[3, 1]⟩ _ (by decide) _ (Lib.hid ri1)).mono ?_
  rintro e w2 ⟨rfl, hb⟩
  have H2 := Lib.hid (H1.out.trans (hb.mono H1.out.size))
  clear hb H1
  go_wp2_with fail
  refine (right_any ⟨#[1, 3]⟩ _ (by decide) _ (Lib.hid ri2)).mono ?_
  rintro e w1 ⟨rfl, hb⟩
  have H1 := Lib.hid (H2.out.trans (hb.mono H2.out.size))
  clear hb H2
  go_wp2_with fail
  refine (right_any ⟨#[3, 3]⟩ _ (by decide) _ (Lib.hid ri3)).mono ?_
  rintro e w2 ⟨rfl, hb⟩
  have H2 := Lib.hid (H1.out.trans (hb.mono H1.out.size))
  clear hb H1
  go_wp2_with fail
  refine (right_any ⟨#[3, 0]⟩ _ (by decide) _ (Lib.hid ri4)).mono ?_
  rintro e w1 ⟨rfl, hb⟩
  have H1 := Lib.hid (H2.out.trans (hb.mono H2.out.size))
  clear hb H2
  go_wp2_with fail
  refine (both_any ⟨#[5, 3, 1]⟩ ⟨#[3, 1]⟩ _ (by decide) (by decide) ⟨#[3, 1]⟩ (Lib.hid bo1)).mono ?_
  rintro e w2 ⟨rfl, hb⟩
  have H2 := Lib.hid (H1.out.trans (hb.mono H1.out.size))
  clear hb H1
  go_wp2_with fail
  go_ret
  exact ⟨rfl, H2.out⟩
end Go.Proofs.Ytahlekcnleedhaa
