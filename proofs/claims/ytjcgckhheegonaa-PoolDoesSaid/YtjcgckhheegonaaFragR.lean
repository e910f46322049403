/- A part: the document's Right, Encode, Decode; the law's One and Cut; parts compared. -/
import Derived.Test.YtjcgckhheegonaaFragM
import Derived.Deep.RegionHeld3
import Derived.Deep.Slices
import Derived.Laws.StructEq
namespace Go.Proofs.Ytjcgckhheegonaa
open Go.RowKit
set_option linter.unusedVariables false
set_option linter.unusedSimpArgs false
set_option maxRecDepth 20000

def eqF (f g : Fr) : Bool := f.id == g.id && (f.ix == g.ix && (f.ct == g.ct && (f.s.toList == g.s.toList)))
theorem toList_iff {a b : ByteArray} : a.toList = b.toList ↔ a = b := by
  rw [ByteArray.toList_eq, ByteArray.toList_eq]
  constructor
  · intro h; apply ByteArray.ext; apply Array.ext'; exact h
  · rintro rfl; rfl
theorem eqF_iff (f g : Fr) : eqF f g = true ↔ f = g := by
  obtain ⟨a, b, c, d⟩ := f
  obtain ⟨a', b', c', d'⟩ := g
  simp only [eqF, Bool.and_eq_true, beq_iff_eq, toList_iff, Fr.mk.injEq]
theorem eqF_self (f : Fr) : eqF f f = true := (eqF_iff f f).2 rfl
theorem heldP : Try.prog.stoodInHeld 35 = false := by kernel_rfl
theorem guardP : Try.prog.eqGuardType Try.prog.depth 35 = false := by kernel_rfl
theorem fieldsP : Try.prog.underlying 35 = some (.struct (Try.prog.fieldsOf 35)) := by kernel_rfl
set_option maxHeartbeats 2000000 in
theorem eqInP (f g : Fr) (w : World) : (Op.equalIn 10000 35 f.v g.v).run Try.prog w = .ok (eqF f g) w := by
  unfold Fr.v Fr.cl
  rw [run_equalIn_agg _ _ _ _ _ fieldsP heldP]
  have hf : (Try.prog.fieldsOf 35).toList = (match Try.prog.underlying 35 with | some (.struct fs) => fs.toList | _ => []) := by kernel_rfl
  rw [hf, Try.underlying35]
  have i3 := fun (w : World) (a b : Int) => run_equalIn_int (P := Try.prog) w 9998 3 .i64 .i64 a b Try.underlying3
  have i30 := fun (w : World) (a b : Int) => run_equalIn_int (P := Try.prog) w 9998 32 .u64 .u64 a b Try.underlying32
  have i9 := fun (w : World) (a b : ByteArray) => run_equalIn_string (P := Try.prog) w 9998 9 a b Try.underlying9
  simp only [Op.eqFields, eqF]
  cases h0 : (f.id == g.id)
  · go_simp
  cases h1 : (f.ix == g.ix)
  · go_simp
  cases h2 : (f.ct == g.ct)
  · go_simp
  cases h3 : (f.s.toList == g.s.toList)
  · go_simp
  go_simp
theorem eqlP (f g : Fr) (w : World) : (binOp .eql 35 f.v g.v).run Try.prog w = .ok (.bool (eqF f g)) w := by
  have h := eqInP f g w
  unfold Fr.v at h ⊢
  rw [run_eql_struct, h]; rfl
theorem neqP (f g : Fr) (w : World) : (binOp .neq 35 f.v g.v).run Try.prog w = .ok (.bool (!eqF f g)) w := by
  have h := eqInP f g w
  unfold Fr.v at h ⊢
  rw [run_neq_struct, h]; rfl
theorem heldR : Try.prog.stoodInHeld 40 = false := by kernel_rfl
theorem guardR : Try.prog.eqGuardType Try.prog.depth 40 = false := by kernel_rfl
theorem fieldsR : Try.prog.underlying 40 = some (.struct (Try.prog.fieldsOf 40)) := by kernel_rfl
set_option maxHeartbeats 2000000 in
theorem eqInR (f g : Fr) (w : World) : (Op.equalIn 10000 40 f.v g.v).run Try.prog w = .ok (eqF f g) w := by
  unfold Fr.v Fr.cl
  rw [run_equalIn_agg _ _ _ _ _ fieldsR heldR]
  have hf : (Try.prog.fieldsOf 40).toList = (match Try.prog.underlying 40 with | some (.struct fs) => fs.toList | _ => []) := by kernel_rfl
  rw [hf, Try.underlying40]
  have i3 := fun (w : World) (a b : Int) => run_equalIn_int (P := Try.prog) w 9998 3 .i64 .i64 a b Try.underlying3
  have i30 := fun (w : World) (a b : Int) => run_equalIn_int (P := Try.prog) w 9998 32 .u64 .u64 a b Try.underlying32
  have i9 := fun (w : World) (a b : ByteArray) => run_equalIn_string (P := Try.prog) w 9998 9 a b Try.underlying9
  simp only [Op.eqFields, eqF]
  cases h0 : (f.id == g.id)
  · go_simp
  cases h1 : (f.ix == g.ix)
  · go_simp
  cases h2 : (f.ct == g.ct)
  · go_simp
  cases h3 : (f.s.toList == g.s.toList)
  · go_simp
  go_simp
theorem eqlR (f g : Fr) (w : World) : (binOp .eql 40 f.v g.v).run Try.prog w = .ok (.bool (eqF f g)) w := by
  have h := eqInR f g w
  unfold Fr.v at h ⊢
  rw [run_eql_struct, h]; rfl
theorem neqR (f g : Fr) (w : World) : (binOp .neq 40 f.v g.v).run Try.prog w = .ok (.bool (!eqF f g)) w := by
  have h := eqInR f g w
  unfold Fr.v at h ⊢
  rw [run_neq_struct, h]; rfl
set_option maxHeartbeats 4000000 in
theorem rright_f (id ix ct : Int) (s : ByteArray) (w : World) (hs : s.size ≤ maxLen) (b : Bool) (hb : Hid (rightF ⟨id, ix, ct, s⟩ = b)) :
    Calls Try.prog 30 #[.agg #[.int .u64 id, .int .i64 ix, .int .i64 ct, .string s]] w fun e w' => e = .returned (.bool b) ∧ Below w.heap.size w w' := by
  unfold maxLen at hs
  by_cases p0 : 1 ≤ id
  · skip
    have d0 : decide (1 ≤ id) = true := by simp; omega
    by_cases p1 : id ≤ 4294967296
    · skip
      have d1 : decide (id ≤ 4294967296) = true := by simp; omega
      by_cases p2 : 1 ≤ ct
      · skip
        have d2 : decide (1 ≤ ct) = true := by simp; omega
        by_cases p3 : ct ≤ 16
        · skip
          have d3 : decide (ct ≤ 16) = true := by simp; omega
          by_cases p4 : 0 ≤ ix
          · skip
            have d4 : decide (0 ≤ ix) = true := by simp; omega
            by_cases p5 : ix < ct
            · skip
              have d5 : decide (ix < ct) = true := by simp; omega
              by_cases p6 : (1 : Int) ≤ s.size
              · skip
                have d6 : decide ((1 : Int) ≤ (s.size : Int)) = true := by simp; omega
                by_cases p7 : (s.size : Int) ≤ 1000
                · skip
                  have d7 : decide ((s.size : Int) ≤ 1000) = true := by simp; omega
                  have HB : Hid (true = b) := Lib.hid (by rw [← hb.out]; exact (rightF_iff.2 (by dsimp only; omega)).symm)
                  clear p0 p1 p2 p3 p4 p5 p6 p7 hb
                  go_enter Try.func30, Try.ntmps30
                  go_wp2
                  go_ret
                  exact ⟨by rw [← HB.out]; rfl, (Below.refl _ _).alloc (Nat.le_refl _) _⟩
                · skip
                  have d7 : decide ((s.size : Int) ≤ 1000) = false := by simp; omega
                  have HB : Hid (false = b) := Lib.hid (by
                    rw [← hb.out]
                    cases h : rightF ⟨id, ix, ct, s⟩ with
                    | false => rfl
                    | true => have := rightF_iff.1 h; dsimp only at this; omega)
                  clear p0 p1 p2 p3 p4 p5 p6 p7 hb
                  go_enter Try.func30, Try.ntmps30
                  go_wp2
                  go_ret
                  exact ⟨by rw [← HB.out]; rfl, (Below.refl _ _).alloc (Nat.le_refl _) _⟩
              · skip
                have d6 : decide ((1 : Int) ≤ (s.size : Int)) = false := by simp; omega
                have e6 : (s.size : Int) < 1 := by omega
                have HB : Hid (false = b) := Lib.hid (by
                  rw [← hb.out]
                  cases h : rightF ⟨id, ix, ct, s⟩ with
                  | false => rfl
                  | true => have := rightF_iff.1 h; dsimp only at this; omega)
                clear p0 p1 p2 p3 p4 p5 p6 hb
                go_enter Try.func30, Try.ntmps30
                go_wp2
                go_ret
                exact ⟨by rw [← HB.out]; rfl, (Below.refl _ _).alloc (Nat.le_refl _) _⟩
            · skip
              have d5 : decide (ix < ct) = false := by simp; omega
              have HB : Hid (false = b) := Lib.hid (by
                rw [← hb.out]
                cases h : rightF ⟨id, ix, ct, s⟩ with
                | false => rfl
                | true => have := rightF_iff.1 h; dsimp only at this; omega)
              clear p0 p1 p2 p3 p4 p5 hb
              go_enter Try.func30, Try.ntmps30
              go_wp2
              go_ret
              exact ⟨by rw [← HB.out]; rfl, (Below.refl _ _).alloc (Nat.le_refl _) _⟩
          · skip
            have d4 : decide (0 ≤ ix) = false := by simp; omega
            have e4 : ix < 0 := by omega
            have HB : Hid (false = b) := Lib.hid (by
              rw [← hb.out]
              cases h : rightF ⟨id, ix, ct, s⟩ with
              | false => rfl
              | true => have := rightF_iff.1 h; dsimp only at this; omega)
            clear p0 p1 p2 p3 p4 hb
            go_enter Try.func30, Try.ntmps30
            go_wp2
            go_ret
            exact ⟨by rw [← HB.out]; rfl, (Below.refl _ _).alloc (Nat.le_refl _) _⟩
        · skip
          have d3 : decide (ct ≤ 16) = false := by simp; omega
          have HB : Hid (false = b) := Lib.hid (by
            rw [← hb.out]
            cases h : rightF ⟨id, ix, ct, s⟩ with
            | false => rfl
            | true => have := rightF_iff.1 h; dsimp only at this; omega)
          clear p0 p1 p2 p3 hb
          go_enter Try.func30, Try.ntmps30
          go_wp2
          go_ret
          exact ⟨by rw [← HB.out]; rfl, (Below.refl _ _).alloc (Nat.le_refl _) _⟩
      · skip
        have d2 : decide (1 ≤ ct) = false := by simp; omega
        have e2 : ct < 1 := by omega
        have HB : Hid (false = b) := Lib.hid (by
          rw [← hb.out]
          cases h : rightF ⟨id, ix, ct, s⟩ with
          | false => rfl
          | true => have := rightF_iff.1 h; dsimp only at this; omega)
        clear p0 p1 p2 hb
        go_enter Try.func30, Try.ntmps30
        go_wp2
        go_ret
        exact ⟨by rw [← HB.out]; rfl, (Below.refl _ _).alloc (Nat.le_refl _) _⟩
    · skip
      have d1 : decide (id ≤ 4294967296) = false := by simp; omega
      have HB : Hid (false = b) := Lib.hid (by
        rw [← hb.out]
        cases h : rightF ⟨id, ix, ct, s⟩ with
        | false => rfl
        | true => have := rightF_iff.1 h; dsimp only at this; omega)
      clear p0 p1 hb
      go_enter Try.func30, Try.ntmps30
      go_wp2
      go_ret
      exact ⟨by rw [← HB.out]; rfl, (Below.refl _ _).alloc (Nat.le_refl _) _⟩
  · skip
    have d0 : decide (1 ≤ id) = false := by simp; omega
    have e0 : id < 1 := by omega
    have HB : Hid (false = b) := Lib.hid (by
      rw [← hb.out]
      cases h : rightF ⟨id, ix, ct, s⟩ with
      | false => rfl
      | true => have := rightF_iff.1 h; dsimp only at this; omega)
    clear p0 hb
    go_enter Try.func30, Try.ntmps30
    go_wp2
    go_ret
    exact ⟨by rw [← HB.out]; rfl, (Below.refl _ _).alloc (Nat.le_refl _) _⟩
set_option maxHeartbeats 1000000 in
theorem one_f (id ix ct : Int) (s : ByteArray) (w : World) :
    Calls Try.prog 16 #[.agg #[.int .u64 id, .int .i64 ix, .int .i64 ct, .string s]] w fun e w' => e = .returned (.agg #[.int .u64 id, .int .i64 ix, .int .i64 ct, .string s]) ∧ Below w.heap.size w w' := by
  go_enter Try.func16, Try.ntmps16
  go_wp2
  exact bodyPost_ret (v := .agg #[.int .u64 id, .int .i64 ix, .int .i64 ct, .string s]) (by simp [results, Try.results16, go_sem]) rfl ⟨rfl, ((Below.refl _ _).alloc (Nat.le_refl _) _).alloc (by simp) _⟩
set_option maxHeartbeats 1000000 in
theorem lcut_f (id ix ct : Int) (s p : ByteArray) (w : World) (hs : s.size ≤ maxLen) (m0 : min (s.size : Int) 1100 = p.size) (u0 : p.size ≤ s.size) (x0 : s.extract 0 p.size = p) :
    Calls Try.prog 13 #[.agg #[.int .u64 id, .int .i64 ix, .int .i64 ct, .string s]] w fun e w' => e = .returned (.agg #[.int .u64 id, .int .i64 ix, .int .i64 ct, .string p]) ∧ Below w.heap.size w w' := by
  have n0 : (if (1100 : Int) < (s.size : Int) then (1100 : Int) else (s.size : Int)) = (p.size : Int) := by rw [← m0]; omega
  have HX : Hid (s.extract 0 (min (s.size : Int) 1100).toNat = p) := Lib.hid (by rw [m0]; simpa using x0)
  unfold maxLen at hs
  clear m0
  go_enter Try.func13, Try.ntmps13
  go_wp2
  rw [HX.out]
  exact bodyPost_ret (v := .agg #[.int .u64 id, .int .i64 ix, .int .i64 ct, .string p]) (by simp [results, Try.results13, go_sem]) rfl ⟨rfl, ((Below.refl _ _).alloc (Nat.le_refl _) _).alloc (by simp) _⟩
end Go.Proofs.Ytjcgckhheegonaa
