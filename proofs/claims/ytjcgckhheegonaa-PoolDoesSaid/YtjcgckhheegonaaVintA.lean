/- The walks of the calls that only compute: hasRoom, Get and the document's Get, for every string and place. -/
import Derived.Test.YtjcgckhheegonaaRows
import Derived.Test.YtjcgckhheegonaaVintM
import Derived.WalkKit
import Derived.WalkSpells
import Derived.WalkLawsBesides
import Derived.Lib.Hide
namespace Go.Proofs.Ytjcgckhheegonaa
open Go.RowKit
set_option linter.unusedVariables false



def GetPost (s : ByteArray) (a : Int) (w : World) (e : Ending) (w' : World) : Prop :=
  e = .returned (.tuple #[.int .u64 (gN s a), .int .i64 (gP s a), .int .i64 (gE s a)]) ∧ w = w'

theorem getPost_of {s : ByteArray} {a : Int} {w : World} {x y z : Nat} {x' y' z' : Int} (h : getA s.data.toList a = (x, y, z)) (hx : x' = x) (hy : y' = y) (hz : z' = z) :
    GetPost s a w (.returned (.tuple #[.int .u64 x', .int .i64 y', .int .i64 z'])) w := by
  subst hx hy hz
  exact ⟨by simp [gN, gP, gE, h], rfl⟩

theorem drop_cons (s : ByteArray) (k : Nat) (h : k < s.size) : s.data.toList.drop k = s[k] :: s.data.toList.drop (k + 1) := by
  rw [List.drop_eq_getElem_cons (by simpa using h)]; rfl
theorem look_form (s : ByteArray) (k : Nat) (f : Bool) (m p : Nat) (h : k < s.size) (hh : (f = true ∧ s[k].toNat = 128) ∨ 144115188075855871 < m) :
    look (s.data.toList.drop k) f m p = (0, 0, 3) := by
  rw [drop_cons s k h, look]
  rcases hh with hh | hh
  · rw [if_pos hh]
  · rw [if_pos hh]; simp
theorem look_end (s : ByteArray) (k : Nat) (f : Bool) (m p : Nat) (h : k < s.size) (h1 : ¬ (f = true ∧ s[k].toNat = 128)) (h2 : m ≤ 144115188075855871) (h3 : s[k].toNat < 128) :
    look (s.data.toList.drop k) f m p = (m * 128 + s[k].toNat, p + 1, 0) := by
  rw [drop_cons s k h, look, if_neg h1, if_neg (by omega), if_pos h3]
theorem look_go (s : ByteArray) (k : Nat) (f : Bool) (m p : Nat) (h : k < s.size) (h1 : ¬ (f = true ∧ s[k].toNat = 128)) (h2 : m ≤ 144115188075855871) (h3 : ¬ s[k].toNat < 128) :
    look (s.data.toList.drop k) f m p = look (s.data.toList.drop (k + 1)) false (m * 128 + s[k].toNat % 128) (p + 1) := by
  rw [drop_cons s k h, look, if_neg h1, if_neg (by omega), if_neg h3]
theorem look_none (s : ByteArray) (k : Nat) (f : Bool) (m p : Nat) (h : s.size ≤ k) :
    look (s.data.toList.drop k) f m p = (0, 0, 2) := by
  rw [List.drop_eq_nil_of_le (by simpa using h), look]
theorem getA_out (s : ByteArray) (a : Int) (h : a < 0 ∨ (s.size : Int) < a) : getA s.data.toList a = (0, 0, 1) := by
  unfold getA; rw [if_pos (by simpa using h)]
theorem getA_in (s : ByteArray) (a : Nat) (h : a ≤ s.size) : getA s.data.toList (a : Int) = look (s.data.toList.drop a) true 0 a := by
  unfold getA; rw [if_neg (by have : s.data.toList.length = s.size := by simp
                              omega)]; simp









end Go.Proofs.Ytjcgckhheegonaa
