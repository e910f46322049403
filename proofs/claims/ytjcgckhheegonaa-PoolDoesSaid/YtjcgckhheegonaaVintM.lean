/- Plain facts on a number's digits to the base 128 and on reading them back: no program is named here. No conditions. -/
namespace Go.Proofs.Ytjcgckhheegonaa

/-- The digits ahead of the last one: each has 128 added. -/
def hi (n : Nat) : List UInt8 := if n = 0 then [] else hi (n / 128) ++ [UInt8.ofNat (128 + n % 128)]
termination_by n
decreasing_by omega

/-- A number's bytes. -/
def put (n : Nat) : List UInt8 := hi (n / 128) ++ [UInt8.ofNat (n % 128)]
def putS (n : Nat) : ByteArray := ⟨(put n).toArray⟩

/-- What is read from a place on: the number, the place behind, the error. -/
def look : List UInt8 → Bool → Nat → Nat → Nat × Nat × Nat
  | [], _, _, _ => (0, 0, 2)
  | c :: r, f, n, p =>
    if f = true ∧ c.toNat = 128 then (0, 0, 3)
    else if 144115188075855871 < n then (0, 0, 3)
    else if c.toNat < 128 then (n * 128 + c.toNat, p + 1, 0)
    else look r false (n * 128 + c.toNat % 128) (p + 1)

def getA (l : List UInt8) (a : Int) : Nat × Nat × Nat :=
  if a < 0 ∨ (l.length : Int) < a then (0, 0, 1) else look (l.drop a.toNat) true 0 a.toNat
def gN (s : ByteArray) (a : Int) : Int := (getA s.data.toList a).1
def gP (s : ByteArray) (a : Int) : Int := (getA s.data.toList a).2.1
def gE (s : ByteArray) (a : Int) : Int := (getA s.data.toList a).2.2

/-- The text at a place. -/
def textA (l : List UInt8) (a m : Int) : List UInt8 × Nat × Nat :=
  let g := getA l a
  if g.2.2 ≠ 0 then ([], 0, g.2.2)
  else if 0 < g.1 ∧ m < (g.1 : Int) then ([], 0, 4)
  else if l.length - g.2.1 < g.1 then ([], 0, 2)
  else ((l.drop g.2.1).take g.1, g.2.1 + g.1, 0)
def tS (s : ByteArray) (a m : Int) : ByteArray := ⟨(textA s.data.toList a m).1.toArray⟩
def tP (s : ByteArray) (a m : Int) : Int := (textA s.data.toList a m).2.1
def tE (s : ByteArray) (a m : Int) : Int := (textA s.data.toList a m).2.2

theorem look_lt (l : List UInt8) : ∀ (f : Bool) (n p : Nat), (look l f n p).1 < 18446744073709551616 ∧ (look l f n p).2.1 ≤ p + l.length := by
  induction l with
  | nil => intro f n p; simp [look]
  | cons c r ih =>
    intro f n p
    have hc := c.toNat_lt
    rw [look]
    split
    · simp
    · split
      · simp
      · split
        · simp; omega
        · have := ih false (n * 128 + c.toNat % 128) (p + 1)
          simp; omega

theorem hi_zero : hi 0 = [] := by rw [hi]; simp
theorem hi_step (n : Nat) (h : n ≠ 0) : hi n = hi (n / 128) ++ [UInt8.ofNat (128 + n % 128)] := by rw [hi]; simp [h]
theorem put_length_pos (n : Nat) : 1 ≤ (put n).length := by simp [put]

end Go.Proofs.Ytjcgckhheegonaa
