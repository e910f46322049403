/- The walks of the calls that only compute: hasRoom, Get and the document's Get, for every string and place. -/
/- The walks of Put, and the document's Put, for every number of 64 bits. -/
/- The program's calls: Right, Both, Best, Make. -/
/- The document's calls: has, Right, Both, Best, Make. -/
/- A library contract at this program: how many bits a 64-bit number has, for every one. -/
import Derived.Test.YtgeonppckeiceaaGreatDoorRows
import Derived.Test.YtgeonppckeiceaaGreatDoorGp07
import Derived.WalkKit
import Derived.WalkSpells
import Derived.WalkLawsBesides
import Derived.Lib.Hide
import Derived.Shelf.Strconv.Itoa0
import Derived.Shelf.LaysM
import Derived.Shelf.Strconv.Clone
import Derived.Test.YtgeonppckeiceaaGreatDoorProg
import Derived.Test.YtgeonppckeiceaaGreatDoorGp03
namespace Go.Proofs.YtgeonppckeiceaaGreatDoor.Ms
open Go.RowKit
set_option linter.unusedVariables false

set_option maxHeartbeats 400000 in
theorem room_yes (n : Int) (w : World) (h : n ≤ 144115188075855871) :
    Calls Tryz.prog 183 #[.int .u64 n] w fun e w' => e = .returned (.bool true) ∧ w = w' := by
  go_enter Tryz.func183, Tryz.ntmps183
  go_wp2
  go_ret
  exact ⟨rfl, rfl⟩

set_option maxHeartbeats 400000 in
theorem room_no (n : Int) (w : World) (h : ¬ n ≤ 144115188075855871) :
    Calls Tryz.prog 183 #[.int .u64 n] w fun e w' => e = .returned (.bool false) ∧ w = w' := by
  have h' : decide (n ≤ 144115188075855871) = false := by simpa using h
  go_enter Tryz.func183, Tryz.ntmps183
  go_wp2
  go_ret
  exact ⟨rfl, rfl⟩

def GetPost (s : ByteArray) (a : Int) (w : World) (e : Ending) (w' : World) : Prop :=
  e = .returned (.tuple #[.int .u64 (gN s a), .int .i64 (gP s a), .int .i64 (gE s a)]) ∧ w = w'

theorem getPost_of {s : ByteArray} {a : Int} {w : World} {x y z : Nat} {x' y' z' : Int} (h : getA s.data.toList a = (x, y, z)) (hx : x' = x) (hy : y' = y) (hz : z' = z) :
    GetPost s a w (.returned (.tuple #[.int .u64 x', .int .i64 y', .int .i64 z'])) w := by
  subst hx hy hz
  exact ⟨by simp [gN, gP, gE, h], rfl⟩

theorem drop_cons (s : ByteArray) (k : Nat) (h : k < s.size) : s.data.toList.drop k = s[k] :: s.data.toList.drop (k + 1) := by
  rw [List.drop_eq_getElem_cons (by simpa using h)]; rfl
theorem look_form (s : ByteArray) (k : Nat) (f : Bool) (m p : Nat) (h : k < s.size) (hh : (f = true ∧ s[k].toNat = 128) ∨ 144115188075855871 < m) :
    look (s.data.toList.drop k) f m p = (0, 0, 3) := by
  rw [drop_cons s k h, look]
  rcases hh with hh | hh
  · rw [if_pos hh]
  · rw [if_pos hh]; simp
theorem look_end (s : ByteArray) (k : Nat) (f : Bool) (m p : Nat) (h : k < s.size) (h1 : ¬ (f = true ∧ s[k].toNat = 128)) (h2 : m ≤ 144115188075855871) (h3 : s[k].toNat < 128) :
    look (s.data.toList.drop k) f m p = (m * 128 + s[k].toNat, p + 1, 0) := by
  rw [drop_cons s k h, look, if_neg h1, if_neg (by omega), if_pos h3]
theorem look_go (s : ByteArray) (k : Nat) (f : Bool) (m p : Nat) (h : k < s.size) (h1 : ¬ (f = true ∧ s[k].toNat = 128)) (h2 : m ≤ 144115188075855871) (h3 : ¬ s[k].toNat < 128) :
    look (s.data.toList.drop k) f m p = look (s.data.toList.drop (k + 1)) false (m * 128 + s[k].toNat % 128) (p + 1) := by
  rw [drop_cons s k h, look, if_neg h1, if_neg (by omega), if_neg h3]
theorem look_none (s : ByteArray) (k : Nat) (f : Bool) (m p : Nat) (h : s.size ≤ k) :
    look (s.data.toList.drop k) f m p = (0, 0, 2) := by
  rw [List.drop_eq_nil_of_le (by simpa using h), look]
theorem getA_out (s : ByteArray) (a : Int) (h : a < 0 ∨ (s.size : Int) < a) : getA s.data.toList a = (0, 0, 1) := by
  unfold getA; rw [if_pos (by simpa using h)]
theorem getA_in (s : ByteArray) (a : Nat) (h : a ≤ s.size) : getA s.data.toList (a : Int) = look (s.data.toList.drop a) true 0 a := by
  unfold getA; rw [if_neg (by have : s.data.toList.length = s.size := by simp
                              omega)]; simp

set_option maxHeartbeats 400000 in
theorem get_below (s : ByteArray) (a : Int) (w : World) (hs : s.size ≤ maxLen) (h : a < 0) :
    Calls Tryz.prog 142 #[.string s, .int .i64 a] w (GetPost s a w) := by
  have H := Lib.hid (getA_out s a (.inl h))
  unfold maxLen at hs
  go_enter Tryz.func142, Tryz.ntmps142
  go_wp2
  go_ret3
  exact getPost_of H.out rfl rfl rfl

set_option maxHeartbeats 400000 in
theorem get_above (s : ByteArray) (a : Int) (w : World) (hs : s.size ≤ maxLen) (h : (s.size : Int) < a) :
    Calls Tryz.prog 142 #[.string s, .int .i64 a] w (GetPost s a w) := by
  have H := Lib.hid (getA_out s a (.inr h))
  have h0 : decide (a < 0) = false := by simp; omega
  unfold maxLen at hs
  go_enter Tryz.func142, Tryz.ntmps142
  go_wp2
  go_ret3
  exact getPost_of H.out rfl rfl rfl

set_option maxHeartbeats 1000000 in
theorem get_in (s : ByteArray) (a : Nat) (w : World) (hs : s.size ≤ maxLen) (h : a ≤ s.size) :
    Calls Tryz.prog 142 #[.string s, .int .i64 a] w (GetPost s a w) := by
  have H0 := Lib.hid (getA_in s a h)
  have q1 : decide (s.size < a) = false := by simp; omega
  have q2 : decide ((a : Int) < 0) = false := by simp
  unfold maxLen at hs
  go_enter Tryz.func142, Tryz.ntmps142
  go_wp2
  go_loop [7, 8] (fun n i => ∃ k m : Nat, a ≤ k ∧ k ≤ s.size ∧ i = .int .i64 k ∧ n = .int .u64 m ∧ Hid (getA s.data.toList a = look (s.data.toList.drop k) (decide (k = a)) m k)) (fun _ i => s.size - (intOf i).toNat)
  case atStart => exact ⟨a, 0, by omega, h, rfl, rfl, Lib.hid (by simpa using H0.out)⟩
  case round =>
    obtain ⟨k, m, hak, hk, rfl, rfl, HR⟩ := hrel
    clear H0
    by_cases hlt : k < s.size
    · have hc := s[k].toNat_lt
      by_cases hbad : k = a ∧ s[k].toNat = 128
      · obtain ⟨rfl, hb⟩ := hbad
        have HF := Lib.hid (HR.out.trans (look_form s k (decide (k = k)) m k hlt (.inl ⟨by simp, hb⟩)))
        have hb1 : ((s[k].toNat : Int) == 128) = true := by simpa using (by omega : (s[k].toNat : Int) = 128)
        clear hb HR
        go_wp2
        go_ret3
        exact getPost_of HF.out rfl rfl rfl
      · by_cases hm : m ≤ 144115188075855871
        · have hm' : (m : Int) ≤ 144115188075855871 := by omega
          have hmf : decide ((144115188075855871 : Int) < m) = false := by simp; omega
          have hb1 : ¬ (decide (k = a) = true ∧ s[k].toNat = 128) := by simpa using hbad
          by_cases h3 : s[k].toNat < 128
          · have HF := Lib.hid (HR.out.trans (look_end s k _ m k hlt hb1 hm h3))
            have h3' : (s[k].toNat : Int) < 128 := by omega
            have h128 : ((s[k].toNat : Int) == 128) = false := by simp; omega
            clear HR hb1 hbad
            by_cases hka : k = a
            · have hkb : ((k : Int) == (a : Int)) = true := by simp [hka]
              clear hka
              go_wp2_with (go_at_call 183; refine (room_yes _ _ hm').mono ?_; rintro e w' ⟨rfl, rfl⟩)
              go_ret3
              exact getPost_of HF.out (by simp; try omega) (by simp) rfl
            · have hkb : ((k : Int) == (a : Int)) = false := by simp; omega
              clear hka
              go_wp2_with (go_at_call 183; refine (room_yes _ _ hm').mono ?_; rintro e w' ⟨rfl, rfl⟩)
              go_ret3
              exact getPost_of HF.out (by simp; try omega) (by simp) rfl
          · have HF := Lib.hid (HR.out.trans (look_go s k _ m k hlt hb1 hm h3))
            have h3' : decide ((s[k].toNat : Int) < 128) = false := by simp; omega
            have h3'' : ¬ (s[k].toNat : Int) < 128 := by omega
            clear HR hb1
            by_cases hka : k = a
            · have hkb : ((k : Int) == (a : Int)) = true := by simp [hka]
              have h128 : ((s[k].toNat : Int) == 128) = false := by simp; omega
              have HK := Lib.hid hka
              clear hka hbad
              go_wp2_with (go_at_call 183; refine (room_yes _ _ hm').mono ?_; rintro e w' ⟨rfl, rfl⟩)
              go_round
              case rel => exact ⟨k + 1, m * 128 + s[k].toNat % 128, by omega, by omega, by go_num, by simp, by
                have hk1 : decide (k + 1 = a) = false := by simp; omega
                rw [hk1]; exact HF.out⟩
              case measure => simp [intOf]; omega
            · have hkb : ((k : Int) == (a : Int)) = false := by simp; omega
              clear hka hbad
              go_wp2_with (go_at_call 183; refine (room_yes _ _ hm').mono ?_; rintro e w' ⟨rfl, rfl⟩)
              go_round
              case rel => exact ⟨k + 1, m * 128 + s[k].toNat % 128, by omega, by omega, by go_num, by simp, by
                have hk1 : decide (k + 1 = a) = false := by simp; omega
                rw [hk1]; exact HF.out⟩
              case measure => simp [intOf]; omega
        · have HF := Lib.hid (HR.out.trans (look_form s k _ m k hlt (.inr (by omega))))
          have hm' : ¬ (m : Int) ≤ 144115188075855871 := by omega
          have hmf : decide ((144115188075855871 : Int) < m) = true := by simp; omega
          clear HR hm
          by_cases hka : k = a
          · have hkb : ((k : Int) == (a : Int)) = true := by simp [hka]
            have h128 : ((s[k].toNat : Int) == 128) = false := by simp; omega
            clear hka hbad
            go_wp2_with (go_at_call 183; refine (room_no _ _ hm').mono ?_; rintro e w' ⟨rfl, rfl⟩)
            go_ret3
            exact getPost_of HF.out rfl rfl rfl
          · have hkb : ((k : Int) == (a : Int)) = false := by simp; omega
            clear hka hbad
            go_wp2_with (go_at_call 183; refine (room_no _ _ hm').mono ?_; rintro e w' ⟨rfl, rfl⟩)
            go_ret3
            exact getPost_of HF.out rfl rfl rfl
    · have HF := Lib.hid (HR.out.trans (look_none s k _ m k (by omega)))
      clear HR
      go_wp2
      go_ret3
      exact getPost_of HF.out rfl rfl rfl

theorem get_any (s : ByteArray) (a : Int) (w : World) (hs : s.size ≤ maxLen) :
    Calls Tryz.prog 142 #[.string s, .int .i64 a] w (GetPost s a w) := by
  by_cases h : a < 0
  · exact get_below s a w hs h
  · by_cases h2 : (s.size : Int) < a
    · exact get_above s a w hs h2
    · obtain ⟨k, rfl⟩ := Int.eq_ofNat_of_zero_le (by omega : 0 ≤ a)
      exact get_in s k w hs (by omega)

end Go.Proofs.YtgeonppckeiceaaGreatDoor.Ms
namespace Go.Proofs.YtgeonppckeiceaaGreatDoor.Ms
open Go.RowKit
set_option linter.unusedVariables false

theorem hi_le (k : Nat) : ∀ n, n < 128 ^ k → (hi n).length ≤ k := by
  induction k with
  | zero => intro n h; obtain rfl : n = 0 := by simpa using h
            simp [hi_zero]
  | succ k ih =>
    intro n h
    by_cases h0 : n = 0
    · subst h0; simp [hi_zero]
    · rw [hi_step n h0]
      have := ih (n / 128) (by rw [Nat.pow_succ] at h; omega)
      simp; omega
theorem put_le (n : Nat) (h : (n : Int) ≤ 18446744073709551615) : (put n).length ≤ 10 := by
  have := hi_le 9 (n / 128) (by omega)
  simp [put]; omega

theorem retS {a b : ByteArray} (h : a = b) : Ending.returned (.string a) = .returned (.string b) := by rw [h]
end Go.Proofs.YtgeonppckeiceaaGreatDoor.Ms
namespace Go.Proofs.YtgeonppckeiceaaGreatDoor.Ms
open Go.RowKit
set_option linter.unusedVariables false
set_option linter.unusedSimpArgs false
set_option maxRecDepth 100000

theorem retB {a b : Bool} (h : a = b) : Ending.returned (.bool a) = .returned (.bool b) := by rw [h]
theorem retST {a b : ByteArray} {c d : Int} (h : a = b) (k : c = d) : Ending.returned (.tuple #[.string a, .int .i64 c]) = .returned (.tuple #[.string b, .int .i64 d]) := by rw [h, k]
theorem text_of (l : List UInt8) : ∃ t : ByteArray, t.data.toList = l := ⟨⟨l.toArray⟩, rfl⟩
theorem text_eq {t : ByteArray} {l : List UInt8} (h : t.data.toList = l) : (⟨l.toArray⟩ : ByteArray) = t := by
  subst h; rfl
theorem text_ext {t u : ByteArray} (h : t.data.toList = u.data.toList) : t = u := by
  have := text_eq h
  rw [← this]
theorem text_size (t : ByteArray) : t.data.toList.length = t.size := by simp

set_option maxHeartbeats 1000000 in
theorem right_any (s : ByteArray) (w : World) (hs : s.size ≤ maxLen) (b : Bool) (hb : Hid (rightB s.data.toList = b)) :
    Calls Tryz.prog 104 #[.string s] w fun e w' => e = .returned (.bool b) ∧ Below w.heap.size w w' := by
  have HS := Lib.hid hs
  unfold maxLen at hs
  by_cases h1 : s.size < 1
  · have h1' : (s.size : Int) < 1 := by omega
    have e : rightB s.data.toList = false := by
      rw [Bool.eq_false_iff]; intro h
      have := (right_iff.1 h).1
      rw [text_size] at this; omega
    have HE : Hid (b = false) := Lib.hid (by rw [← hb.out, e])
    clear e h1
    go_enter Tryz.func104, Tryz.ntmps104
    go_wp2
    go_ret
    exact ⟨retB HE.out.symm, Below.refl _ _⟩
  · by_cases h8 : 8 < s.size
    · have h1' : decide ((s.size : Int) < 1) = false := by simp; omega
      have h8' : (8 : Int) < s.size := by omega
      have e : rightB s.data.toList = false := by
        rw [Bool.eq_false_iff]; intro h
        have := (right_iff.1 h).2.1
        rw [text_size] at this; omega
      have HE : Hid (b = false) := Lib.hid (by rw [← hb.out, e])
      clear e h1 h8
      go_enter Tryz.func104, Tryz.ntmps104
      go_wp2
      go_ret
      exact ⟨retB HE.out.symm, Below.refl _ _⟩
    · have h8' : decide ((8 : Int) < s.size) = false := by simp; omega
      have h1' : decide ((s.size : Int) < 1) = false := by simp; omega
      have HE : Hid ((s.toList == fall (inB s.data.toList)) = b) := Lib.hid (by
        rw [← hb.out, ByteArray.toList_eq]
        simp only [rightB, text_size]
        have e1 : decide (1 ≤ s.size) = true := by simp; omega
        have e2 : decide (s.size ≤ 8) = true := by simp; omega
        rw [e1, e2]; rfl)
      clear h1 h8
      go_enter Tryz.func104, Tryz.ntmps104
      go_wp2_with fail
      refine (setOf_any s _ HS.out).mono ?_
      rintro e w1 ⟨rfl, hb1⟩
      go_wp2_with fail
      refine (falling_any _ _).mono ?_
      rintro e w2 ⟨rfl, hb2⟩
      go_wp2_with fail
      go_ret
      exact ⟨retB HE.out, hb1.trans (hb2.mono hb1.size)⟩

set_option maxHeartbeats 1000000 in
theorem both_any (a b : ByteArray) (w : World) (ha : a.size ≤ maxLen) (hb : b.size ≤ maxLen) (t : ByteArray) (ht : Hid (t.data.toList = bothS a.data.toList b.data.toList)) :
    Calls Tryz.prog 105 #[.string a, .string b] w fun e w' => e = .returned (.string t) ∧ Below w.heap.size w w' := by
  have HA := Lib.hid ha
  have HB := Lib.hid hb
  clear ha hb
  cases h1 : rightB a.data.toList
  · have HE : Hid (t = ⟨#[]⟩) := Lib.hid (text_ext (by rw [ht.out, bothS, formB, h1]; rfl))
    have H1 := Lib.hid h1
    clear h1
    go_enter Tryz.func105, Tryz.ntmps105
    go_wp2_with fail
    refine (right_any a _ HA.out _ H1).mono ?_
    rintro e w1 ⟨rfl, hb1⟩
    go_wp2_with fail
    go_ret
    exact ⟨retS HE.out.symm, hb1⟩
  · cases h2 : rightB b.data.toList
    · have HE : Hid (t = ⟨#[]⟩) := Lib.hid (text_ext (by rw [ht.out, bothS, formB, h1, h2]; rfl))
      have H1 := Lib.hid h1
      have H2 := Lib.hid h2
      clear h1 h2
      go_enter Tryz.func105, Tryz.ntmps105
      go_wp2_with fail
      refine (right_any a _ HA.out _ H1).mono ?_
      rintro e w1 ⟨rfl, hb1⟩
      go_wp2_with fail
      refine (right_any b _ HB.out _ H2).mono ?_
      rintro e w2 ⟨rfl, hb2⟩
      go_wp2_with fail
      go_ret
      exact ⟨retS HE.out.symm, hb1.trans (hb2.mono hb1.size)⟩
    · have HE : Hid (⟨(fall (capB a.data.toList b.data.toList)).toArray⟩ = t) := Lib.hid (text_eq (by rw [ht.out, bothS, formB, h1, h2]; rfl))
      have H1 := Lib.hid h1
      have H2 := Lib.hid h2
      clear h1 h2
      go_enter Tryz.func105, Tryz.ntmps105
      go_wp2_with fail
      refine (right_any a _ HA.out _ H1).mono ?_
      rintro e w1 ⟨rfl, hb1⟩
      go_wp2_with fail
      refine (right_any b _ HB.out _ H2).mono ?_
      rintro e w2 ⟨rfl, hb2⟩
      have hb12 := hb1.trans (hb2.mono hb1.size)
      clear hb1 hb2
      go_wp2_with fail
      refine (setOf_any a _ HA.out).mono ?_
      rintro e w3 ⟨rfl, hb3⟩
      have hb13 := hb12.trans (hb3.mono hb12.size)
      clear hb12 hb3
      go_wp2_with fail
      refine (setOf_any b _ HB.out).mono ?_
      rintro e w4 ⟨rfl, hb4⟩
      have hb14 := hb13.trans (hb4.mono hb13.size)
      clear hb13 hb4
      go_wp2_with fail
      refine (and_any _ _ _).mono ?_
      rintro e w5 ⟨rfl, hb5⟩
      have hb15 := hb14.trans (hb5.mono hb14.size)
      clear hb14 hb5
      go_wp2_with fail
      refine (falling_any _ _).mono ?_
      rintro e w6 ⟨rfl, hb6⟩
      have hb16 := hb15.trans (hb6.mono hb15.size)
      clear hb15 hb6
      go_wp2_with fail
      go_ret
      exact ⟨retS HE.out, hb16⟩

def BestIs (a b : ByteArray) (v e : Int) : Prop := bestV a.data.toList b.data.toList = v ∧ bestE a.data.toList b.data.toList = e
theorem retT {a b c d : Int} (h : a = c) (k : b = d) : Ending.returned (.tuple #[.int .i64 a, .int .i64 b]) = .returned (.tuple #[.int .i64 c, .int .i64 d]) := by rw [h, k]

set_option maxHeartbeats 1000000 in
theorem best_any (a b : ByteArray) (w : World) (ha : a.size ≤ maxLen) (hb : b.size ≤ maxLen) (v er : Int) (ht : Hid (BestIs a b v er)) :
    Calls Tryz.prog 35 #[.string a, .string b] w fun e w' => e = .returned (.tuple #[.int .i64 v, .int .i64 er]) ∧ Below w.heap.size w w' := by
  have HA := Lib.hid ha
  have HB := Lib.hid hb
  clear ha hb
  cases h1 : rightB a.data.toList
  · have HE : Hid (v = 0 ∧ er = 3) := Lib.hid (by rw [← ht.out.1, ← ht.out.2, bestV, bestE, bothS, formB, h1]; exact ⟨rfl, rfl⟩)
    have H1 := Lib.hid h1
    clear h1
    go_enter Tryz.func35, Tryz.ntmps35
    go_wp2_with fail
    refine (right_any a _ HA.out _ H1).mono ?_
    rintro e w1 ⟨rfl, hb1⟩
    go_wp2_with fail
    go_ret2
    exact ⟨retT HE.out.1.symm HE.out.2.symm, hb1⟩
  · cases h2 : rightB b.data.toList
    · have HE : Hid (v = 0 ∧ er = 3) := Lib.hid (by rw [← ht.out.1, ← ht.out.2, bestV, bestE, bothS, formB, h1, h2]; exact ⟨rfl, rfl⟩)
      have H1 := Lib.hid h1
      have H2 := Lib.hid h2
      clear h1 h2
      go_enter Tryz.func35, Tryz.ntmps35
      go_wp2_with fail
      refine (right_any a _ HA.out _ H1).mono ?_
      rintro e w1 ⟨rfl, hb1⟩
      go_wp2_with fail
      refine (right_any b _ HB.out _ H2).mono ?_
      rintro e w2 ⟨rfl, hb2⟩
      go_wp2_with fail
      go_ret2
      exact ⟨retT HE.out.1.symm HE.out.2.symm, hb1.trans (hb2.mono hb1.size)⟩
    · have hf : formB a.data.toList b.data.toList = true := by rw [formB, h1, h2]; rfl
      have H1 := Lib.hid h1
      have H2 := Lib.hid h2
      clear h1 h2
      obtain ⟨t, ht2⟩ := text_of (bothS a.data.toList b.data.toList)
      have HT := Lib.hid ht2
      cases hc : bothS a.data.toList b.data.toList with
      | nil =>
        have HE : Hid (v = 0 ∧ er = 11) := Lib.hid (by rw [← ht.out.1, ← ht.out.2, bestV, bestE, hf, hc]; exact ⟨rfl, rfl⟩)
        obtain rfl : t = ⟨#[]⟩ := text_ext (by rw [ht2, hc])
        clear hf hc ht2
        go_enter Tryz.func35, Tryz.ntmps35
        go_wp2_with fail
        refine (right_any a _ HA.out _ H1).mono ?_
        rintro e w1 ⟨rfl, hb1⟩
        go_wp2_with fail
        refine (right_any b _ HB.out _ H2).mono ?_
        rintro e w2 ⟨rfl, hb2⟩
        have hb12 := hb1.trans (hb2.mono hb1.size)
        clear hb1 hb2
        go_wp2_with fail
        refine (both_any a b _ HA.out HB.out ⟨#[]⟩ HT).mono ?_
        rintro e w3 ⟨rfl, hb3⟩
        have hb13 := hb12.trans (hb3.mono hb12.size)
        clear hb12 hb3
        go_wp2_with fail
        go_ret2
        exact ⟨retT HE.out.1.symm HE.out.2.symm, hb13⟩
      | cons c r =>
        have HE : Hid (v = c.toNat ∧ er = 0) := Lib.hid (by rw [← ht.out.1, ← ht.out.2, bestV, bestE, hf, hc]; exact ⟨rfl, rfl⟩)
        have hl : t.data.toList = c :: r := by rw [ht2, hc]
        have hne : t.toList.isEmpty = false := by rw [ByteArray.toList_eq, hl]; rfl
        have h0 : 0 < t.size := by rw [← text_size, hl]; simp
        have HI : Hid (wrap64 (t[0].toNat : Int) = v) := Lib.hid (by
          rw [HE.out.1]
          have : t.data.toList[0]? = some c := by rw [hl]; rfl
          have h3 : t[0] = c := by
            have h4 : t.data.toList[0]'(by simpa using h0) = c := by
              rw [List.getElem?_eq_getElem (by simpa using h0)] at this
              exact Option.some.inj this
            exact h4
          rw [h3]
          have := UInt8.toNat_lt c
          unfold wrap64; omega)
        clear hf hc ht2 hl
        go_enter Tryz.func35, Tryz.ntmps35
        go_wp2_with fail
        refine (right_any a _ HA.out _ H1).mono ?_
        rintro e w1 ⟨rfl, hb1⟩
        go_wp2_with fail
        refine (right_any b _ HB.out _ H2).mono ?_
        rintro e w2 ⟨rfl, hb2⟩
        have hb12 := hb1.trans (hb2.mono hb1.size)
        clear hb1 hb2
        go_wp2_with fail
        refine (both_any a b _ HA.out HB.out _ HT).mono ?_
        rintro e w3 ⟨rfl, hb3⟩
        have hb13 := hb12.trans (hb3.mono hb12.size)
        clear hb12 hb3
        go_wp2_with fail
        go_ret2
        exact ⟨retT HI.out HE.out.2.symm, hb13⟩

set_option maxHeartbeats 2000000 in
theorem make_any (a : Option Addr) (n cap : Nat) (zs : List Int) (w : World) (hn : n = zs.length) (h : RowAt .i64 w a cap zs) (hwf : ∀ x, x ∈ zs → (Lit.int .i64 x).wf = true) (t : ByteArray) (er : Int) (ht : Hid (t.data.toList = makeS zs)) (he : Hid (makeE zs = er)) :
    Calls Tryz.prog 34 #[.slice a n cap] w fun e w' => e = .returned (.tuple #[.string t, .int .i64 er]) ∧ Below w.heap.size w w' := by
  have HR := Lib.hid h
  have HN := Lib.hid hn
  have hz := zeroSet_run
  have HW := Lib.hid hwf
  have hlen := h.len
  rw [← hn] at hlen
  clear h hn hwf
  go_enter Tryz.func34, Tryz.ntmps34
  go_wp2
  go_loopw [6, 10] (fun _ i wr => ∃ k : Nat, k ≤ n ∧ i = .int .i64 k ∧ Hid (okV (zs.take k) = true) ∧ Hid (wr.heap[w.heap.size]? = some (.cells (cellsOf (vers (zs.take k))) 158 (0, 0))) ∧ Hid (Below w.heap.size w wr)) (fun _ i _ => n - (intOf i).toNat)
  case atStart => exact ⟨0, Nat.zero_le _, rfl, Lib.hid rfl, Lib.hid (heap_alloc_new w _), Lib.hid (below_alloc _ _)⟩
  case round =>
    obtain ⟨k, hk, rfl, HO, HBK, HB⟩ := hrel
    clear hz
    by_cases hlt : k < n
    · have hlt' : (k : Int) < (n : Int) := by omega
      obtain ⟨q1, q2, bk, off, q3⟩ := HR.out
      obtain ⟨rfl, hc⟩ := q3 k (by rw [← HN.out]; exact hlt)
      have hmem := getD_mem (ks := zs) (k := k) (by rw [← HN.out]; exact hlt)
      have htk := take_getD (ks := zs) (k := k) (by rw [← HN.out]; exact hlt)
      have hwz := HW.out _ hmem
      obtain ⟨b1, b2⟩ := bounds_i64 hwz
      have hc2 : wr.cell? ⟨bk, off + k, none⟩ = some (.int .i64 (zs.getD k 0)) := (HB.out.cell (block_lt_of_cell hc)).trans hc
      generalize zs.getD k 0 = z at hmem htk b1 b2 hc2
      clear hc q1 q2 q3 hwz
      have HTK := Lib.hid htk
      clear htk
      have hbad : ¬ (1 ≤ z ∧ z ≤ 255) → Hid (t = ⟨#[]⟩ ∧ er = 1) := fun hz => by
        have hok : okV zs = false := by
          rw [Bool.eq_false_iff]; intro q
          exact hz (okV_iff.1 q z hmem)
        exact Lib.hid ⟨text_ext (by rw [ht.out, makeS, makeB_bad hok]; rfl), by rw [← he.out, makeE, makeB_bad hok]; rfl⟩
      have HBAD := Lib.hid hbad
      clear hbad
      by_cases h1 : z < 1
      · have HE := HBAD.out (by omega)
        clear HBAD hmem
        go_wp2
        go_ret2
        exact ⟨retST HE.out.1.symm HE.out.2.symm, HB.out⟩
      · by_cases h2 : 255 < z
        · have HE := HBAD.out (by omega)
          have h1' : decide (z < 1) = false := by simp; omega
          clear HBAD hmem h1
          go_wp2
          go_ret2
          exact ⟨retST HE.out.1.symm HE.out.2.symm, HB.out⟩
        · clear HBAD hmem
          obtain ⟨m, rfl⟩ : ∃ m : Nat, z = (m : Int) := ⟨z.toNat, by omega⟩
          have h1' : decide ((m : Int) < 1) = false := by simp; omega
          have h2' : decide ((255 : Int) < m) = false := by simp; omega
          have hm1 : (m : Int) < 256 := by omega
          have hcell : wr.cell? ⟨w.heap.size, m, none⟩ = some (.bool (vers (zs.take k) m)) := by
            rw [cell_of_row wr _ m _ _ _ HBK.out]
            exact cellsOf_at _ (by omega)
          have hfrz : wr.frozen? ⟨w.heap.size, m, none⟩ = false := frozen_of_row wr _ m _ _ HBK.out
          have HOK : Hid (okV (zs.take (k + 1)) = true) := Lib.hid (by
            rw [HTK.out, okV_snoc, HO.out]
            simp; omega)
          have HNEW : Hid ((wr.setCell ⟨w.heap.size, m, none⟩ (.bool true)).heap[w.heap.size]? = some (.cells (cellsOf (vers (zs.take (k + 1)))) 158 (0, 0))) := Lib.hid (by
            rw [heap_setCell_same wr w.heap.size m _ _ _ HBK.out, cellsOf_set, HTK.out]
            congr 2
            refine cellsOf_ext fun j _ => ?_
            rw [vers_snoc]
            by_cases e : j = m
            · subst e; simp
            · rw [if_neg e]; simp; omega)
          have HBN : Hid (Below w.heap.size w (wr.setCell ⟨w.heap.size, m, none⟩ (.bool true))) := Lib.hid (HB.out.setCell (by simp) _)
          clear h1 h2
          go_wp2
          go_roundw
          case rel => exact ⟨k + 1, by omega, by go_num, HOK, HNEW, HBN⟩
          case measure => simp [intOf]; omega
    · obtain rfl : k = n := by omega
      have e : zs.take k = zs := List.take_of_length_le (by rw [← HN.out]; exact Nat.le_refl _)
      rw [e] at HO HBK
      clear e hlt hk
      obtain ⟨u, hu⟩ := text_of (fall (vers zs))
      have hue := text_eq hu
      have hus : u.size ≤ maxLen := by
        rw [← text_size, hu]
        have := fall_len (vers zs)
        unfold maxLen; omega
      have HUS := Lib.hid hus
      have HU := Lib.hid hue
      cases hr : rightB (fall (vers zs))
      · have HRT : Hid (rightB u.data.toList = false) := Lib.hid (by rw [hu]; exact hr)
        have HE : Hid (t = ⟨#[]⟩ ∧ er = 1) := Lib.hid ⟨text_ext (by rw [ht.out, makeS, makeB, hr]; simp), by rw [← he.out, makeE, makeB, hr]; simp⟩
        clear hr hu hus hue
        go_wp2_with (refine wpList_load_row rfl 158 (.tmp 4) rfl _ rfl 158 _ _ _ HBK.out Tryz.underlying158 rfl (by rw [cellsOf_size]; exact sizeSet) ?_)
        refine (falling_any _ _).mono ?_
        rintro e w2 ⟨rfl, hb2⟩
        rw [HU.out]
        have hb12 := HB.out.trans (hb2.mono HB.out.size)
        clear hb2
        go_wp2_with fail
        refine (right_any u _ HUS.out _ HRT).mono ?_
        rintro e w3 ⟨rfl, hb3⟩
        have hb13 := hb12.trans (hb3.mono hb12.size)
        clear hb12 hb3
        go_wp2_with fail
        go_ret2
        exact ⟨retST HE.out.1.symm HE.out.2.symm, hb13⟩
      · have HRT : Hid (rightB u.data.toList = true) := Lib.hid (by rw [hu]; exact hr)
        have HE : Hid (t = u ∧ er = 0) := Lib.hid ⟨text_ext (by rw [ht.out, makeS, makeB, hr, HO.out, hu]; rfl), by rw [← he.out, makeE, makeB, hr, HO.out]; rfl⟩
        clear hr hu hus hue
        go_wp2_with (refine wpList_load_row rfl 158 (.tmp 4) rfl _ rfl 158 _ _ _ HBK.out Tryz.underlying158 rfl (by rw [cellsOf_size]; exact sizeSet) ?_)
        refine (falling_any _ _).mono ?_
        rintro e w2 ⟨rfl, hb2⟩
        rw [HU.out]
        have hb12 := HB.out.trans (hb2.mono HB.out.size)
        clear hb2
        go_wp2_with fail
        refine (right_any u _ HUS.out _ HRT).mono ?_
        rintro e w3 ⟨rfl, hb3⟩
        have hb13 := hb12.trans (hb3.mono hb12.size)
        clear hb12 hb3
        go_wp2_with fail
        go_ret2
        exact ⟨retST HE.out.1.symm HE.out.2.symm, hb13⟩
end Go.Proofs.YtgeonppckeiceaaGreatDoor.Ms
namespace Go.Proofs.YtgeonppckeiceaaGreatDoor.Ms
open Go.RowKit
set_option linter.unusedVariables false
set_option linter.unusedSimpArgs false
set_option maxRecDepth 100000

theorem drewN_below2 {B : Nat} {w : World} (h : B ≤ w.heap.size) (n : Nat) : Below B w (w.drewN n) := ⟨rfl, rfl, rfl, Nat.le_refl _, fun _ _ => rfl⟩
end Go.Proofs.YtgeonppckeiceaaGreatDoor.Ms
namespace Go.Proofs
open Go.Shelf
def Tryz.lays129_ren : Go.Shelf.Ren := ⟨fun | 129 => 174 | n => n, fun | 53 => 23 | 3 => 3 | 4 => 4 | 46 => 274 | 5 => 5 | 9 => 9 | n => n, fun | n => n⟩
theorem Tryz.lays129 : Go.Proofs.Lays.n129 Tryz.prog Tryz.lays129_ren := {
  mixed := by kernel_rfl
  f129 := Tryz.func174.trans (congrArg some (by kernel_rfl))
  t3 := Tryz.underlying3
  a3 := Tryz.isAgg3
  z3 := Tryz.sizeOf3
  v3 := Tryz.zeroValue3
  t4 := Tryz.underlying4
  a4 := Tryz.isAgg4
  z4 := Tryz.sizeOf4
  v4 := Tryz.zeroValue4
  t5 := Tryz.underlying5
  a5 := Tryz.isAgg5
  z5 := Tryz.sizeOf5
  v5 := Tryz.zeroValue5
  t9 := Tryz.underlying9
  a9 := Tryz.isAgg9
  z9 := Tryz.sizeOf9
  v9 := Tryz.zeroValue9
  t46 := Tryz.underlying274
  a46 := Tryz.isAgg274
  z46 := Tryz.sizeOf274
  v46 := Tryz.zeroValue274
  t53 := Tryz.underlying23
  a53 := Tryz.isAgg23
  z53 := Tryz.sizeOf23
  v53 := Tryz.zeroValue23 }
theorem Tryz.bits_Len64 (x : Int) (w : World) (h0 : 0 ≤ x) (h1 : x ≤ 18446744073709551615) :
    Calls Tryz.prog 174 #[.int .u64 x] w fun e w' => e = .returned (.int .i64 (Lib.bitLen x.toNat)) ∧ w' = w := Any.bits_Len64 Tryz.lays129 x w h0 h1
end Go.Proofs
