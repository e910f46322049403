/- The walks of the calls that only compute: hasRoom, Get and the document's Get, for every string and place. -/
import Derived.Test.YtjimkkakcgdgfaaRows
import Derived.Test.YtjimkkakcgdgfaaVintM
import Derived.WalkKit
import Derived.WalkSpells
import Derived.WalkLawsBesides
import Derived.Lib.Hide
namespace Go.Proofs.Ytjimkkakcgdgfaa
open Go.RowKit
set_option linter.unusedVariables false

set_option maxHeartbeats 400000 in
theorem room_yes (n : Int) (w : World) (h : n ≤ 144115188075855871) :
    Calls Try.prog 38 #[.int .u64 n] w fun e w' => e = .returned (.bool true) ∧ w = w' := by
  go_enter Try.func38, Try.ntmps38
  go_wp2
  go_ret
  exact ⟨rfl, rfl⟩

set_option maxHeartbeats 400000 in
theorem room_no (n : Int) (w : World) (h : ¬ n ≤ 144115188075855871) :
    Calls Try.prog 38 #[.int .u64 n] w fun e w' => e = .returned (.bool false) ∧ w = w' := by
  have h' : decide (n ≤ 144115188075855871) = false := by simpa using h
  go_enter Try.func38, Try.ntmps38
  go_wp2
  go_ret
  exact ⟨rfl, rfl⟩

def GetPost (s : ByteArray) (a : Int) (w : World) (e : Ending) (w' : World) : Prop :=
  e = .returned (.tuple #[.int .u64 (gN s a), .int .i64 (gP s a), .int .i64 (gE s a)]) ∧ w = w'

theorem getPost_of {s : ByteArray} {a : Int} {w : World} {x y z : Nat} {x' y' z' : Int} (h : getA s.data.toList a = (x, y, z)) (hx : x' = x) (hy : y' = y) (hz : z' = z) :
    GetPost s a w (.returned (.tuple #[.int .u64 x', .int .i64 y', .int .i64 z'])) w := by
  subst hx hy hz
  exact ⟨by simp [gN, gP, gE, h], rfl⟩

theorem drop_cons (s : ByteArray) (k : Nat) (h : k < s.size) : s.data.toList.drop k = s[k] :: s.data.toList.drop (k + 1) := by
  rw [List.drop_eq_getElem_cons (by simpa using h)]; rfl
theorem look_form (s : ByteArray) (k : Nat) (f : Bool) (m p : Nat) (h : k < s.size) (hh : (f = true ∧ s[k].toNat = 128) ∨ 144115188075855871 < m) :
    look (s.data.toList.drop k) f m p = (0, 0, 3) := by
  rw [drop_cons s k h, look]
  rcases hh with hh | hh
  · rw [if_pos hh]
  · rw [if_pos hh]; simp
theorem look_end (s : ByteArray) (k : Nat) (f : Bool) (m p : Nat) (h : k < s.size) (h1 : ¬ (f = true ∧ s[k].toNat = 128)) (h2 : m ≤ 144115188075855871) (h3 : s[k].toNat < 128) :
    look (s.data.toList.drop k) f m p = (m * 128 + s[k].toNat, p + 1, 0) := by
  rw [drop_cons s k h, look, if_neg h1, if_neg (by omega), if_pos h3]
theorem look_go (s : ByteArray) (k : Nat) (f : Bool) (m p : Nat) (h : k < s.size) (h1 : ¬ (f = true ∧ s[k].toNat = 128)) (h2 : m ≤ 144115188075855871) (h3 : ¬ s[k].toNat < 128) :
    look (s.data.toList.drop k) f m p = look (s.data.toList.drop (k + 1)) false (m * 128 + s[k].toNat % 128) (p + 1) := by
  rw [drop_cons s k h, look, if_neg h1, if_neg (by omega), if_neg h3]
theorem look_none (s : ByteArray) (k : Nat) (f : Bool) (m p : Nat) (h : s.size ≤ k) :
    look (s.data.toList.drop k) f m p = (0, 0, 2) := by
  rw [List.drop_eq_nil_of_le (by simpa using h), look]
theorem getA_out (s : ByteArray) (a : Int) (h : a < 0 ∨ (s.size : Int) < a) : getA s.data.toList a = (0, 0, 1) := by
  unfold getA; rw [if_pos (by simpa using h)]
theorem getA_in (s : ByteArray) (a : Nat) (h : a ≤ s.size) : getA s.data.toList (a : Int) = look (s.data.toList.drop a) true 0 a := by
  unfold getA; rw [if_neg (by have : s.data.toList.length = s.size := by simp
                              omega)]; simp

set_option maxHeartbeats 400000 in
theorem get_below (s : ByteArray) (a : Int) (w : World) (hs : s.size ≤ maxLen) (h : a < 0) :
    Calls Try.prog 31 #[.string s, .int .i64 a] w (GetPost s a w) := by
  have H := Lib.hid (getA_out s a (.inl h))
  unfold maxLen at hs
  go_enter Try.func31, Try.ntmps31
  go_wp2
  go_ret3
  exact getPost_of H.out rfl rfl rfl

set_option maxHeartbeats 400000 in
theorem get_above (s : ByteArray) (a : Int) (w : World) (hs : s.size ≤ maxLen) (h : (s.size : Int) < a) :
    Calls Try.prog 31 #[.string s, .int .i64 a] w (GetPost s a w) := by
  have H := Lib.hid (getA_out s a (.inr h))
  have h0 : decide (a < 0) = false := by simp; omega
  unfold maxLen at hs
  go_enter Try.func31, Try.ntmps31
  go_wp2
  go_ret3
  exact getPost_of H.out rfl rfl rfl

set_option maxHeartbeats 1000000 in
theorem get_in (s : ByteArray) (a : Nat) (w : World) (hs : s.size ≤ maxLen) (h : a ≤ s.size) :
    Calls Try.prog 31 #[.string s, .int .i64 a] w (GetPost s a w) := by
  have H0 := Lib.hid (getA_in s a h)
  have q1 : decide (s.size < a) = false := by simp; omega
  have q2 : decide ((a : Int) < 0) = false := by simp
  unfold maxLen at hs
  go_enter Try.func31, Try.ntmps31
  go_wp2
  go_loop [7, 8] (fun n i => ∃ k m : Nat, a ≤ k ∧ k ≤ s.size ∧ i = .int .i64 k ∧ n = .int .u64 m ∧ Hid (getA s.data.toList a = look (s.data.toList.drop k) (decide (k = a)) m k)) (fun _ i => s.size - (intOf i).toNat)
  case atStart => exact ⟨a, 0, by omega, h, rfl, rfl, Lib.hid (by simpa using H0.out)⟩
  case round =>
    obtain ⟨k, m, hak, hk, rfl, rfl, HR⟩ := hrel
    clear H0
    by_cases hlt : k < s.size
    · have hc := s[k].toNat_lt
      by_cases hbad : k = a ∧ s[k].toNat = 128
      · obtain ⟨rfl, hb⟩ := hbad
        have HF := Lib.hid (HR.out.trans (look_form s k (decide (k = k)) m k hlt (.inl ⟨by simp, hb⟩)))
        have hb1 : ((s[k].toNat : Int) == 128) = true := by simpa using (by omega : (s[k].toNat : Int) = 128)
        clear hb HR
        go_wp2
        go_ret3
        exact getPost_of HF.out rfl rfl rfl
      · by_cases hm : m ≤ 144115188075855871
        · have hm' : (m : Int) ≤ 144115188075855871 := by omega
          have hmf : decide ((144115188075855871 : Int) < m) = false := by simp; omega
          have hb1 : ¬ (decide (k = a) = true ∧ s[k].toNat = 128) := by simpa using hbad
          by_cases h3 : s[k].toNat < 128
          · have HF := Lib.hid (HR.out.trans (look_end s k _ m k hlt hb1 hm h3))
            have h3' : (s[k].toNat : Int) < 128 := by omega
            have h128 : ((s[k].toNat : Int) == 128) = false := by simp; omega
            clear HR hb1 hbad
            by_cases hka : k = a
            · have hkb : ((k : Int) == (a : Int)) = true := by simp [hka]
              clear hka
              go_wp2_with (go_at_call 38; refine (room_yes _ _ hm').mono ?_; rintro e w' ⟨rfl, rfl⟩)
              go_ret3
              exact getPost_of HF.out (by simp; try omega) (by simp) rfl
            · have hkb : ((k : Int) == (a : Int)) = false := by simp; omega
              clear hka
              go_wp2_with (go_at_call 38; refine (room_yes _ _ hm').mono ?_; rintro e w' ⟨rfl, rfl⟩)
              go_ret3
              exact getPost_of HF.out (by simp; try omega) (by simp) rfl
          · have HF := Lib.hid (HR.out.trans (look_go s k _ m k hlt hb1 hm h3))
            have h3' : decide ((s[k].toNat : Int) < 128) = false := by simp; omega
            have h3'' : ¬ (s[k].toNat : Int) < 128 := by omega
            clear HR hb1
            by_cases hka : k = a
            · have hkb : ((k : Int) == (a : Int)) = true := by simp [hka]
              have h128 : ((s[k].toNat : Int) == 128) = false := by simp; omega
              have HK := Lib.hid hka
              clear hka hbad
              go_wp2_with (go_at_call 38; refine (room_yes _ _ hm').mono ?_; rintro e w' ⟨rfl, rfl⟩)
              go_round
              case rel => exact ⟨k + 1, m * 128 + s[k].toNat % 128, by omega, by omega, by go_num, by simp, by
                have hk1 : decide (k + 1 = a) = false := by simp; omega
                rw [hk1]; exact HF.out⟩
              case measure => simp [intOf]; omega
            · have hkb : ((k : Int) == (a : Int)) = false := by simp; omega
              clear hka hbad
              go_wp2_with (go_at_call 38; refine (room_yes _ _ hm').mono ?_; rintro e w' ⟨rfl, rfl⟩)
              go_round
              case rel => exact ⟨k + 1, m * 128 + s[k].toNat % 128, by omega, by omega, by go_num, by simp, by
                have hk1 : decide (k + 1 = a) = false := by simp; omega
                rw [hk1]; exact HF.out⟩
              case measure => simp [intOf]; omega
        · have HF := Lib.hid (HR.out.trans (look_form s k _ m k hlt (.inr (by omega))))
          have hm' : ¬ (m : Int) ≤ 144115188075855871 := by omega
          have hmf : decide ((144115188075855871 : Int) < m) = true := by simp; omega
          clear HR hm
          by_cases hka : k = a
          · have hkb : ((k : Int) == (a : Int)) = true := by simp [hka]
            have h128 : ((s[k].toNat : Int) == 128) = false := by simp; omega
            clear hka hbad
            go_wp2_with (go_at_call 38; refine (room_no _ _ hm').mono ?_; rintro e w' ⟨rfl, rfl⟩)
            go_ret3
            exact getPost_of HF.out rfl rfl rfl
          · have hkb : ((k : Int) == (a : Int)) = false := by simp; omega
            clear hka hbad
            go_wp2_with (go_at_call 38; refine (room_no _ _ hm').mono ?_; rintro e w' ⟨rfl, rfl⟩)
            go_ret3
            exact getPost_of HF.out rfl rfl rfl
    · have HF := Lib.hid (HR.out.trans (look_none s k _ m k (by omega)))
      clear HR
      go_wp2
      go_ret3
      exact getPost_of HF.out rfl rfl rfl

theorem get_any (s : ByteArray) (a : Int) (w : World) (hs : s.size ≤ maxLen) :
    Calls Try.prog 31 #[.string s, .int .i64 a] w (GetPost s a w) := by
  by_cases h : a < 0
  · exact get_below s a w hs h
  · by_cases h2 : (s.size : Int) < a
    · exact get_above s a w hs h2
    · obtain ⟨k, rfl⟩ := Int.eq_ofNat_of_zero_le (by omega : 0 ≤ a)
      exact get_in s k w hs (by omega)

set_option maxHeartbeats 400000 in
theorem rget_below (s : ByteArray) (a : Int) (w : World) (hs : s.size ≤ maxLen) (h : a < 0) :
    Calls Try.prog 33 #[.string s, .int .i64 a] w (GetPost s a w) := by
  have H := Lib.hid (getA_out s a (.inl h))
  unfold maxLen at hs
  go_enter Try.func33, Try.ntmps33
  go_wp2
  go_ret3
  exact getPost_of H.out rfl rfl rfl

set_option maxHeartbeats 400000 in
theorem rget_above (s : ByteArray) (a : Int) (w : World) (hs : s.size ≤ maxLen) (h : (s.size : Int) < a) :
    Calls Try.prog 33 #[.string s, .int .i64 a] w (GetPost s a w) := by
  have H := Lib.hid (getA_out s a (.inr h))
  have h0 : decide (a < 0) = false := by simp; omega
  unfold maxLen at hs
  go_enter Try.func33, Try.ntmps33
  go_wp2
  go_ret3
  exact getPost_of H.out rfl rfl rfl

set_option maxHeartbeats 1000000 in
theorem rget_in (s : ByteArray) (a : Nat) (w : World) (hs : s.size ≤ maxLen) (h : a ≤ s.size) :
    Calls Try.prog 33 #[.string s, .int .i64 a] w (GetPost s a w) := by
  have H0 := Lib.hid (getA_in s a h)
  have q1 : decide (s.size < a) = false := by simp; omega
  have q2 : decide ((a : Int) < 0) = false := by simp
  unfold maxLen at hs
  go_enter Try.func33, Try.ntmps33
  go_wp2
  go_loop [7, 8, 9] (fun n i _ => ∃ k m : Nat, a ≤ k ∧ k ≤ s.size ∧ i = .int .i64 k ∧ n = .int .u64 m ∧ Hid (getA s.data.toList a = look (s.data.toList.drop k) (decide (k = a)) m k)) (fun _ i _ => s.size - (intOf i).toNat)
  case atStart => exact ⟨a, 0, by omega, h, rfl, rfl, Lib.hid (by simpa using H0.out)⟩
  case round =>
    obtain ⟨k, m, hak, hk, rfl, rfl, HR⟩ := hrel
    clear H0
    by_cases hlt : k < s.size
    · have hc := s[k].toNat_lt
      by_cases hbad : k = a ∧ s[k].toNat = 128
      · obtain ⟨rfl, hb⟩ := hbad
        have HF := Lib.hid (HR.out.trans (look_form s k (decide (k = k)) m k hlt (.inl ⟨by simp, hb⟩)))
        have hb1 : ((s[k].toNat : Int) == 128) = true := by simpa using (by omega : (s[k].toNat : Int) = 128)
        clear hb HR
        go_wp2
        go_ret3
        exact getPost_of HF.out rfl rfl rfl
      · by_cases hm : m ≤ 144115188075855871
        · have hm' : (m : Int) ≤ 144115188075855871 := by omega
          have hmf : decide ((144115188075855871 : Int) < m) = false := by simp; omega
          have hb1 : ¬ (decide (k = a) = true ∧ s[k].toNat = 128) := by simpa using hbad
          by_cases h3 : s[k].toNat < 128
          · have HF := Lib.hid (HR.out.trans (look_end s k _ m k hlt hb1 hm h3))
            have h3' : (s[k].toNat : Int) < 128 := by omega
            have h128 : ((s[k].toNat : Int) == 128) = false := by simp; omega
            clear HR hb1 hbad
            by_cases hka : k = a
            · have hkb : ((k : Int) == (a : Int)) = true := by simp [hka]
              clear hka
              go_wp2
              go_ret3
              exact getPost_of HF.out (by simp; try omega) (by simp) rfl
            · have hkb : ((k : Int) == (a : Int)) = false := by simp; omega
              clear hka
              go_wp2
              go_ret3
              exact getPost_of HF.out (by simp; try omega) (by simp) rfl
          · have HF := Lib.hid (HR.out.trans (look_go s k _ m k hlt hb1 hm h3))
            have h3' : decide ((s[k].toNat : Int) < 128) = false := by simp; omega
            have h3'' : ¬ (s[k].toNat : Int) < 128 := by omega
            clear HR hb1
            by_cases hka : k = a
            · have hkb : ((k : Int) == (a : Int)) = true := by simp [hka]
              have h128 : ((s[k].toNat : Int) == 128) = false := by simp; omega
              have HK := Lib.hid hka
              clear hka hbad
              go_wp2
              go_round
              case rel => exact ⟨k + 1, m * 128 + s[k].toNat % 128, by omega, by omega, by go_num, by simp, by
                have hk1 : decide (k + 1 = a) = false := by simp; omega
                rw [hk1]; exact HF.out⟩
              case measure => simp [intOf]; omega
            · have hkb : ((k : Int) == (a : Int)) = false := by simp; omega
              clear hka hbad
              go_wp2
              go_round
              case rel => exact ⟨k + 1, m * 128 + s[k].toNat % 128, by omega, by omega, by go_num, by simp, by
                have hk1 : decide (k + 1 = a) = false := by simp; omega
                rw [hk1]; exact HF.out⟩
              case measure => simp [intOf]; omega
        · have HF := Lib.hid (HR.out.trans (look_form s k _ m k hlt (.inr (by omega))))
          have hm' : ¬ (m : Int) ≤ 144115188075855871 := by omega
          have hmf : decide ((144115188075855871 : Int) < m) = true := by simp; omega
          clear HR hm
          by_cases hka : k = a
          · have hkb : ((k : Int) == (a : Int)) = true := by simp [hka]
            have h128 : ((s[k].toNat : Int) == 128) = false := by simp; omega
            clear hka hbad
            go_wp2
            go_ret3
            exact getPost_of HF.out rfl rfl rfl
          · have hkb : ((k : Int) == (a : Int)) = false := by simp; omega
            clear hka hbad
            go_wp2
            go_ret3
            exact getPost_of HF.out rfl rfl rfl
    · have HF := Lib.hid (HR.out.trans (look_none s k _ m k (by omega)))
      clear HR
      go_wp2
      go_ret3
      exact getPost_of HF.out rfl rfl rfl

theorem rget_any (s : ByteArray) (a : Int) (w : World) (hs : s.size ≤ maxLen) :
    Calls Try.prog 33 #[.string s, .int .i64 a] w (GetPost s a w) := by
  by_cases h : a < 0
  · exact rget_below s a w hs h
  · by_cases h2 : (s.size : Int) < a
    · exact rget_above s a w hs h2
    · obtain ⟨k, rfl⟩ := Int.eq_ofNat_of_zero_le (by omega : 0 ≤ a)
      exact rget_in s k w hs (by omega)

end Go.Proofs.Ytjimkkakcgdgfaa
