/- The program's sets: and, falling. -/
/- Plain facts on a number's digits to the base 128 and on reading them back: no program is named here. No conditions. -/
/- The walks of the calls that only compute: hasRoom, Get and the document's Get, for every string and place. -/
/- The walks of Put, and the document's Put, for every number of 64 bits. -/
/- The program's calls: Right, Both, Best, Make. -/
/- The document's calls: has, Right, Both, Best, Make. -/
/- A library contract at this program: how many bits a 64-bit number has, for every one. -/
/- The walk of Put, for every number of 64 bits. -/
/- The walks of PutText and GetText, and of the document's, for every text of at most a million bytes and every place and bound. -/
import Derived.Test.YtgeonppckeiceaaGreatDoorGq04
import Derived.Test.YtgeonppckeiceaaGreatDoorRows
import Derived.WalkKit
import Derived.WalkSpells
import Derived.WalkLawsBesides
import Derived.Lib.Hide
import Derived.Shelf.Strconv.Itoa0
import Derived.Shelf.LaysM
import Derived.Shelf.Strconv.Clone
import Derived.Test.YtgeonppckeiceaaGreatDoorProg
import Derived.Test.YtgeonppckeiceaaGreatDoorGq02
import Derived.Lib.ItoaNum
namespace Go.Proofs.YtgeonppckeiceaaGreatDoor.Ms
open Go.RowKit
set_option linter.unusedVariables false
set_option linter.unusedSimpArgs false
set_option maxRecDepth 100000
set_option maxHeartbeats 1000000 in
theorem and_any (V W : Nat → Bool) (w : World) :
  Calls Tryz.prog 151 #[.agg (cellsOf V), .agg (cellsOf W)] w fun e w' => e = .returned (.agg (cellsOf fun j => V j && W j)) ∧ Below w.heap.size w w' := by
 have hz := zeroSet_run
 go_enter Tryz.func151, Tryz.ntmps151
 go_wp2
 go_loopw [6, 7] (fun _ i wr => ∃ k : Nat, k ≤ 256 ∧ i = .int .i64 k ∧ wr = (((w.alloc (.cells (cellsOf V) 158)).alloc (.cells (cellsOf W) 158)).alloc (.cells (cellsOf fun _ => false) 158)).alloc (.cells (cellsOf fun j => decide (j < k) && (V j && W j)) 158)) (fun _ i _ => 256 - (intOf i).toNat)
 case atStart => exact ⟨0, Nat.zero_le _, rfl, by simp⟩
 case round =>
  obtain ⟨k, hk, rfl, rfl⟩ := hrel
  by_cases hlt : k < 256
  ·have hlt' : (k : Int) < 256 := by omega
   have hc1 := cellsOf_at V hlt
   have hc2 := cellsOf_at W hlt
   have hc3 := cellsOf_at (fun j => decide (j < k) && (V j && W j)) hlt
   have hend : ∀ b, (V k && W k) = b → (cellsOf fun j => decide (j < k) && (V j && W j)).setIfInBounds k (.bool b) = cellsOf fun j => decide (j < k + 1) && (V j && W j) := by
    intro b hb
    rw [cellsOf_set]
    refine cellsOf_ext fun j _ => ?_
    by_cases e : j = k
    ·subst e; simp [hb]
    ·have e2 : decide (j < k + 1) = decide (j < k) := by rw [decide_eq_decide]; omega
     rw [if_neg e, e2]
   have HE := Lib.hid hend
   clear hend
   cases hv : V k
   ·rw [hv] at hc1
    have HV := Lib.hid hv
    clear hv
    go_wp2
    go_roundw
    case rel => exact ⟨k + 1, by omega, by go_num, by rw [HE.out false (by rw [HV.out]; rfl)]⟩
    case measure => simp [intOf]; omega
   ·rw [hv] at hc1
    have HV := Lib.hid hv
    clear hv
    cases hv : W k
    all_goals
     rw [hv] at hc2
     have HW := Lib.hid hv
     clear hv
     go_wp2
     go_roundw
     case rel => exact ⟨k + 1, by omega, by go_num, by rw [HE.out _ (by rw [HV.out, HW.out]; rfl)]⟩
     case measure => simp [intOf]; omega
  ·obtain rfl : k = 256 := by omega
   have e : cellsOf (fun j => decide (j < 256) && (V j && W j)) = cellsOf fun j => V j && W j := cellsOf_ext fun j hj => by simp [hj]
   rw [e]
   clear e hlt
   generalize hA : (((w.alloc (.cells (cellsOf V) 158)).alloc (.cells (cellsOf W) 158)).alloc (.cells (cellsOf fun _ => false) 158)) = w1
   have h2 : (w1.alloc (.cells (cellsOf fun j => V j && W j) 158)).heap[w.heap.size + 1 + 1]? = some (.cells (cellsOf fun _ => false) 158 (0, 0)) := by
    rw [← hA, heap_alloc_old _ _ (by simp)]
    have := heap_alloc_new ((w.alloc (.cells (cellsOf V) 158)).alloc (.cells (cellsOf W) 158)) (.cells (cellsOf fun _ => false) 158)
    simpa using this
   have h3 : (w1.alloc (.cells (cellsOf fun j => V j && W j) 158)).heap[w.heap.size + 1 + 1 + 1]? = some (.cells (cellsOf fun j => V j && W j) 158 (0, 0)) := by
    have := heap_alloc_new w1 (.cells (cellsOf fun j => V j && W j) 158)
    rw [← hA] at this ⊢
    simpa using this
   have hb : Below w.heap.size w (w1.alloc (.cells (cellsOf fun j => V j && W j) 158)) := by
    rw [← hA]
    exact ((((Below.refl _ _).alloc (Nat.le_refl _) _).alloc (by simp) _).alloc (by simp; omega) _).alloc (by simp; omega) _
   generalize w1.alloc (.cells (cellsOf fun j => V j && W j) 158) = w2 at h2 h3 hb ⊢
   have H2 := Lib.hid h2
   have H3 := Lib.hid h3
   clear h2 h3 hz hA
   go_wp2_with (refine wpList_load_row rfl 158 (.tmp 5) rfl _ rfl 158 _ _ _ H3.out Tryz.underlying158 rfl (by rw [cellsOf_size]; exact sizeSet) ?_; refine wpList_store_row rfl 158 (.tmp 4) (.tmp 21) rfl _ _ rfl rfl 158 _ H2.out (by rw [cellsOf_size]; exact sizeSet) (by simp only [cellsOf_size]) (cellsOf_one _) ?_)
   refine bodyPost_ret (v := .agg (cellsOf fun j => V j && W j)) ?_ rfl ⟨rfl, below_setRow hb (by omega) _⟩
   exact results_cell_row Tryz.results151 _ _ (w.heap.size + 1 + 1) 158 _ (0, 0) _ rfl (setRow_heap _ _ _ _ _ _ H2.out) Tryz.underlying158 rfl (by rw [cellsOf_size]; exact sizeSet)
theorem fallTo_yes (V : Nat → Bool) {k m : Nat} (hm : m + k = 255) (hv : V m = true) : byteL (fallTo V (k + 1)) = byteL (fallTo V k) ++ [(m : Int)] := by
 obtain rfl : m = 255 - k := by omega
 have e : (UInt8.ofNat (255 - k)).toNat = 255 - k := toNat_ofNat (by omega)
 rw [fallTo, if_pos hv]
 simp only [byteL, List.map_append, List.map_cons, List.map_nil, e]
theorem fallTo_no (V : Nat → Bool) {k m : Nat} (hm : m + k = 255) (hv : V m = false) : fallTo V (k + 1) = fallTo V k := by
 obtain rfl : m = 255 - k := by omega
 rw [fallTo, if_neg (by rw [hv]; simp), List.append_nil]
theorem byteL_len (l : List UInt8) : (byteL l).length = l.length := by simp [byteL]
set_option maxHeartbeats 1000000 in
theorem falling_any (V : Nat → Bool) (w : World) :
  Calls Tryz.prog 103 #[.agg (cellsOf V)] w fun e w' => e = .returned (.string ⟨(fall V).toArray⟩) ∧ Below w.heap.size w w' := by
 go_enter Tryz.func103, Tryz.ntmps103
 go_wp2
 go_loopw [3, 4, 5, 6] (fun v _ _ i wr => ∃ k : Nat, k ≤ 255 ∧ i = .int .i64 k ∧ Hid (Own 5 .u8 (w.heap.size + 1) v (byteL (fallTo V k)) wr) ∧ Hid (Below (w.heap.size + 1) (w.alloc (.cells (cellsOf V) 158)) wr)) (fun _ _ _ i _ => 255 - (intOf i).toNat)
 case atStart => exact ⟨0, Nat.zero_le _, rfl, Lib.hid (Own.nil _ _ _ _), Lib.hid (Below.refl _ _)⟩
 case round =>
  obtain ⟨k, hk, rfl, HO, HB⟩ := hrel
  have hblk : wr.heap[w.heap.size]? = some (.cells (cellsOf V) 158 (0, 0)) := (HB.out.block _ (by omega)).trans (heap_alloc_new w _)
  by_cases hlt : k < 255
  ·have hlt' : (k : Int) < 255 := by omega
   obtain ⟨m, hm⟩ : ∃ m, m + k = 255 := ⟨255 - k, by omega⟩
   have hs : (255 : Int) - (k : Int) = (m : Int) := by omega
   have hm1 : (m : Int) < 256 := by omega
   have hc : wr.cell? ⟨w.heap.size, m, none⟩ = some (.bool (V m)) := by
    rw [cell_of_row wr _ m _ _ _ hblk]
    exact cellsOf_at V (by omega)
   have HM := Lib.hid hm
   have HBL : Hid (w.heap.size + 1 ≤ wr.heap.size) := Lib.hid (by have := HB.out.size; simpa using this)
   clear hblk hm
   cases hv : V m
   ·rw [hv] at hc
    have HV := Lib.hid hv
    clear hv
    go_wp2
    go_roundw
    case rel => exact ⟨k + 1, by omega, by go_num, by rw [fallTo_no V HM.out HV.out]; exact HO, HB⟩
    case measure => simp [intOf]; omega
   ·rw [hv] at hc
    have HV := Lib.hid hv
    clear hv
    have HL : Hid ((byteL (fallTo V k)).length < 100000) := Lib.hid (by rw [byteL_len]; have := fallTo_len V k; omega)
    go_wp2_with (at_builtin; refine wpList_app rfl (.tmp 14) (.tmp 17) 89 5 .u8 1 Tryz.underlying89 infoB (by decide) rfl (w.heap.size + 1) _ (byteL (fallTo V k)) m _ rfl (HO.out.below (below_alloc _ _)) wr.heap.size 1 rfl (heap_alloc_new wr _) HL.out (by have := HBL.out; simp; omega) ?_; intro v' w' hA; have HA := Lib.hid hA; clear hA)
    go_roundw
    case rel => exact ⟨k + 1, by omega, by go_num, Lib.hid (by rw [fallTo_yes V HM.out HV.out]; exact HA.out.own), Lib.hid ((HB.out.trans ((Below.refl _ _).alloc HBL.out _)).trans HA.out.low)⟩
    case measure => simp [intOf]; omega
  ·obtain rfl : k = 255 := by omega
   clear hlt
   have hcv := conv_own (fall V) HO.out
   have hbb : Below w.heap.size w wr := ((Below.refl w.heap.size w).alloc (Nat.le_refl _) _).trans (HB.out.mono (by omega))
   clear hblk
   go_wp2
   go_ret
   exact ⟨rfl, hbb⟩
end Go.Proofs.YtgeonppckeiceaaGreatDoor.Ms
namespace Go.Proofs.YtgeonppckeiceaaGreatDoor.Ms
def hi (n : Nat) : List UInt8 := if n = 0 then [] else hi (n / 128) ++ [UInt8.ofNat (128 + n % 128)]
termination_by n
decreasing_by omega
def put (n : Nat) : List UInt8 := hi (n / 128) ++ [UInt8.ofNat (n % 128)]
def putS (n : Nat) : ByteArray := ⟨(put n).toArray⟩
def look : List UInt8 → Bool → Nat → Nat → Nat × Nat × Nat
 | [], _, _, _ => (0, 0, 2)
 | c :: r, f, n, p =>
  if f = true ∧ c.toNat = 128 then (0, 0, 3)
  else if 144115188075855871 < n then (0, 0, 3)
  else if c.toNat < 128 then (n * 128 + c.toNat, p + 1, 0)
  else look r false (n * 128 + c.toNat % 128) (p + 1)
def getA (l : List UInt8) (a : Int) : Nat × Nat × Nat :=
 if a < 0 ∨ (l.length : Int) < a then (0, 0, 1) else look (l.drop a.toNat) true 0 a.toNat
def gN (s : ByteArray) (a : Int) : Int := (getA s.data.toList a).1
def gP (s : ByteArray) (a : Int) : Int := (getA s.data.toList a).2.1
def gE (s : ByteArray) (a : Int) : Int := (getA s.data.toList a).2.2
theorem look_lt (l : List UInt8) : ∀ (f : Bool) (n p : Nat), (look l f n p).1 < 18446744073709551616 ∧ (look l f n p).2.1 ≤ p + l.length := by
 induction l with
 | nil => intro f n p; simp [look]
 | cons c r ih =>
  intro f n p
  have hc := c.toNat_lt
  rw [look]
  split
  ·simp
  ·split
   ·simp
   ·split
    ·simp; omega
    ·have := ih false (n * 128 + c.toNat % 128) (p + 1)
     simp; omega
theorem hi_zero : hi 0 = [] := by rw [hi]; simp
theorem hi_step (n : Nat) (h : n ≠ 0) : hi n = hi (n / 128) ++ [UInt8.ofNat (128 + n % 128)] := by rw [hi]; simp [h]
theorem put_length_pos (n : Nat) : 1 ≤ (put n).length := by simp [put]
end Go.Proofs.YtgeonppckeiceaaGreatDoor.Ms
namespace Go.Proofs.YtgeonppckeiceaaGreatDoor.Ms
open Go.RowKit
set_option linter.unusedVariables false
set_option maxHeartbeats 400000 in
theorem room_yes (n : Int) (w : World) (h : n ≤ 144115188075855871) :
  Calls Tryz.prog 183 #[.int .u64 n] w fun e w' => e = .returned (.bool true) ∧ w = w' := by
 go_enter Tryz.func183, Tryz.ntmps183
 go_wp2
 go_ret
 exact ⟨rfl, rfl⟩
set_option maxHeartbeats 400000 in
theorem room_no (n : Int) (w : World) (h : ¬ n ≤ 144115188075855871) :
  Calls Tryz.prog 183 #[.int .u64 n] w fun e w' => e = .returned (.bool false) ∧ w = w' := by
 have h' : decide (n ≤ 144115188075855871) = false := by simpa using h
 go_enter Tryz.func183, Tryz.ntmps183
 go_wp2
 go_ret
 exact ⟨rfl, rfl⟩
def GetPost (s : ByteArray) (a : Int) (w : World) (e : Ending) (w' : World) : Prop :=
 e = .returned (.tuple #[.int .u64 (gN s a), .int .i64 (gP s a), .int .i64 (gE s a)]) ∧ w = w'
theorem getPost_of {s : ByteArray} {a : Int} {w : World} {x y z : Nat} {x' y' z' : Int} (h : getA s.data.toList a = (x, y, z)) (hx : x' = x) (hy : y' = y) (hz : z' = z) :
  GetPost s a w (.returned (.tuple #[.int .u64 x', .int .i64 y', .int .i64 z'])) w := by
 subst hx hy hz
 exact ⟨by simp [gN, gP, gE, h], rfl⟩
theorem drop_cons (s : ByteArray) (k : Nat) (h : k < s.size) : s.data.toList.drop k = s[k] :: s.data.toList.drop (k + 1) := by
 rw [List.drop_eq_getElem_cons (by simpa using h)]; rfl
theorem look_form (s : ByteArray) (k : Nat) (f : Bool) (m p : Nat) (h : k < s.size) (hh : (f = true ∧ s[k].toNat = 128) ∨ 144115188075855871 < m) :
  look (s.data.toList.drop k) f m p = (0, 0, 3) := by
 rw [drop_cons s k h, look]
 rcases hh with hh | hh
 ·rw [if_pos hh]
 ·rw [if_pos hh]; simp
theorem look_end (s : ByteArray) (k : Nat) (f : Bool) (m p : Nat) (h : k < s.size) (h1 : ¬ (f = true ∧ s[k].toNat = 128)) (h2 : m ≤ 144115188075855871) (h3 : s[k].toNat < 128) :
  look (s.data.toList.drop k) f m p = (m * 128 + s[k].toNat, p + 1, 0) := by
 rw [drop_cons s k h, look, if_neg h1, if_neg (by omega), if_pos h3]
theorem look_go (s : ByteArray) (k : Nat) (f : Bool) (m p : Nat) (h : k < s.size) (h1 : ¬ (f = true ∧ s[k].toNat = 128)) (h2 : m ≤ 144115188075855871) (h3 : ¬ s[k].toNat < 128) :
  look (s.data.toList.drop k) f m p = look (s.data.toList.drop (k + 1)) false (m * 128 + s[k].toNat % 128) (p + 1) := by
 rw [drop_cons s k h, look, if_neg h1, if_neg (by omega), if_neg h3]
theorem look_none (s : ByteArray) (k : Nat) (f : Bool) (m p : Nat) (h : s.size ≤ k) :
  look (s.data.toList.drop k) f m p = (0, 0, 2) := by
 rw [List.drop_eq_nil_of_le (by simpa using h), look]
theorem getA_out (s : ByteArray) (a : Int) (h : a < 0 ∨ (s.size : Int) < a) : getA s.data.toList a = (0, 0, 1) := by
 unfold getA; rw [if_pos (by simpa using h)]
theorem getA_in (s : ByteArray) (a : Nat) (h : a ≤ s.size) : getA s.data.toList (a : Int) = look (s.data.toList.drop a) true 0 a := by
 unfold getA; rw [if_neg (by have : s.data.toList.length = s.size := by simp
                             omega)]; simp
set_option maxHeartbeats 400000 in
theorem get_below (s : ByteArray) (a : Int) (w : World) (hs : s.size ≤ maxLen) (h : a < 0) :
  Calls Tryz.prog 142 #[.string s, .int .i64 a] w (GetPost s a w) := by
 have H := Lib.hid (getA_out s a (.inl h))
 unfold maxLen at hs
 go_enter Tryz.func142, Tryz.ntmps142
 go_wp2
 go_ret3
 exact getPost_of H.out rfl rfl rfl
set_option maxHeartbeats 400000 in
theorem get_above (s : ByteArray) (a : Int) (w : World) (hs : s.size ≤ maxLen) (h : (s.size : Int) < a) :
  Calls Tryz.prog 142 #[.string s, .int .i64 a] w (GetPost s a w) := by
 have H := Lib.hid (getA_out s a (.inr h))
 have h0 : decide (a < 0) = false := by simp; omega
 unfold maxLen at hs
 go_enter Tryz.func142, Tryz.ntmps142
 go_wp2
 go_ret3
 exact getPost_of H.out rfl rfl rfl
set_option maxHeartbeats 1000000 in
theorem get_in (s : ByteArray) (a : Nat) (w : World) (hs : s.size ≤ maxLen) (h : a ≤ s.size) :
  Calls Tryz.prog 142 #[.string s, .int .i64 a] w (GetPost s a w) := by
 have H0 := Lib.hid (getA_in s a h)
 have q1 : decide (s.size < a) = false := by simp; omega
 have q2 : decide ((a : Int) < 0) = false := by simp
 unfold maxLen at hs
 go_enter Tryz.func142, Tryz.ntmps142
 go_wp2
 go_loop [7, 8] (fun n i => ∃ k m : Nat, a ≤ k ∧ k ≤ s.size ∧ i = .int .i64 k ∧ n = .int .u64 m ∧ Hid (getA s.data.toList a = look (s.data.toList.drop k) (decide (k = a)) m k)) (fun _ i => s.size - (intOf i).toNat)
 case atStart => exact ⟨a, 0, by omega, h, rfl, rfl, Lib.hid (by simpa using H0.out)⟩
 case round =>
  obtain ⟨k, m, hak, hk, rfl, rfl, HR⟩ := hrel
  clear H0
  by_cases hlt : k < s.size
  ·have hc := s[k].toNat_lt
   by_cases hbad : k = a ∧ s[k].toNat = 128
   ·obtain ⟨rfl, hb⟩ := hbad
    have HF := Lib.hid (HR.out.trans (look_form s k (decide (k = k)) m k hlt (.inl ⟨by simp, hb⟩)))
    have hb1 : ((s[k].toNat : Int) == 128) = true := by simpa using (by omega : (s[k].toNat : Int) = 128)
    clear hb HR
    go_wp2
    go_ret3
    exact getPost_of HF.out rfl rfl rfl
   ·by_cases hm : m ≤ 144115188075855871
    ·have hm' : (m : Int) ≤ 144115188075855871 := by omega
     have hmf : decide ((144115188075855871 : Int) < m) = false := by simp; omega
     have hb1 : ¬ (decide (k = a) = true ∧ s[k].toNat = 128) := by simpa using hbad
     by_cases h3 : s[k].toNat < 128
     ·have HF := Lib.hid (HR.out.trans (look_end s k _ m k hlt hb1 hm h3))
      have h3' : (s[k].toNat : Int) < 128 := by omega
      have h128 : ((s[k].toNat : Int) == 128) = false := by simp; omega
      clear HR hb1 hbad
      by_cases hka : k = a
      ·have hkb : ((k : Int) == (a : Int)) = true := by simp [hka]
       clear hka
       go_wp2_with (go_at_call 183; refine (room_yes _ _ hm').mono ?_; rintro e w' ⟨rfl, rfl⟩)
       go_ret3
       exact getPost_of HF.out (by simp; try omega) (by simp) rfl
      ·have hkb : ((k : Int) == (a : Int)) = false := by simp; omega
       clear hka
       go_wp2_with (go_at_call 183; refine (room_yes _ _ hm').mono ?_; rintro e w' ⟨rfl, rfl⟩)
       go_ret3
       exact getPost_of HF.out (by simp; try omega) (by simp) rfl
     ·have HF := Lib.hid (HR.out.trans (look_go s k _ m k hlt hb1 hm h3))
      have h3' : decide ((s[k].toNat : Int) < 128) = false := by simp; omega
      have h3'' : ¬ (s[k].toNat : Int) < 128 := by omega
      clear HR hb1
      by_cases hka : k = a
      ·have hkb : ((k : Int) == (a : Int)) = true := by simp [hka]
       have h128 : ((s[k].toNat : Int) == 128) = false := by simp; omega
       have HK := Lib.hid hka
       clear hka hbad
       go_wp2_with (go_at_call 183; refine (room_yes _ _ hm').mono ?_; rintro e w' ⟨rfl, rfl⟩)
       go_round
       case rel => exact ⟨k + 1, m * 128 + s[k].toNat % 128, by omega, by omega, by go_num, by simp, by
        have hk1 : decide (k + 1 = a) = false := by simp; omega
        rw [hk1]; exact HF.out⟩
       case measure => simp [intOf]; omega
      ·have hkb : ((k : Int) == (a : Int)) = false := by simp; omega
       clear hka hbad
       go_wp2_with (go_at_call 183; refine (room_yes _ _ hm').mono ?_; rintro e w' ⟨rfl, rfl⟩)
       go_round
       case rel => exact ⟨k + 1, m * 128 + s[k].toNat % 128, by omega, by omega, by go_num, by simp, by
        have hk1 : decide (k + 1 = a) = false := by simp; omega
        rw [hk1]; exact HF.out⟩
       case measure => simp [intOf]; omega
    ·have HF := Lib.hid (HR.out.trans (look_form s k _ m k hlt (.inr (by omega))))
     have hm' : ¬ (m : Int) ≤ 144115188075855871 := by omega
     have hmf : decide ((144115188075855871 : Int) < m) = true := by simp; omega
     clear HR hm
     by_cases hka : k = a
     ·have hkb : ((k : Int) == (a : Int)) = true := by simp [hka]
      have h128 : ((s[k].toNat : Int) == 128) = false := by simp; omega
      clear hka hbad
      go_wp2_with (go_at_call 183; refine (room_no _ _ hm').mono ?_; rintro e w' ⟨rfl, rfl⟩)
      go_ret3
      exact getPost_of HF.out rfl rfl rfl
     ·have hkb : ((k : Int) == (a : Int)) = false := by simp; omega
      clear hka hbad
      go_wp2_with (go_at_call 183; refine (room_no _ _ hm').mono ?_; rintro e w' ⟨rfl, rfl⟩)
      go_ret3
      exact getPost_of HF.out rfl rfl rfl
  ·have HF := Lib.hid (HR.out.trans (look_none s k _ m k (by omega)))
   clear HR
   go_wp2
   go_ret3
   exact getPost_of HF.out rfl rfl rfl
theorem get_any (s : ByteArray) (a : Int) (w : World) (hs : s.size ≤ maxLen) :
  Calls Tryz.prog 142 #[.string s, .int .i64 a] w (GetPost s a w) := by
 by_cases h : a < 0
 ·exact get_below s a w hs h
 ·by_cases h2 : (s.size : Int) < a
  ·exact get_above s a w hs h2
  ·obtain ⟨k, rfl⟩ := Int.eq_ofNat_of_zero_le (by omega : 0 ≤ a)
   exact get_in s k w hs (by omega)
end Go.Proofs.YtgeonppckeiceaaGreatDoor.Ms
namespace Go.Proofs.YtgeonppckeiceaaGreatDoor.Ms
open Go.RowKit
set_option linter.unusedVariables false
theorem hi_le (k : Nat) : ∀ n, n < 128 ^ k → (hi n).length ≤ k := by
 induction k with
 | zero => intro n h; obtain rfl : n = 0 := by simpa using h
           simp [hi_zero]
 | succ k ih =>
  intro n h
  by_cases h0 : n = 0
  ·subst h0; simp [hi_zero]
  ·rw [hi_step n h0]
   have := ih (n / 128) (by rw [Nat.pow_succ] at h; omega)
   simp; omega
theorem put_le (n : Nat) (h : (n : Int) ≤ 18446744073709551615) : (put n).length ≤ 10 := by
 have := hi_le 9 (n / 128) (by omega)
 simp [put]; omega
theorem retS {a b : ByteArray} (h : a = b) : Ending.returned (.string a) = .returned (.string b) := by rw [h]
set_option linter.unusedSimpArgs false
set_option maxRecDepth 100000
theorem retB {a b : Bool} (h : a = b) : Ending.returned (.bool a) = .returned (.bool b) := by rw [h]
theorem text_of (l : List UInt8) : ∃ t : ByteArray, t.data.toList = l := ⟨⟨l.toArray⟩, rfl⟩
theorem text_eq {t : ByteArray} {l : List UInt8} (h : t.data.toList = l) : (⟨l.toArray⟩ : ByteArray) = t := by
 subst h; rfl
theorem text_ext {t u : ByteArray} (h : t.data.toList = u.data.toList) : t = u := by
 have := text_eq h
 rw [← this]
theorem text_size (t : ByteArray) : t.data.toList.length = t.size := by simp
set_option maxHeartbeats 1000000 in
theorem right_any (s : ByteArray) (w : World) (hs : s.size ≤ maxLen) (b : Bool) (hb : Hid (rightB s.data.toList = b)) :
  Calls Tryz.prog 104 #[.string s] w fun e w' => e = .returned (.bool b) ∧ Below w.heap.size w w' := by
 have HS := Lib.hid hs
 unfold maxLen at hs
 by_cases h1 : s.size < 1
 ·have h1' : (s.size : Int) < 1 := by omega
  have e : rightB s.data.toList = false := by
   rw [Bool.eq_false_iff]; intro h
   have := (right_iff.1 h).1
   rw [text_size] at this; omega
  have HE : Hid (b = false) := Lib.hid (by rw [← hb.out, e])
  clear e h1
  go_enter Tryz.func104, Tryz.ntmps104
  go_wp2
  go_ret
  exact ⟨retB HE.out.symm, Below.refl _ _⟩
 ·by_cases h8 : 8 < s.size
  ·have h1' : decide ((s.size : Int) < 1) = false := by simp; omega
   have h8' : (8 : Int) < s.size := by omega
   have e : rightB s.data.toList = false := by
    rw [Bool.eq_false_iff]; intro h
    have := (right_iff.1 h).2.1
    rw [text_size] at this; omega
   have HE : Hid (b = false) := Lib.hid (by rw [← hb.out, e])
   clear e h1 h8
   go_enter Tryz.func104, Tryz.ntmps104
   go_wp2
   go_ret
   exact ⟨retB HE.out.symm, Below.refl _ _⟩
  ·have h8' : decide ((8 : Int) < s.size) = false := by simp; omega
   have h1' : decide ((s.size : Int) < 1) = false := by simp; omega
   have HE : Hid ((s.toList == fall (inB s.data.toList)) = b) := Lib.hid (by
    rw [← hb.out, ByteArray.toList_eq]
    simp only [rightB, text_size]
    have e1 : decide (1 ≤ s.size) = true := by simp; omega
    have e2 : decide (s.size ≤ 8) = true := by simp; omega
    rw [e1, e2]; rfl)
   clear h1 h8
   go_enter Tryz.func104, Tryz.ntmps104
   go_wp2_with fail
   refine (setOf_any s _ HS.out).mono ?_
   rintro e w1 ⟨rfl, hb1⟩
   go_wp2_with fail
   refine (falling_any _ _).mono ?_
   rintro e w2 ⟨rfl, hb2⟩
   go_wp2_with fail
   go_ret
   exact ⟨retB HE.out, hb1.trans (hb2.mono hb1.size)⟩
set_option maxHeartbeats 1000000 in
theorem both_any (a b : ByteArray) (w : World) (ha : a.size ≤ maxLen) (hb : b.size ≤ maxLen) (t : ByteArray) (ht : Hid (t.data.toList = bothS a.data.toList b.data.toList)) :
  Calls Tryz.prog 105 #[.string a, .string b] w fun e w' => e = .returned (.string t) ∧ Below w.heap.size w w' := by
 have HA := Lib.hid ha
 have HB := Lib.hid hb
 clear ha hb
 cases h1 : rightB a.data.toList
 ·have HE : Hid (t = ⟨#[]⟩) := Lib.hid (text_ext (by rw [ht.out, bothS, formB, h1]; rfl))
  have H1 := Lib.hid h1
  clear h1
  go_enter Tryz.func105, Tryz.ntmps105
  go_wp2_with fail
  refine (right_any a _ HA.out _ H1).mono ?_
  rintro e w1 ⟨rfl, hb1⟩
  go_wp2_with fail
  go_ret
  exact ⟨retS HE.out.symm, hb1⟩
 ·cases h2 : rightB b.data.toList
  ·have HE : Hid (t = ⟨#[]⟩) := Lib.hid (text_ext (by rw [ht.out, bothS, formB, h1, h2]; rfl))
   have H1 := Lib.hid h1
   have H2 := Lib.hid h2
   clear h1 h2
   go_enter Tryz.func105, Tryz.ntmps105
   go_wp2_with fail
   refine (right_any a _ HA.out _ H1).mono ?_
   rintro e w1 ⟨rfl, hb1⟩
   go_wp2_with fail
   refine (right_any b _ HB.out _ H2).mono ?_
   rintro e w2 ⟨rfl, hb2⟩
   go_wp2_with fail
   go_ret
   exact ⟨retS HE.out.symm, hb1.trans (hb2.mono hb1.size)⟩
  ·have HE : Hid (⟨(fall (capB a.data.toList b.data.toList)).toArray⟩ = t) := Lib.hid (text_eq (by rw [ht.out, bothS, formB, h1, h2]; rfl))
   have H1 := Lib.hid h1
   have H2 := Lib.hid h2
   clear h1 h2
   go_enter Tryz.func105, Tryz.ntmps105
   go_wp2_with fail
   refine (right_any a _ HA.out _ H1).mono ?_
   rintro e w1 ⟨rfl, hb1⟩
   go_wp2_with fail
   refine (right_any b _ HB.out _ H2).mono ?_
   rintro e w2 ⟨rfl, hb2⟩
   have hb12 := hb1.trans (hb2.mono hb1.size)
   clear hb1 hb2
   go_wp2_with fail
   refine (setOf_any a _ HA.out).mono ?_
   rintro e w3 ⟨rfl, hb3⟩
   have hb13 := hb12.trans (hb3.mono hb12.size)
   clear hb12 hb3
   go_wp2_with fail
   refine (setOf_any b _ HB.out).mono ?_
   rintro e w4 ⟨rfl, hb4⟩
   have hb14 := hb13.trans (hb4.mono hb13.size)
   clear hb13 hb4
   go_wp2_with fail
   refine (and_any _ _ _).mono ?_
   rintro e w5 ⟨rfl, hb5⟩
   have hb15 := hb14.trans (hb5.mono hb14.size)
   clear hb14 hb5
   go_wp2_with fail
   refine (falling_any _ _).mono ?_
   rintro e w6 ⟨rfl, hb6⟩
   have hb16 := hb15.trans (hb6.mono hb15.size)
   clear hb15 hb6
   go_wp2_with fail
   go_ret
   exact ⟨retS HE.out, hb16⟩
def BestIs (a b : ByteArray) (v e : Int) : Prop := bestV a.data.toList b.data.toList = v ∧ bestE a.data.toList b.data.toList = e
theorem retT {a b c d : Int} (h : a = c) (k : b = d) : Ending.returned (.tuple #[.int .i64 a, .int .i64 b]) = .returned (.tuple #[.int .i64 c, .int .i64 d]) := by rw [h, k]
set_option maxHeartbeats 1000000 in
theorem best_any (a b : ByteArray) (w : World) (ha : a.size ≤ maxLen) (hb : b.size ≤ maxLen) (v er : Int) (ht : Hid (BestIs a b v er)) :
  Calls Tryz.prog 35 #[.string a, .string b] w fun e w' => e = .returned (.tuple #[.int .i64 v, .int .i64 er]) ∧ Below w.heap.size w w' := by
 have HA := Lib.hid ha
 have HB := Lib.hid hb
 clear ha hb
 cases h1 : rightB a.data.toList
 ·have HE : Hid (v = 0 ∧ er = 3) := Lib.hid (by rw [← ht.out.1, ← ht.out.2, bestV, bestE, bothS, formB, h1]; exact ⟨rfl, rfl⟩)
  have H1 := Lib.hid h1
  clear h1
  go_enter Tryz.func35, Tryz.ntmps35
  go_wp2_with fail
  refine (right_any a _ HA.out _ H1).mono ?_
  rintro e w1 ⟨rfl, hb1⟩
  go_wp2_with fail
  go_ret2
  exact ⟨retT HE.out.1.symm HE.out.2.symm, hb1⟩
 ·cases h2 : rightB b.data.toList
  ·have HE : Hid (v = 0 ∧ er = 3) := Lib.hid (by rw [← ht.out.1, ← ht.out.2, bestV, bestE, bothS, formB, h1, h2]; exact ⟨rfl, rfl⟩)
   have H1 := Lib.hid h1
   have H2 := Lib.hid h2
   clear h1 h2
   go_enter Tryz.func35, Tryz.ntmps35
   go_wp2_with fail
   refine (right_any a _ HA.out _ H1).mono ?_
   rintro e w1 ⟨rfl, hb1⟩
   go_wp2_with fail
   refine (right_any b _ HB.out _ H2).mono ?_
   rintro e w2 ⟨rfl, hb2⟩
   go_wp2_with fail
   go_ret2
   exact ⟨retT HE.out.1.symm HE.out.2.symm, hb1.trans (hb2.mono hb1.size)⟩
  ·have hf : formB a.data.toList b.data.toList = true := by rw [formB, h1, h2]; rfl
   have H1 := Lib.hid h1
   have H2 := Lib.hid h2
   clear h1 h2
   obtain ⟨t, ht2⟩ := text_of (bothS a.data.toList b.data.toList)
   have HT := Lib.hid ht2
   cases hc : bothS a.data.toList b.data.toList with
   | nil =>
    have HE : Hid (v = 0 ∧ er = 11) := Lib.hid (by rw [← ht.out.1, ← ht.out.2, bestV, bestE, hf, hc]; exact ⟨rfl, rfl⟩)
    obtain rfl : t = ⟨#[]⟩ := text_ext (by rw [ht2, hc])
    clear hf hc ht2
    go_enter Tryz.func35, Tryz.ntmps35
    go_wp2_with fail
    refine (right_any a _ HA.out _ H1).mono ?_
    rintro e w1 ⟨rfl, hb1⟩
    go_wp2_with fail
    refine (right_any b _ HB.out _ H2).mono ?_
    rintro e w2 ⟨rfl, hb2⟩
    have hb12 := hb1.trans (hb2.mono hb1.size)
    clear hb1 hb2
    go_wp2_with fail
    refine (both_any a b _ HA.out HB.out ⟨#[]⟩ HT).mono ?_
    rintro e w3 ⟨rfl, hb3⟩
    have hb13 := hb12.trans (hb3.mono hb12.size)
    clear hb12 hb3
    go_wp2_with fail
    go_ret2
    exact ⟨retT HE.out.1.symm HE.out.2.symm, hb13⟩
   | cons c r =>
    have HE : Hid (v = c.toNat ∧ er = 0) := Lib.hid (by rw [← ht.out.1, ← ht.out.2, bestV, bestE, hf, hc]; exact ⟨rfl, rfl⟩)
    have hl : t.data.toList = c :: r := by rw [ht2, hc]
    have hne : t.toList.isEmpty = false := by rw [ByteArray.toList_eq, hl]; rfl
    have h0 : 0 < t.size := by rw [← text_size, hl]; simp
    have HI : Hid (wrap64 (t[0].toNat : Int) = v) := Lib.hid (by
     rw [HE.out.1]
     have : t.data.toList[0]? = some c := by rw [hl]; rfl
     have h3 : t[0] = c := by
      have h4 : t.data.toList[0]'(by simpa using h0) = c := by
       rw [List.getElem?_eq_getElem (by simpa using h0)] at this
       exact Option.some.inj this
      exact h4
     rw [h3]
     have := UInt8.toNat_lt c
     unfold wrap64; omega)
    clear hf hc ht2 hl
    go_enter Tryz.func35, Tryz.ntmps35
    go_wp2_with fail
    refine (right_any a _ HA.out _ H1).mono ?_
    rintro e w1 ⟨rfl, hb1⟩
    go_wp2_with fail
    refine (right_any b _ HB.out _ H2).mono ?_
    rintro e w2 ⟨rfl, hb2⟩
    have hb12 := hb1.trans (hb2.mono hb1.size)
    clear hb1 hb2
    go_wp2_with fail
    refine (both_any a b _ HA.out HB.out _ HT).mono ?_
    rintro e w3 ⟨rfl, hb3⟩
    have hb13 := hb12.trans (hb3.mono hb12.size)
    clear hb12 hb3
    go_wp2_with fail
    go_ret2
    exact ⟨retT HI.out HE.out.2.symm, hb13⟩
theorem drewN_below2 {B : Nat} {w : World} (h : B ≤ w.heap.size) (n : Nat) : Below B w (w.drewN n) := ⟨rfl, rfl, rfl, Nat.le_refl _, fun _ _ => rfl⟩
end Go.Proofs.YtgeonppckeiceaaGreatDoor.Ms
namespace Go.Proofs
open Go.Shelf
def Tryz.lays129_ren : Go.Shelf.Ren := ⟨fun | 129 => 174 | n => n, fun | 53 => 23 | 3 => 3 | 4 => 4 | 46 => 274 | 5 => 5 | 9 => 9 | n => n, fun | n => n⟩
theorem Tryz.lays129 : Go.Proofs.Lays.n129 Tryz.prog Tryz.lays129_ren := {
 mixed := by kernel_rfl
 f129 := Tryz.func174.trans (congrArg some (by kernel_rfl))
 t3 := Tryz.underlying3
 a3 := Tryz.isAgg3
 z3 := Tryz.sizeOf3
 v3 := Tryz.zeroValue3
 t4 := Tryz.underlying4
 a4 := Tryz.isAgg4
 z4 := Tryz.sizeOf4
 v4 := Tryz.zeroValue4
 t5 := Tryz.underlying5
 a5 := Tryz.isAgg5
 z5 := Tryz.sizeOf5
 v5 := Tryz.zeroValue5
 t9 := Tryz.underlying9
 a9 := Tryz.isAgg9
 z9 := Tryz.sizeOf9
 v9 := Tryz.zeroValue9
 t46 := Tryz.underlying274
 a46 := Tryz.isAgg274
 z46 := Tryz.sizeOf274
 v46 := Tryz.zeroValue274
 t53 := Tryz.underlying23
 a53 := Tryz.isAgg23
 z53 := Tryz.sizeOf23
 v53 := Tryz.zeroValue23 }
theorem Tryz.bits_Len64 (x : Int) (w : World) (h0 : 0 ≤ x) (h1 : x ≤ 18446744073709551615) :
  Calls Tryz.prog 174 #[.int .u64 x] w fun e w' => e = .returned (.int .i64 (Lib.bitLen x.toNat)) ∧ w' = w := Any.bits_Len64 Tryz.lays129 x w h0 h1
end Go.Proofs
namespace Go.Proofs.YtgeonppckeiceaaGreatDoor.Ms
open Go.RowKit
set_option linter.unusedVariables false
def rowL (c : Nat) (l : List UInt8) : List UInt8 := List.replicate (c - l.length) 0 ++ l
def rowC (c : Nat) (l : List UInt8) : Array Value := ((rowL c l).map fun x => Value.int .u8 (x.toNat : Int)).toArray
def St (B c : Nat) (w0 : World) (m : Nat) (l : List UInt8) (w : World) : Prop :=
 w.heap[B]? = some (.cells (rowC c l) 5 (0, 0)) ∧ w.heap[B + 1]? = some (.cells #[.slice (some ⟨B, 0, none⟩) c c] 89 (0, 0)) ∧
 w.heap[B + 1 + 1]? = some (.cells #[.int .u64 m] 23 (0, 0)) ∧ Below B w0 w
theorem rowC_set (c p : Nat) (l : List UInt8) (x : UInt8) (h : l.length + 1 + p = c) : (rowC c l).setIfInBounds p (.int .u8 (x.toNat : Int)) = rowC c (x :: l) := by
 unfold rowC rowL
 apply Array.ext'
 rw [Array.toList_setIfInBounds]
 have e1 : c - l.length = p + 1 := by omega
 have e2 : c - (x :: l).length = p := by simp; omega
 rw [e1, e2]
 simp [List.replicate_succ', List.append_assoc]
theorem rowC_some (c p : Nat) (l : List UInt8) (h : p < c) (hl : l.length ≤ c) : ∃ v, (rowC c l)[p]? = some v := by
 have : p < (rowC c l).size := by simp [rowC, rowL]; omega
 exact ⟨_, Array.getElem?_eq_getElem this⟩
set_option maxHeartbeats 400000 in
theorem step_any (B c p m : Nat) (l : List UInt8) (w0 w : World) (hs : St B c w0 m l w) (hl : l.length + 1 + p = c) (hc : c ≤ 10) (hm : (m : Int) ≤ 18446744073709551615) :
  Calls Tryz.prog 175 #[.int .i64 p, .pointer (some ⟨B + 1 + 1, 0, none⟩), .pointer (some ⟨B + 1, 0, none⟩)] w fun e w' => e = .returned (.tuple #[]) ∧ St B c w0 (m / 128) (UInt8.ofNat (128 + m % 128) :: l) w' := by
 have HS := Lib.hid hs
 obtain ⟨s1, s2, s3, s4⟩ := hs
 have c2 := cell_of_one s2
 have c3 := cell_of_one s3
 have f3 := free_of_one s3
 obtain ⟨v, hv⟩ := rowC_some c p l (by omega) (by omega)
 have c1 : w.cell? ⟨B, p, none⟩ = some v := by rw [cell_of_row w B p _ _ _ s1]; exact hv
 have f1 : w.frozen? ⟨B, p, none⟩ = false := frozen_of_row w B p _ _ s1
 have hp : (p : Int) < (c : Int) := by omega
 have Hl := Lib.hid hl
 clear s1 s2 s3 s4 hl hv
 go_enter Tryz.func175, Tryz.ntmps175
 go_wp2
 go_end0
 refine ⟨rfl, ?_⟩
 obtain ⟨s1, s2, s3, s4⟩ := HS.out
 have hl := Hl.out
 have t1 := heap_setCell_same w B p _ _ (.int .u8 ((m : Int) % 128 + 128)) s1
 have e1 : Value.int .u8 ((m : Int) % 128 + 128) = .int .u8 ((UInt8.ofNat (128 + m % 128)).toNat : Int) := by
  rw [UInt8.toNat_ofNat', show (((128 + m % 128) % 2 ^ 8 : Nat) : Int) = (m : Int) % 128 + 128 from by omega]
 rw [e1, rowC_set c p l _ hl] at t1
 refine ⟨?_, ?_, ?_, ?_⟩
 ·rw [heap_setCell_other _ _ _ _ (by dsimp only; omega), e1]; exact t1
 ·rw [heap_setCell_other _ _ _ _ (by dsimp only; omega), heap_setCell_other _ _ _ _ (by dsimp only; omega)]; exact s2
 ·rw [one_setCell (v := .int .u64 m) (t := 23)]
  ·rw [show ((m : Int) / 128) = ((m / 128 : Nat) : Int) from by omega]
  ·rw [heap_setCell_other _ _ _ _ (by dsimp only; omega)]; exact s3
 ·exact (s4.setCell (Nat.le_refl _) _).setCell (by dsimp only; omega) _
theorem hi_ge (k : Nat) : ∀ n, 128 ^ k ≤ n → k + 1 ≤ (hi n).length := by
 induction k with
 | zero => intro n h; rw [hi_step n (by simp at h; omega)]; simp
 | succ k ih =>
  intro n h
  have hp : 0 < 128 ^ k := Nat.pow_pos (by omega)
  rw [Nat.pow_succ] at h
  rw [hi_step n (by omega)]
  have := ih (n / 128) (by omega)
  simp; omega
theorem put_count (n : Nat) (h : n < 2 ^ 64) : max 1 (((Lib.bitLen n : Int) + 7 - 1) / 7) = ((put n).length : Int) ∧ Lib.bitLen n ≤ 64 := by
 by_cases h0 : n = 0
 ·subst h0
  simp [Lib.bitLen, Lib.bitLenAux_zero, put, hi_zero]
  rfl
 ·obtain ⟨a, b, c⟩ := Lib.bitLenAux_bounds 64 n h h0
  have hL : Lib.bitLen n ≤ 64 := Lib.bitLen_le n 64 (Nat.le_refl _) h
  refine ⟨?_, hL⟩
  unfold Lib.bitLen at hL ⊢
  generalize Lib.bitLenAux 64 n = L at a b c hL ⊢
  obtain ⟨q, hq⟩ : ∃ q, q = (L - 1) / 7 := ⟨_, rfl⟩
  have e : max 1 (((L : Int) + 7 - 1) / 7) = (q : Int) + 1 := by omega
  rw [e]
  have h1 : 128 ^ q ≤ n := by
   have : (128 : Nat) ^ q = 2 ^ (7 * q) := by rw [Nat.pow_mul]
   rw [this]
   exact Nat.le_trans (Nat.pow_le_pow_right (by omega) (by omega)) b
  have h2 : n < 128 ^ (q + 1) := by
   have : (128 : Nat) ^ (q + 1) = 2 ^ (7 * (q + 1)) := by rw [Nat.pow_mul]
   rw [this]
   exact Nat.lt_of_lt_of_le c (Nat.pow_le_pow_right (by omega) (by omega))
  have h3 := hi_le q (n / 128) (by rw [Nat.pow_succ] at h2; omega)
  have h4 : q ≤ (hi (n / 128)).length := by
   cases q with
   | zero => omega
   | succ q => exact hi_ge q (n / 128) (by rw [Nat.pow_succ] at h1; omega)
  simp [put]; omega
def dg (n : Nat) : Nat → List UInt8
 | 0 => []
 | i + 1 => UInt8.ofNat (128 + n / 128 ^ i % 128) :: dg n i
theorem dg_length (n i : Nat) : (dg n i).length = i := by induction i with
 | zero => rfl
 | succ i ih => simp [dg, ih]
theorem dg_last (n : Nat) : ∀ i, dg n (i + 1) = dg (n / 128) i ++ [UInt8.ofNat (128 + n % 128)] := by
 intro i
 induction i with
 | zero => simp [dg]
 | succ i ih => rw [dg, ih, dg, Nat.pow_succ, Nat.div_div_eq_div_mul, Nat.mul_comm]; simp
theorem dg_hi : ∀ k n, (hi n).length = k → hi n = dg n k := by
 intro k
 induction k with
 | zero => intro n h; simpa [dg] using h
 | succ k ih =>
  intro n h
  by_cases h0 : n = 0
  ·subst h0; simp [hi_zero] at h
  ·rw [hi_step n h0] at h ⊢
   rw [dg_last, ih (n / 128) (by simpa using h)]
theorem put_dg (n c : Nat) (hc : c + 1 = (put n).length) : put n = dg (n / 128) c ++ [UInt8.ofNat (n % 128)] := by
 rw [put] at hc ⊢
 rw [dg_hi c (n / 128) (by simp at hc; omega)]
def LenPost (c : Nat) (w : World) (e : Ending) (w' : World) : Prop := ∃ L : Nat, e = .returned (.int .i64 L) ∧ L ≤ 64 ∧ max 1 (((L : Int) + 7 - 1) / 7) = (c : Int) ∧ w = w'
theorem len_any (n : Nat) (w : World) (h : (n : Int) ≤ 18446744073709551615) : Calls Tryz.prog 174 #[.int .u64 n] w (LenPost (put n).length w) :=
 (Tryz.bits_Len64 n w (by omega) h).mono fun e w' ⟨he, hw⟩ => ⟨Lib.bitLen n, by simpa using he, (put_count n (by omega)).2, (put_count n (by omega)).1, hw.symm⟩
theorem info5 : (Tryz.prog.info? 5).map (fun i => (i.zero, i.size, i.bytes)) = some (some (.int .u8 0), 1, 1) := by kernel_rfl
theorem made (c : Nat) : madeCells (Value.int .u8 0).cells (c * 1) = rowC c [] := by
 unfold madeCells rowC rowL
 apply Array.ext
 ·simp
 ·intro i h1 h2
  simp [Value.cells, Nat.mod_one]
theorem make_row (w : World) (c : Nat) (hc : c ≤ 10) : (Instr.makeSlice 89 (.int .i64 c) (.int .i64 c)).run Tryz.prog w = .ok (.slice (some ⟨w.heap.size, 0, none⟩) c c) (w.alloc (.cells (rowC c []) 5)) := by
 obtain ⟨i0, hi, hz0, hz1, hz2⟩ := info_parts info5
 have := run_make (P := Tryz.prog) w 89 5 i0 (.int .u8 0) Tryz.underlying89 hi hz0 .i64 .i64 c c (by omega) (by omega) (by rw [hz2]; omega) (by omega)
 rw [hz1] at this
 rw [this, Int.toNat_natCast, made]
theorem size_alloc (w : World) (o : Obj) : (w.alloc o).heap.size = w.heap.size + 1 := by
 have := heap_alloc_new w o
 show (w.heap.push o).size = _
 simp
theorem St_start (w : World) (c n : Nat) : St w.heap.size c w n [] (((w.alloc (.cells (rowC c []) 5)).alloc (.cells #[.slice (some ⟨w.heap.size, 0, none⟩) c c] 89)).alloc (.cells #[.int .u64 n] 23)) := by
 refine ⟨?_, ?_, ?_, ?_⟩
 ·rw [heap_alloc_old (h := by rw [size_alloc, size_alloc]; omega), heap_alloc_old (h := by rw [size_alloc]; omega), heap_alloc_new]
 ·rw [heap_alloc_old (h := by rw [size_alloc, size_alloc]; omega), ← size_alloc w (.cells (rowC c []) 5), heap_alloc_new]
 ·rw [← size_alloc w (.cells (rowC c []) 5), ← size_alloc (w.alloc (.cells (rowC c []) 5)) (.cells #[.slice (some ⟨w.heap.size, 0, none⟩) c c] 89), heap_alloc_new]
 ·exact (((Below.refl _ _).alloc (Nat.le_refl _) _).alloc (by rw [size_alloc]; omega) _).alloc (by rw [size_alloc, size_alloc]; omega) _
theorem St_end (w w0 : World) (c n : Nat) (h : St w0.heap.size c w0 (n / 128 ^ c) (dg n c) w) (hc1 : 1 ≤ c) (hc : c = (put n).length) :
  w.cell? ⟨w0.heap.size, c - 1, none⟩ = some (.int .u8 ((n : Int) % 128 + 128)) ∧ w.frozen? ⟨w0.heap.size, c - 1, none⟩ = false ∧ w.cell? ⟨w0.heap.size + 1, 0, none⟩ = some (.slice (some ⟨w0.heap.size, 0, none⟩) c c) ∧
  (∀ W, W = w.setCell ⟨w0.heap.size, c - 1, none⟩ (.int .u8 ((n : Int) % 128)) → (convert 89 9 (.slice (some ⟨w0.heap.size, 0, none⟩) c c)).run Tryz.prog W = .ok (.string (putS n)) W ∧ Below w0.heap.size w0 W) := by
 obtain ⟨s1, s2, s3, s4⟩ := h
 obtain ⟨k, rfl⟩ : ∃ k, c = k + 1 := ⟨c - 1, by omega⟩
 have hrow : rowC (k + 1) (dg n (k + 1)) = ((dg (n / 128) k).map fun x => Value.int .u8 (x.toNat : Int)).toArray ++ #[Value.int .u8 ((n : Int) % 128 + 128)] := by
  unfold rowC rowL
  rw [dg_length, dg_last]
  simp
  rw [show ((128 : Int) + (n : Int) % 128) % 256 = (n : Int) % 128 + 128 from by omega]
 rw [hrow] at s1
 have hl : (dg (n / 128) k).length = k := dg_length _ _
 refine ⟨?_, frozen_of_row w _ _ _ _ s1, cell_of_one s2, ?_⟩
 ·rw [cell_of_row w _ _ _ _ _ s1]; simp [hl]
 ·rintro W rfl
  refine ⟨?_, s4.setCell (by simp) _⟩
  have e0 : ∀ x : List UInt8, x = put n → (⟨x.toArray⟩ : ByteArray) = putS n := by rintro x rfl; rfl
  rw [← e0 _ (put_dg n k hc).symm]
  refine conv_row (k + 1) _ (by simp [hl]) ?_
  intro j hj
  have t1 := heap_setCell_same w _ (k + 1 - 1) _ _ (.int .u8 ((n : Int) % 128)) s1
  rw [cell_of_row _ _ j _ _ _ t1]
  have hj' : j < k + 1 := by simpa [hl] using hj
  by_cases hjk : j = k
  ·subst hjk
   simp [hl, Array.setIfInBounds]
   omega
  ·have hjk' : j < k := by omega
   simp [hl, Array.setIfInBounds]
   rw [List.getElem?_append_left (by simpa [hl] using hjk'), List.getElem?_append_left (by simpa [hl] using hjk')]
   simp [List.getElem?_eq_getElem (show j < (dg (n / 128) k).length by omega)]
set_option maxHeartbeats 1000000 in
theorem put_any (n : Nat) (w : World) (h : (n : Int) ≤ 18446744073709551615) :
  Calls Tryz.prog 124 #[.int .u64 n] w fun e w' => e = .returned (.string (putS n)) ∧ Below w.heap.size w w' := by
 have hlen := len_any n
 have hP := Lib.hid (put_le n h)
 have hQ := Lib.hid (put_length_pos n)
 obtain ⟨c, hc⟩ : ∃ c, c = (put n).length := ⟨_, rfl⟩
 rw [← hc] at hlen hP hQ
 have hc10 : c ≤ 10 := hP.out
 have hc1 : 1 ≤ c := hQ.out
 have HC := Lib.hid hc
 have HL := Lib.hid hlen
 have hmk := fun w => make_row w c hc10
 clear hlen hc hP hQ
 go_enter Tryz.func124, Tryz.ntmps124
 go_wp2_with (go_at_call 174; refine (HL.out _ h).mono ?_; rintro e w' ⟨L, rfl, hL2, hmx, rfl⟩)
 clear hmx hmk hL2
 go_loopw [19] (fun i wr => ∃ k : Nat, k ≤ c ∧ i = .int .i64 k ∧ Hid (St w.heap.size c w (n / 128 ^ k) (dg n k) wr)) (fun i _ => c - (intOf i).toNat)
 case atStart =>
  exact ⟨0, Nat.zero_le _, rfl, by simpa [dg] using Lib.hid (St_start w c n)⟩
 case round =>
  obtain ⟨k, hk, rfl, HR⟩ := hrel
  by_cases hlt : k < c
  ·have hcall : ∀ (p : Nat), (dg n k).length + 1 + p = c → _ := fun p hp => step_any w.heap.size c p (n / 128 ^ k) (dg n k) w wr HR.out hp hc10 (by have := Nat.div_le_self n (128 ^ k); omega)
   obtain ⟨p, hp⟩ : ∃ p, (c : Int) - 1 - k = (p : Nat) := ⟨c - 1 - k, by omega⟩
   have HC2 := Lib.hid (hcall p (by rw [dg_length]; omega))
   clear hcall
   go_wp2_with (go_at_call 175; go_must (refine (HC2.out).mono ?_); rintro e w' ⟨rfl, hs'⟩)
   go_roundw
   case rel => exact ⟨k + 1, by omega, by go_num, by
    rw [Nat.div_div_eq_div_mul, ← Nat.pow_succ] at hs'
    exact Lib.hid hs'⟩
   case measure => simp [intOf]; omega
  ·obtain rfl : k = c := by omega
   obtain ⟨z1, z2, z3, z4⟩ := St_end wr w k n HR.out hc1 HC.out
   have zi : ((k : Int) - 1) = ((k - 1 : Nat) : Int) := by omega
   have z4' := (z4 _ rfl).1
   have Z := Lib.hid (z4 _ rfl).2
   clear z4 HR
   go_wp2
   go_ret
   exact ⟨rfl, Z.out⟩
theorem putS_size (n : Nat) (h : (n : Int) ≤ 18446744073709551615) : (putS n).size ≤ 10 := by
 have := put_le n h
 simpa [putS, ByteArray.size] using this
theorem getA_bounds (s : ByteArray) (a : Int) {N P E : Nat} (h : getA s.data.toList a = (N, P, E)) : (N : Int) ≤ 18446744073709551615 ∧ P ≤ s.size := by
 unfold getA at h
 split at h
 ·simp at h; omega
 ·rename_i hc
  have h1 := look_lt (s.data.toList.drop a.toNat) true 0 a.toNat
  rw [h] at h1
  have h2 : s.data.toList.length = s.size := by simp
  rw [h2] at hc
  simp at h1
  omega
theorem get_at {s : ByteArray} {a : Int} {N P E : Nat} (w : World) (hs : s.size ≤ maxLen) (h : getA s.data.toList a = (N, P, E)) :
  Calls Tryz.prog 142 #[.string s, .int .i64 a] w fun e w' => e = .returned (.tuple #[.int .u64 N, .int .i64 P, .int .i64 E]) ∧ w = w' :=
 (get_any s a w hs).mono fun e w' ⟨he, hw⟩ => ⟨by rw [he]; simp [gN, gP, gE, h], hw⟩
end Go.Proofs.YtgeonppckeiceaaGreatDoor.Ms
