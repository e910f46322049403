/- The law VintBack returns true for every slice of numbers and every text, and its arguments read as they did. No conditions. -/
import Derived.Test.YtpgfgfbhbncabaaRows
import Derived.WalkKit
import Derived.ProofKit
import Derived.OpenShut
import Derived.ShutString
import Derived.ChangeOld
import Derived.Below
import Derived.Test.YtpgfgfbhbncabaaMathB
import Derived.Test.YtpgfgfbhbncabaaFixed
namespace Go.Proofs.Ytpgfgfbhbncabaa.vintBack
open Go.ChangeShapes Go.WideShapes Go.ChangeAt Go.RowKit
open Go.ChangeMaps (open_string shut_string)
set_option linter.unusedVariables false

theorem own : ownKnob Try.prog.godebug = none := by kernel_rfl
theorem laidOut : laidOutB Try.prog = true := by kernel_rfl

def IsRow (k : IntKind) (w : World) (a : Option Addr) (len cap : Nat) (zs : List Int) : Prop :=
  (a = none ∧ len = 0 ∧ cap = 0 ∧ zs = []) ∨
  ∃ x, a = some x ∧ len ≤ cap ∧ cap ≤ maxLen ∧ zs.length = cap ∧ (∀ i, i < zs.length → w.cell? (x.add i) = some (.int k (zs.getD i 0))) ∧ ∀ n ∈ zs, (Lit.int k n).wf = true

theorem text_is {s : ByteArray} {a m : Int} {X : ByteArray} {y z : Int} {x : List UInt8} {P E : Nat} (w : World) (hs : s.size ≤ 1000000) (hm1 : -9223372036854775808 ≤ m) (hm2 : m ≤ 9223372036854775807) (h : textA s.data.toList a m = (x, P, E)) (hx : (⟨x.toArray⟩ : ByteArray) = X) (hy : (P : Int) = y) (hz : (E : Int) = z) :
    Calls Try.prog 16 #[.string s, .int .i64 a, .int .i64 m] w fun e w' => e = .returned (.tuple #[.string X, .int .i64 y, .int .i64 z]) ∧ Below w.heap.size w w' := by
  subst hx hy hz
  exact (text_any s a m w hs hm1 hm2).mono fun e w' ⟨he, hw⟩ => ⟨by rw [he]; simp [tS, tP, tE, h], hw⟩
theorem slice_facts (A : ByteArray) : ∃ p : ByteArray, min (A.size : Int) 40 = p.size ∧ p.size ≤ A.size ∧ p.size ≤ 40 ∧ A.extract 0 p.size = p := by
  by_cases h : A.size ≤ 40
  · exact ⟨A, by omega, Nat.le_refl _, h, by simp⟩
  · have e : (A.extract 0 40).size = 40 := by simp only [ByteArray.size_extract]; omega
    exact ⟨A.extract 0 40, by omega, by omega, by omega, by rw [e]⟩

def accS (t : ByteArray) (ns : Nat → Nat) : Nat → ByteArray
  | 0 => t
  | i + 1 => accS t ns i ++ putS (ns i) ++ ptS t
theorem ptS_size (t : ByteArray) (h : t.size ≤ 40) : (ptS t).size ≤ 50 := by
  have := putS_size t.size (by omega)
  simp only [ptS, ByteArray.size_append]; omega
theorem accS_next (t : ByteArray) (ns : Nat → Nat) (i : Nat) : (accS t ns (i + 1)).size = (accS t ns i).size + (putS (ns i)).size + (ptS t).size := by
  rw [accS, ByteArray.size_append, ByteArray.size_append]
theorem accS_le (t : ByteArray) (ns : Nat → Nat) (hn : ∀ i, (ns i : Int) ≤ 18446744073709551615) (ht : t.size ≤ 40) : ∀ i, (accS t ns i).size ≤ 40 + 60 * i := by
  intro i
  induction i with
  | zero => exact ht
  | succ i ih =>
    have h1 := putS_size (ns i) (hn i)
    have h2 := ptS_size t ht
    rw [accS_next]; omega
theorem accS_size (t : ByteArray) (ns : Nat → Nat) (hn : ∀ i, (ns i : Int) ≤ 18446744073709551615) (ht : t.size ≤ 40) (i : Nat) (hi : i ≤ 10) : (accS t ns i).size ≤ 1000 := by
  have := accS_le t ns hn ht i
  omega
theorem app_list (a b : ByteArray) : (a ++ b).data.toList = a.data.toList ++ b.data.toList := by
  simp [ByteArray.data_append]
theorem putS_list (n : Nat) : (putS n).data.toList = put n := by simp [putS]
theorem ptS_list (t : ByteArray) : (ptS t).data.toList = put t.size ++ t.data.toList := by rw [ptS, app_list, putS_list]
theorem len_list (t : ByteArray) : t.data.toList.length = t.size := by simp
theorem putS_len (n : Nat) : (putS n).size = (put n).length := by show (put n).toArray.size = _; simp
theorem accS_split (t : ByteArray) (ns : Nat → Nat) (i : Nat) : ∀ m, i < m → ∃ r, (accS t ns m).data.toList = (accS t ns i).data.toList ++ (put (ns i) ++ (put t.data.toList.length ++ (t.data.toList ++ r))) := by
  intro m
  induction m with
  | zero => intro h; omega
  | succ m ih =>
    intro h
    have e : (accS t ns (m + 1)).data.toList = (accS t ns m).data.toList ++ (put (ns m) ++ (put t.data.toList.length ++ (t.data.toList ++ []))) := by
      rw [accS, app_list, app_list, putS_list, ptS_list, len_list]; simp
    by_cases hm : i = m
    · subst hm; exact ⟨[], e⟩
    · obtain ⟨r, hr⟩ := ih (by omega)
      rw [e, hr]
      exact ⟨r ++ (put (ns m) ++ (put t.data.toList.length ++ (t.data.toList ++ []))), by simp⟩
theorem back_get (t : ByteArray) (ns : Nat → Nat) (i m : Nat) (h : i < m) (hn : (ns i : Int) ≤ 18446744073709551615) :
    getA (accS t ns m).data.toList ((accS t ns i).size : Int) = (ns i, (accS t ns i).size + (putS (ns i)).size, 0) := by
  obtain ⟨r, hr⟩ := accS_split t ns i m h
  have := getA_at (accS t ns i).data.toList (put t.data.toList.length ++ (t.data.toList ++ r)) (ns i) (by omega)
  rw [← hr, len_list] at this
  rw [this, putS_len]
theorem back_text (t : ByteArray) (ns : Nat → Nat) (i m : Nat) (h : i < m) (ht : t.size ≤ 40) :
    textA (accS t ns m).data.toList (((accS t ns i).size : Int) + ((putS (ns i)).size : Int)) 40 = (t.data.toList, (accS t ns i).size + (putS (ns i)).size + (ptS t).size, 0) := by
  obtain ⟨r, hr⟩ := accS_split t ns i m h
  have := textA_at ((accS t ns i).data.toList ++ put (ns i)) t.data.toList r 40 (by rw [len_list]; omega) (by rw [len_list]; omega)
  rw [List.append_assoc, ← hr, List.length_append, len_list, len_list, ← putS_len] at this
  have e : ((accS t ns i).size : Int) + ((putS (ns i)).size : Int) = (((accS t ns i).size + (putS (ns i)).size : Nat) : Int) := by omega
  rw [e, this]
  have e2 : (ptS t).size = (put t.size).length + t.size := by rw [ptS, ByteArray.size_append, putS_len]
  rw [e2, Nat.add_assoc ((accS t ns i).size + (putS (ns i)).size)]
theorem cast3 (a b c : Nat) : ((a + b + c : Nat) : Int) = (a : Int) + (b : Int) + (c : Int) := by omega

set_option maxHeartbeats 2000000 in
set_option maxRecDepth 100000 in
theorem walk_few (b off len cap m : Nat) (ns : Nat → Nat) (T t : ByteArray) (w : World) (hT : T.size ≤ maxLen) (m0 : min (T.size : Int) 40 = t.size) (u0 : t.size ≤ T.size) (v0 : t.size ≤ 40) (x0 : T.extract 0 t.size = t)
    (hlc : len ≤ cap) (hcm : cap ≤ maxLen) (hns : Hid (∀ i, (ns i : Int) ≤ 18446744073709551615)) (hcell : Hid (∀ i, i < len → w.cell? ⟨b, off + i, none⟩ = some (.int .u64 (ns i)))) (hb : Hid (0 < len → b < w.heap.size)) (hm : len = m) (hm10 : m ≤ 10) :
    Calls Try.prog 5 #[.slice (some ⟨b, off, none⟩) len cap, .string T] w fun e w' => e = .returned (.bool true) ∧ Below w.heap.size w w' := by
  unfold maxLen at hT hcm
  subst hm
  have mm := hm10
  have hp0 := ptS_size t (by omega)
  go_enter Try.func5, Try.ntmps5
  go_wp2
  go_loopw [5, 6] (fun s i wr => ∃ k : Nat, k ≤ len ∧ i = .int .i64 k ∧ s = .string (accS t ns k) ∧ Hid (Below w.heap.size w wr)) (fun _ i _ => len - (intOf i).toNat)
  case atStart => exact ⟨0, Nat.zero_le _, rfl, rfl, Below.refl _ _⟩
  case round =>
    obtain ⟨k, hk, rfl, rfl, HB⟩ := hrel
    by_cases hlt : k < len
    · have hc1 := HB.out.cell (p := ⟨b, off + k, none⟩) (hb.out (by omega))
      rw [hcell.out k (by omega)] at hc1
      have hs1 := accS_size t ns hns.out v0 k (by omega)
      have hs2 := putS_size (ns k) (hns.out k)
      have hnk := hns.out k
      have hk1 : k < len := hlt
      have hk2 : (k : Int) < 10 := by omega
      go_wp2_with fail
      refine (put_is _ rfl hnk rfl).mono ?_
      rintro e w1 ⟨rfl, hb1⟩
      have HB1 := Lib.hid (HB.out.trans (hb1.mono HB.out.size))
      clear hb1 hc1
      go_wp2_with fail
      refine (putText_any _ _ (by omega)).mono ?_
      rintro e w2 ⟨rfl, hb2⟩
      have HB2 := Lib.hid (HB1.out.trans (hb2.mono HB1.out.size))
      clear hb2
      go_wp2_with fail
      go_roundw
      case rel => exact ⟨k + 1, by omega, by go_num, rfl, HB2⟩
      case measure => simp [intOf]; omega
    · have hlt' := Lib.hid hlt
      clear hlt
      obtain rfl : k = len := by have := hlt'.out; omega
      have hk1 : ¬ k < k := by omega
      have hs0 := accS_size t ns hns.out v0 k (by omega)
      go_wp2
      go_loopw [7, 8] (fun a i wr => ∃ j : Nat, j ≤ k ∧ i = .int .i64 j ∧ a = .int .i64 ((accS t ns j).size : Nat) ∧ Hid (Below w.heap.size w wr)) (fun _ i _ => k - (intOf i).toNat)
      case atStart => exact ⟨0, Nat.zero_le _, rfl, rfl, HB⟩
      case round =>
        obtain ⟨j, hj, rfl, rfl, HD⟩ := hrel
        clear HB
        by_cases hjt : j < k
        · have hc1 := HD.out.cell (p := ⟨b, off + j, none⟩) (hb.out (by omega))
          rw [hcell.out j (by omega)] at hc1
          have hs1 := accS_size t ns hns.out v0 j (by omega)
          have hs2 := putS_size (ns j) (hns.out j)
          have hnk := hns.out j
          have HG := Lib.hid (back_get t ns j k hjt (hns.out j))
          have HT := Lib.hid (back_text t ns j k hjt v0)
          have hk1' : j < k := hjt
          have hk2 : (j : Int) < 10 := by omega
          go_wp2_with fail
          refine (get_is _ (by omega) HG.out rfl (Int.natCast_add _ _) rfl).mono ?_
          rintro e w' ⟨rfl, rfl⟩
          go_wp2_with fail
          refine (text_is _ (by omega) (by decide) (by decide) HT.out rfl (cast3 _ _ _) rfl).mono ?_
          rintro e w1 ⟨rfl, hb1⟩
          have HD1 := Lib.hid (HD.out.trans (hb1.mono HD.out.size))
          have hc2 := HD1.out.cell (p := ⟨b, off + j, none⟩) (hb.out (by omega))
          rw [hcell.out j (by omega)] at hc2
          clear hb1 hc1
          go_wp2_with fail
          refine (put_is _ rfl hnk rfl).mono ?_
          rintro e w2 ⟨rfl, hb2⟩
          have HD2 := Lib.hid (HD1.out.trans (hb2.mono HD1.out.size))
          clear hb2 hc2
          go_wp2_with fail
          refine (putText_any _ _ (by omega)).mono ?_
          rintro e w3 ⟨rfl, hb3⟩
          have HD3 := Lib.hid (HD2.out.trans (hb3.mono HD2.out.size))
          clear hb3
          go_wp2_with fail
          go_roundw
          case rel => exact ⟨j + 1, by omega, by go_num, by rw [accS_next]; go_num, HD3⟩
          case measure => simp [intOf]; omega
        · have hjt' := Lib.hid hjt
          clear hjt
          obtain rfl : j = k := by have := hjt'.out; omega
          go_wp2_with fail
          refine (fixed_any _).mono ?_
          rintro e w1 ⟨rfl, hb1⟩
          have hb4 := HD.out.trans (hb1.mono HD.out.size)
          clear hb1
          go_wp2
          go_ret
          exact ⟨rfl, hb4⟩

set_option maxHeartbeats 2000000 in
set_option maxRecDepth 100000 in
theorem walk_many (b off len cap m : Nat) (ns : Nat → Nat) (T t : ByteArray) (w : World) (hT : T.size ≤ maxLen) (m0 : min (T.size : Int) 40 = t.size) (u0 : t.size ≤ T.size) (v0 : t.size ≤ 40) (x0 : T.extract 0 t.size = t)
    (hlc : len ≤ cap) (hcm : cap ≤ maxLen) (hns : Hid (∀ i, (ns i : Int) ≤ 18446744073709551615)) (hcell : Hid (∀ i, i < len → w.cell? ⟨b, off + i, none⟩ = some (.int .u64 (ns i)))) (hb : Hid (0 < len → b < w.heap.size)) (hm : 10 < len) (hm10 : m = 10) :
    Calls Try.prog 5 #[.slice (some ⟨b, off, none⟩) len cap, .string T] w fun e w' => e = .returned (.bool true) ∧ Below w.heap.size w w' := by
  unfold maxLen at hT hcm
  have hA : m ≤ 10 := by omega
  have hB : 10 ≤ m := by omega
  have hL : m < len := by omega
  clear hm10 hm
  have hp0 := ptS_size t (by omega)
  go_enter Try.func5, Try.ntmps5
  go_wp2
  go_loopw [5, 6] (fun s i wr => ∃ k : Nat, k ≤ m ∧ i = .int .i64 k ∧ s = .string (accS t ns k) ∧ Hid (Below w.heap.size w wr)) (fun _ i _ => m - (intOf i).toNat)
  case atStart => exact ⟨0, Nat.zero_le _, rfl, rfl, Below.refl _ _⟩
  case round =>
    obtain ⟨k, hk, rfl, rfl, HB⟩ := hrel
    by_cases hlt : k < m
    · have hc1 := HB.out.cell (p := ⟨b, off + k, none⟩) (hb.out (by omega))
      rw [hcell.out k (by omega)] at hc1
      have hs1 := accS_size t ns hns.out v0 k (by omega)
      have hs2 := putS_size (ns k) (hns.out k)
      have hnk := hns.out k
      have hk1 : k < len := by omega
      have hk2 : (k : Int) < 10 := by omega
      go_wp2_with fail
      refine (put_is _ rfl hnk rfl).mono ?_
      rintro e w1 ⟨rfl, hb1⟩
      have HB1 := Lib.hid (HB.out.trans (hb1.mono HB.out.size))
      clear hb1 hc1
      go_wp2_with fail
      refine (putText_any _ _ (by omega)).mono ?_
      rintro e w2 ⟨rfl, hb2⟩
      have HB2 := Lib.hid (HB1.out.trans (hb2.mono HB1.out.size))
      clear hb2
      go_wp2_with fail
      go_roundw
      case rel => exact ⟨k + 1, by omega, by go_num, rfl, HB2⟩
      case measure => simp [intOf]; omega
    · have hlt' := Lib.hid hlt
      clear hlt
      obtain rfl : k = m := by have := hlt'.out; omega
      have hk1 : k < len := hL
      have hk2 : decide ((k : Int) < 10) = false := by simp; omega
      have hs0 := accS_size t ns hns.out v0 k (by omega)
      go_wp2
      go_loopw [7, 8] (fun a i wr => ∃ j : Nat, j ≤ k ∧ i = .int .i64 j ∧ a = .int .i64 ((accS t ns j).size : Nat) ∧ Hid (Below w.heap.size w wr)) (fun _ i _ => k - (intOf i).toNat)
      case atStart => exact ⟨0, Nat.zero_le _, rfl, rfl, HB⟩
      case round =>
        obtain ⟨j, hj, rfl, rfl, HD⟩ := hrel
        clear HB
        by_cases hjt : j < k
        · have hc1 := HD.out.cell (p := ⟨b, off + j, none⟩) (hb.out (by omega))
          rw [hcell.out j (by omega)] at hc1
          have hs1 := accS_size t ns hns.out v0 j (by omega)
          have hs2 := putS_size (ns j) (hns.out j)
          have hnk := hns.out j
          have HG := Lib.hid (back_get t ns j k hjt (hns.out j))
          have HT := Lib.hid (back_text t ns j k hjt v0)
          have hk1' : j < len := by omega
          have hk2 : (j : Int) < 10 := by omega
          go_wp2_with fail
          refine (get_is _ (by omega) HG.out rfl (Int.natCast_add _ _) rfl).mono ?_
          rintro e w' ⟨rfl, rfl⟩
          go_wp2_with fail
          refine (text_is _ (by omega) (by decide) (by decide) HT.out rfl (cast3 _ _ _) rfl).mono ?_
          rintro e w1 ⟨rfl, hb1⟩
          have HD1 := Lib.hid (HD.out.trans (hb1.mono HD.out.size))
          have hc2 := HD1.out.cell (p := ⟨b, off + j, none⟩) (hb.out (by omega))
          rw [hcell.out j (by omega)] at hc2
          clear hb1 hc1
          go_wp2_with fail
          refine (put_is _ rfl hnk rfl).mono ?_
          rintro e w2 ⟨rfl, hb2⟩
          have HD2 := Lib.hid (HD1.out.trans (hb2.mono HD1.out.size))
          clear hb2 hc2
          go_wp2_with fail
          refine (putText_any _ _ (by omega)).mono ?_
          rintro e w3 ⟨rfl, hb3⟩
          have HD3 := Lib.hid (HD2.out.trans (hb3.mono HD2.out.size))
          clear hb3
          go_wp2_with fail
          go_roundw
          case rel => exact ⟨j + 1, by omega, by go_num, by rw [accS_next]; go_num, HD3⟩
          case measure => simp [intOf]; omega
        · have hjt' := Lib.hid hjt
          clear hjt
          obtain rfl : j = k := by have := hjt'.out; omega
          go_wp2_with fail
          refine (fixed_any _).mono ?_
          rintro e w1 ⟨rfl, hb1⟩
          have hb4 := HD.out.trans (hb1.mono HD.out.size)
          clear hb1
          go_wp2
          go_ret
          exact ⟨rfl, hb4⟩

set_option maxHeartbeats 1000000 in
set_option maxRecDepth 100000 in
theorem walk_nil (a : Option Addr) (cap : Nat) (T t : ByteArray) (w : World) (hT : T.size ≤ maxLen) (m0 : min (T.size : Int) 40 = t.size) (u0 : t.size ≤ T.size) (v0 : t.size ≤ 40) (x0 : T.extract 0 t.size = t) :
    Calls Try.prog 5 #[.slice a 0 cap, .string T] w fun e w' => e = .returned (.bool true) ∧ Below w.heap.size w w' := by
  unfold maxLen at hT
  go_enter Try.func5, Try.ntmps5
  go_wp2
  go_loopw [5, 6] (fun s i wr => i = .int .i64 0 ∧ s = .string t ∧ Hid (wr = w)) (fun _ _ _ => 0)
  case atStart => exact ⟨rfl, rfl, rfl⟩
  case round =>
    obtain ⟨rfl, rfl, HW⟩ := hrel
    go_wp2
    go_loopw [7, 8] (fun a i wr => i = .int .i64 0 ∧ a = .int .i64 t.size ∧ Hid (wr = w)) (fun _ _ _ => 0)
    case atStart => exact ⟨rfl, rfl, HW⟩
    case round =>
      obtain ⟨rfl, rfl, HX⟩ := hrel
      go_wp2_with fail
      refine (fixed_any _).mono ?_
      rintro e w1 ⟨rfl, hb1⟩
      have H1 := Lib.hid hb1
      clear hb1
      go_wp2
      go_ret
      refine ⟨rfl, ?_⟩
      have hb1 := H1.out
      rw [HX.out] at hb1
      exact hb1

set_option maxHeartbeats 2000000 in
theorem walk (a0 : Option Addr) (len0 cap0 : Nat) (z0 : List Int) (a1 : ByteArray) (w : World) (w0 : IsRow .u64 w a0 len0 cap0 z0) (w1 : a1.size ≤ maxLen) :
    Calls Try.prog 5 #[.slice a0 len0 cap0, .string a1] w fun e w' => e = .returned (.bool true) ∧ Below w.heap.size w w' := by
  obtain ⟨t, m0, u0, v0, x0⟩ := slice_facts a1
  rcases w0 with ⟨rfl, rfl, rfl, rfl⟩ | ⟨x, rfl, hl, hcm, hz, hcell, hwz⟩
  · exact walk_nil none 0 a1 t w w1 m0 u0 v0 x0
  · by_cases h0 : len0 = 0
    · subst h0
      exact walk_nil (some x) cap0 a1 t w w1 m0 u0 v0 x0
    · obtain ⟨b, off, spot⟩ := x
      have hc := hcell 0 (by omega)
      have hspot : spot = none := by simpa [Addr.add] using World.cell?_spot hc
      subst hspot
      have hadd : ∀ i, (⟨b, off, none⟩ : Addr).add i = ⟨b, off + i, none⟩ := by
        intro i
        unfold Addr.add
        split
        · rename_i h; subst h; rfl
        · rfl
      have hns : Hid (∀ i, (((fun i => (z0.getD i 0).toNat) i : Nat) : Int) ≤ 18446744073709551615) := Lib.hid (fun i => by
        have := range_u64 hwz i
        simp only [List.getD_eq_getElem?_getD]
        omega)
      have hcl : Hid (∀ i, i < len0 → w.cell? ⟨b, off + i, none⟩ = some (.int .u64 (((fun i => (z0.getD i 0).toNat) i : Nat) : Int))) := Lib.hid (fun i hi => by
        have h1 := hcell i (by omega)
        have h2 := range_u64 hwz i
        rw [hadd] at h1
        rw [h1]
        simp only [List.getD_eq_getElem?_getD]
        rw [Int.toNat_of_nonneg h2.1])
      have hb : Hid (0 < len0 → b < w.heap.size) := Lib.hid (fun _ => by rw [hadd] at hc; exact block_lt_of_cell hc)
      by_cases h10 : len0 ≤ 10
      · exact walk_few b off len0 cap0 len0 _ a1 t w w1 m0 u0 v0 x0 hl hcm hns hcl hb rfl h10
      · exact walk_many b off len0 cap0 10 _ a1 t w w1 m0 u0 v0 x0 hl hcm hns hcl hb (by omega) rfl

set_option maxRecDepth 100000 in
theorem lifted (os : Os) (started : os.Started) (H : Type) (enc : TypeId × Value → H) :
    ReturnsInHanded {} Try.checked os 5 .any (Rows.vintBackSpec.pre6 enc Try.prog Try.f5 Rows.vintBackRow.domain false) (Rows.vintBackSpec.post enc Try.prog Try.f5 false true false false) := by
  refine returnsInHanded_of_change (C := Try.checked) own started (by kernel_rfl) Try.func5
    (ChangeSpec.witness6 (enc := enc) (C := Try.checked) false ⟨#[], #[.slice none 0 0, .string ByteArray.empty], []⟩ 8 (by kernel_rfl) (by kernel_rfl) (by kernel_rfl) (by kernel_rfl)) ?_
  intro W base args ds gs before hval0 hW hcnd _
  have hval : ∀ (j : Nat) t v, Try.f5.params[j]? = some t → args[j]? = some v → Value.okWide Try.prog W .any base t v := hval0
  have hW' := hW
  obtain ⟨p, q, hA0, hV, rfl, hfz, hnd⟩ := hW
  have hA : DataW.TrodAll enc Try.prog W 0 (fun _ => true) true Try.f5.params.toList args.toList ds p := hA0
  rw [Try.params5] at hA hval
  obtain ⟨v0, vs0, d0, ds0, p0, q0, hargs, rfl, rfl, h0, r0⟩ := trodAll_cons hA
  obtain ⟨v1, vs1, d1, ds1, p1, q1, rfl, rfl, rfl, h1, r1⟩ := trodAll_cons r0
  obtain ⟨rfl, rfl, rfl⟩ := trodAll_nil r1
  obtain rfl : args = #[v0, v1] := by cases args; simp_all
  obtain ⟨rfl, rfl⟩ := trodVars_none hV
  obtain ⟨a0, len0, cap0, rfl⟩ := okWide_slice Try.underlying33 (hval 0 33 v0 rfl rfl)
  have k0 := h0
  have lt0 : ∀ x ∈ p0, x.block < W.heap.size := by obtain ⟨m, hm⟩ := k0; exact DataW.trod_lt m _ _ _ hm
  obtain ⟨z0, w0⟩ : ∃ zs, IsRow .u64 W a0 len0 cap0 zs := by
    obtain ⟨fuel, hf⟩ := h0
    rcases open_ints Try.underlying33 Try.underlying22 (by kernel_rfl) hf with ⟨hcs, _⟩ | ⟨x, l, c, zs, hcs, _, hl, hm, hz, _, hcell, hwz⟩
    · simp [Value.cells] at hcs
      obtain ⟨rfl, rfl, rfl⟩ := hcs
      exact ⟨[], .inl ⟨rfl, rfl, rfl, rfl⟩⟩
    · simp [Value.cells] at hcs
      obtain ⟨rfl, rfl, rfl⟩ := hcs
      exact ⟨zs, .inr ⟨_, rfl, hl, hm, by simpa using hz, hcell, hwz⟩⟩
  obtain ⟨a1, rfl, rfl, rfl, w1⟩ := open_string Try.underlying9 (hval 1 9 v1 rfl rfl) h1
  clear hA0 hval0
  refine (walk a0 len0 cap0 z0 a1 W w0 w1).mono fun e W' ⟨he, bel⟩ => ?_
  subst he
  exact ⟨_, rfl, _, _, _, [], _, [], hW', trodAll_mk1 (shut_bool Try.underlying4 _), (trodAll_cons_mk (Below.trod laidOut (by kernel_rfl) (of_decide_eq_true (by kernel_rfl)) k0 bel lt0) (trodAll_cons_mk (shut_string Try.underlying9 w1) trodAll_mk0)), rfl, bel.frame _, fun h => by cases h⟩

theorem over : Rows.vintBackRow.holds Try.pinned (OpenSpec.ofChange Rows.vintBackSpec) :=
  OpenClaim.holds_of_wide 5 Try.f5 rfl rfl rfl rfl rfl rfl rfl ⟨rfl, rfl, rfl, rfl, rfl⟩ rfl rfl rfl rfl rfl (by kernel_rfl) Try.func5 (by kernel_rfl)
    (of_decide_eq_true (by kernel_rfl)) (by unfold Func.isWrapper; first | (rw [if_pos (by decide +kernel)]; kernel_rfl) | (rw [if_neg (by decide +kernel)]; exact ⟨rfl, rfl⟩))
    (fun os started H enc _ => lifted os started H enc)

theorem proved : Rows.VintBackSaid := over
#print axioms proved
end Go.Proofs.Ytpgfgfbhbncabaa.vintBack
