/- Chains where there is room: what is named. No program is named here. Chains: rows that the law appends to, as blocks that stay; whether a row has a name. -/
import Derived.Test.YtlnpfeecaiecaaaChnP
import Derived.Test.YtlnpfeecaiecaaaKdfC
import Derived.Test.YtlnpfeecaiecaaaChnX
namespace Go.Proofs.Ytlnpfeecaiecaaa
open Go.RowKit
set_option linter.unusedVariables false
set_option linter.unusedSimpArgs false
set_option maxRecDepth 20000
/-- So many epochs from the chain's key k on: the key behind them, and the keys of those that are skipped, all of them there. -/
def ChnR (L : List Tm) : Nat → Int → Int → List Int → Prop
  | 0, k, k', ks => k' = k ∧ ks = []
  | t + 1, k, k', ks => ∃ a y ks', ks = a :: ks' ∧ Named L a (keyT k 1) ∧ Named L y (keyT k 2) ∧ ChnR L t y k' ks'
theorem ChnR.ext {L L' : List Tm} (x : Ext L L') : ∀ {t : Nat} {k k' : Int} {ks : List Int}, ChnR L t k k' ks → ChnR L' t k k' ks
  | 0, _, _, _, h => h
  | t + 1, _, _, _, ⟨a, y, ks', h1, h2, h3, h4⟩ => ⟨a, y, ks', h1, h2.ext x, h3.ext x, ChnR.ext x h4⟩
theorem ChnR.len {L : List Tm} : ∀ {t : Nat} {k k' : Int} {ks : List Int}, ChnR L t k k' ks → ks.length = t
  | 0, _, _, _, ⟨_, h⟩ => by rw [h]; rfl
  | t + 1, _, _, _, ⟨a, y, ks', h1, _, _, h4⟩ => by rw [h1, List.length_cons, ChnR.len h4]
theorem ChnR.in {L : List Tm} : ∀ {t : Nat} {k k' : Int} {ks : List Int}, (1 ≤ k ∧ k ≤ (L.length : Int)) → ChnR L t k k' ks → 1 ≤ k' ∧ k' ≤ (L.length : Int)
  | 0, _, _, _, hk, ⟨h, _⟩ => by rw [h]; exact hk
  | t + 1, _, _, _, hk, ⟨a, y, ks', h1, h2, h3, h4⟩ => ChnR.in h3.in h4
theorem badE_ok {e : Int} (h : 0 ≤ e) (k : e ≤ 999) : badE e = false := by simp [badE]; omega
/-- There is room for all. -/
theorem to_room {most : Int} : ∀ (t : Nat) {L : List Tm} {k ep : Int} (acc : List Int), Fit L → (1 ≤ k ∧ k ≤ (L.length : Int)) → (L.length : Int) + 2 * t ≤ most → 0 ≤ ep → ep + t ≤ 1000 →
    ∃ k' ks L', toA most t L ⟨k, ep⟩ acc = (⟨k', ep + t⟩, acc ++ ks, 0, L') ∧ ChnR L' t k k' ks ∧ Ext L L' ∧ L'.length ≤ L.length + 2 * t ∧ Fit L'
  | 0, L, k, ep, acc, hf, hk, hr, h0, h1 => ⟨k, [], L, by rw [to_zero]; simp, ⟨rfl, rfl⟩, Ext.refl L, by omega, hf⟩
  | t + 1, L, k, ep, acc, hf, hk, hr, h0, h1 => by
    obtain ⟨a, L1, e1, n1, x1, l1, f1⟩ := key_step (most := most) 1 hf hk (by omega)
    obtain ⟨y, L2, e2, n2, x2, l2, f2⟩ := key_step (most := most) 2 f1 (x1.in hk) (by omega)
    obtain ⟨k', ks, L3, e3, n3, x3, l3, f3⟩ := to_room (most := most) t (ep := ep + 1) (acc ++ [a]) f2 n2.in (by omega) (by omega) (by push_cast at h1; omega)
    refine ⟨k', a :: ks, L3, ?_, ⟨a, y, ks, rfl, n1.ext (x2.trans x3), n2.ext x3, n3⟩, x1.trans (x2.trans x3), by omega, f3⟩
    rw [to_on (c := ⟨k, ep⟩) e1 (next_yes (c := ⟨k, ep⟩) (badE_ok h0 (by push_cast at h1; show ep ≤ 999; omega)) e2), e3]
    simp only [List.append_assoc, List.singleton_append]
    rw [show ep + 1 + (t : Int) = ep + ((t + 1 : Nat) : Int) by push_cast; omega]
theorem key_again {L : List Tm} {a k n most : Int} (h : Named L a (keyT k n)) (hk : 1 ≤ k ∧ k ≤ (L.length : Int)) : putF L most (keyT k n) = (a, 0, L) := put_old h (may_key hk)
/-- All is there already: nothing is put, and the same is told. -/
theorem to_again {most : Int} {L : List Tm} : ∀ {t : Nat} {k k' ep : Int} {ks : List Int} (acc : List Int), ChnR L t k k' ks → (1 ≤ k ∧ k ≤ (L.length : Int)) → 0 ≤ ep → ep + t ≤ 1000 →
    toA most t L ⟨k, ep⟩ acc = (⟨k', ep + t⟩, acc ++ ks, 0, L)
  | 0, k, k', ep, ks, acc, ⟨h, h2⟩, hk, h0, h1 => by rw [to_zero, h, h2]; simp
  | t + 1, k, k', ep, ks, acc, ⟨a, y, ks', h1, h2, h3, h4⟩, hk, h0, hl => by
    rw [to_on (c := ⟨k, ep⟩) (key_again h2 hk) (next_yes (c := ⟨k, ep⟩) (badE_ok h0 (by push_cast at hl; show ep ≤ 999; omega)) (key_again h3 hk)), to_again (ep := ep + 1) (acc ++ [a]) h4 h3.in (by omega) (by push_cast at hl; omega), h1]
    simp only [List.append_assoc, List.singleton_append]
    rw [show ep + 1 + (t : Int) = ep + ((t + 1 : Nat) : Int) by push_cast; omega]
theorem key_ne {L : List Tm} {a b k m : Int} (h : Named L a (keyT k 1)) (g : Named L b (keyT m 2)) : a ≠ b := fun e => by
  subst e
  have := (h.inj g).1 rfl
  unfold keyT at this
  injection this with _ _ h2
  omega
/-- Each epoch's chain's key lies behind the one ahead of it, and each has a key of its own. -/
theorem ChnR.low {L : List Tm} (hf : Fit L) : ∀ {t : Nat} {k k' : Int} {ks : List Int}, ChnR L t k k' ks → ∀ x, x ∈ ks → ∃ m, k ≤ m ∧ Named L x (keyT m 1)
  | 0, _, _, _, ⟨_, h⟩, x, hx => by rw [h] at hx; cases hx
  | t + 1, k, k', _, ⟨a, y, ks', h1, h2, h3, h4⟩, x, hx => by
    rw [h1] at hx
    rcases List.mem_cons.1 hx with e | e
    · rw [e]; exact ⟨k, by omega, h2⟩
    · obtain ⟨m, h5, h6⟩ := ChnR.low hf h4 x e
      have := h3.key_lt hf
      exact ⟨m, by omega, h6⟩
theorem ChnR.uniq {L : List Tm} (hf : Fit L) : ∀ {t : Nat} {k k' : Int} {ks : List Int}, ChnR L t k k' ks → ks.Nodup
  | 0, _, _, _, ⟨_, h⟩ => by rw [h]; exact List.nodup_nil
  | t + 1, k, k', _, ⟨a, y, ks', h1, h2, h3, h4⟩ => by
    rw [h1, List.nodup_cons]
    refine ⟨fun hm => ?_, ChnR.uniq hf h4⟩
    obtain ⟨m, h5, h6⟩ := ChnR.low hf h4 a hm
    have h7 := (h2.inj h6).1 rfl
    rw [key_eq] at h7
    have := h3.key_lt hf
    omega
/-- One epoch: its key, and the chain behind it. -/
theorem ChnR.at {L : List Tm} : ∀ {t : Nat} {k k' : Int} {ks : List Int} (i : Nat), i < t → ChnR L t k k' ks → ∃ m y, ChnR L i k m (ks.take i) ∧ Named L (ks.getD i 0) (keyT m 1) ∧ Named L y (keyT m 2) ∧ ChnR L (i + 1) k y (ks.take (i + 1)) ∧ ChnR L (t - (i + 1)) y k' (ks.drop (i + 1))
  | 0, _, _, _, i, hi, _ => absurd hi (Nat.not_lt_zero _)
  | t + 1, k, k', ks, 0, hi, ⟨a, y, ks', h1, h2, h3, h4⟩ => by
    subst h1
    refine ⟨k, y, ⟨rfl, rfl⟩, h2, h3, ⟨a, y, [], rfl, h2, h3, rfl, rfl⟩, ?_⟩
    simpa using h4
  | t + 1, k, k', ks, i + 1, hi, ⟨a, y, ks', h1, h2, h3, h4⟩ => by
    subst h1
    obtain ⟨m, z, g1, g2, g3, g4, g5⟩ := ChnR.at i (by omega) h4
    refine ⟨m, z, ⟨a, y, _, rfl, h2, h3, g1⟩, by simpa using g2, g3, ⟨a, y, _, rfl, h2, h3, g4⟩, ?_⟩
    simpa [Nat.add_sub_add_right] using g5
theorem ChnR.fun {L : List Tm} : ∀ {t : Nat} {k a b : Int} {ks ms : List Int}, ChnR L t k a ks → ChnR L t k b ms → a = b ∧ ks = ms
  | 0, _, _, _, _, _, ⟨h1, h2⟩, ⟨g1, g2⟩ => ⟨by rw [h1, g1], by rw [h2, g2]⟩
  | t + 1, _, _, _, _, _, ⟨a, y, ks', h1, h2, h3, h4⟩, ⟨b, z, ms', g1, g2, g3, g4⟩ => by
    obtain rfl : a = b := (h2.inj g2).2 rfl
    obtain rfl : y = z := (h3.inj g3).2 rfl
    obtain ⟨e1, e2⟩ := ChnR.fun h4 g4
    exact ⟨e1, by rw [h1, g1, e2]⟩
end Go.Proofs.Ytlnpfeecaiecaaa

namespace Go.Proofs.Ytlnpfeecaiecaaa
open Go.RowKit
set_option linter.unusedVariables false
set_option linter.unusedSimpArgs false
set_option maxRecDepth 20000
set_option maxHeartbeats 1000000 in
theorem has_k (a : Option Addr) (cap n : Nat) (ks : List Int) (x : Int) (hn : ks.length = n) (w : World) (h : IntsAt w a cap ks) :
    Calls Try.prog 24 #[.slice a n cap, .int .i64 x] w fun e w' => e = .returned (.bool (decide (x ∈ ks))) ∧ Below w.heap.size w w' := by
  have hl := h.len
  rw [hn] at hl
  obtain ⟨_, _, b, off, hc⟩ := h
  have HC := Lib.hid hc
  have HN := Lib.hid hn
  clear hc hn
  go_enter Try.func24, Try.ntmps24
  go_wp2_with fail
  go_loopw [5] (fun i wr => ∃ k : Nat, k ≤ n ∧ i = .int .i64 k ∧ Hid (x ∉ ks.take k) ∧ wr = w) (fun i _ => n - (intOf i).toNat)
  case atStart => exact ⟨0, Nat.zero_le _, rfl, Lib.hid (by simp), rfl⟩
  case round =>
    obtain ⟨k, hk, rfl, HX, hw⟩ := hrel
    subst hw
    by_cases hlt : k < n
    · obtain ⟨rfl, q0⟩ := HC.out k (by rw [HN.out]; exact hlt)
      have hlt1 : (k : Int) < (n : Int) := by omega
      have hk0 : (0 : Int) ≤ (k : Int) := by omega
      obtain ⟨z, hz⟩ : ∃ z, ks.getD k 0 = z := ⟨_, rfl⟩
      have HZ := Lib.hid hz
      rw [hz] at q0
      have HK := Lib.hid hlt
      have htk := take_getD (ks := ks) (k := k) (by rw [HN.out]; exact hlt)
      have HTK := Lib.hid htk
      clear hz hk hlt htk
      by_cases he : z = x
      · have e1 : (z == x) = true := by simp [he]
        have hin : x ∈ ks := by
          rw [← he, ← HZ.out]
          exact getD_mem (by rw [HN.out]; exact HK.out)
        have HIN := Lib.hid (decide_eq_true hin)
        clear he hin
        go_wp2_with fail
        go_ret
        exact ⟨by rw [HIN.out]; rfl, Below.refl _ _⟩
      · have e1 : (z == x) = false := by simpa using he
        have HX2 : Hid (x ∉ ks.take (k + 1)) := Lib.hid (by
          rw [HTK.out, HZ.out]
          simp only [List.mem_append, List.mem_singleton]
          rintro (q | q)
          · exact HX.out q
          · exact he q.symm)
        clear he
        go_wp2_with fail
        go_roundw
        case rel => exact ⟨k + 1, by have := HK.out; omega, by go_num, HX2, trivial⟩
        case measure => have := HK.out; simp [intOf]; omega
    · obtain rfl : k = n := by omega
      have hlt1 : decide ((k : Int) < (k : Int)) = false := decide_eq_false (by omega)
      have hno : x ∉ ks := by
        have := HX.out
        rwa [List.take_of_length_le (by rw [HN.out]; exact Nat.le_refl _)] at this
      have HNO := Lib.hid (decide_eq_false hno)
      clear hk hlt hno
      go_wp2_with fail
      go_ret
      exact ⟨by rw [HNO.out]; rfl, Below.refl _ _⟩
/-- A row of the law's own, with its block. -/
def RowC (base : Nat) (v : Value) (xs : List Int) (rs : List (Nat × Obj)) : Prop :=
  (v = .slice none 0 0 ∧ xs = [] ∧ rs = []) ∨ ∃ g cap cur, v = .slice (some ⟨g, 0, none⟩) xs.length cap ∧ rs = [(g, (.cells cur 3 (0, 0) : Obj))] ∧ base ≤ g ∧ xs.length ≤ cap ∧ cap ≤ maxLen ∧ cur.size = cap * 1 ∧ cur.toList.take (xs.length * 1) = intsR xs
theorem RowC.owns {base : Nat} {v : Value} {xs : List Int} {rs : List (Nat × Obj)} (h : RowC base v xs rs) {u : World} (hu : ∀ k o, (k, o) ∈ rs → u.heap[k]? = some o) : u.ownsRow base 3 1 v xs.length (intsR xs) := by
  rcases h with ⟨hv, hx, hr⟩ | ⟨g, cap, cur, hv, hr, h1, h2, h3, h4, h5⟩
  · subst hx
    exact ⟨by simp [intsR], .inl ⟨hv, rfl⟩⟩
  · exact ⟨by simp [intsR], .inr ⟨g, cap, cur, hv, h1, hu g _ (by rw [hr]; simp), h2, h3, h4, h5⟩⟩
theorem RowC.of {base : Nat} {v : Value} {xs : List Int} {u : World} (h : u.ownsRow base 3 1 v xs.length (intsR xs)) : ∃ rs, RowC base v xs rs ∧ ∀ k o, (k, o) ∈ rs → u.heap[k]? = some o ∧ v.ownBlock = some k := by
  rcases h.2 with ⟨hv, hn⟩ | ⟨g, cap, cur, hv, h1, h2, h3, h4, h5, h6⟩
  · have e : xs = [] := List.eq_nil_of_length_eq_zero hn
    exact ⟨[], .inl ⟨hv, e, rfl⟩, fun k o q => by simp at q⟩
  · refine ⟨[(g, .cells cur 3 (0, 0))], .inr ⟨g, cap, cur, hv, rfl, h1, h3, h4, h5, h6⟩, fun k o q => ?_⟩
    rcases List.mem_cons.1 q with e | e
    · injection e with e1 e2
      subst e1 e2
      exact ⟨h2, by rw [hv]; rfl⟩
    · simp at e
theorem RowC.slice {base : Nat} {v : Value} {xs : List Int} {rs : List (Nat × Obj)} (h : RowC base v xs rs) : ∃ a cap, v = .slice a xs.length cap ∧ ∀ u : World, (∀ k o, (k, o) ∈ rs → u.heap[k]? = some o) → IntsAt u a cap xs := by
  rcases h with ⟨hv, hx, hr⟩ | ⟨g, cap, cur, hv, hr, h1, h2, h3, h4, h5⟩
  · subst hx
    exact ⟨none, 0, hv, fun u _ => IntsAt.none u⟩
  · refine ⟨some ⟨g, 0, none⟩, cap, hv, fun u hu => ?_⟩
    obtain ⟨a, c, e, hi⟩ := IntsAt.own (w := u) (base := base) (v := .slice (some ⟨g, 0, none⟩) xs.length cap) (ks := xs) ⟨by simp [intsR], .inr ⟨g, cap, cur, rfl, h1, hu g _ (by rw [hr]; simp), h2, h3, h4, h5⟩⟩
    injection e with e1 e2 e3
    subst e1 e3
    exact hi
section
variable {base : Nat} {Q1 Q2 : (Nat → Prop) → List Tm → World → Prop} {L1 L2 : List Tm} {bs rs : List (Nat × Obj)} {w0 w w' : World} {v : Value} {xs : List Int}
/-- A new row, of none yet. -/
theorem Cs.newRow (g1 : Good base Q1) (g2 : Good base Q2) (h : Cs base Q1 Q2 L1 L2 bs w0 w) : RowC base (.slice (some ⟨w.heap.size, 0, none⟩) 0 0) [] [(w.heap.size, (.cells #[] 3 (0, 0) : Obj))] ∧ Cs base Q1 Q2 L1 L2 ([(w.heap.size, (.cells #[] 3 (0, 0) : Obj))] ++ bs) w0 (w.alloc (.cells #[] 3 : Obj)) ∧ ∀ k o, (k, o) ∈ [(w.heap.size, (.cells #[] 3 (0, 0) : Obj))] → ¬ ∃ o', (k, o') ∈ bs :=
  ⟨.inr ⟨w.heap.size, 0, #[], rfl, rfl, h.pair.base_le, Nat.le_refl _, Nat.zero_le _, rfl, rfl⟩, h.box g1 g2 #[] 3, fun k o q e => by
    have hk : k = w.heap.size := by simpa using congrArg Prod.fst (List.mem_singleton.1 q)
    have := h.pair.klt k e
    omega⟩
/-- Numbers are appended to a row of the law's own. -/
theorem Cs.apps (g1 : Good base Q1) (g2 : Good base Q2) (h : Cs base Q1 Q2 L1 L2 (rs ++ bs) w0 w) (hr : RowC base v xs rs) (hd : ∀ k o, (k, o) ∈ rs → ¬ ∃ o', (k, o') ∈ bs) {zs : List Int} {n : Nat} (hz : zs.length = n) {g cap : Nat} {o : Obj}
    (hown : w'.ownsRow base 3 1 (.slice (some ⟨g, 0, none⟩) (xs.length + n) cap) (xs.length + n) (intsR xs ++ intsR zs)) (hgrow : (w.alloc o).grownBy w' v.ownBlock) (hat : v.ownBlock = some g ∨ g = w.heap.size + 1) :
    ∃ rs', RowC base (.slice (some ⟨g, 0, none⟩) (xs ++ zs).length cap) (xs ++ zs) rs' ∧ Cs base Q1 Q2 L1 L2 (rs' ++ bs) w0 w' ∧ ∀ k o, (k, o) ∈ rs' → ¬ ∃ o', (k, o') ∈ bs := by
  have hown' : w'.ownsRow base 3 1 (.slice (some ⟨g, 0, none⟩) (xs ++ zs).length cap) (xs ++ zs).length (intsR (xs ++ zs)) := by
    rw [show (xs ++ zs).length = xs.length + n by simp [hz], show intsR (xs ++ zs) = intsR xs ++ intsR zs by simp [intsR]]
    exact hown
  obtain ⟨rs', hr', hk'⟩ := RowC.of hown'
  have hvb : ∀ k, v.ownBlock = some k → ∃ o', (k, o') ∈ rs := fun k hk => by
    rcases hr with ⟨hv, _, _⟩ | ⟨g0, cap0, cur0, hv, hrs, _⟩
    · rw [hv] at hk; cases hk
    · rw [hv] at hk
      injection hk with hk
      subst hk
      exact ⟨_, by rw [hrs]; simp; rfl⟩
  have hC : Chg (fun k => some k = v.ownBlock) w w' := (Chg.alloc w o _).trans (Chg.grown hgrow)
  have hnb : ∀ k o, (k, o) ∈ rs' → ¬ ∃ o', (k, o') ∈ bs := fun k o2 q e => by
    have h1 := (hk' k o2 q).2
    injection h1 with h1
    rcases hat with h2 | h2
    · obtain ⟨o3, h3⟩ := hvb g h2
      have h5 : g = k := h1
      exact hd g o3 h3 (by rw [h5]; exact e)
    · obtain ⟨o3, h3⟩ := e
      have h4 := h.pair.klt k ⟨o3, List.mem_append.2 (.inr h3)⟩
      have h5 : g = k := h1
      omega
  refine ⟨rs', hr', ⟨?_, ?_⟩, hnb⟩
  · obtain ⟨F1, F2, q1, q2, q3, q4, q5, q6⟩ := h.pair
    have hno : ∀ k, v.ownBlock = some k → ¬ F1 k ∧ ¬ F2 k := fun k hk => by
      obtain ⟨o3, h3⟩ := hvb k hk
      exact ⟨(q4 k ⟨o3, List.mem_append.2 (.inl h3)⟩).1, (q4 k ⟨o3, List.mem_append.2 (.inl h3)⟩).2.1⟩
    refine ⟨F1, F2, g1.frame q1 hC (fun k hk e => (hno k e.symm).1 hk), g2.frame q2 hC (fun k hk e => (hno k e.symm).2 hk), q3, fun k ⟨o2, q⟩ => ?_, q5, q6.trans (hC.below (fun k e => ?_) h.pair.base_le)⟩
    · rcases List.mem_append.1 q with e | e
      · have h1 := (hk' k o2 e).2
        injection h1 with h1
        have h5 : g = k := h1
        subst h5
        have hgl := (hown.lt g rfl).2
        rcases hat with h2 | h2
        · exact ⟨(hno g h2).1, (hno g h2).2, hgl⟩
        · exact ⟨fun a => by have := (g1.bounds q1 g a).2; omega, fun a => by have := (g2.bounds q2 g a).2; omega, hgl⟩
      · obtain ⟨a, b, c⟩ := q4 k ⟨o2, List.mem_append.2 (.inr e)⟩
        exact ⟨a, b, Nat.lt_of_lt_of_le c hC.size⟩
    · exact ((hr.owns (u := w) (fun k o q => h.kept k o (List.mem_append.2 (.inl q)))).lt k e.symm).1
  · intro k o2 q
    rcases List.mem_append.1 q with e | e
    · exact (hk' k o2 e).1
    · have hkl := h.pair.klt k ⟨o2, List.mem_append.2 (.inr e)⟩
      rw [hC.block k hkl (fun e2 => by
        obtain ⟨o3, h3⟩ := hvb k e2.symm
        exact hd k o3 h3 ⟨o2, e⟩)]
      exact h.kept k o2 (List.mem_append.2 (.inr e))
/-- A number is appended to a row of the law's own. -/
theorem Cs.app (g1 : Good base Q1) (g2 : Good base Q2) (h : Cs base Q1 Q2 L1 L2 (rs ++ bs) w0 w) (hr : RowC base v xs rs) (hd : ∀ k o, (k, o) ∈ rs → ¬ ∃ o', (k, o') ∈ bs) {x : Int} {g cap : Nat} {o : Obj}
    (hown : w'.ownsRow base 3 1 (.slice (some ⟨g, 0, none⟩) (xs.length + 1) cap) (xs.length + 1) (intsR xs ++ [.int .i64 x])) (hgrow : (w.alloc o).grownBy w' v.ownBlock) (hat : v.ownBlock = some g ∨ g = w.heap.size + 1) :
    ∃ rs', RowC base (.slice (some ⟨g, 0, none⟩) (xs ++ [x]).length cap) (xs ++ [x]) rs' ∧ Cs base Q1 Q2 L1 L2 (rs' ++ bs) w0 w' ∧ ∀ k o, (k, o) ∈ rs' → ¬ ∃ o', (k, o') ∈ bs :=
  h.apps g1 g2 hr hd (zs := [x]) (n := 1) rfl hown hgrow hat
end
end Go.Proofs.Ytlnpfeecaiecaaa
