/- What both sides' All and Can answer. -/
import Derived.Test.YtdhfnbajmjmlbaaKnowF
namespace Go.Proofs.Ytdhfnbajmjmlbaa
open Go.RowKit
set_option linter.unusedVariables false
set_option linter.unusedSimpArgs false
set_option maxRecDepth 20000

section
variable {W : World} {g : Nat} {L : List Tm}
theorem can_bad (hK : Known W g L) (dh kem : Bool) {ks : List Int} {x name : Int} (hx : x ∈ ks) (hn : ¬ InL L x) (a : Option Addr) (cap n : Nat) (hl : n = ks.length) (h : IntsAt W a cap ks) :
    Calls Try.prog 14 #[.pointer (some ⟨g, 0, none⟩), .slice a n cap, .agg #[.bool dh, .bool kem], .int .i64 name] W fun e W' => e = .returned (.tuple #[.bool false, .int .i64 1]) ∧ Below W.heap.size W W' := by
  subst hl
  refine (can_k hK a cap ks h dh kem name).mono ?_
  rintro e w ⟨hb, ⟨_, rfl⟩ | ⟨hin, _⟩ | ⟨hin, _⟩⟩
  · exact ⟨rfl, hb⟩
  · exact absurd (hin x hx) hn
  · exact absurd (hin x hx) hn
/-- The document's store, with all that is known of its terms. -/
structure KnownR (w : World) (g : Nat) (L : List Tm) : Prop where
  at_ : AtR g L w
  fit : Fit L
  sound : Sound L
  uniq : Uniq L
theorem KnownR.below {w w' : World} (h : KnownR w g L) (hb : Below w.heap.size w w') : KnownR w' g L := ⟨h.at_.below hb, h.fit, h.sound, h.uniq⟩
theorem rall_least (hK : KnownR W g L) {dh kem : Bool} {ks : List Int} {C : Int → Bool} (hC : Least L ks dh kem C) (hin : ∀ x, x ∈ ks → InL L x) (a : Option Addr) (cap n : Nat) (hn : n = ks.length) (h : IntsAt W a cap ks) :
    Calls Try.prog 13 #[.pointer (some ⟨g, 0, none⟩), .slice a n cap, .bool dh, .bool kem] W (Alls W (namesIn L C)) := by
  subst hn
  refine (all_any hK.at_ hK.fit hK.sound hK.uniq a cap ks h dh kem).mono ?_
  rintro e w ⟨hb, ⟨⟨x, hx, hn⟩, _⟩ | ⟨_, C', v, hC', rfl, ho⟩⟩
  · exact absurd (hin x hx) hn
  · rw [namesIn_congr (hC'.one hC)] at ho
    obtain ⟨a', c', rfl, _⟩ := ho.at
    exact ⟨a', _, c', rfl, rfl, ho, hb⟩
theorem rall_bad (hK : KnownR W g L) (dh kem : Bool) {ks : List Int} {x : Int} (hx : x ∈ ks) (hn : ¬ InL L x) (a : Option Addr) (cap n : Nat) (hl : n = ks.length) (h : IntsAt W a cap ks) :
    Calls Try.prog 13 #[.pointer (some ⟨g, 0, none⟩), .slice a n cap, .bool dh, .bool kem] W fun e W' => e = .returned (.tuple #[.slice none 0 0, .int .i64 1]) ∧ Below W.heap.size W W' := by
  subst hl
  refine (all_any hK.at_ hK.fit hK.sound hK.uniq a cap ks h dh kem).mono ?_
  rintro e w ⟨hb, ⟨_, rfl⟩ | ⟨hin, _⟩⟩
  · exact ⟨rfl, hb⟩
  · exact absurd (hin x hx) hn
theorem rcan_least (hK : KnownR W g L) {dh kem : Bool} {ks : List Int} {C : Int → Bool} (hC : Least L ks dh kem C) (hin : ∀ x, x ∈ ks → InL L x) {name : Int} (hm : InL L name) (a : Option Addr) (cap n : Nat) (hl : n = ks.length) (h : IntsAt W a cap ks) :
    Calls Try.prog 15 #[.pointer (some ⟨g, 0, none⟩), .slice a n cap, .bool dh, .bool kem, .int .i64 name] W fun e W' => e = .returned (.tuple #[.bool (C name), .int .i64 0]) ∧ Below W.heap.size W W' := by
  subst hl
  refine (can_any hK.at_ hK.fit hK.sound hK.uniq a cap ks h dh kem name).mono ?_
  rintro e w ⟨hb, ⟨⟨x, hx, hn⟩, _⟩ | ⟨_, hn, _⟩ | ⟨_, _, C', hC', rfl⟩⟩
  · exact absurd (hin x hx) hn
  · exact absurd hm hn
  · rw [hC'.one hC name]; exact ⟨rfl, hb⟩
theorem rcan_none (hK : KnownR W g L) (dh kem : Bool) {ks : List Int} (hin : ∀ x, x ∈ ks → InL L x) {name : Int} (hm : ¬ InL L name) (a : Option Addr) (cap n : Nat) (hl : n = ks.length) (h : IntsAt W a cap ks) :
    Calls Try.prog 15 #[.pointer (some ⟨g, 0, none⟩), .slice a n cap, .bool dh, .bool kem, .int .i64 name] W fun e W' => e = .returned (.tuple #[.bool false, .int .i64 5]) ∧ Below W.heap.size W W' := by
  subst hl
  refine (can_any hK.at_ hK.fit hK.sound hK.uniq a cap ks h dh kem name).mono ?_
  rintro e w ⟨hb, ⟨⟨x, hx, hn⟩, _⟩ | ⟨_, hn, rfl⟩ | ⟨_, hi, _⟩⟩
  · exact absurd (hin x hx) hn
  · exact ⟨rfl, hb⟩
  · exact absurd hi hm
theorem rcan_bad (hK : KnownR W g L) (dh kem : Bool) {ks : List Int} {x name : Int} (hx : x ∈ ks) (hn : ¬ InL L x) (a : Option Addr) (cap n : Nat) (hl : n = ks.length) (h : IntsAt W a cap ks) :
    Calls Try.prog 15 #[.pointer (some ⟨g, 0, none⟩), .slice a n cap, .bool dh, .bool kem, .int .i64 name] W fun e W' => e = .returned (.tuple #[.bool false, .int .i64 1]) ∧ Below W.heap.size W W' := by
  subst hl
  refine (can_any hK.at_ hK.fit hK.sound hK.uniq a cap ks h dh kem name).mono ?_
  rintro e w ⟨hb, ⟨_, rfl⟩ | ⟨hin, _⟩ | ⟨hin, _⟩⟩
  · exact ⟨rfl, hb⟩
  · exact absurd (hin x hx) hn
  · exact absurd (hin x hx) hn
/-- Both sides' All: one answer. -/
def AllBoth (L : List Tm) (ks : List Int) (dh kem : Bool) (ns : List Int) (er : Int) : Prop := (ns.length ≤ 1048576) ∧ (∀ W g, Known W g L → ∀ a cap n, n = ks.length → IntsAt W a cap ks → Calls Try.prog 12 #[.pointer (some ⟨g, 0, none⟩), .slice a n cap, .agg #[.bool dh, .bool kem]] W (fun e W' => ∃ (a : Option Addr) (n cap : Nat), e = .returned (.tuple #[.slice a n cap, .int .i64 er]) ∧ n = ns.length ∧ IntsAt W' a cap ns ∧ Below W.heap.size W W')) ∧
  (∀ W g, KnownR W g L → ∀ a cap n, n = ks.length → IntsAt W a cap ks → Calls Try.prog 13 #[.pointer (some ⟨g, 0, none⟩), .slice a n cap, .bool dh, .bool kem] W (fun e W' => ∃ (a : Option Addr) (n cap : Nat), e = .returned (.tuple #[.slice a n cap, .int .i64 er]) ∧ n = ns.length ∧ IntsAt W' a cap ns ∧ Below W.heap.size W W'))
def CanBoth (L : List Tm) (ks : List Int) (dh kem : Bool) (name : Int) (b : Bool) (er : Int) : Prop := (∀ W g, Known W g L → ∀ a cap n, n = ks.length → IntsAt W a cap ks → Calls Try.prog 14 #[.pointer (some ⟨g, 0, none⟩), .slice a n cap, .agg #[.bool dh, .bool kem], .int .i64 name] W (fun e W' => e = .returned (.tuple #[.bool b, .int .i64 er]) ∧ Below W.heap.size W W')) ∧
  (∀ W g, KnownR W g L → ∀ a cap n, n = ks.length → IntsAt W a cap ks → Calls Try.prog 15 #[.pointer (some ⟨g, 0, none⟩), .slice a n cap, .bool dh, .bool kem, .int .i64 name] W (fun e W' => e = .returned (.tuple #[.bool b, .int .i64 er]) ∧ Below W.heap.size W W'))
theorem both_is (L : List Tm) (hF : Fit L) (hm : L.length ≤ 1048576) (ks : List Int) (dh kem : Bool) (name : Int) : ∃ ns er b er2, AllBoth L ks dh kem ns er ∧ CanBoth L ks dh kem name b er2 := by
  by_cases hin : ∀ x, x ∈ ks → InL L x
  · obtain ⟨C, hC⟩ := least_is hF hin dh kem
    have hl := namesIn_len L C
    by_cases hn : InL L name
    · exact ⟨namesIn L C, 0, C name, 0, ⟨by omega, fun W g hK a cap n hl h => (all_least hK hC hin a cap n hl h).mono fun e W' ⟨a, n, c, h1, h2, h3, h4⟩ => ⟨a, n, c, h1, h2, h3.ints.2, h4⟩, fun W g hK a cap n hl h => (rall_least hK hC hin a cap n hl h).mono fun e W' ⟨a, n, c, h1, h2, h3, h4⟩ => ⟨a, n, c, h1, h2, h3.ints.2, h4⟩⟩, fun W g hK a cap n hl h => can_least hK hC hin hn a cap n hl h, fun W g hK a cap n hl h => rcan_least hK hC hin hn a cap n hl h⟩
    · exact ⟨namesIn L C, 0, false, 5, ⟨by omega, fun W g hK a cap n hl h => (all_least hK hC hin a cap n hl h).mono fun e W' ⟨a, n, c, h1, h2, h3, h4⟩ => ⟨a, n, c, h1, h2, h3.ints.2, h4⟩, fun W g hK a cap n hl h => (rall_least hK hC hin a cap n hl h).mono fun e W' ⟨a, n, c, h1, h2, h3, h4⟩ => ⟨a, n, c, h1, h2, h3.ints.2, h4⟩⟩, fun W g hK a cap n hl h => can_none hK dh kem hin hn a cap n hl h, fun W g hK a cap n hl h => rcan_none hK dh kem hin hn a cap n hl h⟩
  · obtain ⟨x, hx⟩ : ∃ x, ¬ (x ∈ ks → InL L x) := Classical.not_forall.1 hin
    obtain ⟨hx, hn⟩ := Classical.not_imp.1 hx
    exact ⟨[], 1, false, 1, ⟨by simp, fun W g hK a cap n hl h => (all_bad hK dh kem hx hn a cap n hl h).mono fun e W' ⟨h1, h2⟩ => ⟨none, 0, 0, h1, rfl, IntsAt.none _, h2⟩, fun W g hK a cap n hl h => (rall_bad hK dh kem hx hn a cap n hl h).mono fun e W' ⟨h1, h2⟩ => ⟨none, 0, 0, h1, rfl, IntsAt.none _, h2⟩⟩, fun W g hK a cap n hl h => can_bad hK dh kem hx hn a cap n hl h, fun W g hK a cap n hl h => rcan_bad hK dh kem hx hn a cap n hl h⟩
end
end Go.Proofs.Ytdhfnbajmjmlbaa
