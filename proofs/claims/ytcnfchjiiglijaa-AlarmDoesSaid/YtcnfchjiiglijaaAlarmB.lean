/- Both sets beside each other, the program's and the document's: each call of one leaves the other one. -/
import Derived.Test.YtcnfchjiiglijaaAlarmX
import Derived.Test.YtcnfchjiiglijaaHeapS
namespace Go.Proofs.Ytcnfchjiiglijaa
open Go.RowKit
set_option linter.unusedVariables false
set_option linter.unusedSimpArgs false
set_option maxRecDepth 20000

/-- The program's set L, the document's M, both made in the call. -/
structure Bo (w0 : World) (F : Nat → Prop) (w : World) (p q : Nat) (L M : List On) (most : Int) : Prop where
  al : AlS w0 F w p L most
  ra : RAl w q M most
  hq : w0.heap.size ≤ q
section
variable {w0 w w' : World} {F F' S : Nat → Prop} {p q : Nat} {L L' M M' : List On} {most : Int}
theorem Bo.nq (h : Bo w0 F w p q L M most) : ¬ F q := fun k => by
  obtain ⟨a, cap, h1, _⟩ := h.ra
  exact (h.al.al.alien q k _ _).1 h1
theorem Bo.below (h : Bo w0 F w p q L M most) (hb : Below w.heap.size w w') : Bo w0 F w' p q L M most := ⟨h.al.below hb, h.ra.below hb, h.hq⟩
theorem Bo.drewn (h : Bo w0 F w p q L M most) : Bo w0 F w.drew p q L M most := h.below ((Below.refl _ _).drew)
theorem Bo.one (h : Bo w0 F w p q L M most) (ha : AlS w0 F' w' p L' most) (hc : Chg F w w') : Bo w0 F' w' p q L' M most :=
  ⟨ha, h.ra.keep hc (fun k hk cs fr => h.al.al.alien k hk cs fr), h.hq⟩
theorem Bo.two (h : Bo w0 F w p q L M most) (hr : RAl w' q M' most) (hc : Chg (fun k => k = q) w w') : Bo w0 F w' p q L M' most :=
  ⟨h.al.keep hc (fun k hk e => h.nq (e ▸ hk)) (fun k e => by have := h.hq; omega), hr, h.hq⟩
theorem Due.doc {base : Nat} {v : Value} {ks : List Int} (h : Due base F w v ks) (hq : q < base) (hc : Chg (fun k => k = q) w w') : Due base F w' v ks :=
  ⟨h.row.chg hc (fun k hk e => by have := (World.ownsRow.lt h.row k hk).1; omega), h.off⟩
theorem put_b (h : Bo w0 F w p q L M most) (id at_ : Int) (L' : List On) (E : Int) (hL : L.length ≤ 1000) (hid : U64 id) (hat : U64 at_) (hd : (putD most id at_ L).1 = L') (he : ((putD most id at_ L).2 : Int) = E) :
    Calls Try.prog 10 #[.pointer (some ⟨p, 0, none⟩), .int .u64 id, .int .u64 at_] w fun e w' => ∃ F', e = .returned (.int .i64 E) ∧ Bo w0 F' w' p q L' M most :=
  (put_s h.al id at_ E L' _ hL hid hat (by rw [← hd]) he).mono fun e w' ⟨F', h1, ha, hf, hc⟩ => ⟨F', h1, h.one ha hc⟩
theorem rput_b (h : Bo w0 F w p q L M most) (id at_ : Int) (M' : List On) (E : Int) (hM : M.length ≤ 1000) (hm : -9223372036854775808 ≤ most ∧ most ≤ 9223372036854775807) (hd : (putD most id at_ M).1 = M') (he : ((putD most id at_ M).2 : Int) = E) :
    Calls Try.prog 11 #[.pointer (some ⟨q, 0, none⟩), .int .u64 id, .int .u64 at_] w fun e w' => e = .returned (.int .i64 E) ∧ Bo w0 F w' p q L M' most := by
  subst hd he
  exact (rput_k q id at_ most M w h.ra hM hm).mono fun e w' ⟨h1, hr, hc⟩ => ⟨h1, h.two hr hc⟩
theorem drop_b (h : Bo w0 F w p q L M most) (id : Int) (L' : List On) (b : Bool) (hL : L.length ≤ 1000) (hid : U64 id) (hd : dropD id L = L') (hb : hasD id L = b) :
    Calls Try.prog 12 #[.pointer (some ⟨p, 0, none⟩), .int .u64 id] w fun e w' => ∃ F', e = .returned (.bool b) ∧ Bo w0 F' w' p q L' M most :=
  (drop_s h.al id L' b hL hid hd hb).mono fun e w' ⟨F', h1, ha, hf, hc⟩ => ⟨F', h1, h.one ha hc⟩
theorem rdrop_b (h : Bo w0 F w p q L M most) (id : Int) (M' : List On) (b : Bool) (hM : M.length ≤ 1000) (hd : dropD id M = M') (hb : hasD id M = b) :
    Calls Try.prog 13 #[.pointer (some ⟨q, 0, none⟩), .int .u64 id] w fun e w' => e = .returned (.bool b) ∧ Bo w0 F w' p q L M' most := by
  subst hd hb
  exact (rdrop_k q id most M w h.ra hM).mono fun e w' ⟨h1, hr, hc⟩ => ⟨h1, h.two hr hc⟩
theorem due_b (h : Bo w0 F w p q L M most) (now : Int) (L' : List On) (ks : List Int) (hL : L.length ≤ 1000) (hn : U64 now) (hd : restD now L = L') (hk : dueD now L = ks) :
    Calls Try.prog 15 #[.pointer (some ⟨p, 0, none⟩), .int .u64 now] w fun e w' => ∃ F' a c, e = .returned (.slice a ks.length c) ∧ Due w.heap.size F' w' (.slice a ks.length c) ks ∧ q < w.heap.size ∧ Bo w0 F' w' p q L' M most :=
  (due_s h.al now L' ks hL hn hd hk).mono fun e w' ⟨F', v, h1, hu, ha, hf, hc⟩ => by
    obtain ⟨a, c, hv, _⟩ := hu.at
    subst hv
    exact ⟨F', a, c, h1, hu, h.ra.lt, h.one ha hc⟩
theorem rdue_b (h : Bo w0 F w p q L M most) (now : Int) (M' : List On) (ks : List Int) (hM : M.length ≤ 1000) (hd : restD now M = M') (hk : dueD now M = ks) {base : Nat} {x : Value} {xs : List Int} (hx : Due base F w x xs) (hqb : q < base) :
    Calls Try.prog 16 #[.pointer (some ⟨q, 0, none⟩), .int .u64 now] w fun e w' => ∃ a c, e = .returned (.slice a ks.length c) ∧ RowAt .u64 w' a c ks ∧ Due base F w' x xs ∧ Bo w0 F w' p q L M' most := by
  subst hd hk
  exact (rdue_k q now most M w h.ra hM).mono fun e w' ⟨v, h1, ho, hr, hc⟩ => by
    obtain ⟨a, c, hv, hw⟩ := ho.at
    subst hv
    exact ⟨a, c, h1, hw, hx.doc hqb hc, h.two hr hc⟩
theorem first_b (h : Bo w0 F w p q L M most) (at_ : Int) (b : Bool) (hL : L.length ≤ 1000) (hd : firstD L = (at_, b)) :
    Calls Try.prog 17 #[.pointer (some ⟨p, 0, none⟩)] w fun e w' => e = .returned (.tuple #[.int .u64 at_, .bool b]) ∧ Bo w0 F w' p q L M most :=
  (first_s h.al at_ b hL hd).mono fun e w' ⟨h1, hb⟩ => ⟨h1, h.below hb⟩
theorem rfirst_b (h : Bo w0 F w p q L M most) (at_ : Int) (b : Bool) (hd : firstD M = (at_, b)) :
    Calls Try.prog 18 #[.pointer (some ⟨q, 0, none⟩)] w fun e w' => e = .returned (.tuple #[.int .u64 at_, .bool b]) ∧ Bo w0 F w' p q L M most := by
  have := rfirst_k q most M w (Lib.hid h.ra)
  rw [hd] at this
  exact this.mono fun e w' ⟨h1, hb⟩ => ⟨h1, h.below hb⟩
theorem len_b (h : Bo w0 F w p q L M most) (n : Int) (hL : L.length ≤ 1000) (hd : (L.length : Int) = n) :
    Calls Try.prog 19 #[.pointer (some ⟨p, 0, none⟩)] w fun e w' => e = .returned (.int .i64 n) ∧ Bo w0 F w' p q L M most :=
  (len_s h.al n hL hd).mono fun e w' ⟨h1, hb⟩ => ⟨h1, h.below hb⟩
/-- The document's row, as its field is loaded. -/
theorem Bo.row (h : Bo w0 F w p q L M most) : ∃ a cap, w.cell? ⟨q, 0, none⟩ = some (.slice a M.length cap) ∧ w.frozen? ⟨q, 0, none⟩ = false := by
  obtain ⟨a, cap, h1, _⟩ := h.ra
  exact ⟨a, cap, by rw [cell_atA 0 h1]; rfl, frz_atA 0 h1⟩
end
end Go.Proofs.Ytcnfchjiiglijaa
