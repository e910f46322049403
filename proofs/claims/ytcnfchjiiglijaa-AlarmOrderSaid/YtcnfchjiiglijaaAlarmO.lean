/- The program's set of alarms beside a row of numbers that the call appends to. -/
import Derived.Test.YtcnfchjiiglijaaAlarmX
import Derived.Test.YtcnfchjiiglijaaHeapS
namespace Go.Proofs.Ytcnfchjiiglijaa
open Go.RowKit
set_option linter.unusedVariables false
set_option linter.unusedSimpArgs false
set_option maxRecDepth 20000
/-- Two bytes of a row that came in. -/
def Row8 (b off : Nat) (u0 u1 : Int) (w : World) : Prop := w.cell? ⟨b, off, none⟩ = some (.int .u8 u0) ∧ w.cell? ⟨b, off + 1, none⟩ = some (.int .u8 u1)
theorem Row8.of {b off : Nat} {u0 u1 : Int} {w w' : World} (h : Row8 b off u0 u1 w) (hb : Below w.heap.size w w') (hl : b < w.heap.size) : Row8 b off u0 u1 w' := by
  have c := hb.block b hl
  have e : ∀ o, w'.cell? ⟨b, o, none⟩ = w.cell? ⟨b, o, none⟩ := fun o => by simp [World.cell?, c]
  exact ⟨by rw [e]; exact h.1, by rw [e]; exact h.2⟩
/-- The set, and a row u of the numbers M, apart. -/
structure OR (w0 : World) (F : Nat → Prop) (w : World) (p : Nat) (L : List On) (most : Int) (u : Value) (M : List Int) : Prop where
  al : AlS w0 F w p L most
  row : Own 29 .u64 w0.heap.size u M w
section
variable {w0 w w' : World} {F F' : Nat → Prop} {p : Nat} {L L' : List On} {most : Int} {u u' : Value} {M : List Int}
theorem OR.off (h : OR w0 F w p L most u M) : ∀ k, u.ownBlock = some k → ¬ F k := h.al.al.off h.row
theorem OR.below (h : OR w0 F w p L most u M) (hb : Below w.heap.size w w') : OR w0 F w' p L most u M := ⟨h.al.below hb, h.row.below hb⟩
theorem OR.next (h : OR w0 F w p L most u M) (ha : AlS w0 F' w' p L' most) (hc : Chg F w w') : OR w0 F' w' p L' most u M := ⟨ha, h.row.chg hc h.off⟩
theorem OR.turn {M' : List Int} (h : OR w0 F w p L most u M) (hr : Own 29 .u64 w0.heap.size u' M' w') (hc : Chg (fun k => some k = u.ownBlock) w w') : OR w0 F w' p L most u' M' :=
  ⟨h.al.keep hc (fun k hk e => h.off k e.symm hk) (fun k e => (World.ownsRow.lt h.row k e.symm).1), hr⟩
theorem OR.drewn (h : OR w0 F w p L most u M) : OR w0 F w.drew p L most u M := h.below ((Below.refl _ _).drew)
theorem OR.start (h : AlS w0 F w p L most) : OR w0 F (w.alloc (.cells #[] 29)) p L most (.slice (some ⟨w.heap.size, 0, none⟩) 0 0) [] := ⟨h.below (below_alloc _ _), Own.new _ _ _ h.low.size⟩
/-- What is read of the row. -/
theorem OR.at (h : OR w0 F w p L most u M) : ∃ a c, u = .slice a M.length c ∧ RowAt .u64 w a c M := h.row.at
theorem OR.low (h : OR w0 F w p L most u M) : Below w0.heap.size w0 w := h.al.low
theorem put_r (h : OR w0 F w p L most u M) (id at_ er : Int) (L' : List On) (E : Nat) (hL : L.length ≤ 1000) (hid : U64 id) (hat : U64 at_) (hd : putD most id at_ L = (L', E)) (he : (E : Int) = er) :
    Calls Try.prog 10 #[.pointer (some ⟨p, 0, none⟩), .int .u64 id, .int .u64 at_] w fun e w' => ∃ F', e = .returned (.int .i64 er) ∧ OR w0 F' w' p L' most u M :=
  (put_s h.al id at_ er L' E hL hid hat hd he).mono fun e w' ⟨F', h1, h2, _, h4⟩ => ⟨F', h1, h.next h2 h4⟩
theorem len_r (h : OR w0 F w p L most u M) (n : Int) (hL : L.length ≤ 1000) (hd : (L.length : Int) = n) :
    Calls Try.prog 19 #[.pointer (some ⟨p, 0, none⟩)] w fun e w' => e = .returned (.int .i64 n) ∧ OR w0 F w' p L most u M :=
  (len_s h.al n hL hd).mono fun e w' ⟨h1, h2⟩ => ⟨h1, h.below h2⟩
theorem due_r (h : OR w0 F w p L most u M) (now : Int) (L' : List On) (ks : List Int) (hL : L.length ≤ 1000) (hnow : U64 now) (hd : restD now L = L') (hk : dueD now L = ks) :
    Calls Try.prog 15 #[.pointer (some ⟨p, 0, none⟩), .int .u64 now] w fun e w' => ∃ F' a c, e = .returned (.slice a ks.length c) ∧ RowAt .u64 w' a c ks ∧ OR w0 F' w' p L' most u M ∧ (∀ b, a = some b → w.heap.size ≤ b.block) :=
  (due_s h.al now L' ks hL hnow hd hk).mono fun e w' ⟨F', v, h1, h2, h3, _, h5⟩ => by
    obtain ⟨a, c, hv, hr⟩ := h2.at
    refine ⟨F', a, c, by rw [h1, hv], hr, h.next h3 h5, fun b hb => ?_⟩
    exact (World.ownsRow.lt h2.row b.block (by rw [hv, hb]; rfl)).1
end
end Go.Proofs.Ytcnfchjiiglijaa
