/- Two of the program's sets of alarms beside each other, and a row of numbers of the call's own; what a row of last times says of a set. -/
import Derived.Test.YtcnfchjiiglijaaAlarmO
import Derived.Test.YtcnfchjiiglijaaAlsD
namespace Go.Proofs.Ytcnfchjiiglijaa
open Go.RowKit
set_option linter.unusedVariables false
set_option linter.unusedSimpArgs false
set_option maxRecDepth 20000
structure TW (w0 : World) (F G : Nat → Prop) (w : World) (p q : Nat) (L K : List On) (most : Int) (u : Value) (M : List Int) : Prop where
  a : AlS w0 F w p L most
  b : AlS w0 G w q K most
  off : ∀ k, F k → ¬ G k
  row : Own 29 .u64 w0.heap.size u M w
section
variable {w0 w w' : World} {F G F' : Nat → Prop} {p q : Nat} {L L' K K' : List On} {most : Int} {u u' : Value} {M M' : List Int}
theorem TW.below (h : TW w0 F G w p q L K most u M) (hb : Below w.heap.size w w') : TW w0 F G w' p q L K most u M := ⟨h.a.below hb, h.b.below hb, h.off, h.row.below hb⟩
theorem TW.one (h : TW w0 F G w p q L K most u M) (ha : AlS w0 F' w' p L' most) (hf : FSub F F' w) (hc : Chg F w w') : TW w0 F' G w' p q L' K most u M :=
  ⟨ha, h.b.keep hc (fun k hk e => h.off k e hk) h.a.own, fun k hk e => by
    rcases hf k hk with r | r
    · exact h.off k r e
    · have := h.b.al.lt k e; omega, h.row.chg hc (h.a.al.off h.row)⟩
theorem TW.two (h : TW w0 F G w p q L K most u M) (ha : AlS w0 F' w' q K' most) (hf : FSub G F' w) (hc : Chg G w w') : TW w0 F F' w' p q L K' most u M :=
  ⟨h.a.keep hc (fun k hk e => h.off k hk e) h.b.own, ha, fun k hk e => by
    rcases hf k e with r | r
    · exact h.off k hk r
    · have := h.a.al.lt k hk; omega, h.row.chg hc (h.b.al.off h.row)⟩
theorem TW.turn (h : TW w0 F G w p q L K most u M) (hr : Own 29 .u64 w0.heap.size u' M' w') (hc : Chg (fun k => some k = u.ownBlock) w w') : TW w0 F G w' p q L K most u' M' :=
  ⟨h.a.keep hc (fun k hk e => h.a.al.off h.row k e.symm hk) (fun k e => (World.ownsRow.lt h.row k e.symm).1), h.b.keep hc (fun k hk e => h.b.al.off h.row k e.symm hk) (fun k e => (World.ownsRow.lt h.row k e.symm).1), h.off, hr⟩
theorem TW.low (h : TW w0 F G w p q L K most u M) : Below w0.heap.size w0 w := h.a.low
theorem put_1 (h : TW w0 F G w p q L K most u M) (id at_ er : Int) (L' : List On) (E : Nat) (hL : L.length ≤ 1000) (hid : U64 id) (hat : U64 at_) (hd : putD most id at_ L = (L', E)) (he : (E : Int) = er) :
    Calls Try.prog 10 #[.pointer (some ⟨p, 0, none⟩), .int .u64 id, .int .u64 at_] w fun e w' => ∃ F', e = .returned (.int .i64 er) ∧ TW w0 F' G w' p q L' K most u M :=
  (put_s h.a id at_ er L' E hL hid hat hd he).mono fun e w' ⟨F', h1, h2, h3, h4⟩ => ⟨F', h1, h.one h2 h3 h4⟩
theorem put_2 (h : TW w0 F G w p q L K most u M) (id at_ er : Int) (K' : List On) (E : Nat) (hL : K.length ≤ 1000) (hid : U64 id) (hat : U64 at_) (hd : putD most id at_ K = (K', E)) (he : (E : Int) = er) :
    Calls Try.prog 10 #[.pointer (some ⟨q, 0, none⟩), .int .u64 id, .int .u64 at_] w fun e w' => ∃ G', e = .returned (.int .i64 er) ∧ TW w0 F G' w' p q L K' most u M :=
  (put_s h.b id at_ er K' E hL hid hat hd he).mono fun e w' ⟨G', h1, h2, h3, h4⟩ => ⟨G', h1, h.two h2 h3 h4⟩
theorem drop_1 (h : TW w0 F G w p q L K most u M) (id : Int) (L' : List On) (b : Bool) (hL : L.length ≤ 1000) (hid : U64 id) (hd : dropD id L = L') (hb : hasD id L = b) :
    Calls Try.prog 12 #[.pointer (some ⟨p, 0, none⟩), .int .u64 id] w fun e w' => ∃ F', e = .returned (.bool b) ∧ TW w0 F' G w' p q L' K most u M :=
  (drop_s h.a id L' b hL hid hd hb).mono fun e w' ⟨F', h1, h2, h3, h4⟩ => ⟨F', h1, h.one h2 h3 h4⟩
theorem drop_2 (h : TW w0 F G w p q L K most u M) (id : Int) (K' : List On) (b : Bool) (hL : K.length ≤ 1000) (hid : U64 id) (hd : dropD id K = K') (hb : hasD id K = b) :
    Calls Try.prog 12 #[.pointer (some ⟨q, 0, none⟩), .int .u64 id] w fun e w' => ∃ G', e = .returned (.bool b) ∧ TW w0 F G' w' p q L K' most u M :=
  (drop_s h.b id K' b hL hid hd hb).mono fun e w' ⟨G', h1, h2, h3, h4⟩ => ⟨G', h1, h.two h2 h3 h4⟩
/-- What is due of the first set: a row x of its own. -/
theorem due_1 (h : TW w0 F G w p q L K most u M) (now : Int) (L' : List On) (ks : List Int) (hL : L.length ≤ 1000) (hnow : U64 now) (hd : restD now L = L') (hk : dueD now L = ks) :
    Calls Try.prog 15 #[.pointer (some ⟨p, 0, none⟩), .int .u64 now] w fun e w' => ∃ F' x, e = .returned x ∧ Own 29 .u64 w.heap.size x ks w' ∧ TW w0 F' G w' p q L' K most u M :=
  (due_s h.a now L' ks hL hnow hd hk).mono fun e w' ⟨F', v, h1, h2, h3, h4, h5⟩ => ⟨F', v, h1, h2.row, h.one h3 h4 h5⟩
/-- What is due of the second set, beside a row that another call handed back. -/
theorem due_2 (h : TW w0 F G w p q L K most u M) (now : Int) (K' : List On) (ks : List Int) {base : Nat} {x : Value} {xs : List Int} (hx : Own 29 .u64 base x xs w) (hL : K.length ≤ 1000) (hnow : U64 now) (hd : restD now K = K') (hk : dueD now K = ks) :
    Calls Try.prog 15 #[.pointer (some ⟨q, 0, none⟩), .int .u64 now] w fun e w' => ∃ G' y, e = .returned y ∧ Own 29 .u64 w.heap.size y ks w' ∧ Own 29 .u64 base x xs w' ∧ TW w0 F G' w' p q L K' most u M :=
  (due_s h.b now K' ks hL hnow hd hk).mono fun e w' ⟨G', v, h1, h2, h3, h4, h5⟩ => ⟨G', v, h1, h2.row, hx.chg h5 (h.b.al.off hx), h.two h3 h4 h5⟩
theorem len_1 (h : TW w0 F G w p q L K most u M) (n : Int) (hL : L.length ≤ 1000) (hd : (L.length : Int) = n) :
    Calls Try.prog 19 #[.pointer (some ⟨p, 0, none⟩)] w fun e w' => e = .returned (.int .i64 n) ∧ Below w.heap.size w w' ∧ TW w0 F G w' p q L K most u M :=
  (len_s h.a n hL hd).mono fun e w' ⟨h1, h2⟩ => ⟨h1, h2, h.below h2⟩
/-- Two sets, made one behind the other. -/
theorem TW.start {G : Nat → Prop} (ha : AlS w0 F w p [] most) (hb : AlS w0 G w' q [] most) (hn : ∀ k, G k → w.heap.size ≤ k) (hl : Below w.heap.size w w') : TW w0 F G (w'.alloc (.cells #[] 29)) p q [] [] most (.slice (some ⟨w'.heap.size, 0, none⟩) 0 0) [] :=
  ⟨(ha.below hl).below (below_alloc _ _), hb.below (below_alloc _ _), fun k hk e => by have := ha.al.lt k hk; have := hn k e; omega, Own.new _ _ _ hb.low.size⟩
/-- A number of the row set anew. -/
theorem tw_set (h : TW w0 F G w p q L K most u M) {i : Nat} (hi : i < M.length) (x : Int) : ∃ g c, u = .slice (some ⟨g, 0, none⟩) M.length c ∧ w.cell? ⟨g, i, none⟩ = some (.int .u64 (M.getD i 0)) ∧ w.frozen? ⟨g, i, none⟩ = false ∧ TW w0 F G (w.setCell ⟨g, i, none⟩ (.int .u64 x)) p q L K most u (M.set i x) := by
  have h' : w.ownsRow w0.heap.size 29 1 u M.length (valsR .u64 M) := h.row
  rcases h'.2 with ⟨hv, hn⟩ | ⟨g, cap, cur, hv, hg, hh, h1, h2, h3, h4⟩
  · omega
  · subst hv
    have hs := (World.ownsRow.stored h' i (.int .u64 x)).1
    have hc := Chg.setCell w g i (.int .u64 x)
    have hce := World.ownsRow.cellAt h' i (by omega)
    refine ⟨g, cap, rfl, ?_, World.ownsRow.frozenAt h' i, h.turn (u' := .slice (some ⟨g, 0, none⟩) M.length cap) ?_ ⟨hc.os, hc.tape, hc.output, hc.size, fun k hk hn => hc.block k hk (fun e => hn (by rw [e]; rfl))⟩⟩
    · rw [hce]
      unfold valsR
      rw [List.getElem?_map, List.getElem?_eq_getElem hi, List.getD_eq_getElem?_getD, List.getElem?_eq_getElem hi]
      rfl
    · unfold Own
      rw [List.length_set]
      have e : valsR .u64 (M.set i x) = (valsR .u64 M).set i (.int .u64 x) := by unfold valsR; rw [List.map_set]
      rw [e]
      exact hs
end
theorem own_pos {base : Nat} {v : Value} {M : List Int} {w : World} {k : Nat} (h : Own 29 .u64 base v M w) (hk : M.length = k + 1) : ∃ g c, v = .slice (some ⟨g, 0, none⟩) M.length c := by
  have h' : w.ownsRow base 29 1 v M.length (valsR .u64 M) := h
  rcases h'.2 with ⟨hv, hn⟩ | ⟨g, cap, cur, hv, _⟩
  · omega
  · exact ⟨g, cap, hv⟩
/-- What is read of the row. -/
theorem tw_cell {w0 w : World} {F G : Nat → Prop} {p q : Nat} {L K : List On} {most : Int} {M : List Int} {g n c : Nat} (h : TW w0 F G w p q L K most (.slice (some ⟨g, 0, none⟩) n c) M) {i : Nat} (hi : i < M.length) : w.cell? ⟨g, i, none⟩ = some (.int .u64 (M.getD i 0)) := by
  obtain ⟨g9, c9, hu, hc, _⟩ := tw_set h hi 0
  injection hu with e1 _ _
  injection e1 with e1
  injection e1 with e1
  subst e1
  exact hc
/-! ### What the row of last times says -/
structure Las (L : List On) (M : List Int) : Prop where
  mem : ∀ o, o ∈ L ↔ ∃ i : Nat, i < M.length ∧ o.id = (i : Int) ∧ M.getD i 0 = o.at_ ∧ o.at_ ≤ 255
  val : ∀ i, i < M.length → 0 ≤ M.getD i 0 ∧ (M.getD i 0 ≤ 255 ∨ M.getD i 0 = 1048576)
  few : M.length ≤ 16
theorem getD_snoc {M : List Int} {x : Int} {i : Nat} : (M ++ [x]).getD i 0 = if i < M.length then M.getD i 0 else if i = M.length then x else 0 := by
  simp only [List.getD_eq_getElem?_getD]
  split
  · rename_i h; rw [List.getElem?_append_left h]
  · rename_i h
    rw [List.getElem?_append_right (by omega)]
    split
    · rename_i e; subst e; simp
    · rename_i e
      rw [List.getElem?_eq_none (by simp; omega)]
      rfl
theorem getD_setI {M : List Int} {x : Int} {i j : Nat} (hi : i < M.length) : (M.set i x).getD j 0 = if j = i then x else M.getD j 0 := by
  simp only [List.getD_eq_getElem?_getD, List.getElem?_set]
  by_cases h : i = j
  · subst h; simp [hi]
  · rw [if_neg h, if_neg (fun e => h e.symm)]
theorem Las.nil : Las [] [] := ⟨fun o => ⟨fun h => (by cases h), fun ⟨i, hi, _⟩ => absurd hi (Nat.not_lt_zero _)⟩, fun i hi => absurd hi (Nat.not_lt_zero _), by decide⟩
theorem Las.pad {L : List On} {M : List Int} (h : Las L M) (hm : M.length < 16) : Las L (M ++ [1048576]) := by
  refine ⟨fun o => ?_, fun i hi => ?_, by simp; omega⟩
  · rw [h.mem o]
    constructor
    · rintro ⟨i, hi, e1, e2, e3⟩
      exact ⟨i, by simp; omega, e1, by rw [getD_snoc, if_pos hi]; exact e2, e3⟩
    · rintro ⟨i, hi, e1, e2, e3⟩
      rw [getD_snoc] at e2
      by_cases q : i < M.length
      · rw [if_pos q] at e2
        exact ⟨i, q, e1, e2, e3⟩
      · have : i = M.length := by simp at hi; omega
        rw [if_neg q, if_pos this] at e2
        omega
  · rw [getD_snoc]
    by_cases q : i < M.length
    · rw [if_pos q]; exact h.val i q
    · have : i = M.length := by simp at hi; omega
      rw [if_neg q, if_pos this]
      omega
theorem Las.put {L : List On} {M : List Int} (h : Las L M) (hn : NoTwice L) {i : Nat} {a : Int} (hi : i < M.length) (ha : 0 ≤ a ∧ a ≤ 255) : Las (insD ⟨(i : Int), a⟩ (dropD (i : Int) L)) (M.set i a) := by
  refine ⟨fun o => ?_, fun j hj => ?_, by simpa using h.few⟩
  · rw [put_mem hn o, h.mem o]
    constructor
    · rintro (rfl | ⟨⟨j, hj, e1, e2, e3⟩, q⟩)
      · exact ⟨i, by simpa using hi, rfl, by rw [getD_setI hi, if_pos rfl], ha.2⟩
      · exact ⟨j, by simpa using hj, e1, by rw [getD_setI hi, if_neg (fun e => q (by rw [e1, e]))]; exact e2, e3⟩
    · rintro ⟨j, hj, e1, e2, e3⟩
      rw [getD_setI hi] at e2
      by_cases q : j = i
      · rw [if_pos q] at e2
        refine .inl ?_
        obtain ⟨x, y⟩ := o
        simp only at e1 e2
        rw [e1, q, ← e2]
      · rw [if_neg q] at e2
        exact .inr ⟨⟨j, by simpa using hj, e1, e2, e3⟩, fun e => q (by rw [e1] at e; exact_mod_cast e)⟩
  · rw [getD_setI hi]
    split
    · omega
    · exact h.val j (by simpa using hj)
/-- Those from a number on. -/
def Half (L K : List On) (c : Nat) : Prop := ∀ o, o ∈ K ↔ o ∈ L ∧ (c : Int) ≤ o.id
theorem Half.start {L : List On} {M : List Int} (hl : Las L M) : Half L [] M.length := fun o => ⟨fun h => (by cases h), fun ⟨a, b⟩ => by
  obtain ⟨i, hi, e1, _⟩ := (hl.mem o).1 a
  omega⟩
theorem Half.skip {L K : List On} {M : List Int} {c : Nat} (h : Half L K (c + 1)) (hl : Las L M) (hm : ¬ M.getD c 0 < 1048576) : Half L K c := fun o => by
  rw [h o]
  constructor
  · exact fun ⟨a, b⟩ => ⟨a, by push_cast at b; omega⟩
  · refine fun ⟨a, b⟩ => ⟨a, ?_⟩
    obtain ⟨i, hi, e1, e2, e3⟩ := (hl.mem o).1 a
    have : i ≠ c := fun e => by subst e; omega
    push_cast
    omega
theorem Half.new {L K : List On} {c : Nat} (h : Half L K (c + 1)) : hasD (c : Int) K = false := by
  cases hb : hasD (c : Int) K with
  | false => rfl
  | true =>
    obtain ⟨o, ho, e⟩ := has_iff.1 hb
    have := ((h o).1 ho).2
    push_cast at this
    omega
theorem Half.put {L K : List On} {M : List Int} {c : Nat} (h : Half L K (c + 1)) (hk : NoTwice K) (hl : Las L M) (hc : c < M.length) (hm : M.getD c 0 < 1048576) : Half L (insD ⟨(c : Int), M.getD c 0⟩ (dropD (c : Int) K)) c := fun o => by
  have hv := hl.val c hc
  rw [put_mem hk o, h o]
  constructor
  · rintro (rfl | ⟨⟨a, b⟩, _⟩)
    · exact ⟨(hl.mem _).2 ⟨c, hc, rfl, rfl, by dsimp only; omega⟩, Int.le_refl _⟩
    · exact ⟨a, by push_cast at b; omega⟩
  · rintro ⟨a, b⟩
    obtain ⟨i, hi, e1, e2, e3⟩ := (hl.mem o).1 a
    by_cases q : i = c
    · subst q
      refine .inl ?_
      obtain ⟨x, y⟩ := o
      simp only at e1 e2
      rw [e1, e2]
    · exact .inr ⟨⟨a, by push_cast; omega⟩, by omega⟩
theorem srt_ext : ∀ {A B : List On}, Srt A → Srt B → (∀ o, o ∈ A ↔ o ∈ B) → A = B
  | [], [], _, _, _ => rfl
  | [], b :: B, _, _, h => by have := (h b).2 (by simp); cases this
  | a :: A, [], _, _, h => by have := (h a).1 (by simp); cases this
  | a :: A, b :: B, ha, hb, h => by
    have ha' := List.pairwise_cons.1 ha
    have hb' := List.pairwise_cons.1 hb
    have e : a = b := by
      rcases List.mem_cons.1 ((h a).1 (by simp)) with q | q
      · exact q
      · rcases List.mem_cons.1 ((h b).2 (by simp)) with r | r
        · exact r.symm
        · have h1 := hb'.1 a q
          have h2 := ha'.1 b r
          rw [ltO_asymm h1] at h2
          cases h2
    subst e
    have : A = B := srt_ext ha'.2 hb'.2 (fun o => by
      constructor
      · intro ho
        rcases List.mem_cons.1 ((h o).1 (List.mem_cons_of_mem _ ho)) with q | q
        · subst q; have := ha'.1 o ho; rw [ltO_irrefl] at this; cases this
        · exact q
      · intro ho
        rcases List.mem_cons.1 ((h o).2 (List.mem_cons_of_mem _ ho)) with q | q
        · subst q; have := hb'.1 o ho; rw [ltO_irrefl] at this; cases this
        · exact q)
    rw [this]
theorem Half.all {L K : List On} {M : List Int} (h : Half L K 0) (hl : Las L M) (ha : Srt L) (hb : Srt K) : K = L := srt_ext hb ha (fun o => by
  rw [h o]
  exact ⟨fun q => q.1, fun q => ⟨q, by obtain ⟨i, _, e, _⟩ := (hl.mem o).1 q; push_cast; omega⟩⟩)
theorem Las.len {L : List On} {M : List Int} (h : Las L M) (hs : Srt L) : ∀ o, o ∈ L → o.at_ ≤ 255 := fun o ho => by obtain ⟨_, _, _, _, e⟩ := (h.mem o).1 ho; exact e
/-- What the row of those due tells: each number's time stands in the row of last times, in order. -/
theorem due_tells {L D : List On} {M : List Int} (hl : Las L M) (hs : Srt D) (hd : ∀ o, o ∈ D → o ∈ L) {i : Nat} (hi : i < D.length) :
    ∃ j : Nat, j < M.length ∧ (D.map On.id).getD i 0 = (j : Int) ∧ (0 < i → ∃ j' : Nat, j' < M.length ∧ (D.map On.id).getD (i - 1) 0 = (j' : Int) ∧ (M.getD j' 0 < M.getD j 0 ∨ (M.getD j' 0 = M.getD j 0 ∧ j' < j))) := by
  have key : ∀ k, k < D.length → ∃ j : Nat, j < M.length ∧ (D.map On.id).getD k 0 = (j : Int) ∧ (gt D k).id = (j : Int) ∧ M.getD j 0 = (gt D k).at_ := fun k hk => by
    obtain ⟨j, hj, e1, e2, _⟩ := (hl.mem _).1 (hd _ (gt_mem hk))
    refine ⟨j, hj, ?_, e1, e2⟩
    rw [← e1, gt_eq hk]
    simp [hk]
  obtain ⟨j, hj, e1, e2, e3⟩ := key i hi
  refine ⟨j, hj, e1, fun h0 => ?_⟩
  obtain ⟨j', hj', f1, f2, f3⟩ := key (i - 1) (by omega)
  refine ⟨j', hj', f1, ?_⟩
  have hlt : ltO (gt D (i - 1)) (gt D i) = true := by
    have := List.pairwise_iff_getElem.1 hs (i - 1) i (by omega) hi (by omega)
    rw [gt_eq (by omega : i - 1 < D.length), gt_eq hi]
    exact this
  rcases ltO_true.1 hlt with q | ⟨q1, q2⟩
  · exact .inl (by rw [e3, f3]; exact q)
  · exact .inr ⟨by rw [e3, f3]; exact q1, by rw [e2, f2] at q2; exact_mod_cast q2⟩
theorem due_never {L : List On} {d : Int} (hn : NoTwice L) {i : Nat} (hi : i < (dropD d L).length) : ((dropD d L).map On.id).getD i 0 ≠ d := fun e => by
  have h1 := drop_gone (id := d) hn
  have h2 : hasD d (dropD d L) = true := has_iff.2 ⟨gt (dropD d L) i, gt_mem hi, by have e2 : (gt (dropD d L) i).id = ((dropD d L).map On.id).getD i 0 := (by rw [gt_eq hi]; simp [hi]); rw [e2, e]⟩
  rw [h1] at h2
  cases h2
end Go.Proofs.Ytcnfchjiiglijaa
