/- The program's Cut: a text's parts. -/
import Derived.Test.YtjcgckhheegonaaFragPc
import Derived.Lib.ConvBytes
namespace Go.Proofs.Ytjcgckhheegonaa
open Go.RowKit Go.Shelf
attribute [local go_sem] Oper.semAt_some
set_option linter.unusedVariables false
set_option linter.unusedSimpArgs false
set_option maxRecDepth 20000

theorem conv_rowO {w : World} {g p n : Nat} (cap : Nat) (l : List UInt8) (hn : l.length = n) (h : ∀ j, j < l.length → w.cell? ⟨g, p + j, none⟩ = some (.int .u8 ((l.getD j 0).toNat : Int))) :
    (convert 50 9 (.slice (some ⟨g, p, none⟩) n cap)).run Try.prog w = .ok (.string ⟨l.toArray⟩) w := by
  subst hn
  rw [run_convert_bytes_string w 50 9 5 _ _ _ Try.underlying50 Try.underlying5 Try.underlying9]
  rw [run_bytesToString w ⟨g, p, none⟩ l.length cap (l.map fun c => (c.toNat : Int))]
  · rw [foldl_push]; simp
  · have := run_loadCells_list (P := Try.prog) (w := w) ⟨g, p, none⟩ ((l.map fun c => (c.toNat : Int)).map (Value.int .u8)) (by
      intro j v hv
      simp only [List.map_map, List.getElem?_map, Option.map_eq_some_iff] at hv
      obtain ⟨c, hc, rfl⟩ := hv
      have hj : j < l.length := by
        rcases Nat.lt_or_ge j l.length with q | q
        · exact q
        · simp [List.getElem?_eq_none q] at hc
      have := h j hj
      have e : (⟨g, p, none⟩ : Addr).add j = ⟨g, p + j, none⟩ := by
        unfold Addr.add
        split
        · rename_i h0; subst h0; rfl
        · rfl
      rw [e]
      simpa [List.getD, hc] using this)
    simpa using this
theorem heap_offC {w : World} {g k j : Nat} (u : Value) (h : k ≠ g) : (w.setCell ⟨g, j, none⟩ u).heap[k]? = w.heap[k]? := Below.heap_setCell _ _ _ _ h
theorem own_ne {W : World} {base : Nat} {e t : TypeId} {v : Value} {n : Nat} {xs : List Value} {j : Nat} {cs : Array Value} {fr : Nat × Nat} (hrow : W.ownsRow base e 4 v n xs) (hj : W.heap[j]? = some (.cells cs t fr)) (ht : t ≠ e) : v.ownBlock ≠ some j := by
  rcases hrow.2 with ⟨rfl, _⟩ | ⟨g, cap, cur, rfl, _, hg, _⟩
  · simp [Value.ownBlock]
  · intro h
    simp only [Value.ownBlock, Option.some.injEq] at h
    subst h
    rw [hg] at hj
    simp only [Option.some.injEq, Obj.cells.injEq] at hj
    exact ht hj.2.1.symm
theorem app_other {W w1 : World} {base : Nat} {e t T9 : TypeId} {v v' v9 : Value} {n : Nat} {xs : List Value} {tmp : Obj} {j q9 : Nat} {cs : Array Value} {fr : Nat × Nat} (hrow : W.ownsRow base e 4 v n xs) (hgrow : (W.alloc tmp).grownBy w1 v.ownBlock) (h9 : Boxed W q9 T9 v9) (hj : W.heap[j]? = some (.cells cs t fr)) (ht : t ≠ e) (ht9 : t ≠ T9) : (w1.setCell ⟨q9, 0, none⟩ v').heap[j]? = W.heap[j]? := by
  have hq : j ≠ q9 := by
    rintro rfl
    have := (show W.heap[j]? = _ from h9).symm.trans hj
    simp only [Option.some.injEq, Obj.cells.injEq] at this
    exact ht9 this.2.1.symm
  rw [heap_offC _ hq]
  exact (hgrow.block j (by have := blk_lt hj; simp; omega) (fun q => own_ne hrow hj ht q.symm)).trans ((below_alloc W tmp).block j (blk_lt hj))
/-- What a loop round finds: the call's boxes, the text's bytes, the parts so far. -/
structure CutI (w : World) (q4 q8 q9 bt Bs Bk cap m : Nat) (id : Int) (k : Nat) (s : ByteArray) (fs : List Fr) (W : World) : Prop where
  b4 : Boxed W q4 32 (.int .u64 id)
  b8 : Boxed W q8 3 (.int .i64 m)
  bs : Boxed W Bs 50 (.slice (some ⟨bt, 0, none⟩) s.size cap)
  bk : Boxed W Bk 3 (.int .i64 k)
  tx : ∃ C fr, W.heap[bt]? = some (.cells C 5 fr) ∧ ∀ j, j < s.size → C[j]? = some (.int .u8 ((s.data.toList.getD j 0).toNat : Int))
  l : ∃ v, Boxed W q9 23 v ∧ OwnF 35 w.heap.size v fs W
  low : Below w.heap.size w W
theorem not_row {W : World} {j : Nat} {cs : Array Value} {t : TypeId} {fr : Nat × Nat} {row : Option Nat} (h : W.heap[j]? = some (.cells cs t fr)) (hr : ∀ r, row = some r → ∃ o : Obj, W.heap[r]? = some o ∧ o.isCells = false) : some j ≠ row := by
  intro e
  obtain ⟨o, ho, hc⟩ := hr j e.symm
  rw [h] at ho
  cases ho
  cases hc
theorem CutI.kept {w : World} {q4 q8 q9 bt Bs Bk cap m : Nat} {id : Int} {k : Nat} {s : ByteArray} {fs : List Fr} {W W' : World} {row : Option Nat} (h : CutI w q4 q8 q9 bt Bs Bk cap m id k s fs W) (hg : W.grownBy W' row) (hr : ∀ r, row = some r → w.heap.size ≤ r ∧ ∃ o : Obj, W.heap[r]? = some o ∧ o.isCells = false) : CutI w q4 q8 q9 bt Bs Bk cap m id k s fs W' := by
  have hr2 : ∀ r, row = some r → ∃ o : Obj, W.heap[r]? = some o ∧ o.isCells = false := fun r e => (hr r e).2
  obtain ⟨C, fr, t1, t2⟩ := h.tx
  obtain ⟨v, l1, l2⟩ := h.l
  refine ⟨h.b4.kept hg (not_row h.b4 hr2), h.b8.kept hg (not_row h.b8 hr2), h.bs.kept hg (not_row h.bs hr2), h.bk.kept hg (not_row h.bk hr2), ⟨C, fr, (hg.block bt (blk_lt t1) (not_row t1 hr2)).trans t1, t2⟩, ⟨v, l1.kept hg (not_row l1 hr2), ?_⟩, h.low.grown hg h.low.size (fun r e => (hr r e).1)⟩
  refine World.ownsRow.kept l2 hg ?_
  rcases l2.2 with ⟨rfl, _⟩ | ⟨g, c, cur, rfl, _, hgb, _⟩
  · exact .inl rfl
  · exact .inr (fun e => not_row hgb hr2 (by rw [← e]; rfl))
/-- The parts that so many pieces make. -/
def ptsOf (s : ByteArray) (id : Int) (k m : Nat) (pre : List (Fin m)) : List Fr := pre.mapIdx (fun j x => ⟨id, j, m, s.extract (x.1 * k) (min s.size (x.1 * k + k))⟩)
theorem ptsOf_snoc (s : ByteArray) (id : Int) (k m : Nat) (pre : List (Fin m)) (x : Fin m) : ptsOf s id k m (pre ++ [x]) = ptsOf s id k m pre ++ [⟨id, pre.length, m, s.extract (x.1 * k) (min s.size (x.1 * k + k))⟩] := by
  simp [ptsOf]
theorem ptsOf_len (s : ByteArray) (id : Int) (k m : Nat) (pre : List (Fin m)) : (ptsOf s id k m pre).length = pre.length := by simp [ptsOf]
theorem ptsOf_all (s : ByteArray) (id : Int) (k m : Nat) : ptsOf s id k m (List.finRange m) = parts s id k m := by
  apply List.ext_getElem
  · simp [ptsOf, parts]
  · intro i h1 h2
    simp [ptsOf, parts, partAt]
theorem bytes_below (u : World) (e : TypeId) (s : ByteArray) : Below u.heap.size u (Lib.bytesWorld u e s) :=
  ⟨by first | rfl | simp [Lib.bytesWorld, World.freeze], by first | rfl | simp [Lib.bytesWorld, World.freeze], by first | rfl | simp [Lib.bytesWorld, World.freeze], by rw [Lib.bytesWorld_size]; omega, fun k hk => Lib.bytesWorld_at_old u e s k hk⟩
theorem boxed_below {W W' : World} {B : Nat} {t : TypeId} {v : Value} (h : Boxed W B t v) (hb : Below W.heap.size W W') : Boxed W' B t v := (hb.block B (blk_lt h)).trans h
theorem extract_of (s : ByteArray) (p q : Nat) : (⟨((s.data.toList.take q).drop p).toArray⟩ : ByteArray) = s.extract p q := by
  apply list_ext
  rw [extract_list]
theorem many_quo (n k : Nat) (hk : 1 ≤ k) (hn : 1 ≤ n) : ((n : Int) + (k : Int) - 1).tdiv (k : Int) = ((many n k : Nat) : Int) := by
  unfold many
  rw [show (n : Int) + (k : Int) - 1 = ((n + k - 1 : Nat) : Int) by omega]
  exact (Int.ofNat_tdiv (n + k - 1) k).symm
set_option maxHeartbeats 8000000 in
set_option maxRecDepth 100000 in
theorem cut_good (s : ByteArray) (id : Int) (k : Nat) (w : World) (p0 : 1 ≤ id) (p1 : id ≤ 4294967296) (p2 : (1 : Int) ≤ k) (p3 : (k : Int) ≤ 1000) (p4 : (1 : Int) ≤ s.size) (p5 : (s.size : Int) ≤ 4096) (h16 : ¬ 16 < many s.size k) :
    Calls Try.prog 20 #[.string s, .int .u64 id, .int .i64 k] w fun e w' => ∃ v, e = .returned (.tuple #[v, .int .i64 (cutF s id k).2]) ∧ OwnF 35 w.heap.size v (cutF s id k).1 w' ∧ Below w.heap.size w w' := by
  obtain ⟨m, hm⟩ : ∃ m, many s.size k = m := ⟨_, rfl⟩
  have hcut : cutF s id k = (parts s id k m, 0) := by
    unfold cutF; rw [if_neg (by omega), Int.toNat_natCast, if_neg h16, hm]
  have HCUT := Lib.hid hcut
  have HM : Hid (∀ i, i < m ↔ i * k < s.size) := Lib.hid (fun i => by rw [← hm]; exact many_iff (by omega))
  have HP : Hid (1 ≤ k ∧ k ≤ 1000 ∧ s.size ≤ 4096 ∧ 1 ≤ s.size) := Lib.hid ⟨by omega, by omega, by omega, by omega⟩
  have hquo := many_quo s.size k (by omega) (by omega)
  rw [hm] at hquo h16
  have hm16 : (m : Int) ≤ 16 := by omega
  have hd16 : decide (16 < m) = false := by simp; omega
  have hd17 : decide ((16 : Int) < (m : Int)) = false := by simp; omega
  have F0 : Hid (fitsB id 4294967296 = true) := Lib.hid (by simp [fitsB]; omega)
  have F1 : Hid (fitsB (k : Int) 1000 = true) := Lib.hid (by simp [fitsB]; omega)
  have F2 : Hid (fitsB (s.size : Int) 4096 = true) := Lib.hid (by simp [fitsB]; omega)
  have hk0 : ((k : Int) == 0) = false := by simp; omega
  clear hcut hm
  refine (callsIn_wide (n := 3)).1 ?_
  refine callsIn_of_wp_marks Try.func20 rfl trivial ?_ rfl
  simp only [Try.ntmps20, List.size_toArray, List.length_cons, List.length_nil, Nat.reduceAdd, Nat.reduceSub, Array.replicate_succ, Array.replicate_zero, List.push_toArray, List.append_toArray, List.nil_append, List.cons_append]
  gi_wp2_with fail
  refine ⟨trivial, (callsIn_wide.2 (fits_u64 id 4294967296 _ true F0)).mono ?_⟩
  rintro e w1 ⟨rfl, rfl⟩
  gi_wp2_with fail
  refine ⟨trivial, (callsIn_wide.2 (fits_i64 k 1000 _ true F1)).mono ?_⟩
  rintro e w1 ⟨rfl, rfl⟩
  gi_wp2_with fail
  refine ⟨trivial, (callsIn_wide.2 (fits_i64 s.size 4096 _ true F2)).mono ?_⟩
  rintro e w1 ⟨rfl, rfl⟩
  obtain ⟨i0, hi, hz0, hz1, hz2⟩ : ∃ i0, Try.prog.info? 35 = some i0 ∧ i0.zero = some zeroF.v ∧ i0.size = 4 ∧ i0.bytes = 40 := by
    have hinf := infoP
    cases hi : Try.prog.info? 35 with
    | none => rw [hi] at hinf; cases hinf
    | some i0 =>
      rw [hi] at hinf
      simp only [Option.map_some, Option.some.injEq, Prod.mk.injEq] at hinf
      exact ⟨i0, rfl, hinf.1, hinf.2.1, hinf.2.2⟩
  have hcv0 := fun u => Lib.run_convert_string_bytes (P := Try.prog) u 9 50 5 s Try.underlying9 Try.underlying50 Try.underlying5
  gi_wp2_with (gi_at_make; refine wpListIn_make_own _ rfl _ _ 23 rfl w.heap.size 35 i0 zeroF.v 4 Try.underlying23 hi hz0 hz1 .i64 .i64 _ m rfl rfl rfl (by rw [hz2]; omega) (by unfold maxLen; omega) (by simp; omega) ?_; intro w5 hown5 hgrow5; have HO5 := Lib.hid hown5; have HG5 := Lib.hid hgrow5; clear hown5 hgrow5)
  obtain ⟨u5, hu5⟩ : ∃ u, u = w5.alloc (.cells #[.slice (some ⟨w.heap.size + 1 + 1, 0, none⟩) 0 m] 23) := ⟨_, rfl⟩
  obtain ⟨cap, hcap⟩ : ∃ c, c = grownCap u5 s.size 0 5 := ⟨_, rfl⟩
  obtain ⟨u6, hu6⟩ : ∃ u, u = Lib.bytesWorld u5 5 s := ⟨_, rfl⟩
  obtain ⟨q9, hq9⟩ : ∃ q, q = w5.heap.size := ⟨_, rfl⟩
  obtain ⟨bt, hbt⟩ : ∃ q, q = w5.heap.size + 1 := ⟨_, rfl⟩
  rw [← hu5, ← hcap, ← hu6, ← hbt, ← hq9]
  have hb56 : Below w5.heap.size w5 u6 := by rw [hu6, hu5]; exact (below_alloc w5 _).trans ((bytes_below _ _ _).mono (by simp))
  have hs5 : u5.heap.size = w5.heap.size + 1 := by rw [hu5]; simp
  have hs45 : w.heap.size + 2 ≤ w5.heap.size := by have := HG5.out.size; simp at this; omega
  have hb4 : Below w.heap.size w w5 := (((below_alloc w _).trans ((below_alloc _ _).mono (by simp))).grown HG5.out (by simp; omega) (fun r e => by cases e))
  have k4 : Boxed u6 w.heap.size 32 (.int .u64 id) := boxed_below (((Boxed.new w 32 (.int .u64 id)).alloc _).kept HG5.out (by simp)) hb56
  have k8 : Boxed u6 (w.heap.size + 1) 3 (.int .i64 m) := by
    have := Boxed.new (w.alloc (.cells #[.int .u64 id] 32)) 3 (.int .i64 m)
    rw [World.size_alloc] at this
    exact boxed_below (this.kept HG5.out (by simp)) hb56
  have k9 : Boxed u6 q9 23 (.slice (some ⟨w.heap.size + 1 + 1, 0, none⟩) 0 m) := by
    have := Boxed.new w5 23 (.slice (some ⟨w.heap.size + 1 + 1, 0, none⟩) 0 m)
    rw [← hu5, ← hq9] at this
    rw [hu6]
    exact boxed_below this (bytes_below _ _ _)
  have kt : ∃ C fr, u6.heap[bt]? = some (.cells C 5 fr) ∧ ∀ j, j < s.size → C[j]? = some (.int .u8 ((s.data.toList.getD j 0).toNat : Int)) := by
    have h1 := Lib.bytesWorld_at_new u5 5 s
    rw [← hu6, hs5, ← hbt] at h1
    refine ⟨_, _, h1, fun j hj => ?_⟩
    have h2 := Lib.bytesWorld_cell u5 5 s j hj
    rw [← hu6, hs5, ← hbt, cell_at j h1] at h2
    exact h2
  have ko : OwnF 35 w.heap.size (.slice (some ⟨w.heap.size + 1 + 1, 0, none⟩) 0 m) [] u6 := OwnF.below (fs := []) (by have := HO5.out; rw [size_alloc, size_alloc] at this; exact this) hb56
  have hlow : Below w.heap.size w u6 := hb4.trans (hb56.mono (by omega))
  have HQ9 : Hid (w.heap.size ≤ q9) := Lib.hid (by omega)
  have HC : Hid (s.size ≤ cap) := Lib.hid (by rw [hcap]; exact grownCap_ge _ _ _ _)
  have HK := Lib.hid (And.intro k4 (And.intro k8 (And.intro k9 (And.intro kt (And.intro ko hlow)))))
  clear hu5 hcap hu6 hq9 hbt hb56 hs5 hs45 hb4 k4 k8 k9 kt ko hlow HO5 HG5 hcv0
  refine ⟨trivial, (callsIn_wide.2 (pieces_k _ _ _ _ rfl (k : Int) _)).mono ?_⟩
  rintro e w6 ⟨rfl, hw6⟩
  have hb6 : Below u6.heap.size u6 w6 := by rw [hw6]; exact (below_alloc u6 _).trans ((below_alloc _ _).mono (by simp))
  have ks : Boxed w6 u6.heap.size 50 (.slice (some ⟨bt, 0, none⟩) s.size cap) := by rw [hw6]; exact (Boxed.new u6 _ _).alloc _
  have kk : Boxed w6 (u6.heap.size + 1) 3 (.int .i64 k) := by
    have := Boxed.new (u6.alloc (.cells #[.slice (some ⟨bt, 0, none⟩) s.size cap] 50)) 3 (.int .i64 k)
    rw [World.size_alloc] at this
    rw [hw6]; exact this
  have HI0 : Hid (CutI w w.heap.size (w.heap.size + 1) q9 bt u6.heap.size (u6.heap.size + 1) cap m id k s (ptsOf s id k m []) w6) := Lib.hid (by
    obtain ⟨k4, k8, k9, ⟨C, fr, kt, kt2⟩, ko, hlow⟩ := HK.out
    exact ⟨boxed_below k4 hb6, boxed_below k8 hb6, ks, kk, ⟨C, fr, (hb6.block bt (blk_lt kt)).trans kt, kt2⟩, ⟨_, boxed_below k9 hb6, OwnF.below (fs := []) ko hb6⟩, hlow.trans (hb6.mono hlow.size)⟩)
  obtain ⟨Bs, hBs⟩ : ∃ q, q = u6.heap.size := ⟨_, rfl⟩
  obtain ⟨Bk, hBk⟩ : ∃ q, q = u6.heap.size + 1 := ⟨_, rfl⟩
  rw [← hBk, ← hBs] at HI0 ⊢
  have HL : Hid (w.heap.size ≤ w6.heap.size ∧ Bs < w6.heap.size ∧ Bk < w6.heap.size) := Lib.hid ⟨HI0.out.low.size, HI0.out.bs.lt, HI0.out.bk.lt⟩
  have HPC : Hid (1 ≤ k ∧ k ≤ 1000 ∧ s.size ≤ 4096 ∧ s.size ≤ cap) := Lib.hid ⟨HP.out.1, HP.out.2.1, HP.out.2.2.1, HC.out⟩
  clear hb6 ks kk hw6 HK hBs hBk
  gi_wp2_with fail
  refine wpIn_rangeFunc_ownG rfl (by decide) (gf := 40) (lb := #[.pointer (some ⟨Bs, 0, none⟩), .pointer (some ⟨Bk, 0, none⟩)]) rfl trivial (enters_of Try.func40 (by kernel_rfl) rfl)
    (pieces_stops Fence.wide 2 trivial rfl (by decide) Bs Bk w.heap.size bt s.size cap k m HM HPC w6 HL.out.2.1 HL.out.2.2 HI0.out.bs.cell HI0.out.bk.cell) (fun h k => h.trans k)
    (fun W l o o' hl h hc hw => ⟨belowK_b HL.out.1 W l o o' hl h hc hw, World.putObj_heap_other (by have := HL.out; omega), World.putObj_heap_other (by have := HL.out; omega)⟩) (Below.refl _ _) (fun _ => rfl)
    (fun pre W => CutI w w.heap.size (w.heap.size + 1) q9 bt Bs Bk cap m id k s (ptsOf s id k m pre) W)
    (fun _ _ _ => False)
    (fun pre X Y row hs hg hr => hs.kept hg (fun r e => ⟨Nat.le_trans HL.out.1 (hr r e).1, (hr r e).2⟩))
    (fun _ _ _ _ _ hs _ _ => hs)
    HI0.out
    (fun x => { tmps := #[.string s, .int .u64 id, .int .i64 k, undef, .pointer (some ⟨w.heap.size, 0, none⟩), undef, .slice none 0 0, .int .i64 0, .pointer (some ⟨w.heap.size + 1, 0, none⟩), .pointer (some ⟨q9, 0, none⟩), pcV bt k s.size x.1, .int .u64 id, .bool true, .bool false, .bool false, .int .i64 k, .bool true, .bool false, .bool false, .bool false, .string s, .int .i64 s.size, .bool true, .bool false, .bool false, .string s, .int .i64 s.size, .int .i64 k, .int .i64 (s.size + k), .int .i64 (s.size + k - 1), .int .i64 k, .int .i64 m, .int .i64 m, .bool false, .int .i64 m, .slice (some ⟨w.heap.size + 1 + 1, 0, none⟩) 0 m, .string s, .slice (some ⟨bt, 0, none⟩) s.size cap, .int .i64 k, .func (.func 40) #[] #[.pointer (some ⟨Bs, 0, none⟩), .pointer (some ⟨Bk, 0, none⟩)], pcV bt k s.size x.1, undef, undef, undef, undef, undef, undef, undef, undef, undef, undef, undef], defers := [] }) ?assign ?body ?done ?stop
  case assign =>
    intro l x W K hK
    gi_wp2
    exact hK
  case stop =>
    rintro D c pre W _ _ h _
    exact h.elim
  case body =>
    rintro l pre ⟨i, hx⟩ W hI hlt
    have HI := Lib.hid hI
    clear hI
    dsimp only
    have h2 := (HM.out i).1 hx
    obtain ⟨p, hp⟩ : ∃ p, i * k = p := ⟨_, rfl⟩
    obtain ⟨q, hq⟩ : ∃ q, min s.size (p + k) = q := ⟨_, rfl⟩
    obtain ⟨d, hd⟩ : ∃ d, q - p = d := ⟨_, rfl⟩
    obtain ⟨px, hpx⟩ : ∃ t, s.extract p q = t := ⟨_, rfl⟩
    have hpc : pcV bt k s.size i = .slice (some ⟨bt, p, none⟩) d d := by unfold pcV; rw [hp, hq, hd]
    rw [hp] at h2
    have hcv : (convert 50 9 (.slice (some ⟨bt, p, none⟩) d d)).run Try.prog W = .ok (.string px) W := by
      obtain ⟨C, fr, t1, t2⟩ := HI.out.tx
      have hl : ((s.data.toList.take q).drop p).length = d := by
        rw [List.length_drop, List.length_take, list_len]
        omega
      have := conv_rowO (w := W) (g := bt) (p := p) d ((s.data.toList.take q).drop p) hl (fun j hj => by
        rw [hl] at hj
        rw [cell_at (p + j) t1, t2 (p + j) (by omega)]
        simp only [List.getD_eq_getElem?_getD, List.getElem?_drop]
        rw [List.getElem?_take_of_lt (by omega)])
      rw [extract_of, hpx] at this
      exact this
    have HPX : Hid (ptsOf s id k m (pre ++ [⟨i, hx⟩]) = ptsOf s id k m pre ++ [⟨id, pre.length, m, px⟩]) := Lib.hid (by
      rw [ptsOf_snoc]; dsimp only; rw [hp, hq, hpx])
    obtain ⟨j, hj⟩ : ∃ j, pre.length = j := ⟨_, rfl⟩
    have HJL : Hid ((ptsOf s id k m pre).length = j) := Lib.hid (by rw [ptsOf_len, hj])
    rw [hj] at HPX hlt
    rw [hpc]
    have HIM := Lib.hid hm16
    have hjm : (j : Int) < 16 := by omega
    clear h2 hp hq hd hpx hpc hj
    obtain ⟨v, l1, l2⟩ := HI.out.l
    obtain ⟨a0, c0, rfl, _⟩ := l2.at
    rw [HJL.out] at l1 l2
    have l2' : W.ownsRow w.heap.size 35 4 (.slice a0 j c0) j (cellsF (ptsOf s id k m pre)) := by
      have := l2
      unfold OwnF at this
      rw [HJL.out] at this
      exact this
    have L1 := Lib.hid l1
    have L2 := Lib.hid l2'
    clear l1 l2 l2'
    have hc := L1.out.cell
    have hc4 := HI.out.b4.cell
    have hc8 := HI.out.b8.cell
    gi_wp2_with (gi_at_builtin; refine wpListIn_append_own _ rfl _ _ 23 rfl w.heap.size 35 i0 zeroF.v 4 40 Try.underlying23 hi hz0 hz1 hz2 rfl (by decide) _ j (cellsF (ptsOf s id k m pre)) rfl (L2.out.alloc _) ⟨W.heap.size, 0, none⟩ 1 1 (Fr.cl ⟨id, j, m, px⟩).toList rfl rfl (World.news_of_block (heap_alloc_new W _)) (fun u hu => cellsF_one [⟨id, j, m, px⟩] u (by rw [cellsF, cellsF, List.append_nil]; exact hu)) (by unfold maxLen; omega) (by omega) (by have := HI.out.low.size; simp; omega) ?_; intro v' w1 hown' hgrow _; obtain ⟨g', cap', rfl⟩ := ownsRow_succ hown'; obtain ⟨hv1, hv2, hr2, hk2, hb2⟩ := L1.out.appended (by decide) L2.out HI.out.low.size (by have := HQ9.out; omega) hown' hgrow; have hc1 := hv1.cell; have hf1 := hv1.frozen)
    obtain ⟨C, fr, t1, t2⟩ := HI.out.tx
    have o1 := app_other (v' := .slice (some ⟨g', 0, none⟩) (j + 1) cap') L2.out hgrow L1.out HI.out.bs (by decide) (by decide)
    have o2 := app_other (v' := .slice (some ⟨g', 0, none⟩) (j + 1) cap') L2.out hgrow L1.out HI.out.bk (by decide) (by decide)
    have o3 := app_other (v' := .slice (some ⟨g', 0, none⟩) (j + 1) cap') L2.out hgrow L1.out HI.out.b4 (by decide) (by decide)
    have o4 := app_other (v' := .slice (some ⟨g', 0, none⟩) (j + 1) cap') L2.out hgrow L1.out HI.out.b8 (by decide) (by decide)
    have o5 := app_other (v' := .slice (some ⟨g', 0, none⟩) (j + 1) cap') L2.out hgrow L1.out t1 (by decide) (by decide)
    refine ⟨hk2.from _, ⟨hb2, o1, o2⟩, ⟨o3.trans HI.out.b4, o4.trans HI.out.b8, o1.trans HI.out.bs, o2.trans HI.out.bk, ⟨C, fr, o5.trans t1, t2⟩, ⟨_, hv2, ?_⟩, HI.out.low.trans hb2⟩⟩
    unfold OwnF
    rw [HPX.out, show (ptsOf s id k m pre ++ [(⟨id, j, m, px⟩ : Fr)]).length = j + 1 by rw [List.length_append, HJL.out]; rfl, cellsF_app, show cellsF [(⟨id, j, m, px⟩ : Fr)] = (Fr.cl ⟨id, j, m, px⟩).toList by rw [cellsF, cellsF, List.append_nil]]
    exact hr2
  case done =>
    rintro D ys W hD rfl hI hK
    have HI := Lib.hid hI
    have HKD := Lib.hid hK
    clear hI hK
    obtain ⟨v, l1, l2⟩ := HI.out.l
    obtain ⟨a0, c0, rfl, _⟩ := l2.at
    have hc := l1.cell
    gi_wp2
    refine ⟨by simp, .inl ⟨_, _, rfl, run_takeDeferred HKD.out, ?_⟩⟩
    refine ⟨.tuple #[.slice a0 (ptsOf s id k m (List.finRange m)).length c0, .int .i64 0], by simp [results, Try.results20, go_sem], _, by rw [HCUT.out]; rfl, ?_, ?_⟩
    · have := ownsRow_putObj l2 (.deferred none) HKD.out rfl
      rw [HCUT.out]
      rw [ptsOf_all] at this ⊢
      exact this
    · exact HI.out.low.trans (belowK_b (w := w) (Nat.le_refl _) W D _ _ (by have := HL.out; omega) HKD.out rfl rfl)
set_option maxHeartbeats 8000000 in
set_option maxRecDepth 100000 in
theorem cut_big (s : ByteArray) (id : Int) (k : Nat) (w : World) (p0 : 1 ≤ id) (p1 : id ≤ 4294967296) (p2 : (1 : Int) ≤ k) (p3 : (k : Int) ≤ 1000) (p4 : (1 : Int) ≤ s.size) (p5 : (s.size : Int) ≤ 4096) (h16 : 16 < many s.size k) :
    Calls Try.prog 20 #[.string s, .int .u64 id, .int .i64 k] w fun e w' => ∃ v, e = .returned (.tuple #[v, .int .i64 (cutF s id k).2]) ∧ OwnF 35 w.heap.size v (cutF s id k).1 w' ∧ Below w.heap.size w w' := by
  obtain ⟨m, hm⟩ : ∃ m, many s.size k = m := ⟨_, rfl⟩
  have hcut : cutF s id k = ([], 4) := by
    unfold cutF; rw [if_neg (by omega), Int.toNat_natCast, if_pos h16]
  have HCUT := Lib.hid hcut
  have HM2 : Hid (m ≤ 4096) := Lib.hid (by
    have := (many_iff (n := s.size) (k := k) (i := 4096) (by omega))
    rw [hm] at this
    have h2 : ¬ 4096 * k < s.size := by have : 4096 * 1 ≤ 4096 * k := Nat.mul_le_mul_left _ (by omega); omega
    omega)
  have hquo := many_quo s.size k (by omega) (by omega)
  rw [hm] at hquo h16
  have hm16 : (m : Int) ≤ 4096 := by have := HM2.out; omega
  have hd16 : decide (16 < m) = true := by simpa using h16
  have hd17 : decide ((16 : Int) < (m : Int)) = true := by simp; omega
  have F0 : Hid (fitsB id 4294967296 = true) := Lib.hid (by simp [fitsB]; omega)
  have F1 : Hid (fitsB (k : Int) 1000 = true) := Lib.hid (by simp [fitsB]; omega)
  have F2 : Hid (fitsB (s.size : Int) 4096 = true) := Lib.hid (by simp [fitsB]; omega)
  have hk0 : ((k : Int) == 0) = false := by simp; omega
  clear hcut hm h16
  go_enter Try.func20, Try.ntmps20
  go_wp2_with fail
  refine (fits_u64 id 4294967296 _ true F0).mono ?_
  rintro e w1 ⟨rfl, rfl⟩
  go_wp2_with fail
  refine (fits_i64 k 1000 _ true F1).mono ?_
  rintro e w1 ⟨rfl, rfl⟩
  go_wp2_with fail
  refine (fits_i64 s.size 4096 _ true F2).mono ?_
  rintro e w1 ⟨rfl, rfl⟩
  go_wp2_with fail
  go_ret2
  rw [HCUT.out]
  exact ⟨_, rfl, OwnF.nil _ _ _, (below_alloc w _).trans ((below_alloc _ _).mono (by simp))⟩
set_option maxHeartbeats 4000000 in
theorem cut_bad0 (s : ByteArray) (id sz : Int) (w : World) (hs : s.size ≤ 1000000) (H0 : Hid (fitsB id 4294967296 = false)) :
    Calls Try.prog 20 #[.string s, .int .u64 id, .int .i64 sz] w fun e w' => ∃ v, e = .returned (.tuple #[v, .int .i64 (cutF s id sz).2]) ∧ OwnF 35 w.heap.size v (cutF s id sz).1 w' ∧ Below w.heap.size w w' := by
  have HCUT : Hid (cutF s id sz = ([], 1)) := Lib.hid (by
    have h := H0.out
    simp only [fitsB, Bool.and_eq_false_iff, decide_eq_false_iff_not] at h
    unfold cutF; rw [if_pos (by omega)])
  go_enter Try.func20, Try.ntmps20
  go_wp2_with fail
  refine (fits_u64 id 4294967296 _ false H0).mono ?_
  rintro e w1 ⟨rfl, rfl⟩
  go_wp2_with fail
  go_ret2
  rw [HCUT.out]
  exact ⟨_, rfl, OwnF.nil _ _ _, below_alloc w _⟩
set_option maxHeartbeats 4000000 in
theorem cut_bad1 (s : ByteArray) (id sz : Int) (w : World) (hs : s.size ≤ 1000000) (H0 : Hid (fitsB id 4294967296 = true)) (H1 : Hid (fitsB sz 1000 = false)) :
    Calls Try.prog 20 #[.string s, .int .u64 id, .int .i64 sz] w fun e w' => ∃ v, e = .returned (.tuple #[v, .int .i64 (cutF s id sz).2]) ∧ OwnF 35 w.heap.size v (cutF s id sz).1 w' ∧ Below w.heap.size w w' := by
  have HCUT : Hid (cutF s id sz = ([], 1)) := Lib.hid (by
    have h := H1.out
    simp only [fitsB, Bool.and_eq_false_iff, decide_eq_false_iff_not] at h
    unfold cutF; rw [if_pos (by omega)])
  go_enter Try.func20, Try.ntmps20
  go_wp2_with fail
  refine (fits_u64 id 4294967296 _ true H0).mono ?_
  rintro e w1 ⟨rfl, rfl⟩
  go_wp2_with fail
  refine (fits_i64 sz 1000 _ false H1).mono ?_
  rintro e w1 ⟨rfl, rfl⟩
  go_wp2_with fail
  go_ret2
  rw [HCUT.out]
  exact ⟨_, rfl, OwnF.nil _ _ _, below_alloc w _⟩
set_option maxHeartbeats 4000000 in
theorem cut_bad2 (s : ByteArray) (id sz : Int) (w : World) (hs : s.size ≤ 1000000) (H0 : Hid (fitsB id 4294967296 = true)) (H1 : Hid (fitsB sz 1000 = true)) (H2 : Hid (fitsB (s.size : Int) 4096 = false)) :
    Calls Try.prog 20 #[.string s, .int .u64 id, .int .i64 sz] w fun e w' => ∃ v, e = .returned (.tuple #[v, .int .i64 (cutF s id sz).2]) ∧ OwnF 35 w.heap.size v (cutF s id sz).1 w' ∧ Below w.heap.size w w' := by
  have HCUT : Hid (cutF s id sz = ([], 1)) := Lib.hid (by
    have h := H2.out
    simp only [fitsB, Bool.and_eq_false_iff, decide_eq_false_iff_not] at h
    unfold cutF; rw [if_pos (by omega)])
  go_enter Try.func20, Try.ntmps20
  go_wp2_with fail
  refine (fits_u64 id 4294967296 _ true H0).mono ?_
  rintro e w1 ⟨rfl, rfl⟩
  go_wp2_with fail
  refine (fits_i64 sz 1000 _ true H1).mono ?_
  rintro e w1 ⟨rfl, rfl⟩
  go_wp2_with fail
  refine (fits_i64 s.size 4096 _ false H2).mono ?_
  rintro e w1 ⟨rfl, rfl⟩
  go_wp2_with fail
  go_ret2
  rw [HCUT.out]
  exact ⟨_, rfl, OwnF.nil _ _ _, below_alloc w _⟩
theorem cut_f (s : ByteArray) (id sz : Int) (w : World) (hs : s.size ≤ 1000000) :
    Calls Try.prog 20 #[.string s, .int .u64 id, .int .i64 sz] w fun e w' => ∃ v, e = .returned (.tuple #[v, .int .i64 (cutF s id sz).2]) ∧ OwnF 35 w.heap.size v (cutF s id sz).1 w' ∧ Below w.heap.size w w' := by
  cases h0 : fitsB id 4294967296 with
  | false => exact cut_bad0 s id sz w hs (Lib.hid h0)
  | true =>
    cases h1 : fitsB sz 1000 with
    | false => exact cut_bad1 s id sz w hs (Lib.hid h0) (Lib.hid h1)
    | true =>
      cases h2 : fitsB (s.size : Int) 4096 with
      | false => exact cut_bad2 s id sz w hs (Lib.hid h0) (Lib.hid h1) (Lib.hid h2)
      | true =>
        simp only [fitsB, Bool.and_eq_true, decide_eq_true_eq] at h0 h1 h2
        obtain ⟨k, rfl⟩ := Int.eq_ofNat_of_zero_le (show 0 ≤ sz by omega)
        by_cases h16 : 16 < many s.size k
        · exact cut_big s id k w h0.1 h0.2 h1.1 h1.2 h2.1 h2.2 h16
        · exact cut_good s id k w h0.1 h0.2 h1.1 h1.2 h2.1 h2.2 h16
end Go.Proofs.Ytjcgckhheegonaa
