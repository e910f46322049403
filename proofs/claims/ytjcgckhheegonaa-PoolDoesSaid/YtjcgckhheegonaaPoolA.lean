/- The program's pool: a part added (tools/stage13/add.py). -/
import Derived.Test.YtjcgckhheegonaaPoolS
import Derived.Test.YtjcgckhheegonaaPoolF
namespace Go.Proofs.Ytjcgckhheegonaa
open Go.RowKit
set_option linter.unusedVariables false
set_option linter.unusedSimpArgs false
set_option maxRecDepth 20000
/-- Why a part can't be held: 0, if it can. -/
def refE (f : Fr) (slots bytes : Int) (l : List Ms) : Nat :=
  match findM f.id l with
  | none => if slots ≤ (l.length : Int) ∨ bytes < (heldM l + f.s.size : Nat) then 8 else 0
  | some m => if ((headM m).ct == f.ct) = false then 3 else if m.parts.any (fun g => g.ix == f.ix) = true then 6 else if bytes < (heldM l + f.s.size : Nat) then 8 else 0
theorem refusal_f {w : World} {p bh bp : Nat} {s b : Int} {l : List Ms} {ps : List (Ms × Nat)} (h : PAt w p bh bp s b l ps) (hok : Pok ⟨l, s, b⟩) (id ix ct : Int) (sz : ByteArray) (hsz : sz.size ≤ 1000000) (E : Nat) (he : refE ⟨id, ix, ct, sz⟩ s b l = E) :
    Calls Try.prog 27 #[.pointer (some ⟨p, 0, none⟩), .agg #[.int .u64 id, .int .i64 ix, .int .i64 ct, .string sz]] w fun e w' => e = .returned (.int .i64 E) ∧ Below w.heap.size w w' := by
  have hB : heldM l ≤ 65536 := by have h1 := hok.held; have h2 := hok.b2; simp only at h1 h2; omega
  have hmany : (l.length : Int) ≤ s := hok.many
  have hcast : ((heldM l + sz.size : Nat) : Int) = (heldM l : Int) + (sz.size : Int) := by omega
  subst he
  rcases look_h h id with ⟨hf, h1⟩ | ⟨m, hf, h1⟩
  · have h2 := look_p0 h hf
    have h3 : ∀ W, Below w.heap.size w W → (Instr.lookup 77 (.map none) (.int .i64 ix) true).run Try.prog W = .ok (.tuple #[.string ⟨#[]⟩, .bool false]) W := fun W _ => look_i0 ix W
    unfold refE
    simp only [hf]
    by_cases c1 : (l.length : Int) = s
    · rw [if_pos (.inl (by omega))]
      exact refusal_n8 h hB id ix ct sz hsz 0 0 none _ false l.length (heldM l) rfl rfl h1 h2 h3 rfl c1
    · by_cases c2 : b < (heldM l : Int) + (sz.size : Int)
      · rw [if_pos (.inr (by rw [hcast]; exact c2))]
        exact refusal_n8b h hB id ix ct sz hsz 0 0 none _ false l.length (heldM l) rfl rfl h1 h2 h3 rfl c1 c2
      · rw [if_neg (fun q => by rcases q with q | q; omega; rw [hcast] at q; exact c2 q)]
        exact refusal_n0 h hB id ix ct sz hsz 0 0 none _ false l.length (heldM l) rfl rfl h1 h2 h3 rfl c1 c2
  · obtain ⟨hm, hid⟩ := find_ok hf
    obtain ⟨x, hx, hxm⟩ := h.mem hm
    subst hxm
    have h2 := look_p1 h hx hid
    obtain ⟨u, h3⟩ := look_i x.1.parts x.2 (h.each x hx) ix
    unfold refE
    simp only [hf]
    by_cases c1 : (headM x.1).ct = ct
    · rw [if_neg (by rw [beq_iff_eq.2 c1]; decide)]
      rw [c1] at h1
      cases c2 : x.1.parts.any (fun g => g.ix == ix) with
      | true =>
        rw [if_pos rfl]
        exact refusal_6 h hB id ix ct sz hsz x.1.since (some x.2) u _ l.length (heldM l) rfl rfl h1 h2 h3 c2
      | false =>
        rw [if_neg (by decide)]
        by_cases c3 : b < (heldM l : Int) + (sz.size : Int)
        · rw [if_pos (by rw [hcast]; exact c3)]
          exact refusal_s8 h hB id ix ct sz hsz x.1.since (some x.2) u _ l.length (heldM l) rfl rfl h1 h2 h3 c2 c3
        · rw [if_neg (by rw [hcast]; exact c3)]
          exact refusal_s0 h hB id ix ct sz hsz x.1.since (some x.2) u _ l.length (heldM l) rfl rfl h1 h2 h3 c2 c3
    · rw [if_pos (by simpa using c1)]
      exact refusal_3 h hB id ix ct sz hsz (headM x.1).ct x.1.since (some x.2) u _ l.length (heldM l) rfl rfl h1 h2 h3 c1
theorem box4 {W : World} {B : Nat} {a b c d : Value} {T : TypeId} (h : W.heap[B]? = some (.cells #[a, b, c, d] T (0, 0))) : W.cell? ⟨B, 0, none⟩ = some a ∧ W.cell? ⟨B, 1, none⟩ = some b ∧ W.cell? ⟨B, 2, none⟩ = some c ∧ W.cell? ⟨B, 3, none⟩ = some d :=
  ⟨by rw [cell_atA 0 h]; rfl, by rw [cell_atA 1 h]; rfl, by rw [cell_atA 2 h]; rfl, by rw [cell_atA 3 h]; rfl⟩
theorem ct_two {id ix ct : Int} {sz : ByteArray} (h : rightF ⟨id, ix, ct, sz⟩ = true) (hc : ¬ ct = 1) : 1 < ct := by
  have := rightF_iff.1 h
  simp only at this
  omega
theorem box_off {w w2 : World} {p bh bp B : Nat} {s b : Int} {l : List Ms} {ps : List (Ms × Nat)} {f : Array Value} (h : w.heap.size ≤ bh ∧ w.heap.size ≤ bp) (hB : B = w.heap.size) (hp : PAt w2 p bh bp s b l ps) {T : TypeId} (hx : w2.heap[B]? = some (.cells f T (0, 0))) : ¬ (B = bh ∨ B = bp) := by
  rintro (e | e)
  · exact hp.heads.kind (e ▸ hx)
  · exact hp.parts.kind (e ▸ hx)
theorem Pok.parts_some {l : List Ms} {s b : Int} (h : Pok ⟨l, s, b⟩) : ∀ m, m ∈ l → m.parts ≠ [] := fun m hm => (h.each m hm).some_
theorem ref_some {f : Fr} {s b : Int} {l : List Ms} {m : Ms} (h : refE f s b l = 0) (hf : findM f.id l = some m) : (headM m).ct = f.ct ∧ m.parts.any (fun g => g.ix == f.ix) = false := by
  unfold refE at h
  simp only [hf] at h
  split at h
  · cases h
  · rename_i e1
    split at h
    · cases h
    · rename_i e2
      exact ⟨by simpa using e1, by simpa using e2⟩
theorem mem_put {id : Int} {f : Fr} {l : List Ms} {m : Ms} (hm : m ∈ l) (hid : (headM m).id = id) : (⟨m.parts ++ [f], m.since⟩ : Ms) ∈ putM id f l :=
  List.mem_map.2 ⟨m, hm, by rw [if_pos (beq_iff_eq.2 hid)]⟩
theorem wo_put {id : Int} {f : Fr} {l : List Ms} (h : ∀ m, m ∈ l → m.parts ≠ []) : wo id (putM id f l) = wo id l := by
  unfold wo putM
  rw [List.filter_map]
  have e : l.filter ((fun m => !((headM m).id == id)) ∘ fun m => if (headM m).id == id then (⟨m.parts ++ [f], m.since⟩ : Ms) else m) = l.filter (fun m => !((headM m).id == id)) := by
    apply List.filter_congr
    intro m hm
    simp only [Function.comp]
    split
    · rw [head_app (h m hm)]
    · rfl
  rw [e]
  have e2 : ∀ m, m ∈ l.filter (fun m => !((headM m).id == id)) → (if (headM m).id == id then (⟨m.parts ++ [f], m.since⟩ : Ms) else m) = m := fun m hm => by
    have := (List.mem_filter.1 hm).2
    rw [if_neg (by simpa using this)]
  rw [List.map_congr_left e2]
  exact List.map_id _
theorem full_put {id ix ct : Int} {sz : ByteArray} {m : Ms} (h : Mok m) (hid : (headM m).id = id) (hct : (headM m).ct = ct) (hno : m.parts.any (fun g => g.ix == ix) = false) (hr : rightF ⟨id, ix, ct, sz⟩ = true) (hl : ¬ ((m.parts.length + 1 : Nat) : Int) < ct) : Full id ct.toNat (m.parts ++ [⟨id, ix, ct, sz⟩]) := by
  have hr2 := rightF_iff.1 hr
  simp only at hr2
  have hless := h.less
  refine ⟨by omega, by omega, by rw [List.length_append, List.length_cons, List.length_nil]; omega, ?_, fun g hg => ?_⟩
  · rw [List.map_append, List.map_cons, List.map_nil]
    refine List.nodup_append.2 ⟨h.apart, by simp, fun a ha b hb => ?_⟩
    simp only [List.mem_singleton] at hb
    obtain ⟨g, hg, rfl⟩ := List.mem_map.1 ha
    rw [hb]
    intro e
    have h9 : m.parts.any (fun g => g.ix == ix) = true := List.any_eq_true.2 ⟨g, hg, by rw [e]; exact beq_self_eq_true ix⟩
    rw [hno] at h9; cases h9
  · rcases List.mem_append.1 hg with q | q
    · obtain ⟨q1, q2⟩ := h.one g q
      exact ⟨h.right g q, q1.trans hid, by rw [q2, hct]; omega⟩
    · simp only [List.mem_singleton] at q
      subst q
      exact ⟨hr, rfl, by simp only; omega⟩
theorem Chg.own {w u v : World} {p : Nat} (h : Chg (fun k => k = p) w u) (k : Chg (fun k => False) u v) : Chg (fun k => k = p) w v := h.trans (k.mono (fun _ q => q.elim))
set_option maxHeartbeats 4000000 in
theorem addw_bad {w : World} {p bh bp : Nat} {s b : Int} {l : List Ms} {ps : List (Ms × Nat)} (h : PAt w p bh bp s b l ps) (hok : Pok ⟨l, s, b⟩) (hsin : ∀ m, m ∈ l → U64 m.since) (id ix ct now : Int) (sz : ByteArray) (hsz : sz.size ≤ 1000000) (hnow : U64 now)
    (hr : rightF ⟨id, ix, ct, sz⟩ = false)  :
    Calls Try.prog 14 #[.pointer (some ⟨p, 0, none⟩), .agg #[.int .u64 id, .int .i64 ix, .int .i64 ct, .string sz], .int .u64 now] w fun e w' => e = .returned (.tuple #[.string ⟨#[]⟩, .bool false, .int .i64 1]) ∧ ∃ bh' bp' ps', PAt w' p bh' bp' s b l ps' ∧ (∀ k, Its p bh' bp' ps' k → Its p bh bp ps k ∨ w.heap.size ≤ k) ∧ Chg (fun k => k = p) w w' := by
  have HH := Lib.hid h
  have HOK := Lib.hid hok
  have HSI := Lib.hid hsin
  have HSZ := Lib.hid hsz
  have HNW := Lib.hid hnow
  have HR : Hid (rightF ⟨id, ix, ct, sz⟩ = false) := Lib.hid hr
  have HLE : Hid (l.length ≤ 1000) := Lib.hid (by have h1 := hok.many; have h2 := hok.s2; simp only at h1 h2; omega)

  obtain ⟨u1, hu1⟩ : ∃ u1, u1 = w.alloc (.cells #[.int .u64 id, .int .i64 ix, .int .i64 ct, .string sz] 35) := ⟨_, rfl⟩
  obtain ⟨B, hB0⟩ : ∃ B, B = w.heap.size := ⟨_, rfl⟩
  have hb1 : Below w.heap.size w u1 := by rw [hu1]; exact below_alloc w _
  have hbx : u1.heap[B]? = some (.cells #[.int .u64 id, .int .i64 ix, .int .i64 ct, .string sz] 35 (0, 0)) := by rw [hu1, hB0]; exact heap_alloc_new w _
  have HBX := Lib.hid hbx
  have HU1 := Lib.hid hb1
  have HUE := Lib.hid hu1
  have HBE := Lib.hid hB0
  have HPL := Lib.hid (blk_lt h.blk)
  have HSM : Hid (sz.size ≤ maxLen) := Lib.hid (by unfold maxLen; omega)
  obtain ⟨a0, a1, a2, a3⟩ := box4 hbx
  clear h hok hsin hsz hnow hr hb1 hbx
  go_enter Try.func14, Try.ntmps14
  go_upto_region 1 with fail
  rw [← hu1, ← hB0]
  clear hu1 hB0
  go_wp2_with (first
    | (go_at_call 25; refine (right_f id ix ct sz _ HSM.out false HR).mono ?_; rintro e w1 ⟨rfl, hb1⟩; have HB1 : Hid (Below w.heap.size w w1) := Lib.hid (HU1.out.trans (hb1.mono HU1.out.size)); have HX1 := Lib.hid ((hb1.block B (blk_lt HBX.out)).trans HBX.out); clear hb1 a0 a1 a2 a3)
    | fail
    | go_in)
  exact bodyPost_ret (v := .tuple #[.string ⟨#[]⟩, .bool false, .int .i64 1]) (by simp [results, Try.results14, go_sem]) rfl ⟨rfl, bh, bp, ps, HH.out.below HB1.out, fun k hk => .inl hk, Chg.of_below HB1.out⟩
set_option maxHeartbeats 4000000 in
theorem addw_one {w : World} {p bh bp : Nat} {s b : Int} {l : List Ms} {ps : List (Ms × Nat)} (h : PAt w p bh bp s b l ps) (hok : Pok ⟨l, s, b⟩) (hsin : ∀ m, m ∈ l → U64 m.since) (id ix now : Int) (sz : ByteArray) (hsz : sz.size ≤ 1000000) (hnow : U64 now)
    (hr : rightF ⟨id, ix, 1, sz⟩ = true) :
    Calls Try.prog 14 #[.pointer (some ⟨p, 0, none⟩), .agg #[.int .u64 id, .int .i64 ix, .int .i64 1, .string sz], .int .u64 now] w fun e w' => e = .returned (.tuple #[.string sz, .bool true, .int .i64 0]) ∧ ∃ bh' bp' ps', PAt w' p bh' bp' s b (expM now l) ps' ∧ (∀ k, Its p bh' bp' ps' k → Its p bh bp ps k ∨ w.heap.size ≤ k) ∧ Chg (fun k => k = p) w w' := by
  have HH := Lib.hid h
  have HOK := Lib.hid hok
  have HSI := Lib.hid hsin
  have HSZ := Lib.hid hsz
  have HNW := Lib.hid hnow
  have HR : Hid (rightF ⟨id, ix, 1, sz⟩ = true) := Lib.hid hr
  have HLE : Hid (l.length ≤ 1000) := Lib.hid (by have h1 := hok.many; have h2 := hok.s2; simp only at h1 h2; omega)

  obtain ⟨u1, hu1⟩ : ∃ u1, u1 = w.alloc (.cells #[.int .u64 id, .int .i64 ix, .int .i64 1, .string sz] 35) := ⟨_, rfl⟩
  obtain ⟨B, hB0⟩ : ∃ B, B = w.heap.size := ⟨_, rfl⟩
  have hb1 : Below w.heap.size w u1 := by rw [hu1]; exact below_alloc w _
  have hbx : u1.heap[B]? = some (.cells #[.int .u64 id, .int .i64 ix, .int .i64 1, .string sz] 35 (0, 0)) := by rw [hu1, hB0]; exact heap_alloc_new w _
  have HBX := Lib.hid hbx
  have HU1 := Lib.hid hb1
  have HUE := Lib.hid hu1
  have HBE := Lib.hid hB0
  have HPL := Lib.hid (blk_lt h.blk)
  have HSM : Hid (sz.size ≤ maxLen) := Lib.hid (by unfold maxLen; omega)
  obtain ⟨a0, a1, a2, a3⟩ := box4 hbx
  clear h hok hsin hsz hnow hr hb1 hbx
  go_enter Try.func14, Try.ntmps14
  go_upto_region 1 with fail
  rw [← hu1, ← hB0]
  clear hu1 hB0
  go_wp2_with (first
    | (go_at_call 25; refine (right_f id ix 1 sz _ HSM.out true HR).mono ?_; rintro e w1 ⟨rfl, hb1⟩; have HB1 : Hid (Below w.heap.size w w1) := Lib.hid (HU1.out.trans (hb1.mono HU1.out.size)); have HX1 := Lib.hid ((hb1.block B (blk_lt HBX.out)).trans HBX.out); clear hb1 a0 a1 a2 a3)
    | (go_at_call 11; refine (exp_at (HH.out.below HB1.out) HLE.out HSI.out now HNW.out).mono ?_; rintro e w2 ⟨rfl, bh', bp', ps1, hl1, hl2, hpa, hsub, hch⟩; have HP2 := Lib.hid hpa; have HS2 := Lib.hid hsub; have HC2 := Lib.hid ((Chg.of_below HB1.out).trans hch); have HL2 := Lib.hid (And.intro (Nat.le_trans HB1.out.size hl1) (Nat.le_trans HB1.out.size hl2)); have HX2 := Lib.hid (hch.blk HX1.out (fun e => by have := HPL.out; have := HBE.out; omega)); obtain ⟨x0, x1, x2, x3⟩ := box4 HX2.out; clear hl1 hl2 hpa hsub hch)
    | (go_at_call 26; refine (clone_any sz _ HSZ.out).mono ?_; rintro e w3 ⟨rfl, hb3⟩; have HB3 := Lib.hid hb3; clear hb3)
    | go_in)
  exact bodyPost_ret (v := .tuple #[.string sz, .bool true, .int .i64 0]) (by simp [results, Try.results14, go_sem]) rfl ⟨rfl, bh', bp', ps1, HP2.out.below HB3.out, fun k hk => by
    rcases hk with e | e | e | ⟨x, hx, e⟩
    · exact .inl (.inl e)
    · exact .inr (by rw [e]; exact HL2.out.1)
    · exact .inr (by rw [e]; exact HL2.out.2)
    · exact .inl (.inr (.inr (.inr ⟨x, HS2.out x hx, e⟩))), HC2.out.trans (Chg.of_below HB3.out)⟩
set_option maxHeartbeats 4000000 in
theorem addw_err {w : World} {p bh bp : Nat} {s b : Int} {l : List Ms} {ps : List (Ms × Nat)} (h : PAt w p bh bp s b l ps) (hok : Pok ⟨l, s, b⟩) (hsin : ∀ m, m ∈ l → U64 m.since) (id ix ct now : Int) (sz : ByteArray) (hsz : sz.size ≤ 1000000) (hnow : U64 now)
    (hr : rightF ⟨id, ix, ct, sz⟩ = true) (hc : ¬ ct = 1) (E : Nat) (hE : ¬ (E : Int) = 0) (hre : refE ⟨id, ix, ct, sz⟩ s b (expM now l) = E) :
    Calls Try.prog 14 #[.pointer (some ⟨p, 0, none⟩), .agg #[.int .u64 id, .int .i64 ix, .int .i64 ct, .string sz], .int .u64 now] w fun e w' => e = .returned (.tuple #[.string ⟨#[]⟩, .bool false, .int .i64 E]) ∧ ∃ bh' bp' ps', PAt w' p bh' bp' s b (expM now l) ps' ∧ (∀ k, Its p bh' bp' ps' k → Its p bh bp ps k ∨ w.heap.size ≤ k) ∧ Chg (fun k => k = p) w w' := by
  have HH := Lib.hid h
  have HOK := Lib.hid hok
  have HSI := Lib.hid hsin
  have HSZ := Lib.hid hsz
  have HNW := Lib.hid hnow
  have HR : Hid (rightF ⟨id, ix, ct, sz⟩ = true) := Lib.hid hr
  have HLE : Hid (l.length ≤ 1000) := Lib.hid (by have h1 := hok.many; have h2 := hok.s2; simp only at h1 h2; omega)
  have HO1 : Hid (Pok ⟨expM now l, s, b⟩) := Lib.hid (hok.exp now)
  have HRE := Lib.hid hre
  clear hre
  obtain ⟨u1, hu1⟩ : ∃ u1, u1 = w.alloc (.cells #[.int .u64 id, .int .i64 ix, .int .i64 ct, .string sz] 35) := ⟨_, rfl⟩
  obtain ⟨B, hB0⟩ : ∃ B, B = w.heap.size := ⟨_, rfl⟩
  have hb1 : Below w.heap.size w u1 := by rw [hu1]; exact below_alloc w _
  have hbx : u1.heap[B]? = some (.cells #[.int .u64 id, .int .i64 ix, .int .i64 ct, .string sz] 35 (0, 0)) := by rw [hu1, hB0]; exact heap_alloc_new w _
  have HBX := Lib.hid hbx
  have HU1 := Lib.hid hb1
  have HUE := Lib.hid hu1
  have HBE := Lib.hid hB0
  have HPL := Lib.hid (blk_lt h.blk)
  have HSM : Hid (sz.size ≤ maxLen) := Lib.hid (by unfold maxLen; omega)
  obtain ⟨a0, a1, a2, a3⟩ := box4 hbx
  clear h hok hsin hsz hnow hr hb1 hbx
  go_enter Try.func14, Try.ntmps14
  go_upto_region 1 with fail
  rw [← hu1, ← hB0]
  clear hu1 hB0
  go_wp2_with (first
    | (go_at_call 25; refine (right_f id ix ct sz _ HSM.out true HR).mono ?_; rintro e w1 ⟨rfl, hb1⟩; have HB1 : Hid (Below w.heap.size w w1) := Lib.hid (HU1.out.trans (hb1.mono HU1.out.size)); have HX1 := Lib.hid ((hb1.block B (blk_lt HBX.out)).trans HBX.out); clear hb1 a0 a1 a2 a3)
    | (go_at_call 11; refine (exp_at (HH.out.below HB1.out) HLE.out HSI.out now HNW.out).mono ?_; rintro e w2 ⟨rfl, bh', bp', ps1, hl1, hl2, hpa, hsub, hch⟩; have HP2 := Lib.hid hpa; have HS2 := Lib.hid hsub; have HC2 := Lib.hid ((Chg.of_below HB1.out).trans hch); have HL2 := Lib.hid (And.intro (Nat.le_trans HB1.out.size hl1) (Nat.le_trans HB1.out.size hl2)); have HX2 := Lib.hid (hch.blk HX1.out (fun e => by have := HPL.out; have := HBE.out; omega)); obtain ⟨x0, x1, x2, x3⟩ := box4 HX2.out; clear hl1 hl2 hpa hsub hch)
    | (go_at_call 27; refine (refusal_f HP2.out HO1.out id ix ct sz HSZ.out E HRE.out).mono ?_; rintro e w3 ⟨rfl, hb3⟩; have HB3 := Lib.hid hb3; have HX3 := Lib.hid ((hb3.block B (blk_lt HX2.out)).trans HX2.out); obtain ⟨y0, y1, y2, y3⟩ := box4 HX3.out; have HP3 := Lib.hid (HP2.out.below hb3); clear hb3 x0 x1 x2 x3)
    | go_in)
  exact bodyPost_ret (v := .tuple #[.string ⟨#[]⟩, .bool false, .int .i64 E]) (by simp [results, Try.results14, go_sem]) rfl ⟨rfl, bh', bp', ps1, HP3.out, fun k hk => by
    rcases hk with e | e | e | ⟨x, hx, e⟩
    · exact .inl (.inl e)
    · exact .inr (by rw [e]; exact HL2.out.1)
    · exact .inr (by rw [e]; exact HL2.out.2)
    · exact .inl (.inr (.inr (.inr ⟨x, HS2.out x hx, e⟩))), HC2.out.trans (Chg.of_below HB3.out)⟩
set_option maxHeartbeats 4000000 in
theorem addw_new {w : World} {p bh bp : Nat} {s b : Int} {l : List Ms} {ps : List (Ms × Nat)} (h : PAt w p bh bp s b l ps) (hok : Pok ⟨l, s, b⟩) (hsin : ∀ m, m ∈ l → U64 m.since) (id ix ct now : Int) (sz : ByteArray) (hsz : sz.size ≤ 1000000) (hnow : U64 now)
    (hr : rightF ⟨id, ix, ct, sz⟩ = true) (hc : ¬ ct = 1) (hre : refE ⟨id, ix, ct, sz⟩ s b (expM now l) = 0) (hf : findM id (expM now l) = none) :
    Calls Try.prog 14 #[.pointer (some ⟨p, 0, none⟩), .agg #[.int .u64 id, .int .i64 ix, .int .i64 ct, .string sz], .int .u64 now] w fun e w' => e = .returned (.tuple #[.string ⟨#[]⟩, .bool false, .int .i64 0]) ∧ ∃ bh' bp' ps', PAt w' p bh' bp' s b (expM now l ++ [⟨[⟨id, ix, ct, sz⟩], now⟩]) ps' ∧ (∀ k, Its p bh' bp' ps' k → Its p bh bp ps k ∨ w.heap.size ≤ k) ∧ Chg (fun k => k = p) w w' := by
  have HH := Lib.hid h
  have HOK := Lib.hid hok
  have HSI := Lib.hid hsin
  have HSZ := Lib.hid hsz
  have HNW := Lib.hid hnow
  have HR : Hid (rightF ⟨id, ix, ct, sz⟩ = true) := Lib.hid hr
  have HLE : Hid (l.length ≤ 1000) := Lib.hid (by have h1 := hok.many; have h2 := hok.s2; simp only at h1 h2; omega)
  have HO1 : Hid (Pok ⟨expM now l, s, b⟩) := Lib.hid (hok.exp now)
  have HRE := Lib.hid hre
  have HF := Lib.hid hf
  have HCT := Lib.hid (ct_two hr hc)
  clear hre hf
  obtain ⟨u1, hu1⟩ : ∃ u1, u1 = w.alloc (.cells #[.int .u64 id, .int .i64 ix, .int .i64 ct, .string sz] 35) := ⟨_, rfl⟩
  obtain ⟨B, hB0⟩ : ∃ B, B = w.heap.size := ⟨_, rfl⟩
  have hb1 : Below w.heap.size w u1 := by rw [hu1]; exact below_alloc w _
  have hbx : u1.heap[B]? = some (.cells #[.int .u64 id, .int .i64 ix, .int .i64 ct, .string sz] 35 (0, 0)) := by rw [hu1, hB0]; exact heap_alloc_new w _
  have HBX := Lib.hid hbx
  have HU1 := Lib.hid hb1
  have HUE := Lib.hid hu1
  have HBE := Lib.hid hB0
  have HPL := Lib.hid (blk_lt h.blk)
  have HSM : Hid (sz.size ≤ maxLen) := Lib.hid (by unfold maxLen; omega)
  obtain ⟨a0, a1, a2, a3⟩ := box4 hbx
  clear h hok hsin hsz hnow hr hb1 hbx
  go_enter Try.func14, Try.ntmps14
  go_upto_region 1 with fail
  rw [← hu1, ← hB0]
  clear hu1 hB0
  go_wp2_with (first
    | (go_at_call 25; refine (right_f id ix ct sz _ HSM.out true HR).mono ?_; rintro e w1 ⟨rfl, hb1⟩; have HB1 : Hid (Below w.heap.size w w1) := Lib.hid (HU1.out.trans (hb1.mono HU1.out.size)); have HX1 := Lib.hid ((hb1.block B (blk_lt HBX.out)).trans HBX.out); clear hb1 a0 a1 a2 a3)
    | (go_at_call 11; refine (exp_at (HH.out.below HB1.out) HLE.out HSI.out now HNW.out).mono ?_; rintro e w2 ⟨rfl, bh', bp', ps1, hl1, hl2, hpa, hsub, hch⟩; have HP2 := Lib.hid hpa; have HS2 := Lib.hid hsub; have HC2 := Lib.hid ((Chg.of_below HB1.out).trans hch); have HL2 := Lib.hid (And.intro (Nat.le_trans HB1.out.size hl1) (Nat.le_trans HB1.out.size hl2)); have HX2 := Lib.hid (hch.blk HX1.out (fun e => by have := HPL.out; have := HBE.out; omega)); obtain ⟨x0, x1, x2, x3⟩ := box4 HX2.out; clear hl1 hl2 hpa hsub hch)
    | (go_at_call 27; refine (refusal_f HP2.out HO1.out id ix ct sz HSZ.out 0 HRE.out).mono ?_; rintro e w3 ⟨rfl, hb3⟩; have HB3 := Lib.hid hb3; have HX3 := Lib.hid ((hb3.block B (blk_lt HX2.out)).trans HX2.out); obtain ⟨y0, y1, y2, y3⟩ := box4 HX3.out; have HP3 := Lib.hid (HP2.out.below hb3); clear hb3 x0 x1 x2 x3)
    | (go_at_call 28; refine (hold_new HP3.out id ix ct now sz HSZ.out HF.out).mono ?_; rintro e w4 ⟨rfl, nb, ps2, hnb, hp4, hs4, hc4⟩; have HNB := Lib.hid hnb; have HP4 := Lib.hid hp4; have HS4 := Lib.hid hs4; have HC4 := Lib.hid hc4; have HX4 := Lib.hid (hc4.blk HX3.out (box_off HL2.out HBE.out HP2.out HX2.out)); obtain ⟨z0, z1, z2, z3⟩ := box4 HX4.out; clear hnb hp4 hs4 hc4 y0 y1 y2 y3)
    | go_in)
  obtain ⟨_, _, _, k3, _, _⟩ := HP4.out.cells
  obtain ⟨⟨xm, yb⟩, hxp, hxe⟩ := HP4.out.mem (m := (⟨[⟨id, ix, ct, sz⟩], now⟩ : Ms)) (List.mem_append_right _ (List.mem_singleton.2 rfl))
  simp only at hxe
  subst hxe
  have HXP := Lib.hid hxp
  have HID : Hid ((headM (⟨[⟨id, ix, ct, sz⟩], now⟩ : Ms)).id = id) := Lib.hid (rfl)
  have q2 : ∀ n, (Instr.lookup 59 (.map (some bp')) (.int .u64 id) false).run Try.prog (w4.drewN n) = .ok (.map (some yb)) (w4.drewN n) := fun n => look_p1 HP4.out hxp HID.out _ (below_drew (Below.refl _ _) n)
  have q3 : ∀ n ty, (Builtin.len_ #[77] ty #[.map (some yb)]).run Try.prog (w4.drewN n) = .ok (.int .i64 (1 : Nat)) (w4.drewN n) := fun n ty => by
    have := ((HP4.out.each _ hxp).below (below_drew (Below.refl _ _) n)).len (P := Try.prog) Try.underlying77 ty
    rw [show ((⟨[⟨id, ix, ct, sz⟩], now⟩ : Ms) : Ms).parts.length = 1 from rfl] at this
    exact this
  have hlt : (1 : Int) < ct := HCT.out
  clear hxp
  go_quiet (fail)
  clear q2 q3 k3
  have HP5 := Lib.hid (HP4.out.below (below_drew (Below.refl _ _) nq))
  have HC5 : Hid (Chg (fun k => k = p) w (w4.drewN nq)) := Lib.hid ((((HC2.out.trans (Chg.of_below HB3.out)).wide HC4.out (fun k e => by have := HL2.out; rcases e with e | e; exact .inr (by omega); exact .inr (by omega)))).trans (Chg.drew w4 nq))
  have HN5 : Hid (w.heap.size ≤ nb) := Lib.hid (Nat.le_trans HC2.out.size (Nat.le_trans HB3.out.size HNB.out))
  have hz : (w4.drewN nq).cell? ⟨B, 0, none⟩ = some (.int .u64 id) := z0
  clear z0 z1 z2 z3
  generalize w4.drewN nq = w5 at HP5 HC5 hz ⊢
  go_wp2
  exact bodyPost_ret (v := .tuple #[.string ⟨#[]⟩, .bool false, .int .i64 0]) (by simp [results, Try.results14, go_sem]) rfl ⟨rfl, bh', bp', ps2, HP5.out, fun k hk => by
    rcases hk with e | e | e | ⟨x, hx, e⟩
    · exact .inl (.inl e)
    · exact .inr (by rw [e]; exact HL2.out.1)
    · exact .inr (by rw [e]; exact HL2.out.2)
    · rcases HS4.out x hx with q | q
      · exact .inl (.inr (.inr (.inr ⟨x, HS2.out x q, e⟩)))
      · exact .inr (by rw [e, q]; exact HN5.out), HC5.out⟩
set_option maxHeartbeats 4000000 in
theorem addw_more {w : World} {p bh bp : Nat} {s b : Int} {l : List Ms} {ps : List (Ms × Nat)} (h : PAt w p bh bp s b l ps) (hok : Pok ⟨l, s, b⟩) (hsin : ∀ m, m ∈ l → U64 m.since) (id ix ct now : Int) (sz : ByteArray) (hsz : sz.size ≤ 1000000) (hnow : U64 now)
    (hr : rightF ⟨id, ix, ct, sz⟩ = true) (hc : ¬ ct = 1) (hre : refE ⟨id, ix, ct, sz⟩ s b (expM now l) = 0) (m : Ms) (hf : findM id (expM now l) = some m) (nn : Nat) (hnn : m.parts.length + 1 = nn) (hlt : (nn : Int) < ct) :
    Calls Try.prog 14 #[.pointer (some ⟨p, 0, none⟩), .agg #[.int .u64 id, .int .i64 ix, .int .i64 ct, .string sz], .int .u64 now] w fun e w' => e = .returned (.tuple #[.string ⟨#[]⟩, .bool false, .int .i64 0]) ∧ ∃ bh' bp' ps', PAt w' p bh' bp' s b (putM id ⟨id, ix, ct, sz⟩ (expM now l)) ps' ∧ (∀ k, Its p bh' bp' ps' k → Its p bh bp ps k ∨ w.heap.size ≤ k) ∧ Chg (fun k => k = p) w w' := by
  have HH := Lib.hid h
  have HOK := Lib.hid hok
  have HSI := Lib.hid hsin
  have HSZ := Lib.hid hsz
  have HNW := Lib.hid hnow
  have HR : Hid (rightF ⟨id, ix, ct, sz⟩ = true) := Lib.hid hr
  have HLE : Hid (l.length ≤ 1000) := Lib.hid (by have h1 := hok.many; have h2 := hok.s2; simp only at h1 h2; omega)
  have HO1 : Hid (Pok ⟨expM now l, s, b⟩) := Lib.hid (hok.exp now)
  have HRE := Lib.hid hre
  have HF := Lib.hid hf
  have HNO := Lib.hid (ref_some hre hf)
  have HMO := Lib.hid ((hok.exp now).each m (find_ok hf).1)
  have HMI := Lib.hid (find_ok hf)
  clear hre hf
  obtain ⟨u1, hu1⟩ : ∃ u1, u1 = w.alloc (.cells #[.int .u64 id, .int .i64 ix, .int .i64 ct, .string sz] 35) := ⟨_, rfl⟩
  obtain ⟨B, hB0⟩ : ∃ B, B = w.heap.size := ⟨_, rfl⟩
  have hb1 : Below w.heap.size w u1 := by rw [hu1]; exact below_alloc w _
  have hbx : u1.heap[B]? = some (.cells #[.int .u64 id, .int .i64 ix, .int .i64 ct, .string sz] 35 (0, 0)) := by rw [hu1, hB0]; exact heap_alloc_new w _
  have HBX := Lib.hid hbx
  have HU1 := Lib.hid hb1
  have HUE := Lib.hid hu1
  have HBE := Lib.hid hB0
  have HPL := Lib.hid (blk_lt h.blk)
  have HSM : Hid (sz.size ≤ maxLen) := Lib.hid (by unfold maxLen; omega)
  obtain ⟨a0, a1, a2, a3⟩ := box4 hbx
  clear h hok hsin hsz hnow hr hb1 hbx
  go_enter Try.func14, Try.ntmps14
  go_upto_region 1 with fail
  rw [← hu1, ← hB0]
  clear hu1 hB0
  go_wp2_with (first
    | (go_at_call 25; refine (right_f id ix ct sz _ HSM.out true HR).mono ?_; rintro e w1 ⟨rfl, hb1⟩; have HB1 : Hid (Below w.heap.size w w1) := Lib.hid (HU1.out.trans (hb1.mono HU1.out.size)); have HX1 := Lib.hid ((hb1.block B (blk_lt HBX.out)).trans HBX.out); clear hb1 a0 a1 a2 a3)
    | (go_at_call 11; refine (exp_at (HH.out.below HB1.out) HLE.out HSI.out now HNW.out).mono ?_; rintro e w2 ⟨rfl, bh', bp', ps1, hl1, hl2, hpa, hsub, hch⟩; have HP2 := Lib.hid hpa; have HS2 := Lib.hid hsub; have HC2 := Lib.hid ((Chg.of_below HB1.out).trans hch); have HL2 := Lib.hid (And.intro (Nat.le_trans HB1.out.size hl1) (Nat.le_trans HB1.out.size hl2)); have HX2 := Lib.hid (hch.blk HX1.out (fun e => by have := HPL.out; have := HBE.out; omega)); obtain ⟨x0, x1, x2, x3⟩ := box4 HX2.out; clear hl1 hl2 hpa hsub hch)
    | (go_at_call 27; refine (refusal_f HP2.out HO1.out id ix ct sz HSZ.out 0 HRE.out).mono ?_; rintro e w3 ⟨rfl, hb3⟩; have HB3 := Lib.hid hb3; have HX3 := Lib.hid ((hb3.block B (blk_lt HX2.out)).trans HX2.out); obtain ⟨y0, y1, y2, y3⟩ := box4 HX3.out; have HP3 := Lib.hid (HP2.out.below hb3); clear hb3 x0 x1 x2 x3)
    | (go_at_call 28; obtain ⟨xx, hxx, hxe⟩ := HP3.out.mem HMI.out.1; have HXX : Hid (xx ∈ ps1 ∧ (headM xx.1).id = id ∧ xx.1.parts.any (fun g => g.ix == ix) = false) := Lib.hid ⟨hxx, (by rw [hxe]; exact HMI.out.2), (by rw [hxe]; exact HNO.out.2)⟩; clear hxx hxe; refine (hold_old HP3.out id ix ct now sz HSZ.out xx HXX.out.1 HXX.out.2.1 HXX.out.2.2 HO1.out.parts_some).mono ?_; rintro e w4 ⟨rfl, nb, ps2, hnb, hp4, hs4, hc4⟩; have HNB := Lib.hid hnb; have HP4 := Lib.hid hp4; have HS4 := Lib.hid hs4; have HC4 := Lib.hid hc4; have HX4 := Lib.hid (hc4.blk HX3.out (box_off HL2.out HBE.out HP2.out HX2.out)); obtain ⟨z0, z1, z2, z3⟩ := box4 HX4.out; clear hnb hp4 hs4 hc4 y0 y1 y2 y3)
    | go_in)
  obtain ⟨_, _, _, k3, _, _⟩ := HP4.out.cells
  obtain ⟨⟨xm, yb⟩, hxp, hxe⟩ := HP4.out.mem (m := (⟨m.parts ++ [⟨id, ix, ct, sz⟩], m.since⟩ : Ms)) (mem_put HMI.out.1 HMI.out.2)
  simp only at hxe
  subst hxe
  have HXP := Lib.hid hxp
  have HID : Hid ((headM (⟨m.parts ++ [⟨id, ix, ct, sz⟩], m.since⟩ : Ms)).id = id) := Lib.hid (by rw [head_app HMO.out.some_]; exact HMI.out.2)
  have q2 : ∀ n, (Instr.lookup 59 (.map (some bp')) (.int .u64 id) false).run Try.prog (w4.drewN n) = .ok (.map (some yb)) (w4.drewN n) := fun n => look_p1 HP4.out hxp HID.out _ (below_drew (Below.refl _ _) n)
  have q3 : ∀ n ty, (Builtin.len_ #[77] ty #[.map (some yb)]).run Try.prog (w4.drewN n) = .ok (.int .i64 (nn : Nat)) (w4.drewN n) := fun n ty => by
    have := ((HP4.out.each _ hxp).below (below_drew (Below.refl _ _) n)).len (P := Try.prog) Try.underlying77 ty
    rw [show ((⟨m.parts ++ [⟨id, ix, ct, sz⟩], m.since⟩ : Ms) : Ms).parts.length = nn from (by rw [← hnn, List.length_append]; rfl)] at this
    exact this
  clear hnn
  clear hxp
  go_quiet (fail)
  clear q2 q3 k3
  have HP5 := Lib.hid (HP4.out.below (below_drew (Below.refl _ _) nq))
  have HC5 : Hid (Chg (fun k => k = p) w (w4.drewN nq)) := Lib.hid ((((HC2.out.trans (Chg.of_below HB3.out)).wide HC4.out (fun k e => by have := HL2.out; rcases e with e | e; exact .inr (by omega); exact .inr (by omega)))).trans (Chg.drew w4 nq))
  have HN5 : Hid (w.heap.size ≤ nb) := Lib.hid (Nat.le_trans HC2.out.size (Nat.le_trans HB3.out.size HNB.out))
  have hz : (w4.drewN nq).cell? ⟨B, 0, none⟩ = some (.int .u64 id) := z0
  clear z0 z1 z2 z3
  generalize w4.drewN nq = w5 at HP5 HC5 hz ⊢
  go_wp2
  exact bodyPost_ret (v := .tuple #[.string ⟨#[]⟩, .bool false, .int .i64 0]) (by simp [results, Try.results14, go_sem]) rfl ⟨rfl, bh', bp', ps2, HP5.out, fun k hk => by
    rcases hk with e | e | e | ⟨x, hx, e⟩
    · exact .inl (.inl e)
    · exact .inr (by rw [e]; exact HL2.out.1)
    · exact .inr (by rw [e]; exact HL2.out.2)
    · rcases HS4.out x hx with q | q
      · exact .inl (.inr (.inr (.inr ⟨x, HS2.out x q, e⟩)))
      · exact .inr (by rw [e, q]; exact HN5.out), HC5.out⟩
set_option maxHeartbeats 4000000 in
theorem addw_last {w : World} {p bh bp : Nat} {s b : Int} {l : List Ms} {ps : List (Ms × Nat)} (h : PAt w p bh bp s b l ps) (hok : Pok ⟨l, s, b⟩) (hsin : ∀ m, m ∈ l → U64 m.since) (id ix ct now : Int) (sz : ByteArray) (hsz : sz.size ≤ 1000000) (hnow : U64 now)
    (hr : rightF ⟨id, ix, ct, sz⟩ = true) (hc : ¬ ct = 1) (hre : refE ⟨id, ix, ct, sz⟩ s b (expM now l) = 0) (m : Ms) (hf : findM id (expM now l) = some m) (nn : Nat) (hnn : m.parts.length + 1 = nn) (hlt : ¬ (nn : Int) < ct) (t : ByteArray) (ok : Bool) (E : Nat) (hend : endF (m.parts ++ [⟨id, ix, ct, sz⟩]) = (t, ok, E)) :
    Calls Try.prog 14 #[.pointer (some ⟨p, 0, none⟩), .agg #[.int .u64 id, .int .i64 ix, .int .i64 ct, .string sz], .int .u64 now] w fun e w' => e = .returned (.tuple #[.string t, .bool ok, .int .i64 E]) ∧ ∃ bh' bp' ps', PAt w' p bh' bp' s b (wo id (expM now l)) ps' ∧ (∀ k, Its p bh' bp' ps' k → Its p bh bp ps k ∨ w.heap.size ≤ k) ∧ Chg (fun k => k = p) w w' := by
  have HH := Lib.hid h
  have HOK := Lib.hid hok
  have HSI := Lib.hid hsin
  have HSZ := Lib.hid hsz
  have HNW := Lib.hid hnow
  have HR : Hid (rightF ⟨id, ix, ct, sz⟩ = true) := Lib.hid hr
  have HLE : Hid (l.length ≤ 1000) := Lib.hid (by have h1 := hok.many; have h2 := hok.s2; simp only at h1 h2; omega)
  have HO1 : Hid (Pok ⟨expM now l, s, b⟩) := Lib.hid (hok.exp now)
  have HRE := Lib.hid hre
  have HF := Lib.hid hf
  have HNO := Lib.hid (ref_some hre hf)
  have HMO := Lib.hid ((hok.exp now).each m (find_ok hf).1)
  have HMI := Lib.hid (find_ok hf)
  clear hre hf
  have HEN := Lib.hid hend
  have HFU := Lib.hid (full_put HMO.out HMI.out.2 HNO.out.1 HNO.out.2 hr (by rw [hnn]; exact hlt))
  have HCN : Hid ((headM (⟨m.parts ++ [⟨id, ix, ct, sz⟩], m.since⟩ : Ms)).ct = (ct.toNat : Int)) := Lib.hid (by rw [head_app HMO.out.some_, HNO.out.1]; show ct = _; have := ct_two hr hc; omega)
  clear hend
  obtain ⟨u1, hu1⟩ : ∃ u1, u1 = w.alloc (.cells #[.int .u64 id, .int .i64 ix, .int .i64 ct, .string sz] 35) := ⟨_, rfl⟩
  obtain ⟨B, hB0⟩ : ∃ B, B = w.heap.size := ⟨_, rfl⟩
  have hb1 : Below w.heap.size w u1 := by rw [hu1]; exact below_alloc w _
  have hbx : u1.heap[B]? = some (.cells #[.int .u64 id, .int .i64 ix, .int .i64 ct, .string sz] 35 (0, 0)) := by rw [hu1, hB0]; exact heap_alloc_new w _
  have HBX := Lib.hid hbx
  have HU1 := Lib.hid hb1
  have HUE := Lib.hid hu1
  have HBE := Lib.hid hB0
  have HPL := Lib.hid (blk_lt h.blk)
  have HSM : Hid (sz.size ≤ maxLen) := Lib.hid (by unfold maxLen; omega)
  obtain ⟨a0, a1, a2, a3⟩ := box4 hbx
  clear h hok hsin hsz hnow hr hb1 hbx
  go_enter Try.func14, Try.ntmps14
  go_upto_region 1 with fail
  rw [← hu1, ← hB0]
  clear hu1 hB0
  go_wp2_with (first
    | (go_at_call 25; refine (right_f id ix ct sz _ HSM.out true HR).mono ?_; rintro e w1 ⟨rfl, hb1⟩; have HB1 : Hid (Below w.heap.size w w1) := Lib.hid (HU1.out.trans (hb1.mono HU1.out.size)); have HX1 := Lib.hid ((hb1.block B (blk_lt HBX.out)).trans HBX.out); clear hb1 a0 a1 a2 a3)
    | (go_at_call 11; refine (exp_at (HH.out.below HB1.out) HLE.out HSI.out now HNW.out).mono ?_; rintro e w2 ⟨rfl, bh', bp', ps1, hl1, hl2, hpa, hsub, hch⟩; have HP2 := Lib.hid hpa; have HS2 := Lib.hid hsub; have HC2 := Lib.hid ((Chg.of_below HB1.out).trans hch); have HL2 := Lib.hid (And.intro (Nat.le_trans HB1.out.size hl1) (Nat.le_trans HB1.out.size hl2)); have HX2 := Lib.hid (hch.blk HX1.out (fun e => by have := HPL.out; have := HBE.out; omega)); obtain ⟨x0, x1, x2, x3⟩ := box4 HX2.out; clear hl1 hl2 hpa hsub hch)
    | (go_at_call 27; refine (refusal_f HP2.out HO1.out id ix ct sz HSZ.out 0 HRE.out).mono ?_; rintro e w3 ⟨rfl, hb3⟩; have HB3 := Lib.hid hb3; have HX3 := Lib.hid ((hb3.block B (blk_lt HX2.out)).trans HX2.out); obtain ⟨y0, y1, y2, y3⟩ := box4 HX3.out; have HP3 := Lib.hid (HP2.out.below hb3); clear hb3 x0 x1 x2 x3)
    | (go_at_call 28; obtain ⟨xx, hxx, hxe⟩ := HP3.out.mem HMI.out.1; have HXX : Hid (xx ∈ ps1 ∧ (headM xx.1).id = id ∧ xx.1.parts.any (fun g => g.ix == ix) = false) := Lib.hid ⟨hxx, (by rw [hxe]; exact HMI.out.2), (by rw [hxe]; exact HNO.out.2)⟩; clear hxx hxe; refine (hold_old HP3.out id ix ct now sz HSZ.out xx HXX.out.1 HXX.out.2.1 HXX.out.2.2 HO1.out.parts_some).mono ?_; rintro e w4 ⟨rfl, nb, ps2, hnb, hp4, hs4, hc4⟩; have HNB := Lib.hid hnb; have HP4 := Lib.hid hp4; have HS4 := Lib.hid hs4; have HC4 := Lib.hid hc4; have HX4 := Lib.hid (hc4.blk HX3.out (box_off HL2.out HBE.out HP2.out HX2.out)); obtain ⟨z0, z1, z2, z3⟩ := box4 HX4.out; clear hnb hp4 hs4 hc4 y0 y1 y2 y3)
    | go_in)
  obtain ⟨_, _, _, k3, _, _⟩ := HP4.out.cells
  obtain ⟨⟨xm, yb⟩, hxp, hxe⟩ := HP4.out.mem (m := (⟨m.parts ++ [⟨id, ix, ct, sz⟩], m.since⟩ : Ms)) (mem_put HMI.out.1 HMI.out.2)
  simp only at hxe
  subst hxe
  have HXP := Lib.hid hxp
  have HID : Hid ((headM (⟨m.parts ++ [⟨id, ix, ct, sz⟩], m.since⟩ : Ms)).id = id) := Lib.hid (by rw [head_app HMO.out.some_]; exact HMI.out.2)
  have q2 : ∀ n, (Instr.lookup 59 (.map (some bp')) (.int .u64 id) false).run Try.prog (w4.drewN n) = .ok (.map (some yb)) (w4.drewN n) := fun n => look_p1 HP4.out hxp HID.out _ (below_drew (Below.refl _ _) n)
  have q3 : ∀ n ty, (Builtin.len_ #[77] ty #[.map (some yb)]).run Try.prog (w4.drewN n) = .ok (.int .i64 (nn : Nat)) (w4.drewN n) := fun n ty => by
    have := ((HP4.out.each _ hxp).below (below_drew (Below.refl _ _) n)).len (P := Try.prog) Try.underlying77 ty
    rw [show ((⟨m.parts ++ [⟨id, ix, ct, sz⟩], m.since⟩ : Ms) : Ms).parts.length = nn from (by rw [← hnn, List.length_append]; rfl)] at this
    exact this
  clear hnn
  clear hxp
  go_quiet (fail)
  clear q2 q3 k3
  have HP5 := Lib.hid (HP4.out.below (below_drew (Below.refl _ _) nq))
  have HC5 : Hid (Chg (fun k => k = p) w (w4.drewN nq)) := Lib.hid ((((HC2.out.trans (Chg.of_below HB3.out)).wide HC4.out (fun k e => by have := HL2.out; rcases e with e | e; exact .inr (by omega); exact .inr (by omega)))).trans (Chg.drew w4 nq))
  have HN5 : Hid (w.heap.size ≤ nb) := Lib.hid (Nat.le_trans HC2.out.size (Nat.le_trans HB3.out.size HNB.out))
  have hz : (w4.drewN nq).cell? ⟨B, 0, none⟩ = some (.int .u64 id) := z0
  clear z0 z1 z2 z3
  generalize w4.drewN nq = w5 at HP5 HC5 hz ⊢
  go_wp2_with (go_at_call 29; refine (end_at HP5.out (⟨m.parts ++ [⟨id, ix, ct, sz⟩], m.since⟩ : Ms) yb HXP.out id HID.out ct.toNat HCN.out HFU.out t ok E HEN.out).mono ?_; rintro e w6 ⟨rfl, hp6, hc6⟩; have HP6 := Lib.hid hp6; have HC6 := Lib.hid hc6; clear hp6 hc6)
  exact bodyPost_ret (v := .tuple #[.string t, .bool ok, .int .i64 E]) (by simp [results, Try.results14, go_sem]) rfl ⟨rfl, bh', bp', _, (by have := HP6.out; rw [wo_put HO1.out.parts_some] at this; exact this), fun k hk => by
    rcases hk with e | e | e | ⟨x, hx, e⟩
    · exact .inl (.inl e)
    · exact .inr (by rw [e]; exact HL2.out.1)
    · exact .inr (by rw [e]; exact HL2.out.2)
    · rcases HS4.out x (List.mem_filter.1 hx).1 with q | q
      · exact .inl (.inr (.inr (.inr ⟨x, HS2.out x q, e⟩)))
      · exact .inr (by rw [e, q]; exact HN5.out), HC5.out.wide HC6.out (fun k e => by have := HL2.out; rcases e with e | e; exact .inr (by omega); exact .inr (by omega))⟩
end Go.Proofs.Ytjcgckhheegonaa
