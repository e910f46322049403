/- What can be made where terms are put behind others: the new ones that can't be made. -/
import Derived.Test.YtdhfnbajmjmlbaaKnowG
namespace Go.Proofs.Ytdhfnbajmjmlbaa
open Go.RowKit
set_option linter.unusedVariables false
set_option linter.unusedSimpArgs false
set_option maxRecDepth 20000

/-- A term that is put, and is new. -/
theorem put_new {L L' : List Tm} {most a e : Int} {t : Tm} (h : putF L most t = (a, e, L')) (hl : L.length < L'.length) : L' = L ++ [t] ∧ a = (L.length : Int) + 1 ∧ e = 0 := by
  unfold putF at h
  split at h
  · split at h
    · injection h with h1 h2; injection h2 with h2 h3; rw [← h3] at hl; omega
    · split at h
      · injection h with h1 h2; injection h2 with h2 h3; rw [← h3] at hl; omega
      · injection h with h1 h2; injection h2 with h2 h3; exact ⟨h3.symm, h1.symm, h2.symm⟩
  · injection h with h1 h2; injection h2 with h2 h3; rw [← h3] at hl; omega
theorem put_len {L L' : List Tm} {most a e : Int} {t : Tm} (h : putF L most t = (a, e, L')) : L'.length ≤ L.length + 1 := by
  have := putF_length L most t
  rw [h] at this
  exact this
theorem tm_snoc_old {L : List Tm} {t : Tm} {n : Int} (h : InL L n) : tm (L ++ [t]) n = tm L n := by
  unfold tm
  have := h.1
  have := h.2
  exact getD_snoc_lt L t _ (by omega)
theorem tm_snoc_new {L : List Tm} {t : Tm} : tm (L ++ [t]) ((L.length : Int) + 1) = t := by
  unfold tm
  rw [show ((L.length : Int) + 1 - 1).toNat = L.length by omega]
  simp [List.getD]
theorem InL.snoc {L : List Tm} {t : Tm} {n : Int} (h : InL L n) : InL (L ++ [t]) n := ⟨h.1, by have := h.2; simp; omega⟩
theorem nonce_step {L : List Tm} (n : Int) (hr : (L.length : Int) < 1000) : ∃ a L', putF L 1000 ⟨2, ⟨#[]⟩, n, 0, 0, 0⟩ = (a, 0, L') ∧ Named L' a ⟨2, ⟨#[]⟩, n, 0, 0, 0⟩ ∧ Ext L L' ∧ L'.length ≤ L.length + 1 :=
  put_named L 1000 _ (by rw [may_iff]; simp [May, below3, BadP, many, prt, sz0]) hr

/-- All names there but some. -/
def outE (L : List Tm) (E : List Int) (n : Int) : Bool := decide (InL L n ∧ n ∉ E)
theorem outE_iff {L : List Tm} {E : List Int} {n : Int} : outE L E n = true ↔ InL L n ∧ n ∉ E := by simp [outE]
theorem outE_not {L : List Tm} {E : List Int} {n : Int} (h : n ∈ E) : outE L E n = false := by simp [outE, h]
theorem keeps_without {L L' : List Tm} (hF : Fit L) (hF' : Fit L') (hpre : ∀ n, InL L n → tm L' n = tm L n) {ks E : List Int} (hE : ∀ e, e ∈ E → (L.length : Int) < e) (hk : ∀ a, a ∈ ks → InL L' a ∧ a ∉ E) {dh kem : Bool}
    (hr : ∀ e, e ∈ E → ruleB L' (outE L' E) dh kem (tm L' e) = false) (ho : ∀ n, (L.length : Int) < n → InL L' n → n ∉ E → ∀ m, openB (outE L' E) (tm L' n) m = true → m ∉ E) : Keeps L' ks dh kem (outE L' E) := by
  refine ⟨by simp [outE, InL], fun a ha => outE_iff.2 (hk a ha), fun n hn => ⟨fun q => ?_, fun q m r => ?_⟩⟩
  · refine outE_iff.2 ⟨hn, fun he => ?_⟩
    rw [hr n he] at q; cases q
  · have hm := open_in hF' hn r
    refine outE_iff.2 ⟨hm, ?_⟩
    by_cases hnl : (L.length : Int) < n
    · exact ho n hnl hn (outE_iff.1 q).2 m r
    · have hin : InL L n := ⟨hn.1, by omega⟩
      rw [hpre n hin] at r
      have := (open_in hF hin r).2
      intro he
      have := hE m he
      omega
theorem rule_nonce (L : List Tm) (C : Int → Bool) (dh kem : Bool) (n : Int) : ruleB L C dh kem ⟨2, ⟨#[]⟩, n, 0, 0, 0⟩ = false := by simp [ruleB]
theorem open_not {C : Int → Bool} {t : Tm} {m : Int} (h1 : t.K ≠ 11) (h2 : t.K ≠ 10) : openB C t m = false := by simp [openB, h1, h2]
theorem mem_snoc_known {L : List Tm} {E xs : List Int} (hx : ∀ x, x ∈ xs → InL L x) (hE : ∀ e, e ∈ E → (L.length : Int) < e) : ∀ x, x ∈ xs → x ∉ E := fun x hq he => by
  have := (hx x hq).2
  have := hE x he
  omega
theorem fit_of {L L' : List Tm} {most a e : Int} {t : Tm} (h : Fit L) (hl : (L.length : Int) ≤ most) (hp : putF L most t = (a, e, L')) : Fit L' := by
  have := (fit_putF (t := t) h hl).1
  rw [hp] at this
  exact this
theorem wf_nonce {n : Int} (h : (Lit.int .u64 n).wf = true) : Wf ⟨2, ⟨#[]⟩, n, 0, 0, 0⟩ := ⟨wf_emp, k2, h, k0, k0, k0⟩
theorem Named.i64 {L : List Tm} {a : Int} {t : Tm} (h : Named L a t) (hl : L.length ≤ 1000) : I64 a := i64_small (by have := h.2; omega) (by have := h.at.2.1; omega)

/-- What is sealed. -/
theorem seals_math {L : List Tm} (hfine : Fine L) (hF : Fit L) (h1 : 0 < L.length) (h20 : L.length ≤ 20) {n : Int} (hn : (Lit.int .u64 n).wf = true) :
    ∃ k x c L1 L2 L3, putF L 1000 ⟨2, ⟨#[]⟩, 2199023255552, 0, 0, 0⟩ = (k, 0, L1) ∧ putF L1 1000 ⟨2, ⟨#[]⟩, 4398046511104, 0, 0, 0⟩ = (x, 0, L2) ∧ putF L2 1000 ⟨10, ⟨#[]⟩, n, k, 1, x⟩ = (c, 0, L3) ∧ Fine L3 ∧ L3.length ≤ 23 ∧ I64 k ∧ I64 x ∧
      (L3.length = L.length + 3 → InL L3 k ∧ InL L3 x ∧ InL L3 c ∧ (∀ y, InL L y → InL L3 y) ∧ ∀ xs : List Int, (∀ y, y ∈ xs → InL L y) → (∀ C, Least L3 (c :: xs) true true C → C x = false) ∧ ∀ C, Least L3 (c :: xs ++ [k]) false false C → C x = true) := by
  obtain ⟨k, L1, e1, n1, x1, l1⟩ := nonce_step (L := L) 2199023255552 (by omega)
  obtain ⟨x, L2, e2, n2, x2, l2⟩ := nonce_step (L := L1) 4398046511104 (by omega)
  have f1 := fit_of hF (by omega) e1
  have f2 := fit_of f1 (by omega) e2
  have hk := (n1.ext x2).at
  have hx := n2.at
  have hmay : (⟨10, ⟨#[]⟩, n, k, 1, x⟩ : Tm).may L2.length = true := by
    rw [may_iff]
    have := x1.1
    have := x2.1
    simp [May, below3, BadP, many, prt, sz0]
    omega
  obtain ⟨c, L3, e3, n3, x3, l3⟩ := put_named L2 1000 ⟨10, ⟨#[]⟩, n, k, 1, x⟩ hmay (by omega)
  have f3 := fit_of f2 (by omega) e3
  have i1 := Named.i64 n1 (by omega)
  have i2 := Named.i64 n2 (by omega)
  have F1 := hfine.of (wf_nonce (by decide)) e1
  have F2 := F1.of (wf_nonce (by decide)) e2
  have F3 := F2.of (show Wf ⟨10, ⟨#[]⟩, n, k, 1, x⟩ from ⟨wf_emp, k10, hn, i1, k1, i2⟩) e3
  refine ⟨k, x, c, L1, L2, L3, e1, e2, e3, F3, by omega, i1, i2, fun hl => ?_⟩
  obtain ⟨g1, a1, _⟩ := put_new e1 (by omega)
  obtain ⟨g2, a2, _⟩ := put_new e2 (by omega)
  obtain ⟨g3, a3, _⟩ := put_new e3 (by omega)
  have q1 : L1.length = L.length + 1 := by rw [g1]; simp
  have q2 : L2.length = L.length + 2 := by rw [g2]; simp; omega
  have ik : InL L1 k := by unfold InL; omega
  have ik2 : InL L2 k := by unfold InL; omega
  have ix2 : InL L2 x := by unfold InL; omega
  have tk : tm L3 k = ⟨2, ⟨#[]⟩, 2199023255552, 0, 0, 0⟩ := by rw [g3, tm_snoc_old ik2, g2, tm_snoc_old ik, g1, a1, tm_snoc_new]
  have tx : tm L3 x = ⟨2, ⟨#[]⟩, 4398046511104, 0, 0, 0⟩ := by rw [g3, tm_snoc_old ix2, g2, a2, tm_snoc_new]
  have tc : tm L3 c = ⟨10, ⟨#[]⟩, n, k, 1, x⟩ := by rw [g3, a3, tm_snoc_new]
  have hpre : ∀ y, InL L y → tm L3 y = tm L y := fun y hy => by
    have h2 : InL L1 y := ⟨hy.1, by have := hy.2; omega⟩
    have h3 : InL L2 y := ⟨hy.1, by have := hy.2; omega⟩
    rw [g3, tm_snoc_old h3, g2, tm_snoc_old h2, g1, tm_snoc_old hy]
  have ik3 : InL L3 k := by unfold InL; omega
  have ix3 : InL L3 x := by unfold InL; omega
  have ic3 : InL L3 c := by unfold InL; omega
  refine ⟨ik3, ix3, ic3, fun y hy => ⟨hy.1, by have := hy.2; omega⟩, fun xs hxs => ⟨fun C hC => ?_, fun C hC => ?_⟩⟩
  · have hE : ∀ e, e ∈ [k, x] → (L.length : Int) < e := fun e he => by rcases (by simpa using he : e = k ∨ e = x) with rfl | rfl <;> omega
    refine cannot hC (keeps_without (E := [k, x]) hF f3 hpre hE (fun a ha => ?_) (fun e he => ?_) (fun m hm hi hne u hu => ?_)) (outE_not (by simp))
    · rcases List.mem_cons.1 ha with r | r
      · rw [r]; exact ⟨ic3, by simp; omega⟩
      · exact ⟨⟨(hxs a r).1, by have := (hxs a r).2; omega⟩, mem_snoc_known hxs hE a r⟩
    · rcases (by simpa using he : e = k ∨ e = x) with rfl | rfl
      · rw [tk]; exact rule_nonce _ _ _ _ _
      · rw [tx]; exact rule_nonce _ _ _ _ _
    · have hmc : m = c := by
        simp at hne
        unfold InL at hi
        omega
      rw [hmc, tc] at hu
      simp [openB, outE] at hu
  · have hc := hC.1.known c (by simp)
    have hkk := hC.1.known k (by simp)
    have := (hC.1.step c ic3).2 hc x
    rw [tc] at this
    exact this (by simp [openB, hkk])

theorem rule_pub (L : List Tm) (C : Int → Bool) (dh kem : Bool) (x : Int) : ruleB L C dh kem (pubT x) = C x := by simp [ruleB, pubT]
theorem rule_kpub (L : List Tm) (C : Int → Bool) (dh kem : Bool) (x : Int) : ruleB L C dh kem (kpubT x) = C x := by simp [ruleB, kpubT]
theorem rule_share {L : List Tm} (C : Int → Bool) (dh kem : Bool) {x y p q : Int} (hp : nameOf L (pubT x) = p) (hq : nameOf L (pubT y) = q) : ruleB L C dh kem (shareT x y) = ((C x && (C y || C q)) || (C y && C p) || (dh && C p && C q)) := by
  have h1 : hasT L C (pubT x) = C p := by unfold hasT; rw [hp]
  have h2 : hasT L C (pubT y) = C q := by unfold hasT; rw [hq]
  rw [← h1, ← h2]
  simp [ruleB, shareT]
theorem rule_box {L : List Tm} (C : Int → Bool) (dh kem : Bool) {k x p : Int} (hp : nameOf L (kpubT k) = p) : ruleB L C dh kem (boxT k x) = (C x && (C k || C p)) := by
  have h1 : hasT L C (kpubT k) = C p := by unfold hasT; rw [hp]
  rw [← h1]
  simp [ruleB, boxT]
theorem rule_kem {L : List Tm} (C : Int → Bool) (dh kem : Bool) {k x p a : Int} (hp : nameOf L (kpubT k) = p) (ha : nameOf L (boxT k x) = a) : ruleB L C dh kem (kemT k x) = ((C x && (C k || C p)) || (C a && (C k || kem))) := by
  have h1 : hasT L C (kpubT k) = C p := by unfold hasT; rw [hp]
  have h2 : hasT L C (boxT k x) = C a := by unfold hasT; rw [ha]
  rw [← h1, ← h2]
  simp [ruleB, kemT]
theorem InL.len {L L' : List Tm} {n : Int} (h : InL L n) (hl : L.length ≤ L'.length) : InL L' n := ⟨h.1, by have := h.2; omega⟩
theorem new_in {L : List Tm} {a : Int} (h : a = (L.length : Int) + 1) (t : Tm) : InL (L ++ [t]) a := ⟨by omega, by rw [h]; simp⟩
theorem tm_at {L : List Tm} {a : Int} (h : a = (L.length : Int) + 1) (t : Tm) : tm (L ++ [t]) a = t := by rw [h, tm_snoc_new]

/-- What two share. -/
theorem shares_math {L : List Tm} (hfine : Fine L) (hF : Fit L) (h1 : 0 < L.length) (h20 : L.length ≤ 20) :
    ∃ x y p q a L1 L2 L3 L4 L5, putF L 1000 ⟨2, ⟨#[]⟩, 8796093022208, 0, 0, 0⟩ = (x, 0, L1) ∧ putF L1 1000 ⟨2, ⟨#[]⟩, 17592186044416, 0, 0, 0⟩ = (y, 0, L2) ∧ putF L2 1000 (pubT x) = (p, 0, L3) ∧ putF L3 1000 (pubT y) = (q, 0, L4) ∧ agreeF L4 1000 x q = (a, 0, L5) ∧ Fine L5 ∧ L5.length ≤ 25 ∧ I64 x ∧ I64 y ∧
      (L5.length = L.length + 5 → InL L5 x ∧ InL L5 y ∧ InL L5 p ∧ InL L5 q ∧ InL L5 a ∧ (∀ z, InL L z → InL L5 z) ∧ ∀ xs : List Int, (∀ z, z ∈ xs → InL L z) → ∀ dh kem, (∀ C, Least L5 (p :: xs) dh kem C → C a = false) ∧ (∀ C, Least L5 (p :: xs ++ [q]) dh kem C → C a = dh) ∧ ∀ z, (z = x ∨ z = y) → ∀ C, Least L5 (p :: xs ++ [q] ++ [z]) false false C → C a = true) := by
  obtain ⟨x, L1, e1, n1, x1, l1⟩ := nonce_step (L := L) 8796093022208 (by omega)
  obtain ⟨y, L2, e2, n2, x2, l2⟩ := nonce_step (L := L1) 17592186044416 (by omega)
  have hx2 := (n1.ext x2).at
  have hy2 := n2.at
  obtain ⟨p, L3, e3, n3, x3, l3⟩ := pub_step L2 1000 x hx2.1 hx2.2.1 (by omega)
  have hy3 := (n2.ext x3).at
  obtain ⟨q, L4, e4, n4, x4, l4⟩ := pub_step L3 1000 y hy3.1 hy3.2.1 (by omega)
  have hx4 := (n1.ext (x2.trans (x3.trans x4))).at
  have hy4 := (n2.ext (x3.trans x4)).at
  obtain ⟨a, L5, e5, n5, x5, l5⟩ := agree_step 1000 n4 hx4.1 hx4.2.1 hy4.1 hy4.2.1 (by omega)
  have f1 := fit_of hF (by omega) e1
  have f2 := fit_of f1 (by omega) e2
  have f3 := fit_of f2 (by omega) e3
  have f4 := fit_of f3 (by omega) e4
  have e5' := e5
  rw [agree_is n4] at e5'
  have f5 := fit_of f4 (by omega) e5'
  have ix := Named.i64 n1 (by omega)
  have iy := Named.i64 n2 (by omega)
  have F1 := hfine.of (wf_nonce (by decide)) e1
  have F2 := F1.of (wf_nonce (by decide)) e2
  have F3 := F2.of (pub_wf ix) e3
  have F4 := F3.of (pub_wf iy) e4
  have hsw : Wf (sh x y) := share_wf (by split <;> assumption) (by split <;> assumption)
  have F5 := F4.of hsw e5'
  refine ⟨x, y, p, q, a, L1, L2, L3, L4, L5, e1, e2, e3, e4, e5, F5, by omega, ix, iy, fun hl => ?_⟩
  obtain ⟨g1, a1, _⟩ := put_new e1 (by omega)
  obtain ⟨g2, a2, _⟩ := put_new e2 (by omega)
  obtain ⟨g3, a3, _⟩ := put_new e3 (by omega)
  obtain ⟨g4, a4, _⟩ := put_new e4 (by omega)
  obtain ⟨g5, a5, _⟩ := put_new e5' (by omega)
  have q1 : L1.length = L.length + 1 := by rw [g1]; simp
  have q2 : L2.length = L.length + 2 := by rw [g2]; simp; omega
  have q3 : L3.length = L.length + 3 := by rw [g3]; simp; omega
  have q4 : L4.length = L.length + 4 := by rw [g4]; simp; omega
  have esh : sh x y = shareT x y := by unfold sh; rw [if_pos (by omega), if_pos (by omega)]
  rw [esh] at g5
  have t1 : tm L1 x = ⟨2, ⟨#[]⟩, 8796093022208, 0, 0, 0⟩ := by rw [g1]; exact tm_at a1 _
  have t2 : tm L2 y = ⟨2, ⟨#[]⟩, 17592186044416, 0, 0, 0⟩ := by rw [g2]; exact tm_at a2 _
  have t3 : tm L3 p = pubT x := by rw [g3]; exact tm_at a3 _
  have t4 : tm L4 q = pubT y := by rw [g4]; exact tm_at a4 _
  have t5 : tm L5 a = shareT x y := by rw [g5]; exact tm_at a5 _
  have u5 : ∀ z, InL L4 z → tm L5 z = tm L4 z := fun z hz => by rw [g5]; exact tm_snoc_old hz
  have u4 : ∀ z, InL L3 z → tm L5 z = tm L3 z := fun z hz => by rw [u5 z (hz.len (by omega)), g4]; exact tm_snoc_old hz
  have u3 : ∀ z, InL L2 z → tm L5 z = tm L2 z := fun z hz => by rw [u4 z (hz.len (by omega)), g3]; exact tm_snoc_old hz
  have u2 : ∀ z, InL L1 z → tm L5 z = tm L1 z := fun z hz => by rw [u3 z (hz.len (by omega)), g2]; exact tm_snoc_old hz
  have u1 : ∀ z, InL L z → tm L5 z = tm L z := fun z hz => by rw [u2 z (hz.len (by omega)), g1]; exact tm_snoc_old hz
  have tx : tm L5 x = ⟨2, ⟨#[]⟩, 8796093022208, 0, 0, 0⟩ := by rw [u2 x (by unfold InL; omega), t1]
  have ty : tm L5 y = ⟨2, ⟨#[]⟩, 17592186044416, 0, 0, 0⟩ := by rw [u3 y (by unfold InL; omega), t2]
  have tp : tm L5 p = pubT x := by rw [u4 p (by unfold InL; omega), t3]
  have tq : tm L5 q = pubT y := by rw [u5 q (by unfold InL; omega), t4]
  have np : nameOf L5 (pubT x) = p := (n3.ext (x4.trans x5)).1
  have nq : nameOf L5 (pubT y) = q := (n4.ext x5).1
  have inx : InL L5 x := by unfold InL; omega
  have iny : InL L5 y := by unfold InL; omega
  have inp : InL L5 p := by unfold InL; omega
  have inq : InL L5 q := by unfold InL; omega
  have ina : InL L5 a := by unfold InL; omega
  have hup : ∀ z, InL L z → InL L5 z := fun z hz => hz.len (by omega)
  have hopen : ∀ (E : List Int), ∀ n, (L.length : Int) < n → InL L5 n → n ∉ E → ∀ m, openB (outE L5 E) (tm L5 n) m = true → m ∉ E := fun E n hn hi _ m hm => by
    have hd : n = x ∨ n = y ∨ n = p ∨ n = q ∨ n = a := by unfold InL at hi; omega
    rcases hd with rfl | rfl | rfl | rfl | rfl
    · rw [tx, open_not (by simp) (by simp)] at hm; cases hm
    · rw [ty, open_not (by simp) (by simp)] at hm; cases hm
    · rw [tp, open_not (by simp [pubT]) (by simp [pubT])] at hm; cases hm
    · rw [tq, open_not (by simp [pubT]) (by simp [pubT])] at hm; cases hm
    · rw [t5, open_not (by simp [shareT]) (by simp [shareT])] at hm; cases hm
  refine ⟨inx, iny, inp, inq, ina, hup, fun xs hxs dh kem => ⟨fun C hC => ?_, fun C hC => ?_, fun z hz C hC => ?_⟩⟩
  · have hE : ∀ e, e ∈ [x, y, q, a] → (L.length : Int) < e := fun e he => by rcases (by simpa using he : e = x ∨ e = y ∨ e = q ∨ e = a) with rfl | rfl | rfl | rfl <;> omega
    refine cannot hC (keeps_without (E := [x, y, q, a]) hF f5 u1 hE (fun b hb => ?_) (fun e he => ?_) (hopen _)) (outE_not (by simp))
    · rcases List.mem_cons.1 hb with r | r
      · rw [r]; exact ⟨inp, by simp; omega⟩
      · exact ⟨hup b (hxs b r), mem_snoc_known hxs hE b r⟩
    · have ox : outE L5 [x, y, q, a] x = false := outE_not (by simp)
      have oy : outE L5 [x, y, q, a] y = false := outE_not (by simp)
      have oq : outE L5 [x, y, q, a] q = false := outE_not (by simp)
      rcases (by simpa using he : e = x ∨ e = y ∨ e = q ∨ e = a) with rfl | rfl | rfl | rfl
      · rw [tx]; exact rule_nonce _ _ _ _ _
      · rw [ty]; exact rule_nonce _ _ _ _ _
      · rw [tq, rule_pub]; exact oy
      · rw [t5, rule_share _ _ _ np nq, ox, oy, oq]; simp
  · have kp := hC.1.known p (by simp)
    have kq := hC.1.known q (by simp)
    cases dh
    · have hE : ∀ e, e ∈ [x, y, a] → (L.length : Int) < e := fun e he => by rcases (by simpa using he : e = x ∨ e = y ∨ e = a) with rfl | rfl | rfl <;> omega
      refine cannot hC (keeps_without (E := [x, y, a]) hF f5 u1 hE (fun b hb => ?_) (fun e he => ?_) (hopen _)) (outE_not (by simp))
      · rcases List.mem_append.1 hb with r | r
        · rcases List.mem_cons.1 r with r | r
          · rw [r]; exact ⟨inp, by simp; omega⟩
          · exact ⟨hup b (hxs b r), mem_snoc_known hxs hE b r⟩
        · rw [List.mem_singleton.1 r]; exact ⟨inq, by simp; omega⟩
      · have ox : outE L5 [x, y, a] x = false := outE_not (by simp)
        have oy : outE L5 [x, y, a] y = false := outE_not (by simp)
        rcases (by simpa using he : e = x ∨ e = y ∨ e = a) with rfl | rfl | rfl
        · rw [tx]; exact rule_nonce _ _ _ _ _
        · rw [ty]; exact rule_nonce _ _ _ _ _
        · rw [t5, rule_share _ _ _ np nq, ox, oy]; simp
    · refine (hC.1.step a ina).1 ?_
      rw [t5, rule_share _ _ _ np nq, kp, kq]; simp
  · have kp := hC.1.known p (by simp)
    have kq := hC.1.known q (by simp)
    have kz := hC.1.known z (by simp)
    refine (hC.1.step a ina).1 ?_
    rw [t5, rule_share _ _ _ np nq, kp, kq]
    rcases hz with rfl | rfl
    · rw [kz]; simp
    · rw [kz]; simp

/-- What is wrapped. -/
theorem wraps_math {L : List Tm} (hfine : Fine L) (hF : Fit L) (h1 : 0 < L.length) (h20 : L.length ≤ 20) :
    ∃ k x p a b L1 L2 L3 L5, putF L 1000 ⟨2, ⟨#[]⟩, 8796093022208, 0, 0, 0⟩ = (k, 0, L1) ∧ putF L1 1000 ⟨2, ⟨#[]⟩, 17592186044416, 0, 0, 0⟩ = (x, 0, L2) ∧ putF L2 1000 (kpubT k) = (p, 0, L3) ∧ wrapF L3 1000 p x = (a, b, 0, L5) ∧ Fine L5 ∧ L5.length ≤ 25 ∧ I64 k ∧ I64 x ∧
      (L5.length = L.length + 5 → InL L5 k ∧ InL L5 x ∧ InL L5 p ∧ InL L5 a ∧ InL L5 b ∧ (∀ z, InL L z → InL L5 z) ∧ ∀ xs : List Int, (∀ z, z ∈ xs → InL L z) → ∀ dh kem, (∀ C, Least L5 (p :: xs) dh kem C → C b = false) ∧ (∀ C, Least L5 (p :: xs ++ [x]) false false C → C b = true) ∧ (∀ C, Least L5 (p :: xs ++ [a]) dh kem C → C b = kem) ∧ ∀ C, Least L5 (p :: xs ++ [a] ++ [k]) false false C → C b = true) := by
  obtain ⟨k, L1, e1, n1, x1, l1⟩ := nonce_step (L := L) 8796093022208 (by omega)
  obtain ⟨x, L2, e2, n2, x2, l2⟩ := nonce_step (L := L1) 17592186044416 (by omega)
  have hk2 := (n1.ext x2).at
  obtain ⟨p, L3, e3, n3, x3, l3⟩ := kpub_step L2 1000 k hk2.1 hk2.2.1 (by omega)
  have hk3 := (n1.ext (x2.trans x3)).at
  have hx3 := (n2.ext x3).at
  obtain ⟨td, htd⟩ := getT_of2 hx3.1 hx3.2.1
  obtain ⟨a, L4, e4, n4, x4, l4⟩ := put_named L3 1000 (boxT k x) (may_box hk3.1 hk3.2.1 hx3.1 hx3.2.1) (by omega)
  obtain ⟨b, L5, e5, n5, x5, l5⟩ := put_named L4 1000 (kemT k x) (may_kem hk3.1 (x4.len hk3.2.1) hx3.1 (x4.len hx3.2.1)) (by omega)
  have ew := wrap_yes n3.get htd rfl rfl e4 e5
  have f1 := fit_of hF (by omega) e1
  have f2 := fit_of f1 (by omega) e2
  have f3 := fit_of f2 (by omega) e3
  have f4 := fit_of f3 (by omega) e4
  have f5 := fit_of f4 (by omega) e5
  have ik := Named.i64 n1 (by omega)
  have ix := Named.i64 n2 (by omega)
  have F1 := hfine.of (wf_nonce (by decide)) e1
  have F2 := F1.of (wf_nonce (by decide)) e2
  have F3 := F2.of (kpub_wf ik) e3
  have F4 := F3.of (box_wf ik ix) e4
  have F5 := F4.of (kem_wf ik ix) e5
  refine ⟨k, x, p, a, b, L1, L2, L3, L5, e1, e2, e3, ew, F5, by omega, ik, ix, fun hl => ?_⟩
  obtain ⟨g1, a1, _⟩ := put_new e1 (by omega)
  obtain ⟨g2, a2, _⟩ := put_new e2 (by omega)
  obtain ⟨g3, a3, _⟩ := put_new e3 (by omega)
  obtain ⟨g4, a4, _⟩ := put_new e4 (by omega)
  obtain ⟨g5, a5, _⟩ := put_new e5 (by omega)
  have q1 : L1.length = L.length + 1 := by rw [g1]; simp
  have q2 : L2.length = L.length + 2 := by rw [g2]; simp; omega
  have q3 : L3.length = L.length + 3 := by rw [g3]; simp; omega
  have q4 : L4.length = L.length + 4 := by rw [g4]; simp; omega
  have t1 : tm L1 k = ⟨2, ⟨#[]⟩, 8796093022208, 0, 0, 0⟩ := by rw [g1]; exact tm_at a1 _
  have t2 : tm L2 x = ⟨2, ⟨#[]⟩, 17592186044416, 0, 0, 0⟩ := by rw [g2]; exact tm_at a2 _
  have t3 : tm L3 p = kpubT k := by rw [g3]; exact tm_at a3 _
  have t4 : tm L4 a = boxT k x := by rw [g4]; exact tm_at a4 _
  have t5 : tm L5 b = kemT k x := by rw [g5]; exact tm_at a5 _
  have u5 : ∀ z, InL L4 z → tm L5 z = tm L4 z := fun z hz => by rw [g5]; exact tm_snoc_old hz
  have u4 : ∀ z, InL L3 z → tm L5 z = tm L3 z := fun z hz => by rw [u5 z (hz.len (by omega)), g4]; exact tm_snoc_old hz
  have u3 : ∀ z, InL L2 z → tm L5 z = tm L2 z := fun z hz => by rw [u4 z (hz.len (by omega)), g3]; exact tm_snoc_old hz
  have u2 : ∀ z, InL L1 z → tm L5 z = tm L1 z := fun z hz => by rw [u3 z (hz.len (by omega)), g2]; exact tm_snoc_old hz
  have u1 : ∀ z, InL L z → tm L5 z = tm L z := fun z hz => by rw [u2 z (hz.len (by omega)), g1]; exact tm_snoc_old hz
  have tk : tm L5 k = ⟨2, ⟨#[]⟩, 8796093022208, 0, 0, 0⟩ := by rw [u2 k (by unfold InL; omega), t1]
  have tx : tm L5 x = ⟨2, ⟨#[]⟩, 17592186044416, 0, 0, 0⟩ := by rw [u3 x (by unfold InL; omega), t2]
  have tp : tm L5 p = kpubT k := by rw [u4 p (by unfold InL; omega), t3]
  have ta : tm L5 a = boxT k x := by rw [u5 a (by unfold InL; omega), t4]
  have np : nameOf L5 (kpubT k) = p := (n3.ext (x4.trans x5)).1
  have na : nameOf L5 (boxT k x) = a := (n4.ext x5).1
  have ink : InL L5 k := by unfold InL; omega
  have inx : InL L5 x := by unfold InL; omega
  have inp : InL L5 p := by unfold InL; omega
  have ina : InL L5 a := by unfold InL; omega
  have inb : InL L5 b := by unfold InL; omega
  have hup : ∀ z, InL L z → InL L5 z := fun z hz => hz.len (by omega)
  have hopen : ∀ (E : List Int), ∀ n, (L.length : Int) < n → InL L5 n → n ∉ E → ∀ m, openB (outE L5 E) (tm L5 n) m = true → m ∉ E := fun E n hn hi _ m hm => by
    have hd : n = k ∨ n = x ∨ n = p ∨ n = a ∨ n = b := by unfold InL at hi; omega
    rcases hd with rfl | rfl | rfl | rfl | rfl
    · rw [tk, open_not (by simp) (by simp)] at hm; cases hm
    · rw [tx, open_not (by simp) (by simp)] at hm; cases hm
    · rw [tp, open_not (by simp [kpubT]) (by simp [kpubT])] at hm; cases hm
    · rw [ta, open_not (by simp [boxT]) (by simp [boxT])] at hm; cases hm
    · rw [t5, open_not (by simp [kemT]) (by simp [kemT])] at hm; cases hm
  refine ⟨ink, inx, inp, ina, inb, hup, fun xs hxs dh kem => ⟨fun C hC => ?_, fun C hC => ?_, fun C hC => ?_, fun C hC => ?_⟩⟩
  · have hE : ∀ e, e ∈ [k, x, a, b] → (L.length : Int) < e := fun e he => by rcases (by simpa using he : e = k ∨ e = x ∨ e = a ∨ e = b) with rfl | rfl | rfl | rfl <;> omega
    refine cannot hC (keeps_without (E := [k, x, a, b]) hF f5 u1 hE (fun c hc => ?_) (fun e he => ?_) (hopen _)) (outE_not (by simp))
    · rcases List.mem_cons.1 hc with r | r
      · rw [r]; exact ⟨inp, by simp; omega⟩
      · exact ⟨hup c (hxs c r), mem_snoc_known hxs hE c r⟩
    · have ox : outE L5 [k, x, a, b] x = false := outE_not (by simp)
      have oa : outE L5 [k, x, a, b] a = false := outE_not (by simp)
      rcases (by simpa using he : e = k ∨ e = x ∨ e = a ∨ e = b) with rfl | rfl | rfl | rfl
      · rw [tk]; exact rule_nonce _ _ _ _ _
      · rw [tx]; exact rule_nonce _ _ _ _ _
      · rw [ta, rule_box _ _ _ np, ox]; simp
      · rw [t5, rule_kem _ _ _ np na, ox, oa]; simp
  · have kp := hC.1.known p (by simp)
    have kx := hC.1.known x (by simp)
    refine (hC.1.step b inb).1 ?_
    rw [t5, rule_kem _ _ _ np na, kp, kx]; simp
  · have ka := hC.1.known a (by simp)
    cases kem
    · have hE : ∀ e, e ∈ [k, x, b] → (L.length : Int) < e := fun e he => by rcases (by simpa using he : e = k ∨ e = x ∨ e = b) with rfl | rfl | rfl <;> omega
      refine cannot hC (keeps_without (E := [k, x, b]) hF f5 u1 hE (fun c hc => ?_) (fun e he => ?_) (hopen _)) (outE_not (by simp))
      · rcases List.mem_append.1 hc with r | r
        · rcases List.mem_cons.1 r with r | r
          · rw [r]; exact ⟨inp, by simp; omega⟩
          · exact ⟨hup c (hxs c r), mem_snoc_known hxs hE c r⟩
        · rw [List.mem_singleton.1 r]; exact ⟨ina, by simp; omega⟩
      · have ox : outE L5 [k, x, b] x = false := outE_not (by simp)
        have ok : outE L5 [k, x, b] k = false := outE_not (by simp)
        rcases (by simpa using he : e = k ∨ e = x ∨ e = b) with rfl | rfl | rfl
        · rw [tk]; exact rule_nonce _ _ _ _ _
        · rw [tx]; exact rule_nonce _ _ _ _ _
        · rw [t5, rule_kem _ _ _ np na, ox, ok]; simp
    · refine (hC.1.step b inb).1 ?_
      rw [t5, rule_kem _ _ _ np na, ka]; simp
  · have ka := hC.1.known a (by simp)
    have kk := hC.1.known k (by simp)
    refine (hC.1.step b inb).1 ?_
    rw [t5, rule_kem _ _ _ np na, ka, kk]; simp

/-- What is hidden. -/
theorem hides_math {L : List Tm} (hfine : Fine L) (hF : Fit L) (h1 : 0 < L.length) (h30 : L.length ≤ 30) :
    ∃ x y p h L1 L2 L3 L4, putF L 1000 ⟨2, ⟨#[]⟩, 1099511627776, 0, 0, 0⟩ = (x, 0, L1) ∧ putF L1 1000 ⟨9, ⟨#[]⟩, 1, x, 0, 0⟩ = (y, 0, L2) ∧ putF L2 1000 ⟨3, ⟨#[]⟩, 0, x, 0, 0⟩ = (p, 0, L3) ∧ putF L3 1000 ⟨8, ⟨#[]⟩, 0, x, y, 0⟩ = (h, 0, L4) ∧ Fine L4 ∧ L4.length ≤ 34 ∧ I64 x ∧ I64 y ∧
      (L4.length = L.length + 4 → InL L4 x ∧ InL L4 y ∧ InL L4 p ∧ InL L4 h ∧ (∀ z, InL L z → InL L4 z) ∧ ∀ xs : List Int, (∀ z, z ∈ xs → InL L z) → ∀ C, Least L4 (xs ++ [p, h]) true true C → C x = false ∧ C y = false ∧ C p = true ∧ C h = true) := by
  obtain ⟨x, L1, e1, n1, x1, l1⟩ := nonce_step (L := L) 1099511627776 (by omega)
  have hx1 := n1.at
  have ix := Named.i64 n1 (by omega)
  obtain ⟨y, L2, e2, n2, x2, l2⟩ := put_named L1 1000 ⟨9, ⟨#[]⟩, 1, x, 0, 0⟩ (by rw [may_iff]; simp [May, below3, BadP, many, prt, sz0]; omega) (by omega)
  have hx2 := (n1.ext x2).at
  have hy2 := n2.at
  have iy := Named.i64 n2 (by omega)
  obtain ⟨p, L3, e3, n3, x3, l3⟩ := put_named L2 1000 ⟨3, ⟨#[]⟩, 0, x, 0, 0⟩ (by rw [may_iff]; simp [May, below3, BadP, many, prt, sz0]; omega) (by omega)
  have hx3 := (n1.ext (x2.trans x3)).at
  have hy3 := (n2.ext x3).at
  obtain ⟨h, L4, e4, n4, x4, l4⟩ := put_named L3 1000 ⟨8, ⟨#[]⟩, 0, x, y, 0⟩ (by rw [may_iff]; simp [May, below3, BadP, many, prt, sz0]; omega) (by omega)
  have f1 := fit_of hF (by omega) e1
  have f2 := fit_of f1 (by omega) e2
  have f3 := fit_of f2 (by omega) e3
  have f4 := fit_of f3 (by omega) e4
  have F1 := hfine.of (wf_nonce (by decide)) e1
  have F2 := F1.of (show Wf ⟨9, ⟨#[]⟩, 1, x, 0, 0⟩ from ⟨wf_emp, k9, u1, ix, k0, k0⟩) e2
  have F3 := F2.of (show Wf ⟨3, ⟨#[]⟩, 0, x, 0, 0⟩ from ⟨wf_emp, k3, u0, ix, k0, k0⟩) e3
  have F4 := F3.of (show Wf ⟨8, ⟨#[]⟩, 0, x, y, 0⟩ from ⟨wf_emp, k8, u0, ix, iy, k0⟩) e4
  refine ⟨x, y, p, h, L1, L2, L3, L4, e1, e2, e3, e4, F4, by omega, ix, iy, fun hl => ?_⟩
  obtain ⟨g1, a1, _⟩ := put_new e1 (by omega)
  obtain ⟨g2, a2, _⟩ := put_new e2 (by omega)
  obtain ⟨g3, a3, _⟩ := put_new e3 (by omega)
  obtain ⟨g4, a4, _⟩ := put_new e4 (by omega)
  have q1 : L1.length = L.length + 1 := by rw [g1]; simp
  have q2 : L2.length = L.length + 2 := by rw [g2]; simp; omega
  have q3 : L3.length = L.length + 3 := by rw [g3]; simp; omega
  have t1 : tm L1 x = ⟨2, ⟨#[]⟩, 1099511627776, 0, 0, 0⟩ := by rw [g1]; exact tm_at a1 _
  have t2 : tm L2 y = ⟨9, ⟨#[]⟩, 1, x, 0, 0⟩ := by rw [g2]; exact tm_at a2 _
  have t3 : tm L3 p = ⟨3, ⟨#[]⟩, 0, x, 0, 0⟩ := by rw [g3]; exact tm_at a3 _
  have t4 : tm L4 h = ⟨8, ⟨#[]⟩, 0, x, y, 0⟩ := by rw [g4]; exact tm_at a4 _
  have u4 : ∀ z, InL L3 z → tm L4 z = tm L3 z := fun z hz => by rw [g4]; exact tm_snoc_old hz
  have u3 : ∀ z, InL L2 z → tm L4 z = tm L2 z := fun z hz => by rw [u4 z (hz.len (by omega)), g3]; exact tm_snoc_old hz
  have u2 : ∀ z, InL L1 z → tm L4 z = tm L1 z := fun z hz => by rw [u3 z (hz.len (by omega)), g2]; exact tm_snoc_old hz
  have u1 : ∀ z, InL L z → tm L4 z = tm L z := fun z hz => by rw [u2 z (hz.len (by omega)), g1]; exact tm_snoc_old hz
  have tx : tm L4 x = ⟨2, ⟨#[]⟩, 1099511627776, 0, 0, 0⟩ := by rw [u2 x (by unfold InL; omega), t1]
  have ty : tm L4 y = ⟨9, ⟨#[]⟩, 1, x, 0, 0⟩ := by rw [u3 y (by unfold InL; omega), t2]
  have tp : tm L4 p = ⟨3, ⟨#[]⟩, 0, x, 0, 0⟩ := by rw [u4 p (by unfold InL; omega), t3]
  have inx : InL L4 x := by unfold InL; omega
  have iny : InL L4 y := by unfold InL; omega
  have inp : InL L4 p := by unfold InL; omega
  have inh : InL L4 h := by unfold InL; omega
  have hup : ∀ z, InL L z → InL L4 z := fun z hz => hz.len (by omega)
  refine ⟨inx, iny, inp, inh, hup, fun xs hxs C hC => ?_⟩
  have hE : ∀ e, e ∈ [x, y] → (L.length : Int) < e := fun e he => by rcases (by simpa using he : e = x ∨ e = y) with rfl | rfl <;> omega
  have hK : Keeps L4 (xs ++ [p, h]) true true (outE L4 [x, y]) := keeps_without hF f4 u1 hE (fun b hb => by
    rcases List.mem_append.1 hb with r | r
    · exact ⟨hup b (hxs b r), mem_snoc_known hxs hE b r⟩
    · rcases (by simpa using r : b = p ∨ b = h) with rfl | rfl
      · exact ⟨inp, by simp; omega⟩
      · exact ⟨inh, by simp; omega⟩) (fun e he => by
    have ox : outE L4 [x, y] x = false := outE_not (by simp)
    rcases (by simpa using he : e = x ∨ e = y) with rfl | rfl
    · rw [tx]; exact rule_nonce _ _ _ _ _
    · rw [ty]; simp [ruleB, ox]) (fun n hn hi _ m hm => by
    have hd : n = x ∨ n = y ∨ n = p ∨ n = h := by unfold InL at hi; omega
    rcases hd with rfl | rfl | rfl | rfl
    · rw [tx, open_not (by simp) (by simp)] at hm; cases hm
    · rw [ty, open_not (by simp) (by simp)] at hm; cases hm
    · rw [tp, open_not (by simp) (by simp)] at hm; cases hm
    · rw [t4, open_not (by simp) (by simp)] at hm; cases hm)
  exact ⟨cannot hC hK (outE_not (by simp)), cannot hC hK (outE_not (by simp)), hC.1.known p (by simp), hC.1.known h (by simp)⟩

/-- The last name of a row is set anew. -/
theorem OwnI.setLast {base g n cap : Nat} {ys : List Int} {x : Int} (a : Int) {w : World} (h : OwnI base (.slice (some ⟨g, 0, none⟩) n cap) (ys ++ [x]) w) : OwnI base (.slice (some ⟨g, 0, none⟩) n cap) (ys ++ [a]) (w.setCell ⟨g, ys.length, none⟩ (.int .i64 a)) := by
  rcases h.2 with ⟨hv, _⟩ | ⟨g', cap', cur, hv, hg, hh, h1, h2, h3, h4⟩
  · cases hv
  · injection hv with e1 e2 e3
    injection e1 with e1
    injection e1 with e1
    subst e1; subst e3
    have e2' : n = (ys ++ [a]).length := by rw [e2]; simp
    refine ⟨by simp [intsR], .inr ⟨g, cap, cur.setIfInBounds ys.length (.int .i64 a), by rw [← e2'], hg, heap_setCell_same w g ys.length cur _ _ hh, by simpa using h1, h2, by simpa using h3, ?_⟩⟩
    rw [Array.toList_setIfInBounds, List.take_set]
    have h4' : cur.toList.take ((ys ++ [a]).length * 1) = intsR (ys ++ [x]) := by rw [← h4]; simp
    rw [h4']
    simp [intsR]
theorem OwnI.lastAt {base g n cap : Nat} {ys : List Int} {x : Int} {w : World} (h : OwnI base (.slice (some ⟨g, 0, none⟩) n cap) (ys ++ [x]) w) : w.cell? ⟨g, ys.length, none⟩ = some (.int .i64 x) ∧ w.frozen? ⟨g, ys.length, none⟩ = false := by
  obtain ⟨aa, cc, ee, hc, _⟩ := h.nat (i := ys.length) (by simp)
  injection ee with e1 _ _
  injection e1 with e1
  injection e1 with e1
  subst e1
  refine ⟨by rw [hc]; simp, ?_⟩
  rcases h.2 with ⟨hv, _⟩ | ⟨g', cap', cur, hv, _, hh, _⟩
  · cases hv
  · injection hv with e1 _ _
    injection e1 with e1
    injection e1 with e1
    subst e1
    exact frozen_of_row w g ys.length _ _ hh
end Go.Proofs.Ytdhfnbajmjmlbaa
