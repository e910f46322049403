/- Two endpoints with offers of their own: how a handshake goes, or that it has no version. -/
import Derived.Test.YtgeonppckeiceaaGreatDoorGp42
namespace Go.Proofs.YtgeonppckeiceaaGreatDoor.Ms
set_option linter.unusedVariables false
set_option linter.unusedSimpArgs false
theorem best_comm (a b : List UInt8) : bestV a b = bestV b a ∧ bestE a b = bestE b a := by
  have h1 : formB a b = formB b a := by rw [formB, formB, Bool.and_comm]
  have h2 : capB a b = capB b a := by funext j; rw [capB, capB, Bool.and_comm]
  have h3 : bothS a b = bothS b a := by rw [bothS, bothS, h1, h2]
  rw [bestV, bestV, bestE, bestE, h3, h1]
  exact ⟨rfl, rfl⟩
theorem best_mem {a b : List UInt8} (h : bestE a b = 0) : ∃ c : UInt8, bestV a b = c.toNat ∧ c ∈ a ∧ c ∈ b := by
  unfold bestE at h
  split at h
  · rename_i hf
    cases e : bothS a b with
    | nil => rw [e] at h; cases h
    | cons c r =>
      refine ⟨c, by rw [bestV, e], ?_⟩
      have hm : c ∈ bothS a b := by rw [e]; exact List.mem_cons_self
      rw [bothS, if_pos hf, mem_fall] at hm
      have := hm.1
      rw [capB, Bool.and_eq_true, inB_self, inB_self] at this
      exact this
  · cases h
theorem best_else {a b : List UInt8} (ha : rightB a = true) (hb : rightB b = true) (h : bestE a b ≠ 0) : bestE a b = 11 ∧ bestV a b = 0 := by
  have hf : formB a b = true := by rw [formB, ha, hb]; rfl
  unfold bestE at h ⊢
  rw [if_pos hf] at h ⊢
  cases e : bothS a b with
  | nil => exact ⟨rfl, by rw [bestV, e]⟩
  | cons c r => rw [e] at h; exact absurd rfl h
theorem fall_vers_len (l : List Int) : (fall (vers l)).length ≤ l.length := by
  have hnd : ((fall (vers l)).map fun c => (c.toNat : Int)).Nodup := by
    unfold List.Nodup
    rw [List.pairwise_map]
    refine (fall_falls (vers l)).imp fun {a b} h => ?_
    omega
  have hsub : ∀ x, x ∈ ((fall (vers l)).map fun c => (c.toNat : Int)) → x ∈ l := by
    intro x hx
    obtain ⟨c, hc, rfl⟩ := List.mem_map.1 hx
    exact vers_iff.1 (mem_fall.1 hc).1
  have key : ∀ (s : List Int) (l : List Int), s.Nodup → (∀ x, x ∈ s → x ∈ l) → s.length ≤ l.length := by
    intro s
    induction s with
    | nil => intro l _ _; simp
    | cons a s ih =>
      intro l hn hs
      rw [List.nodup_cons] at hn
      have ha := hs a (by simp)
      have h1 := ih (l.erase a) hn.2 (fun x hx => (List.mem_erase_of_ne (fun e => hn.1 (by rw [← e]; exact hx))).2 (hs x (List.mem_cons_of_mem _ hx)))
      have h2 := List.length_erase_of_mem ha
      have h3 := List.length_pos_of_mem ha
      simp only [List.length_cons]
      omega
  have := key _ l hnd hsub
  simpa using this
theorem make_good {l : List Int} (hk : okV l = true) (h1 : l ≠ []) (h8 : l.length ≤ 8) : makeB l = true ∧ makeS l = fall (vers l) ∧ makeE l = 0 ∧ rightB (makeS l) = true := by
  have hlen := fall_vers_len l
  have hpos : 1 ≤ (fall (vers l)).length := by
    cases l with
    | nil => exact absurd rfl h1
    | cons x l =>
      have hx := okV_iff.1 hk x (by simp)
      obtain ⟨n, rfl⟩ : ∃ n : Nat, x = n := ⟨x.toNat, by omega⟩
      have : UInt8.ofNat n ∈ fall (vers ((n : Int) :: l)) := mem_fall.2 (by rw [toNat_ofNat (by omega)]; exact ⟨vers_iff.2 (by simp), by omega⟩)
      exact List.length_pos_of_mem this
  have hr : rightB (fall (vers l)) = true := by
    rw [right_fall]
    simp; omega
  have hm : makeB l = true := by rw [makeB, hk, hr]; rfl
  have hs : makeS l = fall (vers l) := by rw [makeS, if_pos hm]
  exact ⟨hm, hs, by rw [makeE, if_pos hm], by rw [hs]; exact hr⟩
end Go.Proofs.YtgeonppckeiceaaGreatDoor.Ms
namespace Go.Proofs.YtgeonppckeiceaaGreatDoor
open Go.RowKit
set_option linter.unusedVariables false
set_option linter.unusedSimpArgs false
set_option maxRecDepth 20000
structure MeetA (slot : Int) (stamp : Nat) (X Y : ByteArray) (m : Mg) (q : Pnd) (o : Opd) (h : Int) (L1 L2 : List Tm) : Prop where
  c1 : hBegin 5000 L18 (1, 2) pB 7 X slot stamp 7 8 9 = (m, q, 0, L1)
  c2 : hOpen 5000 L1 (3, 4) [pA] Y m = (o, h, L2)
  mw : Ms.Ms.Wf m
  ms : m.s = X
  m4 : m.i 4 = slot
structure MeetB (slot : Int) (stamp : Nat) (X Y : ByteArray) (v : Int) (m : Mg) (q : Pnd) (y : Sy) (r : Mg) (u : Ses) (L1 L2 L3 L4 : List Tm) : Prop where
  a : MeetA slot stamp X Y m q ⟨y, 0, v, stamp, m.i 6, m.i 7, 15⟩ 0 L1 L2
  c3 : hAnswer 5000 L2 ⟨y, 0, v, stamp, m.i 6, m.i 7, 15⟩ 9 7 10 11 = (r, u, 0, L3)
  c4 : hFinish 5000 L3 1 q r = (⟨u.h, u.recv, u.send, v⟩, 0, L4)
  rw : Ms.Ms.Wf r
  oy : y.Wf
  qy : q.y.Wf
  qe : q.e = 7
  qk : q.ek = 8
  uv : u.version = v
  un : u.recv ≠ u.send
theorem meet_of {slot : Int} {stamp : Nat} {X Y : ByteArray} {P : Tr} (hs : slot = 0 ∨ slot = 1) (hst : stamp ≤ 18446744073709551615) (nP : P ≠ .none) (hP : Nm L18 P (pB.psk slot)) (hQ : Nm L18 P (pA.psk slot)) (hX : Ms.rightB X.data.toList = true) (hY : Ms.rightB Y.data.toList = true) :
    (Ms.bestE Y.data.toList X.data.toList = 0 → ∃ m q y r u L1 L2 L3 L4, MeetB slot stamp X Y (Ms.bestV Y.data.toList X.data.toList) m q y r u L1 L2 L3 L4) ∧ (Ms.bestE Y.data.toList X.data.toList ≠ 0 → ∃ m q L1 L2, MeetA slot stamp X Y m q zeroOpd 11 L1 L2) := by
  have l18 := len18
  have hof : X.size ≤ 1000 := by
    have : X.data.toList.length ≤ 8 := (Ms.right_iff.1 hX).2.1
    have e : X.size = X.data.toList.length := rfl
    omega
  obtain ⟨m, q, L1, c1, hI, v1⟩ := hBegin_tr (most := 5000) (L := L18) (fr := 7) (slot := slot) (offer := X) (stamp := stamp) gd18 ends18 (P := P) hP nm7 nm8 nm9 nP (nn _) (nn _) (nn _) hs (by omega) hX hst (by omega) (by omega)
  have g1 := v1.len
  have kd := hI.kind
  have mw := hI.wf (by omega) hs (by omega) hof
  refine ⟨fun hb => ?_, fun hb => ?_⟩
  · have E1 := ends18.ext v1.ext
    obtain ⟨y, L2, c2, sy, v2⟩ := hOpen_tr (most := 5000) (mine := Y) (ps := [pA]) (i := 0) v1.gd E1 hI (hQ.ext v1.ext) (nm7.ext v1.ext) (nm9.ext v1.ext) nP (nn _) (nn _) (nn _) (by decide) hof hb hst (by omega)
    have g2 := v2.len
    have x2 := v1.ext.trans v2.ext
    have I2 := hI.ext v2.ext
    obtain ⟨c, hc, hc1, hc2⟩ := Ms.best_mem hb
    have hc3 := UInt8.toNat_lt c
    obtain ⟨r, u, L3, c3, hR, hr, v3⟩ := hAnswer_tr (most := 5000) (o := ⟨y, 0, Ms.bestV Y.data.toList X.data.toList, stamp, m.i 6, m.i 7, 15⟩) (fr := 9) (tt := 7) v2.gd sy (ends18.ext x2).sA1 (nm7.ext x2) (nm8.ext x2) (nm10.ext x2) (nm11.ext x2) I2.e (ends18.ext x2).pA1 I2.ek (ends18.ext x2).n1 (nn _) (nn _) (nn _) (nn _) (by omega) (by omega) (by omega) (by omega)
    have g3 := v3.len
    have x3 := x2.trans v3.ext
    have I3 := I2.ext v3.ext
    have hq1 := hI.p1
    have hq2 := hI.p2
    have hq3 := hI.p3
    obtain ⟨L4, c4, v4⟩ := hFinish_tr (most := 5000) (p := q) (v := Ms.bestV Y.data.toList X.data.toList) v3.gd I3.y (ends18.ext x3).sA1 (by rw [hq1]; exact nm7.ext x3) (nm10.ext x3) (by rw [hq2]; exact nm8.ext x3) (by rw [hq1]; exact hR) (ends18.ext x3).n1 (nn _) (nn _) (nn _) (nn _) (by omega) (by rw [hq3, hc]; simpa using hc2) (by omega)
    refine ⟨m, q, y, r, u, L1, L2, L3, L4, ⟨c1, c2, mw, kd.2.2.1, kd.2.1⟩, c3, c4, hR.wf hr (by omega) (by omega) (by omega), sy.wf (by omega) ?_ ?_, hI.y.wf (by omega) ?_ ?_, hq1, hq2, hR.version, fun e => ?_⟩
    all_goals first | (simp only [Ys.sealed, Yb2, beginY2, Ys.turn]; omega) | skip
    have hs := hR.send
    rw [← e] at hs
    have := hs.inj hR.recv
    simp [Tr.key] at this
  · have c2 := hOpen_ver (most := 5000) (mine := Y) (ps := [pA]) (x := (3, 4)) hI hb
    rw [(Ms.best_else hY hX hb).1] at c2
    exact ⟨m, q, L1, L1, c1, c2, mw, kd.2.2.1, kd.2.1⟩
theorem meet_is {slot : Int} {stamp : Nat} {X Y : ByteArray} (hs : slot = 0 ∨ slot = 1) (hst : stamp ≤ 18446744073709551615) (hX : Ms.rightB X.data.toList = true) (hY : Ms.rightB Y.data.toList = true) :
    (Ms.bestE Y.data.toList X.data.toList = 0 → ∃ m q y r u L1 L2 L3 L4, MeetB slot stamp X Y (Ms.bestV Y.data.toList X.data.toList) m q y r u L1 L2 L3 L4) ∧ (Ms.bestE Y.data.toList X.data.toList ≠ 0 → ∃ m q L1 L2, MeetA slot stamp X Y m q zeroOpd 11 L1 L2) := by
  rcases hs with rfl | rfl
  · exact meet_of (P := .nonce 104) (.inl rfl) hst (nn _) nm5 nm5 hX hY
  · exact meet_of (P := .nonce 105) (.inr rfl) hst (nn _) nm6 nm6 hX hY
end Go.Proofs.YtgeonppckeiceaaGreatDoor
