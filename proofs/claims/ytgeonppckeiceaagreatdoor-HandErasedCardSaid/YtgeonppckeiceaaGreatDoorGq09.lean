/- Terms as trees of what they were made of: which name a tree has in a store; a state of a handshake in trees: said, mixed in, sealed, opened, split. -/
import Derived.Test.YtgeonppckeiceaaGreatDoorGq07
import Derived.Test.YtgeonppckeiceaaGreatDoorGq06
import Derived.Test.YtgeonppckeiceaaGreatDoorGq08
namespace Go.Proofs.YtgeonppckeiceaaGreatDoor
open Go.RowKit
set_option linter.unusedVariables false
set_option linter.unusedSimpArgs false
inductive Tr
 | none
 | mk (K : Int) (S : ByteArray) (N : Int) (A B C : Tr)
def Tr.text (S : ByteArray) : Tr := .mk 1 S 0 .none .none .none
def Tr.nonce (n : Int) : Tr := .mk 2 ⟨#[]⟩ n .none .none .none
def Tr.pub (a : Tr) : Tr := .mk 3 ⟨#[]⟩ 0 a .none .none
def Tr.share (a b : Tr) : Tr := .mk 4 ⟨#[]⟩ 0 a b .none
def Tr.kpub (a : Tr) : Tr := .mk 5 ⟨#[]⟩ 0 a .none .none
def Tr.box (a b : Tr) : Tr := .mk 6 ⟨#[]⟩ 0 a b .none
def Tr.kem (a b : Tr) : Tr := .mk 7 ⟨#[]⟩ 0 a b .none
def Tr.hash (a b : Tr) : Tr := .mk 8 ⟨#[]⟩ 0 a b .none
def Tr.key (a : Tr) (n : Int) : Tr := .mk 9 ⟨#[]⟩ n a .none .none
def Tr.seal (k : Tr) (n : Int) (b p : Tr) : Tr := .mk 10 ⟨#[]⟩ n k b p
inductive Nm (L : List Tm) : Tr → Int → Prop
 | none : Nm L .none 0
 | mk {K : Int} {S : ByteArray} {N : Int} {A B C : Tr} {a b c x : Int} : Nm L A a → Nm L B b → Nm L C c → Named L x ⟨K, S, N, a, b, c⟩ → Nm L (.mk K S N A B C) x
section
variable {L L' : List Tm} {t u : Tr} {x y : Int}
theorem Nm.ext (h : Nm L t x) (e : Ext L L') : Nm L' t x := by
 induction h with
 | none => exact .none
 | mk _ _ _ hn ha hb hc => exact .mk ha hb hc (hn.ext e)
theorem Nm.fun (h : Nm L t x) : ∀ {y}, Nm L t y → x = y := by
 induction h with
 | none => intro y g; cases g; rfl
 | mk _ _ _ hn ha hb hc =>
  intro y g
  cases g with
  | mk ga gb gc gn =>
   have e1 := ha ga
   have e2 := hb gb
   have e3 := hc gc
   subst e1 e2 e3
   exact (hn.inj gn).2 rfl
theorem Nm.inj (h : Nm L t x) : ∀ {u}, Nm L u x → t = u := by
 induction h with
 | none =>
  intro u g
  cases g with
  | none => rfl
  | mk _ _ _ gn => have := gn.2; omega
 | mk _ _ _ hn ha hb hc =>
  intro u g
  cases g with
  | none => have := hn.2; omega
  | mk ga gb gc gn =>
   have e := (hn.inj gn).1 rfl
   injection e with e1 e2 e3 e4 e5 e6
   subst e1 e2 e3 e4 e5 e6
   rw [ha ga, hb gb, hc gc]
theorem Nm.in (h : Nm L t x) (hn : t ≠ .none) : 1 ≤ x ∧ x ≤ (L.length : Int) := by
 cases h with
 | none => exact absurd rfl hn
 | mk _ _ _ hn => exact hn.in
theorem Nm.at {K : Int} {S : ByteArray} {N : Int} {A B C : Tr} (h : Nm L (.mk K S N A B C) x) : ∃ a b c, Nm L A a ∧ Nm L B b ∧ Nm L C c ∧ Named L x ⟨K, S, N, a, b, c⟩ := by
 cases h with
 | mk ha hb hc hn => exact ⟨_, _, _, ha, hb, hc, hn⟩
structure Gd (L : List Tm) : Prop where
 fit : Fit L
 sound : Sound L
 uniq : ∀ k, k < L.length → nameOf L (L.getD k zeroT) = (k : Int) + 1
theorem Gd.nil : Gd [] := ⟨fun k hk => absurd hk (Nat.not_lt_zero _), Sound.nil, fun k hk => absurd hk (Nat.not_lt_zero _)⟩
theorem Gd.put {L : List Tm} (h : Gd L) {most : Int} (hl : (L.length : Int) ≤ most) (t : Tm) : Gd (putF L most t).2.2 := by
 refine ⟨(fit_putF h.fit hl).1, h.sound.put most t, ?_⟩
 rcases putF_cases L most t with ⟨hp, hm⟩ | ⟨j, hj, hp, hjt, hm, hn⟩ | ⟨hr, hp, hm, hn⟩ | ⟨hr, hp, hm, hn⟩
 all_goals rw [hp]
 ·exact h.uniq
 ·exact h.uniq
 ·exact h.uniq
 ·intro k hk
  have hk' : k < L.length + 1 := by simpa using hk
  rcases Nat.lt_succ_iff_lt_or_eq.1 hk' with q | q
  ·show nameOf (L ++ [t]) ((L ++ [t]).getD k zeroT) = _
   rw [getD_snoc_lt L t k q]
   have := h.uniq k q
   rw [nameOf_snoc_old L t _ (by rw [this]; omega), this]
  ·subst q
   show nameOf (L ++ [t]) ((L ++ [t]).getD L.length zeroT) = _
   rw [getD_snoc_eq L t]
   exact nameOf_snoc_same L t hn
theorem Gd.all {L : List Tm} (h : Gd L) : ∀ (n : Nat) (a : Int), a.toNat ≤ n → 0 ≤ a → a ≤ (L.length : Int) → ∃ t, Nm L t a := by
 intro n
 induction n with
 | zero =>
  intro a h1 h2 h3
  obtain rfl : a = 0 := by omega
  exact ⟨.none, .none⟩
 | succ n ih =>
  intro a h1 h2 h3
  by_cases h0 : a = 0
  ·subst h0; exact ⟨.none, .none⟩
  ·have hk : (a - 1).toNat < L.length := by omega
   have hu := h.uniq _ hk
   have hm := (may_iff _ _).1 (h.sound _ hk)
   have hf := h.fit _ hk
   generalize L.getD (a - 1).toNat zeroT = t at hu hm hf
   have hp : ∀ j, j < 3 → 0 ≤ prt t.A t.B t.C j ∧ prt t.A t.B t.C j ≤ a - 1 := by
    intro j hj
    by_cases q : j < many t.K
    ·have := hf j q; omega
    ·have h5 := hm.2.2.2.2.2.1 j hj
     unfold BadP at h5
     have : prt t.A t.B t.C j = 0 := by
      by_cases e : prt t.A t.B t.C j = 0
      ·exact e
      ·exact absurd (.inr ⟨by omega, e⟩) h5
     omega
   have pa := hp 0 (by omega)
   have pb := hp 1 (by omega)
   have pc := hp 2 (by omega)
   obtain ⟨A, hA⟩ := ih t.A (by simp [prt] at pa; omega) (by simp [prt] at pa; omega) (by simp [prt] at pa; omega)
   obtain ⟨B, hB⟩ := ih t.B (by simp [prt] at pb; omega) (by simp [prt] at pb; omega) (by simp [prt] at pb; omega)
   obtain ⟨C, hC⟩ := ih t.C (by simp [prt] at pc; omega) (by simp [prt] at pc; omega) (by simp [prt] at pc; omega)
   exact ⟨.mk t.K t.S t.N A B C, .mk hA hB hC ⟨by rw [show (⟨t.K, t.S, t.N, t.A, t.B, t.C⟩ : Tm) = t from rfl, hu]; omega, by omega⟩⟩
end
structure Up (L L' : List Tm) (k : Nat) : Prop where
 ext : Ext L L'
 len : L'.length ≤ L.length + k
 gd : Gd L'
theorem Up.trans {L M N : List Tm} {j k : Nat} (h : Up L M j) (g : Up M N k) : Up L N (j + k) := ⟨h.ext.trans g.ext, by have := h.len; have := g.len; omega, g.gd⟩
theorem Up.mono {L M : List Tm} {j k : Nat} (h : Up L M j) (e : j ≤ k) : Up L M k := ⟨h.ext, by have := h.len; omega, h.gd⟩
section
variable {L : List Tm} {most : Int}
theorem put_tr {K : Int} {S : ByteArray} {N : Int} {A B C : Tr} {a b c : Int} (hf : Gd L) (hA : Nm L A a) (hB : Nm L B b) (hC : Nm L C c) (hm : (⟨K, S, N, a, b, c⟩ : Tm).may L.length = true) (hr : (L.length : Int) < most) :
  ∃ x L', putF L most ⟨K, S, N, a, b, c⟩ = (x, 0, L') ∧ Nm L' (.mk K S N A B C) x ∧ Up L L' 1 := by
 obtain ⟨x, L', h1, h2, h3, h4⟩ := put_named L most _ hm hr
 exact ⟨x, L', h1, .mk (hA.ext h3) (hB.ext h3) (hC.ext h3) h2, h3, h4, by have := hf.put (most := most) (by omega) ⟨K, S, N, a, b, c⟩; rw [h1] at this; exact this⟩
theorem text_tr (S : ByteArray) (hf : Gd L) (hS : S.size ≤ 1000) (hr : (L.length : Int) < most) : ∃ x L', putF L most (textT S) = (x, 0, L') ∧ Nm L' (.text S) x ∧ Up L L' 1 :=
 put_tr hf .none .none .none (may_textT hS) hr
theorem pub_tr {a : Tr} {x : Int} (hf : Gd L) (h : Nm L a x) (hn : a ≠ .none) (hr : (L.length : Int) < most) : ∃ p L', putF L most (pubT x) = (p, 0, L') ∧ Nm L' (.pub a) p ∧ Up L L' 1 :=
 put_tr hf h .none .none (may_pub (h.in hn).1 (h.in hn).2) hr
theorem kpub_tr {a : Tr} {x : Int} (hf : Gd L) (h : Nm L a x) (hn : a ≠ .none) (hr : (L.length : Int) < most) : ∃ p L', putF L most (kpubT x) = (p, 0, L') ∧ Nm L' (.kpub a) p ∧ Up L L' 1 :=
 put_tr hf h .none .none (may_kpub (h.in hn).1 (h.in hn).2) hr
def shTr (x y : Int) (a b : Tr) : Tr := if x ≤ y then .share a b else .share b a
theorem shTr_comm {x y : Int} {a b : Tr} (h : x = y → a = b) : shTr x y a b = shTr y x b a := by
 unfold shTr
 by_cases h1 : x ≤ y
 ·by_cases h2 : y ≤ x
  ·have := h (by omega)
   rw [if_pos h1, if_pos h2, this]
  ·rw [if_pos h1, if_neg h2]
 ·rw [if_neg h1, if_pos (by omega)]
theorem agree_tr {a b : Tr} {x y p : Int} (hf : Gd L) (ha : Nm L a x) (hb : Nm L b y) (hp : Nm L (.pub b) p) (hna : a ≠ .none) (hnb : b ≠ .none) (hr : (L.length : Int) < most) :
  ∃ s L', agreeF L most x p = (s, 0, L') ∧ Nm L' (shTr x y a b) s ∧ Up L L' 1 := by
 obtain ⟨y', _, _, hb', h2, h3, hn⟩ := hp.at
 have e1 := hb'.fun hb
 have e2 := h2.fun .none
 have e3 := h3.fun .none
 subst e1 e2 e3
 have ha' := ha.in hna
 have hb2 := hb.in hnb
 rw [agree_is (y := y') hn]
 unfold sh shTr
 by_cases h : x ≤ y'
 ·rw [if_pos h, if_pos h, if_pos h]
  exact put_tr hf ha hb .none (may_sh ha'.1 h hb2.2) hr
 ·rw [if_neg h, if_neg h, if_neg h]
  exact put_tr hf hb ha .none (may_sh hb2.1 (by omega) ha'.2) hr
theorem wrap_tr {a d : Tr} {x z p : Int} (hf : Gd L) (ha : Nm L a x) (hd : Nm L d z) (hp : Nm L (.kpub a) p) (hna : a ≠ .none) (hnd : d ≠ .none) (hr : (L.length : Int) + 1 < most) :
  ∃ b k L', wrapF L most p z = (b, k, 0, L') ∧ Nm L' (.box a d) b ∧ Nm L' (.kem a d) k ∧ Up L L' 2 := by
 obtain ⟨y', _, _, hb', h2, h3, hn⟩ := hp.at
 have e1 := hb'.fun ha
 have e2 := h2.fun .none
 have e3 := h3.fun .none
 subst e1 e2 e3
 have ha' := ha.in hna
 have hd' := hd.in hnd
 obtain ⟨tz, gz⟩ := getT_of2 hd'.1 hd'.2
 obtain ⟨b, L1, e1, n1, u1⟩ := put_tr (most := most) hf ha hd .none (may_box ha'.1 ha'.2 hd'.1 hd'.2) (by omega)
 have hl := u1.len
 obtain ⟨k, L2, e2, n2, u2⟩ := put_tr (most := most) u1.gd (ha.ext u1.ext) (hd.ext u1.ext) .none (may_kem ha'.1 (u1.ext.len ha'.2) hd'.1 (u1.ext.len hd'.2)) (by omega)
 exact ⟨b, k, L2, wrap_yes hn.get gz rfl rfl e1 e2, n1.ext u2.ext, n2, u1.trans u2⟩
theorem unwrap_tr {a d : Tr} {x c : Int} (hf : Gd L) (ha : Nm L a x) (hc : Nm L (.box a d) c) (hna : a ≠ .none) (hnd : d ≠ .none) (hr : (L.length : Int) < most) :
  ∃ k L', kopenF L most x c = (k, 0, L') ∧ Nm L' (.kem a d) k ∧ Up L L' 1 := by
 obtain ⟨y', z, _, hb', hd, h3, hn⟩ := hc.at
 have e1 := hb'.fun ha
 have e3 := h3.fun .none
 subst e1 e3
 have ha' := ha.in hna
 have hd' := hd.in hnd
 obtain ⟨tx, hx⟩ := getT_of2 ha'.1 ha'.2
 obtain ⟨k, L1, e1, n1, u1⟩ := put_tr (most := most) hf ha hd .none (may_kem ha'.1 ha'.2 hd'.1 hd'.2) hr
 exact ⟨k, L1, by rw [open_yes hx hn.get ⟨rfl, rfl⟩ rfl]; exact e1, n1, u1⟩
theorem unwrap_no {a b d : Tr} {x c : Int} (ha : Nm L a x) (hc : Nm L (.box b d) c) (hna : a ≠ .none) (hne : a ≠ b) : kopenF L most x c = (0, 10, L) := by
 obtain ⟨y', z, _, hb', hd, h3, hn⟩ := hc.at
 have ha' := ha.in hna
 have e3 := h3.fun .none
 subst e3
 exact open_other most hn (fun e => hne (by subst e; exact ha.inj hb')) ha'.1 ha'.2
end
structure Ys where
 CK : Tr
 K : Tr
 H : Tr
 N : Int
def Ys.start (S : ByteArray) : Ys := ⟨.text S, .none, .text S, 0⟩
def Ys.say (s : Ys) (x : Tr) : Ys := ⟨s.CK, s.K, .hash s.H x, s.N⟩
def Ys.turn (s : Ys) (x : Tr) : Ys := ⟨.key (.hash s.CK x) 1, .key (.hash s.CK x) 2, s.H, 0⟩
def Ys.box (s : Ys) (x : Tr) : Tr := .seal s.K s.N s.H x
def Ys.sealed (s : Ys) (x : Tr) : Ys := ⟨s.CK, s.K, .hash s.H (s.box x), s.N + 1⟩
structure StY (L : List Tm) (y : Sy) (s : Ys) : Prop where
 ck : Nm L s.CK y.CK
 k : Nm L s.K y.K
 h : Nm L s.H y.H
 n : y.N = s.N
 nck : s.CK ≠ .none
 nh : s.H ≠ .none
theorem StY.ext {L L' : List Tm} {y : Sy} {s : Ys} (h : StY L y s) (e : Ext L L') : StY L' y s := ⟨h.ck.ext e, h.k.ext e, h.h.ext e, h.n, h.nck, h.nh⟩
section
variable {L : List Tm} {most : Int} {y : Sy} {s : Ys}
theorem start_tr (S : ByteArray) (hf : Gd L) (hS : S.size ≤ 1000) (hr : (L.length : Int) < most) : ∃ y L', beginF L most S = (y, 0, L') ∧ StY L' y (Ys.start S) ∧ Up L L' 1 := by
 obtain ⟨a, L', h1, h2, h3⟩ := text_tr (most := most) S hf hS hr
 exact ⟨_, L', begin_yes h1, ⟨h2, .none, h2, rfl, by simp [Ys.start, Tr.text], by simp [Ys.start, Tr.text]⟩, h3⟩
theorem say_tr {t : Tr} {x : Int} (hf : Gd L) (h : StY L y s) (ht : Nm L t x) (hn : t ≠ .none) (hr : (L.length : Int) < most) : ∃ y' L', sayF L most y x = (y', 0, L') ∧ StY L' y' (s.say t) ∧ Up L L' 1 := by
 obtain ⟨a, L', h1, h2, h3⟩ := put_tr (K := 8) (S := ⟨#[]⟩) (N := 0) (most := most) hf h.h ht .none (may_hash (h.h.in h.nh) (ht.in hn)) hr
 exact ⟨_, L', say_yes h1, ⟨h.ck.ext h3.ext, h.k.ext h3.ext, h2, h.n, h.nck, by simp [Ys.say, Tr.hash]⟩, h3⟩
theorem mix_tr {k i : Tr} {x z : Int} (hf : Gd L) (hk : Nm L k x) (hi : Nm L i z) (hnk : k ≠ .none) (hni : i ≠ .none) (hr : (L.length : Int) + 2 < most) :
  ∃ a b L', mixF L most x z = (a, b, 0, L') ∧ Nm L' (.key (.hash k i) 1) a ∧ Nm L' (.key (.hash k i) 2) b ∧ Up L L' 3 := by
 obtain ⟨h, L1, e1, n1, u1⟩ := put_tr (K := 8) (S := ⟨#[]⟩) (N := 0) (most := most) hf hk hi .none (may_hash (hk.in hnk) (hi.in hni)) (by omega)
 have l1 := u1.len
 have i1 := n1.in (by simp)
 obtain ⟨a, L2, e2, n2, u2⟩ := put_tr (K := 9) (S := ⟨#[]⟩) (N := 1) (most := most) u1.gd n1 .none .none (may_key i1) (by omega)
 have l2 := u2.len
 obtain ⟨b, L3, e3, n3, u3⟩ := put_tr (K := 9) (S := ⟨#[]⟩) (N := 2) (most := most) u2.gd (n1.ext u2.ext) .none .none (may_key (u2.ext.in i1)) (by omega)
 exact ⟨a, b, L3, mix_yes e1 e2 e3, n2.ext u3.ext, n3, (u1.trans u2).trans u3⟩
theorem turn_tr {t : Tr} {x : Int} (hf : Gd L) (h : StY L y s) (ht : Nm L t x) (hn : t ≠ .none) (hr : (L.length : Int) + 2 < most) : ∃ y' L', turnF L most y x = (y', 0, L') ∧ StY L' y' (s.turn t) ∧ Up L L' 3 := by
 obtain ⟨a, b, L', h1, h2, h3, h4⟩ := mix_tr (most := most) hf h.ck ht h.nck hn hr
 exact ⟨_, L', turn_yes h1, ⟨h2, h3, h.h.ext h4.ext, rfl, by simp [Ys.turn, Tr.key], h.nh⟩, h4⟩
theorem seal_tr {t : Tr} {x : Int} (hf : Gd L) (h : StY L y s) (ht : Nm L t x) (hn : t ≠ .none) (hk : s.K ≠ .none) (hl : s.N ≠ lastN) (hr : (L.length : Int) + 1 < most) :
  ∃ y' c L', sealF L most y x = (y', c, 0, L') ∧ StY L' y' (s.sealed t) ∧ Nm L' (s.box t) c ∧ Up L L' 2 := by
 have ik := h.k.in hk
 obtain ⟨c, L1, e1, n1, u1⟩ := put_tr (K := 10) (S := ⟨#[]⟩) (N := y.N) (most := most) hf h.k h.h ht (may_seal ik (h.h.in h.nh) (ht.in hn)) (by omega)
 have l1 := u1.len
 have i1 := n1.in (by simp)
 obtain ⟨a, L2, e2, n2, u2⟩ := put_tr (K := 8) (S := ⟨#[]⟩) (N := 0) (most := most) u1.gd (h.h.ext u1.ext) n1 .none (may_hash (u1.ext.in (h.h.in h.nh)) i1) (by omega)
 have hb : s.box t = .mk 10 ⟨#[]⟩ y.N s.K s.H t := by unfold Ys.box Tr.seal; rw [h.n]
 have e : Ext L L2 := u1.ext.trans u2.ext
 refine ⟨_, c, L2, seal_yes (by have := h.n; have := ik.1; omega) e1 e2, ⟨h.ck.ext e, h.k.ext e, ?_, by show y.N + 1 = s.N + 1; rw [h.n], h.nck, by simp [Ys.sealed, Tr.hash]⟩, by rw [hb]; exact n1.ext u2.ext, u1.trans u2⟩
 show Nm L2 (.hash s.H (s.box t)) a
 rw [hb]
 exact n2
theorem unseal_tr {t : Tr} {c : Int} (hf : Gd L) (h : StY L y s) (hc : Nm L (s.box t) c) (hk : s.K ≠ .none) (hl : s.N ≠ lastN) (hr : (L.length : Int) < most) :
  ∃ y' p L', unsealF L most y c = (y', p, 0, L') ∧ StY L' y' (s.sealed t) ∧ Nm L' t p ∧ Up L L' 1 := by
 have ik := h.k.in hk
 obtain ⟨k', b', p, q1, q2, q3, hn⟩ := hc.at
 have e1 := q1.fun h.k
 have e2 := q2.fun h.h
 subst e1 e2
 have ic := hn.in
 obtain ⟨a, L2, e2, n2, u2⟩ := put_tr (K := 8) (S := ⟨#[]⟩) (N := 0) (most := most) hf h.h hc .none (may_hash (h.h.in h.nh) ic) (by omega)
 have ho := open_at (k' := y.K) (w' := y.N) (b' := y.H) hn ik (h.h.in h.nh)
 rw [if_pos ⟨rfl, h.n, rfl⟩] at ho
 exact ⟨_, p, L2, unseal_yes (by have := h.n; have := ik.1; omega) ho e2, ⟨h.ck.ext u2.ext, h.k.ext u2.ext, n2, by show y.N + 1 = s.N + 1; rw [h.n], h.nck, by simp [Ys.sealed, Tr.hash]⟩, q3.ext u2.ext, u2⟩
theorem unseal_no {t : Tr} {c : Int} {s' : Ys} (h : StY L y s) (hc : Nm L (s'.box t) c) (hk : s.K ≠ .none) (hl : s.N ≠ lastN) (hne : ¬ (s.K = s'.K ∧ s.N = s'.N ∧ s.H = s'.H)) : unsealF L most y c = (zeroY, 0, 9, L) := by
 have ik := h.k.in hk
 obtain ⟨k', b', p, q1, q2, q3, hn⟩ := hc.at
 refine unseal_bad ik (h.h.in h.nh) (by rw [h.n]; exact hl) hn (fun q => hne ?_)
 obtain ⟨e1, e2, e3⟩ := q
 subst e1 e3
 exact ⟨h.k.inj q1, by rw [← h.n, e2], h.h.inj q2⟩
theorem split_tr (hf : Gd L) (h : StY L y s) (hr : (L.length : Int) + 3 < most) :
  ∃ a b L', splitF L most y = (a, b, 0, L') ∧ Nm L' (.key (.hash s.CK (.text ⟨#[]⟩)) 1) a ∧ Nm L' (.key (.hash s.CK (.text ⟨#[]⟩)) 2) b ∧ Up L L' 4 := by
 obtain ⟨t, L1, e1, n1, u1⟩ := text_tr (most := most) ⟨#[]⟩ hf (by decide) (by omega)
 have l1 := u1.len
 obtain ⟨a, b, L2, e2, n2, n3, u2⟩ := mix_tr (most := most) u1.gd (h.ck.ext u1.ext) n1 h.nck (by simp [Tr.text]) (by omega)
 exact ⟨a, b, L2, by rw [split_yes e1]; exact e2, n2, n3, u1.trans u2⟩
end
end Go.Proofs.YtgeonppckeiceaaGreatDoor
