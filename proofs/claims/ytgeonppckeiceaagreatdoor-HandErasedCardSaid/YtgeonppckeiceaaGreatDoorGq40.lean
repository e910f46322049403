/- A handshake of two endpoints: what who hears it can make, and what not. -/
/- The program's Names. -/
import Derived.Test.YtgeonppckeiceaaGreatDoorGq39
import Derived.Test.YtgeonppckeiceaaGreatDoorGq01
import Derived.Test.YtgeonppckeiceaaGreatDoorGq13
namespace Go.Proofs.YtgeonppckeiceaaGreatDoor
open Go.RowKit
set_option linter.unusedVariables false
set_option linter.unusedSimpArgs false
set_option maxRecDepth 20000
def kn6 (n : Int) : Bool := decide (100 ≤ n ∧ n ≤ 105)
def heard (m r : Mg) : List Int := [m.i 6, m.i 7, m.i 8, m.i 9, m.i 10] ++ [r.i 6, r.i 8, r.i 9]
structure WhoIs (slot : Int) (n : Nat) (m : Mg) (q : Pnd) (y : Sy) (r : Mg) (u : Ses) (L1 L2 L3 L4 : List Tm) : Prop where
 c1 : hBegin 5000 L18 (1, 2) pB 7 ⟨#[1]⟩ slot n 7 8 9 = (m, q, 0, L1)
 c2 : hOpen 5000 L1 (3, 4) [pA] ⟨#[1]⟩ m = (⟨y, 0, 1, n, m.i 6, m.i 7, 15⟩, 0, L2)
 c3 : hAnswer 5000 L2 ⟨y, 0, 1, n, m.i 6, m.i 7, 15⟩ 9 7 10 11 = (r, u, 0, L3)
 c4 : hFinish 5000 L3 1 q r = (⟨u.h, u.recv, u.send, 1⟩, 0, L4)
 mw : Ms.Ms.Wf m
 rw : Ms.Ms.Wf r
 nm : Ms.namesM m = [m.i 6, m.i 7, m.i 8, m.i 9, m.i 10]
 nr : Ms.namesM r = [r.i 6, r.i 8, r.i 9]
 oy : y.Wf
 oe : I64 (m.i 6) ∧ I64 (m.i 7)
 qy : q.y.Wf
 qe : q.e = 7
 qk : q.ek = 8
 fine : Fine L4
 inh : ∀ x, x ∈ heard m r → InL L4 x
 ins : InL L4 u.send ∧ InL L4 u.recv
 len : 18 ≤ L4.length ∧ L4.length ≤ 1000
 hid : ∀ dh kem C, Least L4 (heard m r ++ [17, 18, 15, 16]) dh kem C → (∀ i : Nat, 1 ≤ i → i ≤ 14 → C (i : Int) = false) ∧ C u.send = false ∧ C u.recv = false
 can : ∀ C, Least L4 (heard m r ++ [17, 18, 15, 16] ++ [1, 2, 5, 6, 7, 8, 9]) false false C → C u.send = true ∧ C u.recv = true
 era : ∀ dh kem C, Least L4 (heard m r ++ [1, 2, 3, 4, 5, 6, 17, 18, 15, 16]) dh kem C → C u.send = (dh && kem) ∧ C u.recv = (dh && kem)
theorem who_of {slot : Int} {n : Nat} {P : Tr} (hs0 : slot = 0 ∨ slot = 1) (hn : n < 256) (hP : Nm L18 P (pB.psk slot)) (hQ : Nm L18 P (pA.psk slot)) (eP : P = .nonce (104 + slot)) (e5 : pB.psk slot = 5 + slot) :
  ∃ m q y r u L1 L2 L3 L4, WhoIs slot n m q y r u L1 L2 L3 L4 := by
 have l18 := len18
 have nP : P ≠ .none := by rw [eP]; exact nn _
 have hst : n ≤ 18446744073709551615 := by omega
 have hof : (⟨#[1]⟩ : ByteArray).size ≤ 1000 := by decide
 have hb : Ms.bestE (⟨#[1]⟩ : ByteArray).data.toList (⟨#[1]⟩ : ByteArray).data.toList = 0 := by kernel_rfl
 have hv : Ms.bestV (⟨#[1]⟩ : ByteArray).data.toList (⟨#[1]⟩ : ByteArray).data.toList = 1 := by kernel_rfl
 obtain ⟨m, q, L1, c1, hI, v1⟩ := hBegin_tr (most := 5000) (L := L18) (fr := 7) (slot := slot) (offer := ⟨#[1]⟩) (stamp := n) gd18 ends18 (P := P) hP nm7 nm8 nm9 nP (nn _) (nn _) (nn _) hs0 (by omega) (by kernel_rfl) hst (by omega) (by omega)
 have g1 := v1.len
 have E1 := ends18.ext v1.ext
 obtain ⟨y, L2, c2, sy, v2⟩ := hOpen_tr (most := 5000) (mine := ⟨#[1]⟩) (ps := [pA]) (i := 0) v1.gd E1 hI (hQ.ext v1.ext) (nm7.ext v1.ext) (nm9.ext v1.ext) nP (nn _) (nn _) (nn _) (by decide) hof hb hst (by omega)
 have g2 := v2.len
 have x2 := v1.ext.trans v2.ext
 have I2 := hI.ext v2.ext
 rw [hv] at c2
 obtain ⟨r, u, L3, c3, hR, hr, v3⟩ := hAnswer_tr (most := 5000) (o := ⟨y, 0, 1, n, m.i 6, m.i 7, 15⟩) (fr := 9) (tt := 7) v2.gd sy (ends18.ext x2).sA1 (nm7.ext x2) (nm8.ext x2) (nm10.ext x2) (nm11.ext x2) I2.e (ends18.ext x2).pA1 I2.ek (ends18.ext x2).n1 (nn _) (nn _) (nn _) (nn _) (by omega) (by omega) (by omega) (by omega)
 have g3 := v3.len
 have x3 := x2.trans v3.ext
 have I3 := I2.ext v3.ext
 have hq1 := hI.p1
 have hq2 := hI.p2
 have hq3 := hI.p3
 obtain ⟨L4, c4, v4⟩ := hFinish_tr (most := 5000) (p := q) (v := 1) v3.gd I3.y (ends18.ext x3).sA1 (by rw [hq1]; exact nm7.ext x3) (nm10.ext x3) (by rw [hq2]; exact nm8.ext x3) (by rw [hq1]; exact hR) (ends18.ext x3).n1 (nn _) (nn _) (nn _) (nn _) (by omega) (by rw [hq3]; decide) (by omega)
 have g4 := v4.len
 have x4 := x3.trans v4.ext
 have I4 := I3.ext v4.ext
 have R4 := hR.ext v4.ext
 have E4 := ends18.ext x4
 have gd := v4.gd
 have hl : 18 ≤ L4.length := by have := (E4.pB2.in (by simp [Tr.kpub])).2; simp only [pB] at this; omega
 have nb : Nb L4 := (((nb18.begin c1).open c2).answer c3).finish c4
 have bd : ∀ {t : Tr} {x : Int}, Nm L4 t x → t ≠ .none → InL L4 x := fun q hn => q.in hn
 have i1 := bd I4.e (by simp [Tr.pub])
 have i2 := bd I4.ek (by simp [Tr.kpub])
 have i3 := bd I4.box (by simp [Tr.box])
 have i4 := bd I4.c1 (by simp [Ys.box, Tr.seal])
 have i5 := bd I4.c2 (by simp [Ys.box, Tr.seal])
 have j1 := bd R4.e (by simp [Tr.pub])
 have j2 := bd R4.box (by simp [Tr.box])
 have j3 := bd R4.c1 (by simp [Ys.box, Tr.seal])
 have hhe : ∀ (kn : Int → Bool) (dh kem : Bool), ∀ a, a ∈ heard m r ++ [17, 18, 15, 16] → ∃ t, Nm L4 t a ∧ t.ok kn dh kem = true := fun kn dh kem a ha => by
  simp only [heard, List.mem_append, List.mem_cons, List.not_mem_nil, or_false] at ha
  rcases ha with ((rfl | rfl | rfl | rfl | rfl) | (rfl | rfl | rfl)) | (rfl | rfl | rfl | rfl)
  ·exact ⟨_, I4.e, by simp [Tr.ok, Tr.pub]⟩
  ·exact ⟨_, I4.ek, by simp [Tr.ok, Tr.kpub]⟩
  ·exact ⟨_, I4.box, by simp [Tr.ok, Tr.box]⟩
  ·exact ⟨_, I4.c1, by simp [Tr.ok, Ys.box, Tr.seal, Tr.pub]⟩
  ·exact ⟨_, I4.c2, by simp [Tr.ok, Ys.box, Tr.seal, Tr.text]⟩
  ·exact ⟨_, R4.e, by simp [Tr.ok, Tr.pub]⟩
  ·exact ⟨_, R4.box, by simp [Tr.ok, Tr.box]⟩
  ·exact ⟨_, R4.c1, by simp [Tr.ok, Ys.box, Tr.seal, Tr.text]⟩
  ·exact ⟨_, E4.pB1, by simp [Tr.ok, Tr.pub]⟩
  ·exact ⟨_, E4.pB2, by simp [Tr.ok, Tr.kpub]⟩
  ·exact ⟨_, E4.pA1, by simp [Tr.ok, Tr.pub]⟩
  ·exact ⟨_, E4.pA2, by simp [Tr.ok, Tr.kpub]⟩
 have nmx : ∀ k : Nat, k < 14 → Nm L4 (.nonce (100 + k)) (k + 1) := fun k hk => (nonce_nm k hk).ext x4
 refine ⟨m, q, y, r, u, L1, L2, L3, L4, c1, c2, c3, c4, hI.wf (by omega) hs0 (by omega) hof, hR.wf hr (by omega) (by omega) (by omega), ?_, ?_, sy.wf (by omega) (by simp [Ys.sealed, Yb2, beginY2, Ys.turn]) (by simp [Ys.sealed, Yb2, beginY2, Ys.turn]), ⟨hI.e.i64 (by omega), hI.ek.i64 (by omega)⟩, hI.y.wf (by omega) (by simp [Ys.sealed, Yb2, beginY2, Ys.turn]) (by simp [Ys.sealed, Yb2, beginY2, Ys.turn]), hq1, hq2, nb.fine gd (by omega), ?_, ⟨bd R4.send (by simp [Tr.key]), bd R4.recv (by simp [Tr.key])⟩, ⟨hl, by omega⟩, ?_, ?_, ?_⟩
 ·rw [hI.form]; rfl
 ·rw [hr]; rfl
 ·intro x hx
  simp only [heard, List.mem_append, List.mem_cons, List.not_mem_nil, or_false] at hx
  rcases hx with (rfl | rfl | rfl | rfl | rfl) | (rfl | rfl | rfl) <;> assumption
 ·intro dh kem C hC
  have no : ∀ {t : Tr} {x : Int}, Nm L4 t x → t.ok (fun _ => false) dh kem = false → C x = false := fun ht ho => can_not gd hC (hhe _ dh kem) ht ho
  refine ⟨fun i h1 h2 => ?_, no R4.send ?_, no R4.recv ?_⟩
  ·have := no (nmx (i - 1) (by omega)) (by simp [Tr.ok, Tr.nonce])
   rwa [show (((i - 1 : Nat) : Int) + 1) = i by omega] at this
  ·simp [Yr, answerY1, Ys.say, Ys.turn, Ys.sealed, Yb2, beginY2, Tr.ok, Tr.key, Tr.hash, eP, Tr.nonce]
  ·simp [Yr, answerY1, Ys.say, Ys.turn, Ys.sealed, Yb2, beginY2, Tr.ok, Tr.key, Tr.hash, eP, Tr.nonce]
 ·intro C hC
  have hs := hC.1.step
  have K := hC.1.known
  have k1 : Cn L4 C (.nonce 100) := .known E4.sA1 (K _ (by simp))
  have kP : Cn L4 C P := .known (hP.ext x4) (K _ (by rw [e5]; rcases hs0 with rfl | rfl <;> simp))
  have k7 : Cn L4 C (.nonce 106) := .known (nm7.ext x4) (K _ (by simp))
  have k8 : Cn L4 C (.nonce 107) := .known (nm8.ext x4) (K _ (by simp))
  have k9 : Cn L4 C (.nonce 108) := .known (nm9.ext x4) (K _ (by simp))
  have c0 : Cn L4 C (Yb1 ⟨#[1]⟩ slot (.nonce 102) (.nonce 103) (.nonce 106) (.nonce 107) (.nonce 108) 7 3).CK := by
   refine Cn.turn (s := Ys.say (Ys.turn _ _) _) hs (Cn.turn (s := Ys.say (Ys.say (firstY _ _ _ _) _) _) hs (Cn.text hs _) ?_) ?_
   ·exact Cn.sh hs k7 E4.pB1 (K _ (by simp [pB])) 7 3
   ·exact Cn.kem_d hs k9 E4.pB2 (K _ (by simp [pB]))
  have c1 : Cn L4 C (Yb2 ⟨#[1]⟩ slot (.nonce 100) (.nonce 102) (.nonce 103) P (.nonce 106) (.nonce 107) (.nonce 108) 1 7 3).CK := by
   refine Cn.turn (s := Ys.turn (Ys.sealed _ _) _) hs (Cn.turn (s := Ys.sealed _ _) hs c0 ?_) kP
   exact Cn.sh hs k1 E4.pB1 (K _ (by simp [pB])) 1 3
  have c2 : ∀ k, Cn L4 C (.key (.hash (Yr ((Yb2 ⟨#[1]⟩ slot (.nonce 100) (.nonce 102) (.nonce 103) P (.nonce 106) (.nonce 107) (.nonce 108) 1 7 3).sealed (.text (Ms.putS n))) (.nonce 100) (.nonce 106) (.nonce 107) (.nonce 109) (.nonce 110) 1 7 10).CK (.text ⟨#[]⟩)) k) := by
   intro k
   refine Cn.key hs (Cn.hash hs ?_ (Cn.text hs _)) k
   refine Cn.turn (s := Ys.say (Ys.turn (Ys.turn (Ys.say (Ys.sealed _ _) _) _) _) _) hs (Cn.turn (s := Ys.turn (Ys.say (Ys.sealed _ _) _) _) hs (Cn.turn (s := Ys.say (Ys.sealed _ _) _) hs c1 ?_) ?_) ?_
   ·exact Cn.sh' hs k7 R4.e (K _ (by simp [heard])) 10 7
   ·exact Cn.sh' hs k1 R4.e (K _ (by simp [heard])) 10 1
   ·exact Cn.kem_a hs k8 R4.box (K _ (by simp [heard]))
  exact ⟨c2 2 _ R4.send, c2 1 _ R4.recv⟩
 ·intro dh kem C hC
  have hk : ∀ a, a ∈ heard m r ++ [1, 2, 3, 4, 5, 6, 17, 18, 15, 16] → ∃ t, Nm L4 t a ∧ t.ok kn6 dh kem = true := fun a ha => by
   rcases List.mem_append.1 ha with q | q
   ·exact hhe _ dh kem a (List.mem_append_left _ q)
   ·simp only [List.mem_cons, List.not_mem_nil, or_false] at q
    rcases q with rfl | rfl | rfl | rfl | rfl | rfl | rfl | rfl | rfl | rfl
    ·exact ⟨_, nmx 0 (by omega), by simp [Tr.ok, Tr.nonce, kn6]⟩
    ·exact ⟨_, nmx 1 (by omega), by simp [Tr.ok, Tr.nonce, kn6]⟩
    ·exact ⟨_, nmx 2 (by omega), by simp [Tr.ok, Tr.nonce, kn6]⟩
    ·exact ⟨_, nmx 3 (by omega), by simp [Tr.ok, Tr.nonce, kn6]⟩
    ·exact ⟨_, nmx 4 (by omega), by simp [Tr.ok, Tr.nonce, kn6]⟩
    ·exact ⟨_, nmx 5 (by omega), by simp [Tr.ok, Tr.nonce, kn6]⟩
    ·exact hhe _ dh kem _ (by simp)
    ·exact hhe _ dh kem _ (by simp)
    ·exact hhe _ dh kem _ (by simp)
    ·exact hhe _ dh kem _ (by simp)
  by_cases hbo : dh = true ∧ kem = true
  ·obtain ⟨rfl, rfl⟩ := hbo
   have hs := hC.1.step
   have K := hC.1.known
   have k1 : Cn L4 C (.nonce 100) := .known E4.sA1 (K _ (by simp))
   have k3 : Cn L4 C (.nonce 102) := .known E4.sB1 (K _ (by simp))
   have k4 : Cn L4 C (.nonce 103) := .known E4.sB2 (K _ (by simp))
   have kP : Cn L4 C P := .known (hP.ext x4) (K _ (by rw [e5]; rcases hs0 with rfl | rfl <;> simp))
   have c0 : Cn L4 C (Yb1 ⟨#[1]⟩ slot (.nonce 102) (.nonce 103) (.nonce 106) (.nonce 107) (.nonce 108) 7 3).CK := by
    refine Cn.turn (s := Ys.say (Ys.turn _ _) _) hs (Cn.turn (s := Ys.say (Ys.say (firstY _ _ _ _) _) _) hs (Cn.text hs _) ?_) ?_
    ·exact Cn.sh' hs k3 I4.e (K _ (by simp [heard])) 7 3
    ·exact Cn.kem_a hs k4 I4.box (K _ (by simp [heard]))
   have c1 : Cn L4 C (Yb2 ⟨#[1]⟩ slot (.nonce 100) (.nonce 102) (.nonce 103) P (.nonce 106) (.nonce 107) (.nonce 108) 1 7 3).CK := by
    refine Cn.turn (s := Ys.turn (Ys.sealed _ _) _) hs (Cn.turn (s := Ys.sealed _ _) hs c0 ?_) kP
    exact Cn.sh hs k1 E4.pB1 (K _ (by simp [pB])) 1 3
   have c2 : ∀ k, Cn L4 C (.key (.hash (Yr ((Yb2 ⟨#[1]⟩ slot (.nonce 100) (.nonce 102) (.nonce 103) P (.nonce 106) (.nonce 107) (.nonce 108) 1 7 3).sealed (.text (Ms.putS n))) (.nonce 100) (.nonce 106) (.nonce 107) (.nonce 109) (.nonce 110) 1 7 10).CK (.text ⟨#[]⟩)) k) := by
    intro k
    refine Cn.key hs (Cn.hash hs ?_ (Cn.text hs _)) k
    refine Cn.turn (s := Ys.say (Ys.turn (Ys.turn (Ys.say (Ys.sealed _ _) _) _) _) _) hs (Cn.turn (s := Ys.turn (Ys.say (Ys.sealed _ _) _) _) hs (Cn.turn (s := Ys.say (Ys.sealed _ _) _) hs c1 ?_) ?_) ?_
    ·exact Cn.broken hs R4.e (K _ (by simp [heard])) I4.e (K _ (by simp [heard])) 10 7
    ·exact Cn.sh' hs k1 R4.e (K _ (by simp [heard])) 10 1
    ·exact Cn.kem_k hs R4.box (K _ (by simp [heard]))
   exact ⟨c2 2 _ R4.send, c2 1 _ R4.recv⟩
  ·have e : (dh && kem) = false := by cases dh <;> cases kem <;> simp at hbo ⊢
   rw [e]
   have no : ∀ {t : Tr} {x : Int}, Nm L4 t x → t.ok kn6 dh kem = false → C x = false := fun ht ho => can_not gd hC hk ht ho
   have z : ((shTr 10 7 (.nonce 109) (.nonce 106)).ok kn6 dh kem && (Tr.kem (.nonce 107) (.nonce 110)).ok kn6 dh kem) = false := by
    rw [show (shTr 10 7 (.nonce 109) (.nonce 106)) = .share (.nonce 106) (.nonce 109) from rfl]
    simp [Tr.ok, Tr.share, Tr.nonce, Tr.kem, kn6, e]
   refine ⟨no R4.send ?_, no R4.recv ?_⟩
   all_goals
    simp only [Yr, answerY1, Ys.say, Ys.turn, Ys.sealed, Tr.key, Tr.hash]
    simp only [Tr.ok]
    simp only [Bool.and_eq_false_iff] at z
    simp
    rcases z with z | z
    ·simp [z]
    ·simp [z]
theorem who_is {slot : Int} {n : Nat} (hs : slot = 0 ∨ slot = 1) (hn : n < 256) : ∃ m q y r u L1 L2 L3 L4, WhoIs slot n m q y r u L1 L2 L3 L4 := by
 rcases hs with rfl | rfl
 ·exact who_of (P := .nonce 104) (.inl rfl) hn nm5 nm5 rfl rfl
 ·exact who_of (P := .nonce 105) (.inr rfl) hn nm6 nm6 rfl rfl
end Go.Proofs.YtgeonppckeiceaaGreatDoor
namespace Go.Proofs.YtgeonppckeiceaaGreatDoor.Ms
open Go.RowKit
set_option linter.unusedVariables false
set_option linter.unusedSimpArgs false
set_option maxRecDepth 20000
def Fd.isNam : Fd → Bool
 | .nam _ => true
 | _ => false
theorem assert_no (f : Fd) (q : Nat) (h : f.isNam = false) (w : World) : (Instr.typeAssert (.iface f.ty (f.rcv q)) 170 175 true).run Tryz.prog w = .ok (.tuple #[.agg #[.pointer none, .int .u64 0, .int .u64 0], .bool false]) w := by
 cases f with
 | nam j => cases h
 | int j lo hi => kernel_rfl
 | ses j lo hi => kernel_rfl
 | ver => kernel_rfl
theorem assert_yes (j q : Nat) (w : World) : (Instr.typeAssert (.iface (Fd.nam j).ty ((Fd.nam j).rcv q)) 170 175 true).run Tryz.prog w = .ok (.tuple #[.agg #[.pointer (some ⟨q, j, none⟩), .int .u64 1, .int .u64 1048576], .bool true]) w := by kernel_rfl
theorem nam_no (f : Fd) (r : List Fd) (M : Ms) (h : f.isNam = false) : namL (f :: r) M = namL r M := by
 cases f with
 | nam j => cases h
 | _ => rfl
theorem own_down {e : TypeId} {k : IntKind} {B C : Nat} {v : Value} {L : List Int} {w : World} (h : Own e k C v L w) (hb : B ≤ C) : Own e k B v L w := by
 obtain ⟨h1, h2⟩ := h
 refine ⟨h1, ?_⟩
 rcases h2 with h2 | ⟨g, cap, cur, e1, e2, e3⟩
 ·exact .inl h2
 ·exact .inr ⟨g, cap, cur, e1, Nat.le_trans hb e2, e3⟩
theorem two_new (w : World) (o1 o2 : Obj) : ((w.alloc o1).alloc o2).heap[w.heap.size + 1]? = some o2 := by
 have := heap_alloc_new (w.alloc o1) o2
 rw [size_alloc] at this
 exact this
set_option maxHeartbeats 4000000 in
set_option maxRecDepth 100000 in
theorem names_k (M : Ms) (w : World) (hM : M.Wf) :
  Calls Tryz.prog 37 #[M.v] w fun e w' => ∃ v, e = .returned v ∧ Own 3 .i64 w.heap.size v (namesM M) w' ∧ Below w.heap.size w w' := by
 have HWF := Lib.hid hM
 clear hM
 obtain ⟨q, hq⟩ : ∃ q, q = w.heap.size := ⟨_, rfl⟩
 obtain ⟨wa, hwa⟩ : ∃ wa, wa = w.alloc (.cells M.cl 25) := ⟨_, rfl⟩
 have HM : Hid (MsgAt wa q M) := Lib.hid (by rw [hwa, hq]; exact heap_alloc_new w _)
 have HBA : Hid (Below w.heap.size w wa) := Lib.hid (by rw [hwa]; exact below_alloc _ _)
 have HQ := Lib.hid hq
 unfold Ms.v
 unfold Ms.cl at hwa ⊢
 go_enter Tryz.func37, Tryz.ntmps37
 go_wp2_with fail
 rw [← hwa, ← hq]
 clear hwa hq
 refine wp_region_held_drew (S := fun w => Below wa.heap.size wa w) (by kernel_rfl) (drewN_below2 (Nat.le_refl _) 1) (fun hHeld => ?_)
 refine tk 1 (h := ?_)
 refine tk 2 (hy := fun w hSw => by ((have z0 := (HM.out.below hSw).of (j := 0) (k := .i64) ⟨by decide, rfl⟩; go_simp) <;> with_reducible rfl)) (h := ?_)
 refine tk 5 (h := ?_)
 refine rd 0 (h := fun K' hK => ?_)
 go_simp
 go_at_call 106
 refine (fieldsIn_any q _).mono ?_
 rintro e w1 ⟨A, rfl, hF⟩
 have HF := Lib.hid hF
 have HB1 := Lib.hid (hHeld.trans (hF.1.mono hHeld.size))
 have HW1 := Lib.hid hHeld.size
 clear hF
 go_wp2_with fail
 refine hK.out _ _ HB1.out (fun hHeld => ?_)
 clear hK K'
 try simp only [Act.put, p1, p2, p3]
 refine rd 3 (h := fun K' hK => ?_)
 go_simp
 go_at_call 154
 refine (fields_get HF.out _).mono ?_
 rintro e w2 ⟨⟨v, rfl, hV⟩, rfl⟩
 have HV := Lib.hid hV
 clear hV
 go_wp2_with fail
 refine hK.out _ _ HB1.out (fun hHeld => ?_)
 clear hK K'
 try simp only [Act.put, p1, p2, p3]
 have HM2 : Hid (MsgAt w2 q M) := Lib.hid (HM.out.below HB1.out)
 have HB2 : Hid (Below w.heap.size w w2) := Lib.hid (HBA.out.trans (HB1.out.mono HBA.out.size))
 clear HF HBA HM HW1
 rcases HV.out with ⟨rfl, hfn⟩ | ⟨x, n, rfl, hn, hn1, hx, hrow⟩
 ·have HE : Hid (namesM M = []) := Lib.hid (by unfold namesM; rw [hfn]; rfl)
  clear hfn HV
  refine tk 4 (h := ?_)
  refine wpAnyH_done (by kernel_rfl) ?_ _
  clear hHeld
  go_wp2_with fail
  go_loopw [3, 5, 6, 7, 13] (fun s _ _ _ i wr => s = .slice none 0 0 ∧ i = .int .i64 0 ∧ wr = w2) (fun _ _ _ _ _ _ => 0)
  case atStart => exact ⟨rfl, rfl, rfl⟩
  case round =>
   obtain ⟨rfl, rfl, rfl⟩ := hrel
   go_wp2
   go_ret
   exact ⟨_, rfl, by rw [HE.out]; exact Own.nil _ _ _ _, HB2.out⟩
 ·have hnm : n ≤ 8 := by rw [hn]; exact fds_len _
  have HN := Lib.hid hn
  clear hn
  refine tk 4 (h := ?_)
  refine wpAnyH_done (by kernel_rfl) ?_ _
  clear hHeld
  have HR : Hid (w2.heap[x]? = some (.cells (fdsV q (M.i 0)) 170 (0, 0))) := Lib.hid hrow
  have HNM : Hid (namesM M = namL (fds (M.i 0)) M) := Lib.hid rfl
  clear HV HB1 hrow hx hn1
  generalize hk : M.i 0 = k at HR HN HNM
  have HKD := Lib.hid hk
  clear hk
  go_wp2_with fail
  go_loopw [3, 5, 6, 7, 13] (fun s _ _ _ i wr => ∃ (j : Nat) (L : List Int), j ≤ n ∧ i = .int .i64 j ∧ Hid (L.length ≤ j) ∧ Hid (L ++ namL ((fds k).drop j) M = namesM M) ∧ Hid (Own 3 .i64 w2.heap.size s L wr) ∧ Hid (Below w2.heap.size w2 wr)) (fun _ _ _ _ i _ => n - (intOf i).toNat)
  case atStart => exact ⟨0, [], Nat.zero_le _, rfl, Lib.hid (Nat.le_refl _), Lib.hid (by rw [List.drop_zero, HNM.out]; rfl), Lib.hid (Own.nil _ _ _ _), Lib.hid (Below.refl _ _)⟩
  case round =>
   obtain ⟨j, L, hj, rfl, HL, HE, HO, HC⟩ := hrel
   cases hd : (fds k).drop j with
   | nil =>
    have hjn : j = n := by
     have := List.drop_eq_nil_iff.1 hd
     rw [← HN.out] at this; omega
    subst hjn
    have HT : Hid (L = namesM M) := Lib.hid (by have h1 := HE.out; rw [hd] at h1; simpa [namL] using h1)
    clear hd HE
    go_wp2
    go_ret
    exact ⟨_, rfl, by rw [← HT.out]; exact own_down HO.out HB2.out.size, HB2.out.trans (HC.out.mono HB2.out.size)⟩
   | cons f r =>
    obtain ⟨hd2, hlt, hfit⟩ := drop_next hd
    rw [← HN.out] at hlt
    have hjlt : (j : Int) < (n : Int) := by omega
    have hcell := fld_cell (w := wr) ((HC.out.block _ (blk_lt HR.out)).trans HR.out) hd
    have HFT := Lib.hid hfit
    cases hnam : f.isNam with
    | false =>
     have hta := assert_no f q hnam
     have HE2 : Hid (L ++ namL ((fds k).drop (j + 1)) M = namesM M) := Lib.hid (by have h1 := HE.out; rw [hd, nam_no f r M hnam] at h1; rw [hd2]; exact h1)
     clear hd hd2 hfit HE hnam
     generalize f.ty = ft at hcell hta
     generalize f.rcv q = fr at hcell hta
     go_wp2
     go_roundw
     case rel => exact ⟨j + 1, L, by omega, by go_num, Lib.hid (by have := HL.out; omega), HE2, Lib.hid (HO.out.below (below_alloc _ _)), Lib.hid (HC.out.trans ((below_alloc _ _).mono HC.out.size))⟩
     case measure => simp [intOf]; omega
    | true =>
     obtain ⟨jn, rfl⟩ : ∃ jn, f = .nam jn := by
      cases f with
      | nam jn => exact ⟨jn, rfl⟩
      | _ => cases hnam
     have hta := assert_yes jn q
     have HE2 : Hid ((L ++ [M.i jn]) ++ namL ((fds k).drop (j + 1)) M = namesM M) := Lib.hid (by have h1 := HE.out; rw [hd] at h1; rw [hd2, ← h1]; simp [namL])
     have hz := fun o => cell_al ((HM2.out.below HC.out).of (nCell_n hfit)) o
     have HO2 := Lib.hid (fun o1 o2 => (HO.out.below (below_alloc wr o1)).below (below_alloc _ o2))
     have HBL := Lib.hid HC.out.size
     clear hd hd2 hfit HE hnam HO
     unfold Fd.rcv Fd.ty ptr at hta hcell
     dsimp only at hta hcell
     go_wp2_with (at_builtin; refine wpList_app rfl (.tmp 23) (.tmp 29) 94 3 .i64 8 Tryz.underlying94 infoI (by decide) rfl w2.heap.size _ L (M.i jn) _ rfl (HO2.out _ _) (wr.heap.size + 1) 1 rfl (two_new _ _ _) (by have := HL.out; omega) (by have := HBL.out; simp; omega) ?_; intro v' w' hA; have HA := Lib.hid hA; clear hA)
     go_roundw
     case rel => exact ⟨j + 1, L ++ [M.i jn], by omega, by go_num, Lib.hid (by have := HL.out; simp; omega), HE2, Lib.hid HA.out.own, Lib.hid ((HC.out.trans (((below_alloc _ _).trans ((below_alloc _ _).mono (below_alloc _ _).size)).mono HC.out.size)).trans HA.out.low)⟩
     case measure => simp [intOf]; omega
end Go.Proofs.YtgeonppckeiceaaGreatDoor.Ms
