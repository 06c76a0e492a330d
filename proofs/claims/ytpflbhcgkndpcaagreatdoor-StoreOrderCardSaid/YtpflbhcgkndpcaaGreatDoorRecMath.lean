/- Records as bytes (plain mathematics). -/
import Derived.Test.YtpflbhcgkndpcaaGreatDoorOctMath
set_option linter.unusedSimpArgs false
set_option linter.unusedVariables false
namespace Go.Proofs.YtpflbhcgkndpcaaGreatDoor

/-- A record's parts. -/
structure Rc where
  o : Int
  s : Int
  key : List Int
  ml : Int
  ct : Int
  vo : Int
  val : List Int
  gone : Bool
  tt : Int
deriving DecidableEq
def isStB (m c : Int) : Bool := decide (0 ≤ m) && (decide (m ≤ 281474976710655) && (decide (0 ≤ c) && decide (c ≤ 65535)))
def goneN (b : Bool) : Nat := if b then 1 else 0
/-- Is it a version? -/
def okV (ml ct vo : Int) (n : Nat) (gone : Bool) (tt : Int) : Bool := isStB ml ct && (decide (0 ≤ vo) && (decide (vo < 5) && (decide (n ≤ 1024) && (decide (0 ≤ tt) && (decide (tt ≤ 281474976710655) && (!gone || (decide (n = 0) && decide (tt = 0))))))))
def okR (r : Rc) : Bool := okV r.ml r.ct r.vo r.val.length r.gone r.tt && (decide (r.vo = r.o) && (decide (1 ≤ r.s) && (decide (r.s ≤ 1099511627776) && (decide (1 ≤ r.key.length) && decide (r.key.length ≤ 64)))))
structure Rc.Ok (r : Rc) : Prop where
  m0 : 0 ≤ r.ml
  m1 : r.ml ≤ 281474976710655
  c0 : 0 ≤ r.ct
  c1 : r.ct ≤ 65535
  o0 : 0 ≤ r.o
  o1 : r.o < 5
  vo : r.vo = r.o
  s0 : 1 ≤ r.s
  s1 : r.s ≤ 1099511627776
  k0 : 1 ≤ r.key.length
  k1 : r.key.length ≤ 64
  v1 : r.val.length ≤ 1024
  t0 : 0 ≤ r.tt
  t1 : r.tt ≤ 281474976710655
  g : r.gone = true → r.val.length = 0 ∧ r.tt = 0
theorem ok_iff (r : Rc) : okR r = true ↔ r.Ok := by
  unfold okR okV isStB
  simp only [Bool.and_eq_true, decide_eq_true_eq, Bool.or_eq_true, Bool.not_eq_true']
  constructor
  · rintro ⟨⟨⟨a, b, c, d⟩, e, f, g, h, i, j⟩, k, l, m, n, o⟩
    refine ⟨a, b, c, d, by omega, by omega, k, l, m, n, o, g, h, i, fun hg => ?_⟩
    rcases j with j | j
    · rw [hg] at j; cases j
    · exact j
  · intro h
    refine ⟨⟨⟨h.m0, h.m1, h.c0, h.c1⟩, by have := h.o0; have := h.vo; omega, by have := h.o1; have := h.vo; omega, h.v1, h.t0, h.t1, ?_⟩, h.vo, h.s0, h.s1, h.k0, h.k1⟩
    cases hg : r.gone
    · exact Or.inl rfl
    · exact Or.inr (h.g hg)
def encT (r : Rc) (t : List Int) : List Int := encN r.o.toNat ++ (encN r.s.toNat ++ (encN r.key.length ++ (r.key ++ (encN r.ml.toNat ++ (encN r.ct.toNat ++ (encN (goneN r.gone) ++ (encN r.tt.toNat ++ (encN r.val.length ++ (r.val ++ t)))))))))
def encR (r : Rc) : List Int := encT r []
theorem encT_app (r : Rc) (t : List Int) : encT r t = encR r ++ t := by simp [encT, encR]
/-- What a reader tells as a record, the number of gone, what is left. -/
structure PR where
  r : Rc
  g : Nat
  st : RSt
def pR (s : RSt) : PR :=
  let a := rNum s
  let b := rNum a.2
  let k := rBytes b.2
  let m := rNum k.2
  let c := rNum m.2
  let g := rNum c.2
  let t := rNum g.2
  let v := rBytes t.2
  ⟨⟨a.1, b.1, k.1, m.1, c.1, a.1, v.1, g.1 == 1, t.1⟩, g.1, v.2⟩
def decR (bs : List Int) : Option Rc := if (pR (some bs)).st = some [] ∧ (pR (some bs)).g ≤ 1 ∧ okR (pR (some bs)).r = true then some (pR (some bs)).r else none
theorem pR_enc (r : Rc) (t : List Int) (h : r.Ok) : pR (some (encT r t)) = ⟨r, goneN r.gone, some t⟩ := by
  have a := rNum_enc r.o.toNat (encN r.s.toNat ++ (encN r.key.length ++ (r.key ++ (encN r.ml.toNat ++ (encN r.ct.toNat ++ (encN (goneN r.gone) ++ (encN r.tt.toNat ++ (encN r.val.length ++ (r.val ++ t))))))))) (by have := h.o1; omega)
  have b := rNum_enc r.s.toNat (encN r.key.length ++ (r.key ++ (encN r.ml.toNat ++ (encN r.ct.toNat ++ (encN (goneN r.gone) ++ (encN r.tt.toNat ++ (encN r.val.length ++ (r.val ++ t)))))))) (by have := h.s1; omega)
  have k := rBytes_enc r.key (encN r.ml.toNat ++ (encN r.ct.toNat ++ (encN (goneN r.gone) ++ (encN r.tt.toNat ++ (encN r.val.length ++ (r.val ++ t)))))) (by have := h.k1; omega)
  have m := rNum_enc r.ml.toNat (encN r.ct.toNat ++ (encN (goneN r.gone) ++ (encN r.tt.toNat ++ (encN r.val.length ++ (r.val ++ t))))) (by have := h.m1; omega)
  have c := rNum_enc r.ct.toNat (encN (goneN r.gone) ++ (encN r.tt.toNat ++ (encN r.val.length ++ (r.val ++ t)))) (by have := h.c1; omega)
  have g := rNum_enc (goneN r.gone) (encN r.tt.toNat ++ (encN r.val.length ++ (r.val ++ t))) (by unfold goneN; split <;> omega)
  have tt := rNum_enc r.tt.toNat (encN r.val.length ++ (r.val ++ t)) (by have := h.t1; omega)
  have v := rBytes_enc r.val t (by have := h.v1; omega)
  have hg : (goneN r.gone == 1) = r.gone := by cases r.gone <;> rfl
  have e1 : ((r.o.toNat : Nat) : Int) = r.o := by have := h.o0; omega
  have e2 : ((r.s.toNat : Nat) : Int) = r.s := by have := h.s0; omega
  have e3 : ((r.ml.toNat : Nat) : Int) = r.ml := by have := h.m0; omega
  have e4 : ((r.ct.toNat : Nat) : Int) = r.ct := by have := h.c0; omega
  have e5 : ((r.tt.toNat : Nat) : Int) = r.tt := by have := h.t0; omega
  have e6 := h.vo
  simp only [pR, encT, a, b, k, m, c, g, tt, v, e1, e2, e3, e4, e5, hg]
  obtain ⟨o, s, key, ml, ct, vo, val, gone, t⟩ := r
  simp only at e6
  rw [e6]
theorem pR_inv {bs t : List Int} {s : PR} (hb : isBy bs) (h : pR (some bs) = s) (hs : s.st = some t) (hg : s.g ≤ 1) (hv : s.r.Ok) : bs = encT s.r t ∧ goneN s.r.gone = s.g := by
  subst h
  have h0 : stBy (some bs) := fun x hx => by injection hx with hx; subst hx; exact hb
  generalize ha : rNum (some bs) = a at *
  obtain ⟨o, sa⟩ := a
  have h1 : stBy sa := by have := rNum_by h0; rw [ha] at this; exact this
  generalize hb' : rNum sa = b at *
  obtain ⟨s, sb⟩ := b
  have h2 : stBy sb := by have := rNum_by h1; rw [hb'] at this; exact this
  generalize hk : rBytes sb = k at *
  obtain ⟨key, sk⟩ := k
  have h3 : stBy sk := by have := (rBytes_by h2).1; rw [hk] at this; exact this
  generalize hm : rNum sk = m at *
  obtain ⟨ml, sm⟩ := m
  have h4 : stBy sm := by have := rNum_by h3; rw [hm] at this; exact this
  generalize hc : rNum sm = c at *
  obtain ⟨ct, sc⟩ := c
  have h5 : stBy sc := by have := rNum_by h4; rw [hc] at this; exact this
  generalize hgg : rNum sc = g at *
  obtain ⟨gn, sg⟩ := g
  have h6 : stBy sg := by have := rNum_by h5; rw [hgg] at this; exact this
  generalize ht : rNum sg = tt at *
  obtain ⟨tt, st⟩ := tt
  have h7 : stBy st := by have := rNum_by h6; rw [ht] at this; exact this
  generalize hvv : rBytes st = v at *
  obtain ⟨val, sv⟩ := v
  have e : pR (some bs) = ⟨⟨o, s, key, ml, ct, o, val, gn == 1, tt⟩, gn, sv⟩ := by simp only [pR, ha, hb', hk, hm, hc, hgg, ht, hvv]
  rw [e] at hs hg hv ⊢
  simp only at hs hg
  subst hs
  obtain ⟨q8, _⟩ := rBytes_inv h7 hvv
  subst q8
  obtain ⟨q7, _⟩ := rNum_inv h6 ht
  subst q7
  obtain ⟨q6, _⟩ := rNum_inv h5 hgg
  subst q6
  obtain ⟨q5, _⟩ := rNum_inv h4 hc
  subst q5
  obtain ⟨q4, _⟩ := rNum_inv h3 hm
  subst q4
  obtain ⟨q3, _⟩ := rBytes_inv h2 hk
  subst q3
  obtain ⟨q2, _⟩ := rNum_inv h1 hb'
  subst q2
  obtain ⟨q1, _⟩ := rNum_inv h0 ha
  injection q1 with q1
  have hgn : goneN (gn == 1) = gn := by
    rcases (show gn = 0 ∨ gn = 1 from by omega) with rfl | rfl <;> rfl
  refine ⟨?_, hgn⟩
  rw [q1]
  simp only [encT, Int.toNat_natCast, hgn]
theorem decR_enc (r : Rc) (h : r.Ok) : decR (encR r) = some r := by
  unfold decR encR
  rw [pR_enc r [] h]
  rw [if_pos ⟨rfl, by show goneN r.gone ≤ 1; unfold goneN; split <;> omega, (ok_iff r).2 h⟩]
theorem decR_inv {bs : List Int} {r : Rc} (hb : isBy bs) (h : decR bs = some r) : bs = encR r ∧ r.Ok := by
  unfold decR at h
  split at h
  · rename_i hh
    injection h with h
    subst h
    have hv := (ok_iff _).1 hh.2.2
    exact ⟨(pR_inv hb rfl hh.1 hh.2.1 hv).1, hv⟩
  · cases h
theorem encR_inj {a b : Rc} (ha : a.Ok) (hb : b.Ok) (h : encR a = encR b) : a = b := by
  have h1 := decR_enc a ha
  rw [h, decR_enc b hb] at h1
  injection h1 with h1
  exact h1.symm
theorem decR_cut (r : Rc) (h : r.Ok) (hb : isBy (encR r)) (n : Nat) (hn : n < (encR r).length) : decR ((encR r).take n) = none := by
  cases hd : decR ((encR r).take n) with
  | none => rfl
  | some r' =>
    obtain ⟨h1, h2⟩ := decR_inv (isBy_take hb n) hd
    have e : encR r = encT r' ((encR r).drop n) := by rw [encT_app, ← h1, List.take_append_drop]
    have p1 := pR_enc r' ((encR r).drop n) h2
    have p2 := pR_enc r [] h
    rw [← e] at p1
    rw [show encT r [] = encR r from rfl, p1] at p2
    injection p2 with _ _ p2
    injection p2 with p2
    have := congrArg List.length p2
    simp at this
    omega
theorem decR_more (r : Rc) (h : r.Ok) (x : Int) : decR (encR r ++ [x]) = none := by
  unfold decR
  rw [← encT_app, pR_enc r [x] h]
  rw [if_neg (by simp)]
theorem encR_by (r : Rc) (hk : isBy r.key) (hv : isBy r.val) : isBy (encR r) := by
  unfold encR encT
  exact isBy_append (encN_by _) (isBy_append (encN_by _) (isBy_append (encN_by _) (isBy_append hk (isBy_append (encN_by _) (isBy_append (encN_by _) (isBy_append (encN_by _) (isBy_append (encN_by _) (isBy_append (encN_by _) (isBy_append hv isBy_nil)))))))))
theorem encR_len (r : Rc) (h : r.Ok) : (encR r).length ≤ 1200 := by
  have a := encN_len r.o.toNat 1 (by omega) (by have := h.o1; omega)
  have b := encN_len r.s.toNat 6 (by omega) (by have := h.s1; omega)
  have c := encN_len r.key.length 1 (by omega) (by have := h.k1; omega)
  have d := encN_len r.ml.toNat 7 (by omega) (by have := h.m1; omega)
  have e := encN_len r.ct.toNat 3 (by omega) (by have := h.c1; omega)
  have f := encN_len (goneN r.gone) 1 (by omega) (by unfold goneN; split <;> omega)
  have g := encN_len r.tt.toNat 7 (by omega) (by have := h.t1; omega)
  have i := encN_len r.val.length 2 (by omega) (by have := h.v1; omega)
  have j := h.k1
  have k := h.v1
  unfold encR encT
  simp only [List.length_append, List.length_nil]
  omega
theorem pR_by {s : RSt} (h : stBy s) : isBy (pR s).r.key ∧ isBy (pR s).r.val := by
  have h1 := rNum_by h
  have h2 := rNum_by h1
  have h3 := rBytes_by h2
  have h4 := rNum_by h3.1
  have h5 := rNum_by h4
  have h6 := rNum_by h5
  have h7 := rNum_by h6
  exact ⟨h3.2, (rBytes_by h7).2⟩
theorem decR_by {bs : List Int} {r : Rc} (hb : isBy bs) (h : decR bs = some r) : isBy r.key ∧ isBy r.val := by
  unfold decR at h
  split at h
  · injection h with h
    subst h
    exact pR_by (fun x hx => by injection hx with hx; subst hx; exact hb)
  · cases h
end Go.Proofs.YtpflbhcgkndpcaaGreatDoor
