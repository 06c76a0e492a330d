/- NTP: known (written by gen/ntknw.py). -/
import Derived.Test.YtepdnkpmkhjlgaaGreatNtHear
import Derived.Test.YtepdnkpmkhjlgaaGreatPkBack
import Derived.Test.YtepdnkpmkhjlgaaGreatM9V
import Derived.Test.YtepdnkpmkhjlgaaGreatTab9
import Derived.Test.YtepdnkpmkhjlgaaGreatM9G
import Derived.Test.YtepdnkpmkhjlgaaGreatM9N
import Derived.Test.YtepdnkpmkhjlgaaGreatM9N
import Derived.Deep.DeepCutAuto
import Derived.Deep.CutBlock
import Derived.Test.YtepdnkpmkhjlgaaGreatM9N
import Derived.Test.YtepdnkpmkhjlgaaGreatTk9
/- NTP: the law's stamp; Hear of bytes; Synced. -/
set_option linter.unusedSimpArgs false
set_option linter.unusedVariables false
namespace Go.Proofs.YtepdnkpmkhjlgaaGreat
open Go.RowKit Go.Sort

/-- A moment of TAI as a stamp. -/
def stpV (z : Nat → Int) (n : Nat) (tai : Int) : Int := stampOf (utcD z n tai) (utcM z n tai)
theorem momOk_utc {z : Nat → Int} {n : Nat} {x : Int} (hT : IsTab z n x) (tai : Int) (h0 : 0 ≤ tai) (h1 : tai ≤ 9223372036854775806) : momOk (utcD z n tai) (utcM z n tai) = true := by
  have b := utcD_bd (z := z) (n := n) tai h0 (by omega)
  have u := utc_is hT tai
  have lo := u.lo
  have hi := u.hi
  have st := off_step hT (utcD z n tai) n (Nat.le_refl _)
  unfold momOk
  rw [dayB_mk (by omega) (by omega)]
  simp
  omega
theorem law_stamp (A : Option Addr) (n c : Nat) (x tai : Int) (z : Nat → Int) (w : World) (hz : FlatAt w A 2 n z) (hT : IsTab z n x) (h0 : 0 ≤ tai) (h1 : tai ≤ 9223372036854775806) :
    Calls Tryz.prog 18 #[.agg #[.slice A n c, .int .i64 x], .int .i64 tai] w fun e w' => e = .returned (.int .u64 (stpV z n tai)) ∧ Below w.heap.size w w' := by
  have HB0 : Below w.heap.size w (w.alloc (.cells #[.slice A n c, .int .i64 x] 24)) := by (repeat' (first | (with_reducible exact Below.refl _ _) | (with_reducible assumption) | (with_reducible refine Below.trans ?_ (Below.mono (by with_reducible assumption) ?_)) | (with_reducible refine Below.alloc ?_ ?_ _) | (with_reducible refine Below.setCell ?_ ?_ _) | (with_reducible refine below_drewN ?_ _) | (with_reducible refine Below.drew ?_) | go_size))
  have HU := Lib.hid (ref4_utc A n c x tai z _ (hz.below HB0) hT h0 h1)
  have hm := momOk_utc hT tai h0 h1
  unfold stpV
  generalize utcD z n tai = d at *
  generalize utcM z n tai = m at *
  have HS := Lib.hid (fun W : World => ref5_stamp_yes d m W hm)
  generalize stampOf d m = s at *
  clear hz hT hm
  go_enter Tryz.func18, Tryz.ntmps18
  go_wp2_with fail
  refine HU.out.mono ?_; rintro e w1 ⟨rfl, k1⟩
  have HB1 := HB0.trans (k1.mono HB0.size)
  have HB2 := HB1.alloc HB1.size (.cells #[.int .i64 d, .int .i64 m] 105)
  clear k1 HB0 HB1 HU
  go_wp2_with fail
  refine (HS.out _).mono ?_; rintro e w2 ⟨rfl, k2⟩
  have HB3 := Lib.hid (HB2.trans (k2.mono HB2.size))
  clear k2 HB2
  go_wp2_with fail
  go_ret
  exact ⟨rfl, HB3.out⟩
theorem stp_bd {z : Nat → Int} {n : Nat} {x : Int} (hT : IsTab z n x) (tai : Int) : 0 ≤ stpV z n tai ∧ stpV z n tai < 18446744073709551616 := by
  have u := utc_is hT tai
  have := stampOf_div (utcD z n tai) (utcM z n tai) u.lo
  exact this.2.2
theorem ntp_synced {w : World} {b bc bs : Nat} {A : Option Addr} {n cc : Nat} {x : Int} {z : Nat → Int} {N : Nat} {K : Cs} (h : Nc layP w b bc bs A n cc x z N K) : Calls Tryz.prog 22 #[.pointer (some ⟨b, 0, none⟩)] w fun e w' => e = .returned (.int .i64 K.syn) ∧ w = w' := by
  have c5 := h.c5
  go_enter Tryz.func22, Tryz.ntmps22
  go_wp2
  go_ret
  exact ⟨rfl, rfl⟩
abbrev Pk.f (p : Pk) : Nat → Int := encF p.l p.m p.s p.d p.r p.o p.v p.t
theorem Pk.ok.isP {p : Pk} (h : p.ok) : isP p.l p.m p.s p.d p.r = true := by
  have a := h.l
  have b := h.m
  have c := h.s
  have d := h.d
  have e := h.r
  unfold Go.Proofs.YtepdnkpmkhjlgaaGreat.isP inN
  simp
  omega
/-- A packet's bytes at a slice's head. -/
def PkAt (w : World) (g cap : Nat) (p : Pk) : Prop := g < w.heap.size ∧ 48 ≤ cap ∧ ∀ j, j < 48 → w.cell? ⟨g, j, none⟩ = some (.int .u8 (p.f j))
theorem PkAt.below {w w' : World} {g cap : Nat} {p : Pk} (h : PkAt w g cap p) (k : Below w.heap.size w w') : PkAt w' g cap p := ⟨Nat.lt_of_lt_of_le h.1 k.size, h.2.1, fun j hj => (k.cell (p := ⟨g, j, none⟩) h.1).trans (h.2.2 j hj)⟩
theorem PkAt.but {w w' : World} {g cap : Nat} {p : Pk} {S : Nat → Prop} (h : PkAt w g cap p) (k : But S w w') (hn : ¬ S g) : PkAt w' g cap p := ⟨Nat.lt_of_lt_of_le h.1 k.size, h.2.1, fun j hj => (k.cell g j h.1 hn).trans (h.2.2 j hj)⟩
theorem dec_of {w : World} {g cap : Nat} {p : Pk} (h : PkAt w g cap p) (hp : p.ok) : Calls Tryz.prog 39 #[.slice (some ⟨g, 0, none⟩) 48 cap] w fun e w' => e = .returned (.tuple #[pkVal p, .int .i64 0]) ∧ Below w.heap.size w w' := by
  have q := pk_dec g 0 cap p.f w h.1 (fun j hj => by rw [Nat.zero_add]; exact h.2.2 j hj) (fun j hj => encF_byte _ _ _ _ _ _ _ _ hp.isP j hj) h.2.1
  refine q.mono ?_
  rintro e w' ⟨q1, _, q3⟩
  have e0 := q1 (decOk_enc hp.isP hp.o hp.v hp.t)
  obtain ⟨d1, d2, d3, d4, d5, d6, d7, d8⟩ := dec_enc hp.isP hp.o hp.v hp.t
  refine ⟨?_, q3⟩
  rw [e0]
  show Ending.returned (.tuple #[pkV (dL p.f) (dM p.f) (p.f 1) (dD p.f) (dR p.f) (dO p.f) (dV p.f) (dT p.f), .int .i64 0]) = _
  rw [show dL p.f = p.l from d1, show dM p.f = p.m from d2, show p.f 1 = p.s from d3, show dD p.f = p.d from d4, show dR p.f = p.r from d5, show dO p.f = p.o from d6, show dV p.f = p.v from d7, show dT p.f = p.t from d8]
theorem ntp_hear_b {w : World} {b bc bs : Nat} {A : Option Addr} {n cc : Nat} {x : Int} {z : Nat → Int} {N : Nat} {K : Cs} (h : Nc layP w b bc bs A n cc x z N K) (hK : K.Ok N) (hN : N ≤ 8) (i : Nat) (hi : i < N) (count : Int) (hc : count ≤ 9223372036854775807) {g cap : Nat} {p : Pk} (hb : PkAt w g cap p) (hp : p.ok) :
    Calls Tryz.prog 17 #[.pointer (some ⟨b, 0, none⟩), .int .i64 i, .int .i64 count, .slice (some ⟨g, 0, none⟩) 48 cap] w fun e w' => e = .returned (.int .i64 (hearK rstP z n x N K i count p).1) ∧ Nc layP w' b bc bs A n cc x z N (hearK rstP z n x N K i count p).2 ∧ But (Ft b bc bs) w w' :=
  ntp_hear_p h hK hN i hi count hc _ p hp (dec_of hb hp)
/-- The reference lays a packet. -/
theorem ref6_enc (p : Pk) (hp : p.ok) (w : World) : Calls Tryz.prog 19 #[pkVal p] w fun e w' => ∃ g cap, e = .returned (.tuple #[.slice (some ⟨g, 0, none⟩) 48 cap, .int .i64 0]) ∧ w.heap.size < g ∧ PkAt w' g cap p ∧ Below w.heap.size w w' := by
  refine (ref6_enc_yes p.l p.m p.s p.d p.r p.o p.v p.t w hp.isP hp.o.1 hp.o.2 hp.v.1 hp.v.2 hp.t.1 hp.t.2).mono ?_
  rintro e w' ⟨u, rfl, ho, hb⟩
  have hl := fun g hg => (World.ownsRow.lt ho g hg)
  obtain ⟨g, cap, rfl, h1, h2, h3⟩ := row_shape ho (by omega)
  refine ⟨g, cap, rfl, by have := (hl g rfl).1; omega, ⟨h3, h1, fun j hj => row_cell ho (bytesC_at _ _ j hj)⟩, hb⟩
end Go.Proofs.YtepdnkpmkhjlgaaGreat

/- NTP: a pair of clients; the law's start; known (written by gen/ntkn.py). -/
namespace Go.Proofs.YtepdnkpmkhjlgaaGreat
open Go.RowKit Go.Sort

/-- A pair: the code's client, the document's, the count, the last questions. -/
structure Pr (w : World) (bp b bc bs : Nat) (A1 : Option Addr) (c1 : Nat) (rb rbc rbs : Nat) (A2 : Option Addr) (c2 : Nat) (ad : Addr) (n c : Nat) (x : Int) (z : Nat → Int) (N : Nat) (m0 m1 m2 : Nat) (K R : Cs) (cnt : Int) (asked when_ : Nat → Int) : Prop where
  q0 : w.cell? ⟨bp, 0, none⟩ = some (.slice (some ad) n c)
  q1 : w.cell? ⟨bp, 1, none⟩ = some (.int .i64 x)
  q2 : w.cell? ⟨bp, 2, none⟩ = some (.pointer (some ⟨b, 0, none⟩))
  q3 : w.cell? ⟨bp, 3, none⟩ = some (.pointer (some ⟨rb, 0, none⟩))
  q4 : w.cell? ⟨bp, 4, none⟩ = some (.int .i64 cnt)
  qa : ∀ j, j < 8 → w.cell? ⟨bp, 5 + j, none⟩ = some (.int .u64 (asked j))
  qw : ∀ j, j < 8 → w.cell? ⟨bp, 13 + j, none⟩ = some (.int .i64 (when_ j))
  qf : ∀ j, w.frozen? ⟨bp, j, none⟩ = false
  ql : bp < w.heap.size
  P : Nc layP w b bc bs A1 n c1 x z N K
  R : Nc layR w rb rbc rbs A2 n c2 x z N R
  tab : FlatAt w (some ad) 2 n z
  r1 : m0 ≤ b ∧ b < m1 ∧ m0 ≤ bc ∧ bc < m1 ∧ m0 ≤ bs ∧ bs < m1
  r2 : m1 ≤ rb ∧ rb < m2 ∧ m1 ≤ rbc ∧ rbc < m2 ∧ m1 ≤ rbs ∧ rbs < m2
  r3 : m2 ≤ bp
  a1 : ∀ ad, A1 = some ad → m0 ≤ ad.block ∧ ad.block < m1
  a2 : ∀ ad, A2 = some ad → m1 ≤ ad.block ∧ ad.block < m2
  a0 : ad.block < m0
theorem Pr.mk21 (w : World) (v0 v1 v2 v3 v4 : Value) (t : TypeId) (j : Nat) :
    (w.alloc (.cells #[v0, v1, v2, v3, v4, .int .u64 0, .int .u64 0, .int .u64 0, .int .u64 0, .int .u64 0, .int .u64 0, .int .u64 0, .int .u64 0, .int .i64 0, .int .i64 0, .int .i64 0, .int .i64 0, .int .i64 0, .int .i64 0, .int .i64 0, .int .i64 0] t)).cell? ⟨w.heap.size, j, none⟩ = #[v0, v1, v2, v3, v4, .int .u64 0, .int .u64 0, .int .u64 0, .int .u64 0, .int .u64 0, .int .u64 0, .int .u64 0, .int .u64 0, .int .i64 0, .int .i64 0, .int .i64 0, .int .i64 0, .int .i64 0, .int .i64 0, .int .i64 0, .int .i64 0][j]? := new_cell w rfl _ _ _
def StartPost (w : World) (ad : Addr) (n c : Nat) (x : Int) (z : Nat → Int) (N : Nat) (count : Int) (e : Ending) (w' : World) : Prop :=
  ∃ bp b bc bs A1 c1 rb rbc rbs A2 c2 m1 m2, e = .returned (.tuple #[.pointer (some ⟨bp, 0, none⟩), .bool true]) ∧ Pr w' bp b bc bs A1 c1 rb rbc rbs A2 c2 ad n c x z N w.heap.size m1 m2 (newK count) (newK count) count (fun _ => 0) (fun _ => 0) ∧ w.heap.size ≤ m1 ∧ m1 ≤ m2
set_option maxRecDepth 100000 in
set_option maxHeartbeats 4000000 in
theorem law_start (ad : Addr) (n c : Nat) (x : Int) (z : Nat → Int) (N : Nat) (count : Int) (w : World) (hz : FlatAt w (some ad) 2 n z) (hT : IsTab z n x) (h1 : 1 ≤ N) (h8 : N ≤ 8) (k0 : 0 ≤ count) (k1 : count ≤ 9223372036854775807) :
    Calls Tryz.prog 11 #[.agg #[.slice (some ad) n c, .int .i64 x], .int .i64 N, .int .i64 count] w fun e w' => StartPost w ad n c x z N count e w' ∧ Below w.heap.size w w' := by
  have HB0 : Below w.heap.size w (w.alloc (.cells #[.slice (some ad) n c, .int .i64 x] 24)) := by (repeat' (first | (with_reducible exact Below.refl _ _) | (with_reducible assumption) | (with_reducible refine Below.trans ?_ (Below.mono (by with_reducible assumption) ?_)) | (with_reducible refine Below.alloc ?_ ?_ _) | (with_reducible refine Below.setCell ?_ ?_ _) | (with_reducible refine below_drewN ?_ _) | (with_reducible refine Below.drew ?_) | go_size))
  have HZ := Lib.hid (fun (W : World) (k : Below w.heap.size w W) => hz.below k)
  have hal : ad.block < w.heap.size := by
    obtain ⟨B, O, hA', hB, _⟩ := hz (by have := hT.1; omega)
    injection hA' with hA'
    subst hA'
    exact hB
  have q0 : (w.alloc (.cells #[.slice (some ad) n c, .int .i64 x] 24)).cell? ⟨w.heap.size, 0, none⟩ = some (.slice (some ad) n c) := by simp
  have q1 : (w.alloc (.cells #[.slice (some ad) n c, .int .i64 x] 24)).cell? ⟨w.heap.size, 1, none⟩ = some (.int .i64 x) := by simp
  have l0 : w.heap.size < (w.alloc (.cells #[.slice (some ad) n c, .int .i64 x] 24)).heap.size := by simp
  have HP := Lib.hid (fun (W : World) (k : Below w.heap.size w W) => ntp_new ad n c x z N count W (hz.below k) hT h1 h8 k0 k1)
  have HR := Lib.hid (fun (W : World) (k : Below w.heap.size w W) => r_new ad n c x z N count W (hz.below k) hT h1 h8 k0 k1)
  have HTT := Lib.hid hT
  clear hz hT
  go_enter Tryz.func11, Tryz.ntmps11
  go_wp2_with fail
  refine (HP.out _ HB0).mono ?_; rintro e w1 ⟨⟨b, bc, bs, A1, c1, rfl, hn1, g1, g2, g3, g4⟩, hb1⟩
  have HB1 := HB0.trans (hb1.mono HB0.size)
  have q0 := (hb1.cell (p := ⟨w.heap.size, 0, none⟩) l0).trans q0
  have q1 := (hb1.cell (p := ⟨w.heap.size, 1, none⟩) l0).trans q1
  have l1 := Nat.lt_of_lt_of_le l0 hb1.size
  have zz := HB0.size
  clear hb1 HB0 l0
  go_wp2_with fail
  refine (HR.out _ HB1).mono ?_; rintro e w2 ⟨⟨rb, rbc, rbs, A2, c2, rfl, hn2, g5, g6, g7, g8⟩, hb2⟩
  have HB2 := HB1.trans (hb2.mono HB1.size)
  have q0 := (hb2.cell (p := ⟨w.heap.size, 0, none⟩) l1).trans q0
  have q1 := (hb2.cell (p := ⟨w.heap.size, 1, none⟩) l1).trans q1
  have l2 := Nat.lt_of_lt_of_le l1 hb2.size
  have hp2 := hn1.below hb2
  have lA1 : ∀ ad, A1 = some ad → ad.block < w1.heap.size := fun ad ha => by
    obtain ⟨B, O, hA', hB, _⟩ := hn1.tab (by have := HTT.out.1; omega)
    rw [ha] at hA'
    injection hA' with hA'
    subst hA'
    exact hB
  have lA2 : ∀ ad, A2 = some ad → ad.block < w2.heap.size := fun ad ha => by
    obtain ⟨B, O, hA', hB, _⟩ := hn2.tab (by have := HTT.out.1; omega)
    rw [ha] at hA'
    injection hA' with hA'
    subst hA'
    exact hB
  have cc0 := hp2.c0
  have z1 := HB1.size
  have z2 := hb2.size
  have e1 := hn1.lt
  have e2 := hn1.clk.lt
  have e3 := hn1.sl
  have e4 := hn2.lt
  have e5 := hn2.clk.lt
  have e6 := hn2.sl
  obtain ⟨PB, hPB⟩ : ∃ PB : Obj, (.cells #[.slice (some ad) n c, .int .i64 x, .pointer (some ⟨b, 0, none⟩), .pointer (some ⟨rb, 0, none⟩), .int .i64 count, .int .u64 0, .int .u64 0, .int .u64 0, .int .u64 0, .int .u64 0, .int .u64 0, .int .u64 0, .int .u64 0, .int .i64 0, .int .i64 0, .int .i64 0, .int .i64 0, .int .i64 0, .int .i64 0, .int .i64 0, .int .i64 0] 36) = PB := ⟨_, rfl⟩
  have kk : Below w2.heap.size w2 (w2.alloc PB) := (Below.refl _ _).alloc (Nat.le_refl _) _
  have HPR : Hid (Pr (w2.alloc PB) w2.heap.size b bc bs A1 c1 rb rbc rbs A2 c2 ad n c x z N w.heap.size w1.heap.size w2.heap.size (newK count) (newK count) count (fun _ => 0) (fun _ => 0)) := by
    have hz2 := HZ.out _ (HB2.trans (kk.mono HB2.size))
    have hpp := hp2.below kk
    have hrr := hn2.below kk
    subst hPB
    refine Lib.hid ⟨(Pr.mk21 _ _ _ _ _ _ _ 0), (Pr.mk21 _ _ _ _ _ _ _ 1), (Pr.mk21 _ _ _ _ _ _ _ 2), (Pr.mk21 _ _ _ _ _ _ _ 3), (Pr.mk21 _ _ _ _ _ _ _ 4), fun j hj => ?_, fun j hj => ?_, fun j => by simp, by simp, hpp, hrr, hz2, by omega, by omega, Nat.le_refl _, fun ad ha => ⟨by have := g4 ad ha; omega, lA1 ad ha⟩, fun ad ha => ⟨g8 ad ha, lA2 ad ha⟩, hal⟩
    · rw [Pr.mk21]
      rcases (show j = 0 ∨ j = 1 ∨ j = 2 ∨ j = 3 ∨ j = 4 ∨ j = 5 ∨ j = 6 ∨ j = 7 from by omega) with rfl | rfl | rfl | rfl | rfl | rfl | rfl | rfl <;> rfl
    · rw [Pr.mk21]
      rcases (show j = 0 ∨ j = 1 ∨ j = 2 ∨ j = 3 ∨ j = 4 ∨ j = 5 ∨ j = 6 ∨ j = 7 from by omega) with rfl | rfl | rfl | rfl | rfl | rfl | rfl | rfl <;> rfl
  have HB3 := Lib.hid (HB2.trans (kk.mono HB2.size))
  have zt : w.heap.size ≤ w1.heap.size ∧ w1.heap.size ≤ w2.heap.size := ⟨by omega, z2⟩
  have HPB := Lib.hid hPB
  clear hPB kk hp2 hn1 hn2 g1 g2 g3 g4 g5 g6 g7 g8 hb2 HB1 HB2 lA1 lA2 e1 e2 e3 e4 e5 e6 zz z1 z2
  go_wp2_with fail
  go_ret2
  rw [HPB.out]
  exact ⟨⟨_, b, bc, bs, A1, c1, rb, rbc, rbs, A2, c2, _, _, rfl, HPR.out, zt.1, zt.2⟩, HB3.out⟩
end Go.Proofs.YtepdnkpmkhjlgaaGreat

/- NTP: what a server's truth makes of a client (plain mathematics). -/
namespace Go.Proofs.YtepdnkpmkhjlgaaGreat
open Go.RowKit Go.Sort

theorem off_zt (d : Int) (h : d < 16617) : offK zt d 3 = 35 := by
  show (if zt 4 ≤ d then zt 5 else if zt 2 ≤ d then zt 3 else if zt 0 ≤ d then zt 1 else zt 1) = 35
  rw [if_neg (show ¬ zt 4 ≤ d from by show ¬ (17167 : Int) ≤ d; omega), if_neg (show ¬ zt 2 ≤ d from by show ¬ (16617 : Int) ≤ d; omega), ite_self]
  rfl
theorem mom_back (tai day : Int) (h0 : 0 ≤ tai) (h1 : tai ≤ 1153000000000000000) (d0 : -1 ≤ day) (d1 : day ≤ 1000) : momV zt 3 21167 (stpV zt 3 tai) day = (tai, 0) := by
  have u := utc_is zt_tab tai
  have hdb : -1 ≤ utcD zt 3 tai ∧ utcD zt 3 tai ≤ 13400 := by unfold utcD; split <;> omega
  have e := u.eq
  have lo := u.lo
  have hi := u.hi
  unfold begS at e
  rw [off_zt _ (by omega)] at e hi
  rw [off_zt _ (by omega)] at hi
  unfold stpV
  generalize utcD zt 3 tai = d at *
  generalize utcM zt 3 tai = m at *
  have nb := near_back d m (day - d) (dayB_mk (by omega) (by omega)) (dayB_mk (by omega) (by omega)) lo (by omega) (by omega) (by omega)
  rw [show d + (day - d) = day from by omega] at nb
  have hdy : dayB day = true := dayB_mk (by omega) (by omega)
  unfold nearR at nb
  rw [if_pos hdy] at nb
  have hnd : dayB (nearDay (stampOf d m) day) = true := by
    cases hq : dayB (nearDay (stampOf d m) day)
    · rw [hq] at nb
      simp at nb
    · rfl
  rw [hnd] at nb
  simp only [if_true, Value.tuple.injEq, Value.agg.injEq] at nb
  have nb' : nearDay (stampOf d m) day = d ∧ nearNano (stampOf d m) day = m := by
    simp at nb
    exact nb
  unfold momV
  rw [hnd, nb'.1, nb'.2, if_neg (by simp), if_neg (by omega)]
  have hl : lenN zt 3 d = 86400 := by unfold lenN; rw [off_zt _ (by omega), off_zt _ (by omega)]; omega
  rw [hl, if_neg (by omega)]
  have ht : taiN zt 3 d m = tai := by
    unfold taiN
    rw [off_zt _ (by omega)]
    have hk : mulS 35 1000000000 = 35000000000 := by decide
    have hd : mulS d 86400000000000 = d * 86400000000000 := by unfold mulS; rw [if_neg (by omega), if_neg (by omega)]
    rw [hk, hd, addS_in (a := d * 86400000000000) (by omega) (by omega), addS_in (by omega) (by omega)]
    omega
  rw [ht]
theorem smp_told (T a hd : Int) (t0 : 0 ≤ T) (t1 : T ≤ 1153000000000000000) (a0 : 0 ≤ a) (a1 : a ≤ hd) (h1 : hd ≤ 80000000000000) : smpV a T T hd 0 0 = if hd - a ≤ 16000000000 then ((2 * T - a - hd) / 2 - ((hd - a) / 2 + 1), (2 * T - a - hd) / 2 + ((hd - a) / 2 + 1), 0) else (0, 0, 11) := by
  have e1 : dlyV hd a T T = hd - a := by
    unfold dlyV
    rw [addS_in (a := hd) (by omega) (by omega), addS_in (a := hd + -a) (by omega) (by omega), addS_in (by omega) (by omega)]
    omega
  have e2 : offV hd a T T = (2 * T - a - hd) / 2 := by
    unfold offV
    rw [addS_in (a := T) (by omega) (by omega), addS_in (a := T + -a) (by omega) (by omega), addS_in (by omega) (by omega)]
    congr 1
    omega
  have n0 : nanV 0 = 0 := by decide
  unfold smpV
  rw [if_neg (by omega), e1, e2]
  by_cases h : hd - a ≤ 16000000000
  · rw [if_neg (by omega), if_pos h]
    have e3 : byV (hd - a) 0 0 = (hd - a) / 2 + 1 := by
      unfold byV
      rw [show (0 : Int) / 2 = 0 from rfl, n0, addS_in (a := (hd - a) / 2) (by omega) (by omega), addS_in (a := (hd - a) / 2 + 1) (by omega) (by omega), addS_in (a := (hd - a) / 2 + 1 + 0) (by omega) (by omega)]
      omega
    rw [e3, addS_in (by omega) (by omega), addS_in (by omega) (by omega)]
    rfl
  · rw [if_pos (by omega), if_neg h]
abbrev tellP (q T : Int) : Pk := ⟨0, 4, 1, 0, 0, q, stpV zt 3 T, stpV zt 3 T⟩
theorem stp_pos (T : Int) (t0 : 0 ≤ T) (t1 : T ≤ 1153000000000000000) : stpV zt 3 T ≠ 0 := by
  intro h
  have u := utc_is zt_tab T
  have hdb : -1 ≤ utcD zt 3 T ∧ utcD zt 3 T ≤ 13400 := by unfold utcD; split <;> omega
  have lo := u.lo
  have hi := u.hi
  rw [off_zt _ (by omega), off_zt _ (by omega)] at hi
  unfold stpV at h
  have e := (stampOf_div (utcD zt 3 T) (utcM zt 3 T) lo).1
  rw [h] at e
  unfold secsOf cutNano at e
  rw [if_pos (by omega), Int.emod_eq_of_lt (by omega) (by omega)] at e
  omega
/-- An answer that tells the moment T. -/
theorem hear_told (rs : Srv → Srv) (N : Nat) (K : Cs) (i : Nat) (count q T hd a : Int) (hq : (K.S i).q = q) (hq0 : q ≠ 0) (ha : (K.S i).a = a) (hh : rt K.c K.t K.l count = hd) (t0 : 0 ≤ T) (t1 : T ≤ 1153000000000000000) (a0 : 0 ≤ a) (a1 : a ≤ hd) (h1 : hd ≤ 80000000000000) :
    hearK rs zt 3 21167 N K i count (tellP q T) = if hd - a ≤ 16000000000 then (0, turnK rs (smpK (readK (clrK K i) count) i hd ((2 * T - a - hd) / 2 - ((hd - a) / 2 + 1)) ((2 * T - a - hd) / 2 + ((hd - a) / 2 + 1))) N hd) else (11, readK (clrK K i) count) := by
  have hs := stp_pos T t0 t1
  have hb := utcD_bd (z := zt) (n := 3) hd (by omega) (by omega)
  have hb2 : utcD zt 3 hd ≤ 1000 := by unfold utcD; split <;> omega
  have hm := mom_back T (utcD zt 3 hd) t0 t1 hb.1 hb2
  unfold hearK
  rw [if_neg (by simp), if_neg (by rw [hq]; simp [hq0]), if_neg (by simp), if_neg (by simp [hs]), hear1_eq]
  have et : (readK (clrK K i) count).t = hd := hh
  have es : (readK (clrK K i) count).S i = { K.S i with q := 0 } := updS_same _ _ _
  have etm : tmsV zt 3 21167 (tellP q T) hd = (T, T, 0) := by
    unfold tmsV
    rw [if_neg (by omega), hm, if_neg (by simp), if_neg (by simp)]
  rw [et, etm, if_neg (by simp), hear2_eq, et, es]
  simp only [ha]
  rw [smp_told T a hd t0 t1 a0 a1 h1]
  by_cases h : hd - a ≤ 16000000000
  · simp only [if_pos h]
    rw [if_neg (by simp)]
  · simp only [if_neg h]
    rw [if_pos (by simp)]
theorem most_one (lo hi : Int) (h : lo ≤ hi) : Ag.MostIs [(lo, hi)] lo hi 1 := by
  refine ⟨fun x => by simp [Ag.cnt]; split <;> omega, fun h => by omega, fun _ => by simp [Ag.cnt, Ag.inB, h], fun x hx _ => by simp [Ag.cnt, Ag.inB]; omega, fun _ => ⟨(lo, hi), by simp, by simp [Ag.inB, h], rfl⟩, fun i hi _ _ => by simp at hi; subst hi; exact Int.le_refl _⟩
/-- A client of one server, that is told the truth. -/
theorem turn_one (rs : Srv → Srv) (K : Cs) (hd lo hi : Int) (hl : lo ≤ hi) (s0 : (K.S 0).has = true) (s1 : (K.S 0).h = hd) (s2 : (K.S 0).lo = lo) (s3 : (K.S 0).hi = hi) :
    turnK rs K 1 hd = { K with t := tt K.t (addS lo hi / 2), l := tl (addS lo hi / 2), syn := K.syn + 1, S := fun j => rs (K.S j) } := by
  have hc : cand K.S hd 1 = [(lo, hi)] := by
    unfold cand cand frB
    rw [s0, s1, s2, s3]
    simp
  unfold turnK
  rw [hc, mostP_eq (most_one lo hi hl), if_neg (by simp)]
end Go.Proofs.YtepdnkpmkhjlgaaGreat

/- NTP: known (written by gen/ntknw.py). -/
namespace Go.Proofs.YtepdnkpmkhjlgaaGreat
open Go.RowKit Go.Sort

theorem Pr.but {w : World} {bp b bc bs : Nat} {A1 : Option Addr} {c1 : Nat} {rb rbc rbs : Nat} {A2 : Option Addr} {c2 : Nat} {ad : Addr} {n c : Nat} {x : Int} {z : Nat → Int} {N : Nat} {m0 m1 m2 : Nat} {K R : Cs} {cnt : Int} {asked when_ : Nat → Int} {w' : World} {S : Nat → Prop} (h : Pr w bp b bc bs A1 c1 rb rbc rbs A2 c2 ad n c x z N m0 m1 m2 K R cnt asked when_) (k : But S w w') (hs : ∀ i, S i → i < m0 ∧ i ≠ ad.block ∨ bp < i) : Pr w' bp b bc bs A1 c1 rb rbc rbs A2 c2 ad n c x z N m0 m1 m2 K R cnt asked when_ := by
  have r1 := h.r1
  have r2 := h.r2
  have r3 := h.r3
  have nS : ∀ i, ¬ (i < m0 ∧ i ≠ ad.block) → i ≤ bp → ¬ S i := fun i q q2 hi => by rcases hs i hi with e | e <;> omega
  have a0 := h.a0
  have nb : ¬ S bp := nS bp (by omega) (Nat.le_refl _)
  have e := fun o => k.cell bp o h.ql nb
  refine ⟨(e 0).trans h.q0, (e 1).trans h.q1, (e 2).trans h.q2, (e 3).trans h.q3, (e 4).trans h.q4, fun j hj => (e _).trans (h.qa j hj), fun j hj => (e _).trans (h.qw j hj), fun j => (k.frozen bp j h.ql nb).trans (h.qf j), Nat.lt_of_lt_of_le h.ql k.size,
    h.P.but k (nS _ (by omega) (by omega)) (nS _ (by omega) (by omega)) (nS _ (by omega) (by omega)) (fun q hq => nS _ (by have := h.a1 q hq; omega) (by have := h.a1 q hq; omega)),
    h.R.but k (nS _ (by omega) (by omega)) (nS _ (by omega) (by omega)) (nS _ (by omega) (by omega)) (fun q hq => nS _ (by have := h.a2 q hq; omega) (by have := h.a2 q hq; omega)), ?_, r1, r2, r3, h.a1, h.a2, h.a0⟩
  intro hn
  obtain ⟨B, O, hA, hB, hc⟩ := h.tab hn
  have hab : ad.block = B := by injection hA with hA; rw [hA]
  exact ⟨B, O, hA, Nat.lt_of_lt_of_le hB k.size, fun j hj => ⟨(k.cell B _ hB (nS B (by omega) (by omega))).trans (hc j hj).1, (hc j hj).2⟩⟩
theorem Pr.below {w : World} {bp b bc bs : Nat} {A1 : Option Addr} {c1 : Nat} {rb rbc rbs : Nat} {A2 : Option Addr} {c2 : Nat} {ad : Addr} {n c : Nat} {x : Int} {z : Nat → Int} {N : Nat} {m0 m1 m2 : Nat} {K R : Cs} {cnt : Int} {asked when_ : Nat → Int} {w' : World} (h : Pr w bp b bc bs A1 c1 rb rbc rbs A2 c2 ad n c x z N m0 m1 m2 K R cnt asked when_) (k : Below w.heap.size w w') : Pr w' bp b bc bs A1 c1 rb rbc rbs A2 c2 ad n c x z N m0 m1 m2 K R cnt asked when_ := h.but (S := fun _ => False) (But.of_below k) (fun _ q => q.elim)
/-- The code's client was called. -/
theorem Pr.onP {w : World} {bp b bc bs : Nat} {A1 : Option Addr} {c1 : Nat} {rb rbc rbs : Nat} {A2 : Option Addr} {c2 : Nat} {ad : Addr} {n c : Nat} {x : Int} {z : Nat → Int} {N : Nat} {m0 m1 m2 : Nat} {K R : Cs} {cnt : Int} {asked when_ : Nat → Int} {w' : World} {K' : Cs} (h : Pr w bp b bc bs A1 c1 rb rbc rbs A2 c2 ad n c x z N m0 m1 m2 K R cnt asked when_) (hn : Nc layP w' b bc bs A1 n c1 x z N K') (k : But (Ft b bc bs) w w') : Pr w' bp b bc bs A1 c1 rb rbc rbs A2 c2 ad n c x z N m0 m1 m2 K' R cnt asked when_ := by
  have r1 := h.r1
  have r2 := h.r2
  have r3 := h.r3
  have a0 := h.a0
  have nS : ∀ i, (i < m0 ∨ m1 ≤ i) → ¬ Ft b bc bs i := fun i q hi => by unfold Ft at hi; omega
  have nb : ¬ Ft b bc bs bp := nS bp (by omega)
  have e := fun o => k.cell bp o h.ql nb
  refine ⟨(e 0).trans h.q0, (e 1).trans h.q1, (e 2).trans h.q2, (e 3).trans h.q3, (e 4).trans h.q4, fun j hj => (e _).trans (h.qa j hj), fun j hj => (e _).trans (h.qw j hj), fun j => (k.frozen bp j h.ql nb).trans (h.qf j), Nat.lt_of_lt_of_le h.ql k.size, hn,
    h.R.but k (nS _ (by omega)) (nS _ (by omega)) (nS _ (by omega)) (fun q hq => nS _ (by have := h.a2 q hq; omega)), ?_, r1, r2, r3, h.a1, h.a2, h.a0⟩
  intro hn
  obtain ⟨B, O, hA, hB, hc⟩ := h.tab hn
  have hab : ad.block = B := by injection hA with hA; rw [hA]
  exact ⟨B, O, hA, Nat.lt_of_lt_of_le hB k.size, fun j hj => ⟨(k.cell B _ hB (nS B (by omega))).trans (hc j hj).1, (hc j hj).2⟩⟩
/-- The document's client was called. -/
theorem Pr.onR {w : World} {bp b bc bs : Nat} {A1 : Option Addr} {c1 : Nat} {rb rbc rbs : Nat} {A2 : Option Addr} {c2 : Nat} {ad : Addr} {n c : Nat} {x : Int} {z : Nat → Int} {N : Nat} {m0 m1 m2 : Nat} {K R : Cs} {cnt : Int} {asked when_ : Nat → Int} {w' : World} {R' : Cs} (h : Pr w bp b bc bs A1 c1 rb rbc rbs A2 c2 ad n c x z N m0 m1 m2 K R cnt asked when_) (hn : Nc layR w' rb rbc rbs A2 n c2 x z N R') (k : But (Ft rb rbc rbs) w w') : Pr w' bp b bc bs A1 c1 rb rbc rbs A2 c2 ad n c x z N m0 m1 m2 K R' cnt asked when_ := by
  have r1 := h.r1
  have r2 := h.r2
  have r3 := h.r3
  have a0 := h.a0
  have nS : ∀ i, (i < m1 ∨ m2 ≤ i) → ¬ Ft rb rbc rbs i := fun i q hi => by unfold Ft at hi; omega
  have nb : ¬ Ft rb rbc rbs bp := nS bp (by omega)
  have e := fun o => k.cell bp o h.ql nb
  refine ⟨(e 0).trans h.q0, (e 1).trans h.q1, (e 2).trans h.q2, (e 3).trans h.q3, (e 4).trans h.q4, fun j hj => (e _).trans (h.qa j hj), fun j hj => (e _).trans (h.qw j hj), fun j => (k.frozen bp j h.ql nb).trans (h.qf j), Nat.lt_of_lt_of_le h.ql k.size,
    h.P.but k (nS _ (by omega)) (nS _ (by omega)) (nS _ (by omega)) (fun q hq => nS _ (by have := h.a1 q hq; omega)), hn, ?_, r1, r2, r3, h.a1, h.a2, h.a0⟩
  intro hn
  obtain ⟨B, O, hA, hB, hc⟩ := h.tab hn
  have hab : ad.block = B := by injection hA with hA; rw [hA]
  exact ⟨B, O, hA, Nat.lt_of_lt_of_le hB k.size, fun j hj => ⟨(k.cell B _ hB (nS B (by omega))).trans (hc j hj).1, (hc j hj).2⟩⟩
theorem W8.mkR (w : World) (l m s d r o v t : Int) : W8 (w.alloc (pkR l m s d r o v t)) w.heap.size l m s d r o v t := ⟨Box8.newR w l m s d r o v t, fun j => by simp⟩
/-- The first question, and an answer to something else. -/
def kn1 : Cs := askK (newK 0) 0 0
theorem kn1_q : (kn1.S 0).q = 1 ∧ (kn1.S 0).a = 0 ∧ rt kn1.c kn1.t kn1.l 1000 = 1000 ∧ rc kn1.c 1000 = 1000 ∧ kn1.c = 0 := by decide
theorem kn_a (s : Int) : hearK rstP zt 3 21167 1 kn1 0 1000 ⟨0, 4, 1, 0, 0, 9, s, s⟩ = (14, kn1) := by
  unfold hearK
  rw [if_neg (by simp), if_pos (Or.inr (by rw [kn1_q.1]; simp))]
theorem kn_b : ∃ K4 : Cs, hearK rstP zt 3 21167 1 kn1 0 1000 (tellP 1 1152921504606846976) = (0, K4) ∧ K4.c = 1000 ∧ K4.t = 1152921504606847476 ∧ K4.l = 0 ∧ K4.syn = 1 := by
  have h := hear_told rstP 1 kn1 0 1000 1 1152921504606846976 1000 0 kn1_q.1 (by omega) kn1_q.2.1 kn1_q.2.2.1 (by omega) (by omega) (by omega) (by omega) (by omega)
  rw [if_pos (by omega), show ((2 * 1152921504606846976 - 0 - 1000) / 2 - ((1000 - 0) / 2 + 1) : Int) = 1152921504606845975 from by decide, show ((2 * 1152921504606846976 - 0 - 1000) / 2 + ((1000 - 0) / 2 + 1) : Int) = 1152921504606846977 from by decide] at h
  rw [h, turn_one rstP _ 1000 1152921504606845975 1152921504606846977 (by decide) rfl rfl rfl rfl]
  exact ⟨_, rfl, by decide, by decide, by decide, by decide⟩
set_option maxRecDepth 100000 in
set_option maxHeartbeats 16000000 in
theorem known9 (w : World) : Calls Tryz.prog 12 #[] w fun e w' => e = .returned (.bool true) ∧ Below w.heap.size w w' := by
  obtain ⟨s, hs⟩ : ∃ s, stpV zt 3 1152921504606846976 = s := ⟨_, rfl⟩
  have hsb := stp_bd zt_tab 1152921504606846976
  rw [hs] at hsb
  have HSE := Lib.hid hs
  obtain ⟨K4, hk4, e1, e2, e3, e4⟩ := kn_b
  have hb4 : hearK rstP zt 3 21167 1 kn1 0 1000 ⟨0, 4, 1, 0, 0, 1, s, s⟩ = (0, K4) := by rw [← hs]; exact hk4
  have HK4 := Lib.hid hb4
  have HE4 := Lib.hid (And.intro e1 (And.intro e2 (And.intro e3 e4)))
  have HTB := Lib.hid (table4 w)
  clear hs hk4 hb4 e1 e2 e3 e4
  go_enter Tryz.func12, Tryz.ntmps12
  go_wp2_with fail
  refine HTB.out.mono ?_; rintro e w1 ⟨B0, rfl, hb1, hf1⟩
  have HST := Lib.hid (law_start ⟨B0, 0, none⟩ 3 3 21167 zt 1 0 w1 hf1 zt_tab (by omega) (by omega) (by omega) (by omega))
  have HB1 := Lib.hid hb1
  clear hb1 hf1 HTB
  go_wp2_with fail
  refine HST.out.mono ?_; rintro e w2 ⟨⟨bp, b, bc, bs, A1, c1, rb, rbc, rbs, A2, c2, m1, m2, rfl, hpr, hm1, hm2⟩, hb2⟩
  have HP2 := Lib.hid hpr
  have HB2 := Lib.hid (HB1.out.trans (hb2.mono HB1.out.size))
  have p2 := hpr.q2
  have hz2 := hb2.size
  have lbp := hpr.ql
  have hm0 : w.heap.size ≤ w1.heap.size := HB1.out.size
  have r1 := hpr.r1
  have r3 := hpr.r3
  obtain ⟨m0, hm0e⟩ : ∃ m0, w1.heap.size = m0 := ⟨_, rfl⟩
  rw [hm0e] at HP2 hz2 hm0 r1 hm1
  have HAK := Lib.hid (ntp_ask hpr.P (newK_ok 0 1 (by omega) (by omega)) (by decide) 0 (by omega) 0 (by omega))
  clear hb2 hpr HST HB1 hm0e
  go_wp2_with fail
  refine HAK.out.mono ?_; rintro e W4 ⟨⟨g4, rfl, _, _⟩, hn4, hf4⟩
  have HP4 : Hid (Pr W4 bp b bc bs A1 c1 rb rbc rbs A2 c2 ⟨B0, 0, none⟩ 3 3 21167 zt 1 m0 m1 m2 kn1 (newK 0) 0 (fun _ => 0) (fun _ => 0)) := Lib.hid (HP2.out.onP hn4 hf4)
  have HB4 : Hid (Below w.heap.size w W4) := Lib.hid (HB2.out.trans (hf4.below (fun k hk => by unfold Ft at hk; omega) HB2.out.size))
  have HS : Hid (∀ V : World, Below W4.heap.size W4 V → Calls Tryz.prog 18 #[.agg #[.slice (some ⟨B0, 0, none⟩) 3 3, .int .i64 21167], .int .i64 1152921504606846976] V fun e w' => e = .returned (.int .u64 s) ∧ Below V.heap.size V w') := Lib.hid (fun V k => by
    have := law_stamp (some ⟨B0, 0, none⟩) 3 3 21167 1152921504606846976 zt V (HP4.out.below k).tab zt_tab (by omega) (by omega)
    rwa [HSE.out] at this)
  have lb4 := HP4.out.ql
  clear hn4 hf4 HP2 HB2 HAK p2 lbp hz2
  go_upto_region 5 with fail
  go_cut [5] (fun v wx => ∃ g : Nat, v = .pointer (some ⟨g, 0, none⟩) ∧ W8 wx g 0 4 1 0 0 9 s s ∧ W4.heap.size ≤ g ∧ Below W4.heap.size W4 wx)
  case first =>
    have p0 := HP4.out.q0
    have p1 := HP4.out.q1
    refine wp_region_held_drew (S := fun w' => w'.cell? ⟨bp, 0, none⟩ = some (.slice (some ⟨B0, 0, none⟩) 3 3) ∧ w'.cell? ⟨bp, 1, none⟩ = some (.int .i64 21167)) (by kernel_rfl) ?_ (fun hHeld => ?_)
    · exact ⟨p0, p1⟩
    have HP5 := Lib.hid (HP4.out.below (w' := W4.drew) ((Below.refl _ _).drew))
    have HB5 : Hid (Below W4.heap.size W4 W4.drew) := Lib.hid ((Below.refl _ _).drew)
    clear p0 p1
    generalize hV5 : W4.drew = V5 at *
    clear hV5
    refine tk9 0 ?_
    refine tk9 1 ?_
    refine tk9 2 ?_
    refine tk9 3 ?_
    refine tk9 5 ?_
    refine tk9 6 ?_
    refine tk9 7 ?_
    refine tk9 8 ?_
    refine wpAnyH_ready (rs := [4, 11]) (by kernel_rfl) (by simp) ?_
    refine AllReadyH.cons rfl (fun K hK => ?_) (AllReadyH.cons rfl (fun K hK => ?_) (AllReadyH.nil))
    ·
      go_simp
      (go_at_call 18; refine (HS.out V5 HB5.out).mono ?_; rintro e V6 ⟨rfl, k6⟩)
      have HB6 := Lib.hid (HB5.out.trans (k6.mono HB5.out.size))
      have HP6 := Lib.hid (HP5.out.below k6)
      clear k6
      (try dsimp only)
      refine hK.out _ _ ?_ (fun hHeld => ?_)
      · exact ⟨HP6.out.q0, HP6.out.q1⟩
      clear hK K
      refine pt9 ?_
      refine wpAnyH_ready (rs := [9, 11]) (by kernel_rfl) (by simp) ?_
      refine AllReadyH.cons rfl (fun K hK => ?_) (AllReadyH.cons rfl (fun K hK => ?_) (AllReadyH.nil))
      ·
        go_simp
        (go_at_call 18; refine (HS.out V6 HB6.out).mono ?_; rintro e V7 ⟨rfl, k7⟩)
        have HB7 := Lib.hid (HB6.out.trans (k7.mono HB6.out.size))
        have HP7 := Lib.hid (HP6.out.below k7)
        clear k7
        (try dsimp only)
        refine hK.out _ _ ?_ (fun hHeld => ?_)
        · exact ⟨HP7.out.q0, HP7.out.q1⟩
        clear hK K
        refine pt9 ?_
        refine tk9 10 ?_
        refine wpAnyH_ready (rs := [11]) (by kernel_rfl) (by simp) ?_
        refine AllReadyH.cons rfl (fun K hK => ?_) (AllReadyH.nil)
        go_simp
        have kk : Below V7.heap.size V7 (V7.alloc (.cells #[.int .i64 0, .int .i64 0, .int .i64 0, .int .i64 0, .int .i64 0, .int .u64 0, .int .u64 0, .int .u64 0] 53)) := (Below.refl _ _).alloc (Nat.le_refl _) _
        have HB8 := Lib.hid (HB7.out.trans (kk.mono HB7.out.size))
        have HP8 := Lib.hid (HP7.out.below kk)
        have Q := Lib.hid (W8.mkR V7 0 0 0 0 0 0 0 0)
        have hg : W4.heap.size ≤ V7.heap.size := HB7.out.size
        have hbp : bp < V7.heap.size := HP7.out.ql
        clear kk
        (try dsimp only)
        refine hK.out _ _ ?_ (fun hHeld => ?_)
        · exact ⟨HP8.out.q0, HP8.out.q1⟩
        clear hK K
        refine pt9 ?_
        generalize V7.alloc (.cells #[.int .i64 0, .int .i64 0, .int .i64 0, .int .i64 0, .int .i64 0, .int .u64 0, .int .u64 0, .int .u64 0] 53) = V8 at *
        generalize V7.heap.size = g5 at *
        obtain ⟨y0, y1, y2, y3, y4, y5, y6, y7, yl⟩ := Q.out.x
        have f0 := Q.out.f 0
        have f1 := Q.out.f 1
        have f2 := Q.out.f 2
        have f3 := Q.out.f 3
        have f4 := Q.out.f 4
        have f5 := Q.out.f 5
        have f6 := Q.out.f 6
        have f7 := Q.out.f 7
        refine wpAnyH_ready (rs := [12]) (by kernel_rfl) (by simp) ?_
        refine AllReadyH.cons rfl (fun K hK => ?_) (AllReadyH.nil)
        go_simp
        have X9 : W8 (st8 V8 g5 0 4 1 0 0 9 s s) g5 0 4 1 0 0 9 s s := ⟨st8_cells Q.out.x, fun j => by have := Q.out.f j; simpa [st8] using this⟩
        have B9 : Below W4.heap.size W4 (st8 V8 g5 0 4 1 0 0 9 s s) := by unfold st8; exact (((((((HB8.out.setCell (p := ⟨g5, 0, none⟩) hg _).setCell (p := ⟨g5, 1, none⟩) hg _).setCell (p := ⟨g5, 2, none⟩) hg _).setCell (p := ⟨g5, 3, none⟩) hg _).setCell (p := ⟨g5, 4, none⟩) hg _).setCell (p := ⟨g5, 5, none⟩) hg _).setCell (p := ⟨g5, 6, none⟩) hg _).setCell (p := ⟨g5, 7, none⟩) hg _
        have O9 : Only g5 V8 (st8 V8 g5 0 4 1 0 0 9 s s) := by unfold st8; exact ((((((((Only.refl _ _).setB _).setB _).setB _).setB _).setB _).setB _).setB _).setB _
        have P9 := HP8.out.but (S := fun k => k = g5) (But.of_only O9 rfl) (fun k hk => by right; omega)
        (try dsimp only)
        refine hK.out _ _ ?_ (fun hHeld => ?_)
        · exact ⟨P9.q0, P9.q1⟩
        clear hK K
        refine pt9 ?_
        refine wpAnyH_done (by kernel_rfl) ?_ _
        have HX9 := Lib.hid X9
        have HB9 := Lib.hid B9
        clear X9 B9 O9 P9 Q y0 y1 y2 y3 y4 y5 y6 y7 f0 f1 f2 f3 f4 f5 f6 f7
        go_wp2_with fail
        go_meet
        exact ⟨g5, rfl, HX9.out, hg, HB9.out⟩
      ·
        go_simp
        have kk : Below V6.heap.size V6 (V6.alloc (.cells #[.int .i64 0, .int .i64 0, .int .i64 0, .int .i64 0, .int .i64 0, .int .u64 0, .int .u64 0, .int .u64 0] 53)) := (Below.refl _ _).alloc (Nat.le_refl _) _
        have HB7 := Lib.hid (HB6.out.trans (kk.mono HB6.out.size))
        have HP7 := Lib.hid (HP6.out.below kk)
        have Q := Lib.hid (W8.mkR V6 0 0 0 0 0 0 0 0)
        have hg : W4.heap.size ≤ V6.heap.size := HB6.out.size
        have hbp : bp < V6.heap.size := HP6.out.ql
        clear kk
        (try dsimp only)
        refine hK.out _ _ ?_ (fun hHeld => ?_)
        · exact ⟨HP7.out.q0, HP7.out.q1⟩
        clear hK K
        refine pt9 ?_
        generalize V6.alloc (.cells #[.int .i64 0, .int .i64 0, .int .i64 0, .int .i64 0, .int .i64 0, .int .u64 0, .int .u64 0, .int .u64 0] 53) = V7 at *
        generalize V6.heap.size = g5 at *
        refine wpAnyH_ready (rs := [9]) (by kernel_rfl) (by simp) ?_
        refine AllReadyH.cons rfl (fun K hK => ?_) (AllReadyH.nil)
        go_simp
        (go_at_call 18; refine (HS.out V7 HB7.out).mono ?_; rintro e V8 ⟨rfl, k8⟩)
        have HB8 := Lib.hid (HB7.out.trans (k8.mono HB7.out.size))
        have HP8 := Lib.hid (HP7.out.below k8)
        have Q := Lib.hid (Q.out.below k8 Q.out.x.lt)
        clear k8
        (try dsimp only)
        refine hK.out _ _ ?_ (fun hHeld => ?_)
        · exact ⟨HP8.out.q0, HP8.out.q1⟩
        clear hK K
        refine pt9 ?_
        refine tk9 10 ?_
        obtain ⟨y0, y1, y2, y3, y4, y5, y6, y7, yl⟩ := Q.out.x
        have f0 := Q.out.f 0
        have f1 := Q.out.f 1
        have f2 := Q.out.f 2
        have f3 := Q.out.f 3
        have f4 := Q.out.f 4
        have f5 := Q.out.f 5
        have f6 := Q.out.f 6
        have f7 := Q.out.f 7
        refine wpAnyH_ready (rs := [12]) (by kernel_rfl) (by simp) ?_
        refine AllReadyH.cons rfl (fun K hK => ?_) (AllReadyH.nil)
        go_simp
        have X9 : W8 (st8 V8 g5 0 4 1 0 0 9 s s) g5 0 4 1 0 0 9 s s := ⟨st8_cells Q.out.x, fun j => by have := Q.out.f j; simpa [st8] using this⟩
        have B9 : Below W4.heap.size W4 (st8 V8 g5 0 4 1 0 0 9 s s) := by unfold st8; exact (((((((HB8.out.setCell (p := ⟨g5, 0, none⟩) hg _).setCell (p := ⟨g5, 1, none⟩) hg _).setCell (p := ⟨g5, 2, none⟩) hg _).setCell (p := ⟨g5, 3, none⟩) hg _).setCell (p := ⟨g5, 4, none⟩) hg _).setCell (p := ⟨g5, 5, none⟩) hg _).setCell (p := ⟨g5, 6, none⟩) hg _).setCell (p := ⟨g5, 7, none⟩) hg _
        have O9 : Only g5 V8 (st8 V8 g5 0 4 1 0 0 9 s s) := by unfold st8; exact ((((((((Only.refl _ _).setB _).setB _).setB _).setB _).setB _).setB _).setB _).setB _
        have P9 := HP8.out.but (S := fun k => k = g5) (But.of_only O9 rfl) (fun k hk => by right; omega)
        (try dsimp only)
        refine hK.out _ _ ?_ (fun hHeld => ?_)
        · exact ⟨P9.q0, P9.q1⟩
        clear hK K
        refine pt9 ?_
        refine wpAnyH_done (by kernel_rfl) ?_ _
        have HX9 := Lib.hid X9
        have HB9 := Lib.hid B9
        clear X9 B9 O9 P9 Q y0 y1 y2 y3 y4 y5 y6 y7 f0 f1 f2 f3 f4 f5 f6 f7
        go_wp2_with fail
        go_meet
        exact ⟨g5, rfl, HX9.out, hg, HB9.out⟩
    ·
      go_simp
      have kk : Below V5.heap.size V5 (V5.alloc (.cells #[.int .i64 0, .int .i64 0, .int .i64 0, .int .i64 0, .int .i64 0, .int .u64 0, .int .u64 0, .int .u64 0] 53)) := (Below.refl _ _).alloc (Nat.le_refl _) _
      have HB6 := Lib.hid (HB5.out.trans (kk.mono HB5.out.size))
      have HP6 := Lib.hid (HP5.out.below kk)
      have Q := Lib.hid (W8.mkR V5 0 0 0 0 0 0 0 0)
      have hg : W4.heap.size ≤ V5.heap.size := HB5.out.size
      have hbp : bp < V5.heap.size := HP5.out.ql
      clear kk
      (try dsimp only)
      refine hK.out _ _ ?_ (fun hHeld => ?_)
      · exact ⟨HP6.out.q0, HP6.out.q1⟩
      clear hK K
      refine pt9 ?_
      generalize V5.alloc (.cells #[.int .i64 0, .int .i64 0, .int .i64 0, .int .i64 0, .int .i64 0, .int .u64 0, .int .u64 0, .int .u64 0] 53) = V6 at *
      generalize V5.heap.size = g5 at *
      refine wpAnyH_ready (rs := [4]) (by kernel_rfl) (by simp) ?_
      refine AllReadyH.cons rfl (fun K hK => ?_) (AllReadyH.nil)
      go_simp
      (go_at_call 18; refine (HS.out V6 HB6.out).mono ?_; rintro e V7 ⟨rfl, k7⟩)
      have HB7 := Lib.hid (HB6.out.trans (k7.mono HB6.out.size))
      have HP7 := Lib.hid (HP6.out.below k7)
      have Q := Lib.hid (Q.out.below k7 Q.out.x.lt)
      clear k7
      (try dsimp only)
      refine hK.out _ _ ?_ (fun hHeld => ?_)
      · exact ⟨HP7.out.q0, HP7.out.q1⟩
      clear hK K
      refine pt9 ?_
      refine wpAnyH_ready (rs := [9]) (by kernel_rfl) (by simp) ?_
      refine AllReadyH.cons rfl (fun K hK => ?_) (AllReadyH.nil)
      go_simp
      (go_at_call 18; refine (HS.out V7 HB7.out).mono ?_; rintro e V8 ⟨rfl, k8⟩)
      have HB8 := Lib.hid (HB7.out.trans (k8.mono HB7.out.size))
      have HP8 := Lib.hid (HP7.out.below k8)
      have Q := Lib.hid (Q.out.below k8 Q.out.x.lt)
      clear k8
      (try dsimp only)
      refine hK.out _ _ ?_ (fun hHeld => ?_)
      · exact ⟨HP8.out.q0, HP8.out.q1⟩
      clear hK K
      refine pt9 ?_
      refine tk9 10 ?_
      obtain ⟨y0, y1, y2, y3, y4, y5, y6, y7, yl⟩ := Q.out.x
      have f0 := Q.out.f 0
      have f1 := Q.out.f 1
      have f2 := Q.out.f 2
      have f3 := Q.out.f 3
      have f4 := Q.out.f 4
      have f5 := Q.out.f 5
      have f6 := Q.out.f 6
      have f7 := Q.out.f 7
      refine wpAnyH_ready (rs := [12]) (by kernel_rfl) (by simp) ?_
      refine AllReadyH.cons rfl (fun K hK => ?_) (AllReadyH.nil)
      go_simp
      have X9 : W8 (st8 V8 g5 0 4 1 0 0 9 s s) g5 0 4 1 0 0 9 s s := ⟨st8_cells Q.out.x, fun j => by have := Q.out.f j; simpa [st8] using this⟩
      have B9 : Below W4.heap.size W4 (st8 V8 g5 0 4 1 0 0 9 s s) := by unfold st8; exact (((((((HB8.out.setCell (p := ⟨g5, 0, none⟩) hg _).setCell (p := ⟨g5, 1, none⟩) hg _).setCell (p := ⟨g5, 2, none⟩) hg _).setCell (p := ⟨g5, 3, none⟩) hg _).setCell (p := ⟨g5, 4, none⟩) hg _).setCell (p := ⟨g5, 5, none⟩) hg _).setCell (p := ⟨g5, 6, none⟩) hg _).setCell (p := ⟨g5, 7, none⟩) hg _
      have O9 : Only g5 V8 (st8 V8 g5 0 4 1 0 0 9 s s) := by unfold st8; exact ((((((((Only.refl _ _).setB _).setB _).setB _).setB _).setB _).setB _).setB _).setB _
      have P9 := HP8.out.but (S := fun k => k = g5) (But.of_only O9 rfl) (fun k hk => by right; omega)
      (try dsimp only)
      refine hK.out _ _ ?_ (fun hHeld => ?_)
      · exact ⟨P9.q0, P9.q1⟩
      clear hK K
      refine pt9 ?_
      refine wpAnyH_done (by kernel_rfl) ?_ _
      have HX9 := Lib.hid X9
      have HB9 := Lib.hid B9
      clear X9 B9 O9 P9 Q y0 y1 y2 y3 y4 y5 y6 y7 f0 f1 f2 f3 f4 f5 f6 f7
      go_wp2_with fail
      go_meet
      exact ⟨g5, rfl, HX9.out, hg, HB9.out⟩
  case rest =>
  obtain ⟨g5, rfl, hw8, hg5, hB5⟩ := hcut
  generalize wc = W5 at *
  have HP5 := Lib.hid (HP4.out.below hB5)
  have HB5 := Lib.hid (HB4.out.trans (hB5.mono HB4.out.size))
  have Q5 := Lib.hid hw8
  have hz5 := hB5.size
  obtain ⟨y0, y1, y2, y3, y4, y5, y6, y7, yl⟩ := hw8.x
  have p2 := HP5.out.q2
  have HE1 := Lib.hid (fun W : World => ref6_enc ⟨0, 4, 1, 0, 0, 9, s, s⟩ ⟨by simp, by simp, by simp, by simp, by simp, by simp, hsb, hsb⟩ W)
  have HE2 := Lib.hid (fun W : World => ref6_enc ⟨0, 4, 1, 0, 0, 1, s, s⟩ ⟨by simp, by simp, by simp, by simp, by simp, by simp, hsb, hsb⟩ W)
  clear hw8 hB5 HP4 HB4 HS
  go_wp2_with fail
  refine (HE1.out W5).mono ?_; rintro e W6 ⟨gA, cA, rfl, hgA, hpA, hB6⟩
  have HP6 := Lib.hid (HP5.out.below hB6)
  have HB6 := Lib.hid (HB5.out.trans (hB6.mono HB5.out.size))
  have Q6 := Lib.hid (Q5.out.below hB6 yl)
  have HPA := Lib.hid hpA
  have f5 := Q6.out.f 5
  have hz6 := hB6.size
  have hneA : gA ≠ g5 := by omega
  clear y0 y1 y2 y3 y4 y5 y6 y7 p2 HP5 HB5 Q5 hB6 hpA
  obtain ⟨y0, y1, y2, y3, y4, y5, y6, y7, yl⟩ := Q6.out.x
  have r1' := HP6.out.r1
  have O7 : Only g5 W6 (W6.setCell ⟨g5, 5, none⟩ (.int .u64 1)) := (Only.refl _ _).setB _
  have lbp6 : bp < g5 := by omega
  have HP7 := Lib.hid (HP6.out.but (S := fun k => k = g5) (But.of_only O7 rfl) (fun k hk => by right; omega))
  have HPA7 := Lib.hid (HPA.out.but (S := fun k => k = g5) (But.of_only O7 rfl) (fun h => hneA h))
  have HB7 := Lib.hid (HB6.out.setCell (p := ⟨g5, 5, none⟩) (by show w.heap.size ≤ g5; omega) (.int .u64 1))
  have z0 := (World.cell?_setCell_other W6 ⟨g5, 5, none⟩ ⟨g5, 0, none⟩ (.int .u64 1) (by simp)).trans y0
  have z1 := (World.cell?_setCell_other W6 ⟨g5, 5, none⟩ ⟨g5, 1, none⟩ (.int .u64 1) (by simp)).trans y1
  have z2 := (World.cell?_setCell_other W6 ⟨g5, 5, none⟩ ⟨g5, 2, none⟩ (.int .u64 1) (by simp)).trans y2
  have z3 := (World.cell?_setCell_other W6 ⟨g5, 5, none⟩ ⟨g5, 3, none⟩ (.int .u64 1) (by simp)).trans y3
  have z4 := (World.cell?_setCell_other W6 ⟨g5, 5, none⟩ ⟨g5, 4, none⟩ (.int .u64 1) (by simp)).trans y4
  have z5 := World.cell?_setCell_same W6 ⟨g5, 5, none⟩ (.int .u64 1) y5
  have z6 := (World.cell?_setCell_other W6 ⟨g5, 5, none⟩ ⟨g5, 6, none⟩ (.int .u64 1) (by simp)).trans y6
  have z7 := (World.cell?_setCell_other W6 ⟨g5, 5, none⟩ ⟨g5, 7, none⟩ (.int .u64 1) (by simp)).trans y7
  have p2 := HP7.out.q2
  clear O7
  go_wp2_with fail
  refine (HE2.out _).mono ?_; rintro e W8' ⟨gB, cB, rfl, hgB, hpB, hB8⟩
  have HP8 := Lib.hid (HP7.out.below hB8)
  have HB8 := Lib.hid (HB7.out.trans (hB8.mono HB7.out.size))
  have HPA8 := Lib.hid (HPA7.out.below hB8)
  have HPB8 := Lib.hid hpB
  have p2 := HP8.out.q2
  have hz8 := hB8.size
  have hgA8 : bp < gA ∧ bp < gB := by have := HP7.out.ql; omega
  clear z0 z1 z2 z3 z4 z5 z6 z7 y0 y1 y2 y3 y4 y5 y6 y7 HP6 HB6 HP7 HB7 HPA HPA7 Q6 hB8 hpB f5
  have HH1 := Lib.hid (ntp_hear_b HP8.out.P ((newK_ok 0 1 (by omega) (by omega)).ask (by decide) 0 (by omega) 0 (by omega)) (by omega) 0 (by omega) 1000 (by omega) HPA8.out ⟨by simp, by simp, by simp, by simp, by simp, by simp, hsb, hsb⟩)
  rw [kn_a] at HH1
  go_wp2_with fail
  refine HH1.out.mono ?_; rintro e W9 ⟨rfl, hn9, hf9⟩
  have HP9 := Lib.hid (HP8.out.onP hn9 hf9)
  have HB9 := Lib.hid (HB8.out.trans (hf9.below (fun k hk => by unfold Ft at hk; omega) HB8.out.size))
  have HPB9 := Lib.hid (HPB8.out.but hf9 (by unfold Ft; omega))
  have p2 := HP9.out.q2
  clear hn9 hf9 HP8 HB8 HPA8 HPB8 HH1
  have HH2 := Lib.hid (ntp_hear_b HP9.out.P ((newK_ok 0 1 (by omega) (by omega)).ask (by decide) 0 (by omega) 0 (by omega)) (by omega) 0 (by omega) 1000 (by omega) HPB9.out ⟨by simp, by simp, by simp, by simp, by simp, by simp, hsb, hsb⟩)
  rw [HK4.out] at HH2
  go_wp2_with fail
  refine HH2.out.mono ?_; rintro e W10 ⟨rfl, hn10, hf10⟩
  have HP10 := Lib.hid (HP9.out.onP hn10 hf10)
  have HB10 := Lib.hid (HB9.out.trans (hf10.below (fun k hk => by unfold Ft at hk; omega) HB9.out.size))
  have p2 := HP10.out.q2
  have c0 := HP10.out.P.c0
  obtain ⟨e1, e2, e3, e4⟩ := HE4.out
  have hI := HP10.out.P.clk
  simp only [e1, e2, e3] at hI
  have HRD := Lib.hid (slew_read_old bc 1000 1152921504606847476 0 1000 W10 hI (by omega))
  have HSY0 := ntp_synced HP10.out.P
  simp only [e4] at HSY0
  have HSY := Lib.hid HSY0
  clear hn10 hf10 HP9 HB9 HPB9 HH2 hI HSY0 e1 e2 e3 e4
  go_wp2_with fail
  refine HRD.out.mono ?_; rintro e W11 ⟨rfl, rfl⟩
  go_wp2_with (go_at_call 22; refine HSY.out.mono ?_; rintro e W11 ⟨rfl, rfl⟩)
  go_ret
  exact ⟨rfl, HB10.out⟩
end Go.Proofs.YtepdnkpmkhjlgaaGreat

