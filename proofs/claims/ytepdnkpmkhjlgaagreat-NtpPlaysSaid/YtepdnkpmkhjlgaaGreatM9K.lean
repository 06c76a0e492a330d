/- NTP: both stamps of an answer as TAI. -/
import Derived.Test.YtepdnkpmkhjlgaaGreatM9I
import Derived.Test.YtepdnkpmkhjlgaaGreatM9G
import Derived.Test.YtepdnkpmkhjlgaaGreatRef8
import Derived.Test.YtepdnkpmkhjlgaaGreatUtcMath
import Derived.Test.YtepdnkpmkhjlgaaGreatM9C
import Derived.Test.YtepdnkpmkhjlgaaGreatRowSet
import Derived.Test.YtepdnkpmkhjlgaaGreatTabOf
import Derived.Test.YtepdnkpmkhjlgaaGreatM9C
import Derived.BigGuard
import Derived.BigGuardPart
import Derived.BigCall
import Derived.Lib.QuietBelow
import Derived.Test.YtepdnkpmkhjlgaaGreatUtcW
/- NTP: a client's state in plain mathematics, and what each call makes of it. -/
set_option linter.unusedSimpArgs false
set_option linter.unusedVariables false
namespace Go.Proofs.YtepdnkpmkhjlgaaGreat
open Go.RowKit

/-- A server: its question, when it was asked, its sample. -/
structure Srv where
  q : Int
  a : Int
  has : Bool
  h : Int
  lo : Int
  hi : Int
/-- A client: its clock, its servers, how many questions there were, how often it was turned. -/
structure Cs where
  c : Int
  t : Int
  l : Int
  S : Nat → Srv
  n : Int
  syn : Int
def I64 (x : Int) : Prop := -9223372036854775808 ≤ x ∧ x ≤ 9223372036854775807
structure Srv.ok (s : Srv) : Prop where
  q0 : 0 ≤ s.q
  q1 : s.q < 18446744073709551616
  a0 : 0 ≤ s.a
  a1 : s.a ≤ 9223372036854775807
  h0 : 0 ≤ s.h
  h1 : s.h ≤ 9223372036854775807
  l : I64 s.lo
  u : I64 s.hi
structure Cs.Ok (K : Cs) (N : Nat) : Prop where
  clk : Ok3 K.c K.t K.l
  srv : ∀ i, i < N → (K.S i).ok
  n0 : 0 ≤ K.n
  n1 : K.n ≤ 1000000000
  s0 : 0 ≤ K.syn
  s1 : K.syn ≤ 1000000000
def updS (S : Nat → Srv) (i : Nat) (s : Srv) : Nat → Srv := fun j => if j = i then s else S j
theorem updS_same (S : Nat → Srv) (i : Nat) (s : Srv) : updS S i s i = s := by simp [updS]
theorem updS_other (S : Nat → Srv) (i : Nat) (s : Srv) {j : Nat} (h : j ≠ i) : updS S i s j = S j := by simp [updS, h]
/-- The clock is read. -/
def readK (K : Cs) (count : Int) : Cs := { K with c := rc K.c count, t := rt K.c K.t K.l count, l := rl K.c K.l count }
/-- A question. -/
def askK (K : Cs) (i : Nat) (count : Int) : Cs := { readK K count with n := K.n + 1, S := updS K.S i { K.S i with q := K.n + 1, a := rt K.c K.t K.l count } }
/-- A question is answered. -/
def clrK (K : Cs) (i : Nat) : Cs := { K with S := updS K.S i { K.S i with q := 0 } }
/-- A sample. -/
def smpK (K : Cs) (i : Nat) (heard lo hi : Int) : Cs := { K with S := updS K.S i { K.S i with has := true, h := heard, lo := lo, hi := hi } }
/-- The day of a moment of TAI. -/
def utcD (z : Nat → Int) (n : Nat) (tai : Int) : Int := if 0 ≤ tai - begS z n (tai / 86400000000000) * 1000000000 then tai / 86400000000000 else tai / 86400000000000 - 1
def utcM (z : Nat → Int) (n : Nat) (tai : Int) : Int := tai - begS z n (utcD z n tai) * 1000000000
theorem utc_is {z : Nat → Int} {n : Nat} {x : Int} (h : IsTab z n x) (tai : Int) : IsUtc z n tai (utcD z n tai) (utcM z n tai) := by
  unfold utcM utcD
  split
  · next h0 => exact utc_here h tai h0
  · next h0 => exact utc_ahead h tai (by omega)
theorem utc_of {z : Nat → Int} {n : Nat} {x : Int} (h : IsTab z n x) {tai d m : Int} (k : IsUtc z n tai d m) : d = utcD z n tai ∧ m = utcM z n tai := utc_unique h k (utc_is h tai)
theorem utcD_bd {z : Nat → Int} {n : Nat} (tai : Int) (h0 : 0 ≤ tai) (h1 : tai ≤ 9223372036854775807) : -1 ≤ utcD z n tai ∧ utcD z n tai ≤ 106752 := by
  unfold utcD
  split <;> omega
def lenN (z : Nat → Int) (n : Nat) (d : Int) : Int := 86400 + offK z (d + 1) n - offK z d n
def taiN (z : Nat → Int) (n : Nat) (day nano : Int) : Int := addS (addS (mulS day 86400000000000) nano) (mulS (offK z day n) 1000000000)
/-- A stamp as TAI, near a day. -/
def momV (z : Nat → Int) (n : Nat) (x s day : Int) : Int × Int :=
  if dayB (nearDay s day) = false then (0, 11) else if x ≤ nearDay s day then (0, 13)
  else if lenN z n (nearDay s day) * 1000000000 ≤ nearNano s day then (0, 11) else (taiN z n (nearDay s day) (nearNano s day), 0)
theorem nearDay_bd (s day : Int) (h0 : -1 ≤ day) (h1 : day ≤ 106752) : -24858 ≤ nearDay s day ∧ nearDay s day ≤ 131610 := by
  unfold nearDay nearT
  split <;> omega
theorem nearNano_bd (s day : Int) (h0 : 0 ≤ s) : 0 ≤ nearNano s day ∧ nearNano s day < 86400000000000 := by
  unfold nearNano nearN
  have : 0 ≤ (s % 4294967296 * 1000000000 + 4294967295) / 4294967296 := by omega
  split <;> omega
theorem momV_bd {z : Nat → Int} {n : Nat} {x : Int} (hT : IsTab z n x) (s day : Int) (h0 : -1 ≤ day) (h1 : day ≤ 106752) (hs : 0 ≤ s) : -9000000000000000000 ≤ (momV z n x s day).1 ∧ (momV z n x s day).1 ≤ 9223372036854775807 := by
  have a := nearDay_bd s day h0 h1
  have b := nearNano_bd s day hs
  have o := offK_bd hT (nearDay s day) n (Nat.le_refl _)
  unfold momV
  split
  · simp
  split
  · simp
  split
  · simp
  · unfold taiN
    generalize nearDay s day = d at *
    generalize nearNano s day = m at *
    generalize offK z d n = k at *
    have hk : mulS k 1000000000 = k * 1000000000 := by unfold mulS; rw [if_neg (by omega), if_neg (by omega)]
    have hd : mulS d 86400000000000 = d * 86400000000000 ∨ (mulS d 86400000000000 = 9223372036854775807 ∧ 0 < d) := by
      unfold mulS
      split
      · exact .inr ⟨rfl, by omega⟩
      · rw [if_neg (by omega)]; exact .inl rfl
    rw [hk]
    have := addS_bd (addS (mulS d 86400000000000) m) (k * 1000000000)
    refine ⟨?_, this.2⟩
    show -9000000000000000000 ≤ addS (addS (mulS d 86400000000000) m) (k * 1000000000)
    rcases hd with hd | ⟨hd, _⟩
    · rw [hd]
      unfold addS
      split <;> (try split) <;> (try split) <;> omega
    · rw [hd]
      unfold addS
      split <;> (try split) <;> (try split) <;> omega
/-- A packet. -/
structure Pk where
  l : Int
  m : Int
  s : Int
  d : Int
  r : Int
  o : Int
  v : Int
  t : Int
structure Pk.ok (p : Pk) : Prop where
  l : 0 ≤ p.l ∧ p.l ≤ 3
  m : 3 ≤ p.m ∧ p.m ≤ 4
  s : 0 ≤ p.s ∧ p.s ≤ 255
  d : 0 ≤ p.d ∧ p.d ≤ 4294967295
  r : 0 ≤ p.r ∧ p.r ≤ 4294967295
  o : 0 ≤ p.o ∧ p.o < 18446744073709551616
  v : 0 ≤ p.v ∧ p.v < 18446744073709551616
  t : 0 ≤ p.t ∧ p.t < 18446744073709551616
def dlyV (heard a t2 t3 : Int) : Int := addS (addS (addS heard (-a)) (-t3)) t2
def offV (heard a t2 t3 : Int) : Int := addS (addS (addS t2 (-a)) t3) (-heard) / 2
def nanV (p : Int) : Int := (p * 1000000000 + 65535) / 65536
def byV (d r e : Int) : Int := addS (addS (addS (d / 2) 1) (nanV e)) (nanV (r / 2))
/-- Is a sample counted? -/
def frB (s : Srv) (heard : Int) : Bool := s.has && decide (heard - s.h ≤ 1024000000000)
def cand (S : Nat → Srv) (heard : Int) : Nat → List (Int × Int)
  | 0 => []
  | k + 1 => cand S heard k ++ (if frB (S k) heard then [((S k).lo, (S k).hi)] else [])
theorem cand_len (S : Nat → Srv) (heard : Int) : ∀ k, (cand S heard k).length ≤ k
  | 0 => Nat.le_refl _
  | k + 1 => by
    have := cand_len S heard k
    unfold cand
    split <;> simp <;> omega
theorem cand_congr {S S' : Nat → Srv} {heard : Int} : ∀ k, (∀ j, j < k → (frB (S j) heard = frB (S' j) heard) ∧ (frB (S j) heard = true → (S j).lo = (S' j).lo ∧ (S j).hi = (S' j).hi)) → cand S heard k = cand S' heard k
  | 0, _ => rfl
  | k + 1, h => by
    obtain ⟨h1, h2⟩ := h k (Nat.lt_succ_self _)
    unfold cand
    rw [cand_congr k (fun j hj => h j (Nat.lt_succ_of_lt hj)), ← h1]
    split
    · next q => rw [(h2 q).1, (h2 q).2]
    · rfl
open Classical in
/-- What most have in common. -/
noncomputable def mostP (l : List (Int × Int)) : (Int × Int) × Nat := if h : ∃ p : (Int × Int) × Nat, Ag.MostIs l p.1.1 p.1.2 p.2 then Classical.choose h else ((0, 0), 0)
theorem mostP_eq {l : List (Int × Int)} {a b : Int} {m : Nat} (h : Ag.MostIs l a b m) : mostP l = ((a, b), m) := by
  have he : ∃ p : (Int × Int) × Nat, Ag.MostIs l p.1.1 p.1.2 p.2 := ⟨((a, b), m), h⟩
  have e : mostP l = Classical.choose he := by unfold mostP; rw [dif_pos he]
  obtain ⟨h1, h2, h3⟩ := Ag.MostIs.unique (Classical.choose_spec he) h
  rw [e]
  generalize Classical.choose he = p at *
  obtain ⟨⟨p1, p2⟩, p3⟩ := p
  simp only at h1 h2 h3
  rw [h1, h2, h3]
/-- What is forgotten, the code's and the reference's. -/
def rstP (s : Srv) : Srv := ⟨s.q, s.a, false, 0, 0, 0⟩
def rstR (s : Srv) : Srv := ⟨s.q, s.a, false, s.h, 0, 0⟩
/-- The clock is turned, if most agree; the clock was read at this count. -/
noncomputable def turnK (rs : Srv → Srv) (K : Cs) (N : Nat) (heard : Int) : Cs :=
  if 2 * (mostP (cand K.S heard N)).2 ≤ N then K
  else { K with t := tt K.t (addS (mostP (cand K.S heard N)).1.1 (mostP (cand K.S heard N)).1.2 / 2), l := tl (addS (mostP (cand K.S heard N)).1.1 (mostP (cand K.S heard N)).1.2 / 2), syn := K.syn + 1, S := fun j => rs (K.S j) }
/-- What is done with two moments. -/
noncomputable def hear2 (rs : Srv → Srv) (N : Nat) (K : Cs) (i : Nat) (p : Pk) (t2 t3 : Int) : Int × Cs :=
  if t3 < t2 then (12, K)
  else if dlyV K.t (K.S i).a t2 t3 < 0 ∨ 16000000000 < dlyV K.t (K.S i).a t2 t3 then (11, K)
  else (0, turnK rs (smpK K i K.t (addS (offV K.t (K.S i).a t2 t3) (-(byV (dlyV K.t (K.S i).a t2 t3) p.d p.r))) (addS (offV K.t (K.S i).a t2 t3) (byV (dlyV K.t (K.S i).a t2 t3) p.d p.r))) N K.t)
/-- What is done with an answer to a question, behind the clock was read. -/
noncomputable def hear1 (rs : Srv → Srv) (z : Nat → Int) (n : Nat) (x : Int) (N : Nat) (K : Cs) (i : Nat) (p : Pk) : Int × Cs :=
  if K.t = 9223372036854775807 then (11, K)
  else if (momV z n x p.v (utcD z n K.t)).2 ≠ 0 then ((momV z n x p.v (utcD z n K.t)).2, K)
  else if (momV z n x p.t (utcD z n K.t)).2 ≠ 0 then ((momV z n x p.t (utcD z n K.t)).2, K)
  else hear2 rs N K i p (momV z n x p.v (utcD z n K.t)).1 (momV z n x p.t (utcD z n K.t)).1
/-- What is done with a packet. -/
noncomputable def hearK (rs : Srv → Srv) (z : Nat → Int) (n : Nat) (x : Int) (N : Nat) (K : Cs) (i : Nat) (count : Int) (p : Pk) : Int × Cs :=
  if p.m ≠ 4 then (3, K)
  else if (K.S i).q = 0 ∨ p.o ≠ (K.S i).q then (14, K)
  else if p.l = 3 ∨ p.s < 1 ∨ 15 < p.s then (15, clrK K i)
  else if p.v = 0 ∨ p.t = 0 then (3, clrK K i)
  else hear1 rs z n x N (readK (clrK K i) count) i p
end Go.Proofs.YtepdnkpmkhjlgaaGreat

/- NTP: a client in memory. -/
namespace Go.Proofs.YtepdnkpmkhjlgaaGreat
open Go.RowKit

/-- A server's cells, the code's. -/
def layP (s : Srv) (j : Nat) : Value := if j = 0 then .int .u64 s.q else if j = 1 then .int .i64 s.a else if j = 2 then .bool s.has else if j = 3 then .int .i64 s.h else if j = 4 then .int .i64 s.lo else .int .i64 s.hi
/-- A server's cells, the reference's. -/
def layR (s : Srv) (j : Nat) : Value := if j = 0 then .int .u64 s.q else if j = 1 then .int .i64 s.a else if j = 2 then .int .i64 s.lo else if j = 3 then .int .i64 s.hi else if j = 4 then .bool s.has else .int .i64 s.h
structure Nc (L : Srv → Nat → Value) (w : World) (b bc bs : Nat) (A : Option Addr) (n cc : Nat) (x : Int) (z : Nat → Int) (N : Nat) (K : Cs) : Prop where
  c0 : w.cell? ⟨b, 0, none⟩ = some (.pointer (some ⟨bc, 0, none⟩))
  c1 : w.cell? ⟨b, 1, none⟩ = some (.slice A n cc)
  c2 : w.cell? ⟨b, 2, none⟩ = some (.int .i64 x)
  c3 : w.cell? ⟨b, 3, none⟩ = some (.slice (some ⟨bs, 0, none⟩) N N)
  c4 : w.cell? ⟨b, 4, none⟩ = some (.int .u64 K.n)
  c5 : w.cell? ⟨b, 5, none⟩ = some (.int .i64 K.syn)
  f : ∀ j, w.frozen? ⟨b, j, none⟩ = false
  lt : b < w.heap.size
  clk : Ints3 w bc K.c K.t K.l
  tab : FlatAt w A 2 n z
  sv : ∀ i, i < N → ∀ j, j < 6 → w.cell? ⟨bs, i * 6 + j, none⟩ = some (L (K.S i) j)
  sf : ∀ j, w.frozen? ⟨bs, j, none⟩ = false
  sl : bs < w.heap.size
  d1 : b ≠ bc
  d2 : b ≠ bs
  d3 : bc ≠ bs
  dA : ∀ ad, A = some ad → ad.block ≠ b ∧ ad.block ≠ bc ∧ ad.block ≠ bs
  tb : IsTab z n x
/-- The blocks that a client's calls write. -/
def Ft (b bc bs : Nat) : Nat → Prop := fun k => k = b ∨ k = bc ∨ k = bs
theorem Nc.but {L : Srv → Nat → Value} {w w' : World} {b bc bs : Nat} {A : Option Addr} {n cc : Nat} {x : Int} {z : Nat → Int} {N : Nat} {K : Cs} {S : Nat → Prop} (h : Nc L w b bc bs A n cc x z N K) (k : But S w w') (h1 : ¬ S b) (h2 : ¬ S bc) (h3 : ¬ S bs) (h4 : ∀ ad, A = some ad → ¬ S ad.block) : Nc L w' b bc bs A n cc x z N K := by
  have e := fun o => k.cell b o h.lt h1
  have es := fun o => k.cell bs o h.sl h3
  have i3 := h.clk
  have hz := k.size
  have l1 := h.lt
  have l2 := h.sl
  refine ⟨(e 0).trans h.c0, (e 1).trans h.c1, (e 2).trans h.c2, (e 3).trans h.c3, (e 4).trans h.c4, (e 5).trans h.c5, fun j => (k.frozen b j h.lt h1).trans (h.f j), by omega, ?_, ?_, fun i hi j hj => (es _).trans (h.sv i hi j hj), fun j => (k.frozen bs j h.sl h3).trans (h.sf j), by omega, h.d1, h.d2, h.d3, h.dA, h.tb⟩
  · have lc := i3.lt
    exact ⟨(k.cell bc 0 lc h2).trans i3.c0, (k.cell bc 1 lc h2).trans i3.c1, (k.cell bc 2 lc h2).trans i3.c2, (k.frozen bc 0 lc h2).trans i3.f0, (k.frozen bc 1 lc h2).trans i3.f1, (k.frozen bc 2 lc h2).trans i3.f2, by omega⟩
  · intro hn
    obtain ⟨B, O, rfl, hB, hc⟩ := h.tab hn
    exact ⟨B, O, rfl, by omega, fun j hj => ⟨(k.cell B _ hB (h4 _ rfl)).trans (hc j hj).1, (hc j hj).2⟩⟩
theorem Nc.below {L : Srv → Nat → Value} {w w' : World} {b bc bs : Nat} {A : Option Addr} {n cc : Nat} {x : Int} {z : Nat → Int} {N : Nat} {K : Cs} (h : Nc L w b bc bs A n cc x z N K) (k : Below w.heap.size w w') : Nc L w' b bc bs A n cc x z N K :=
  h.but (S := fun _ => False) (But.of_below k) (fun h => h) (fun h => h) (fun h => h) (fun _ _ h => h)
theorem Nc.drew {L : Srv → Nat → Value} {w : World} {b bc bs : Nat} {A : Option Addr} {n cc : Nat} {x : Int} {z : Nat → Int} {N : Nat} {K : Cs} (h : Nc L w b bc bs A n cc x z N K) : Nc L w.drew b bc bs A n cc x z N K := h.below (w' := w.drew) ((Below.refl _ _).drew)
theorem Nc.drewN {L : Srv → Nat → Value} {w : World} {b bc bs : Nat} {A : Option Addr} {n cc : Nat} {x : Int} {z : Nat → Int} {N : Nat} {K : Cs} (h : Nc L w b bc bs A n cc x z N K) (q : Nat) : Nc L (w.drewN q) b bc bs A n cc x z N K := h.below (w' := w.drewN q) (below_drewN (Below.refl _ _) q)
/-- The clock was read, or turned. -/
theorem Nc.clock {L : Srv → Nat → Value} {w w' : World} {b bc bs : Nat} {A : Option Addr} {n cc : Nat} {x : Int} {z : Nat → Int} {N : Nat} {K : Cs} (h : Nc L w b bc bs A n cc x z N K) (k : Only bc w w') {c t l : Int} (i : Ints3 w' bc c t l) : Nc L w' b bc bs A n cc x z N { K with c := c, t := t, l := l } := by
  have e := fun o => k.cell b o h.lt h.d1
  have es := fun o => k.cell bs o h.sl h.d3.symm
  have hz := k.size
  have l1 := h.lt
  have l2 := h.sl
  exact ⟨(e 0).trans h.c0, (e 1).trans h.c1, (e 2).trans h.c2, (e 3).trans h.c3, (e 4).trans h.c4, (e 5).trans h.c5, fun j => (k.frozen b j h.lt h.d1).trans (h.f j), by omega, i, h.tab.only k (fun ad ha => (h.dA ad ha).2.1), fun i hi j hj => (es _).trans (h.sv i hi j hj), fun j => (k.frozen bs j h.sl h.d3.symm).trans (h.sf j), by omega, h.d1, h.d2, h.d3, h.dA, h.tb⟩
/-- A store of one cell, at the client's head or in its servers. -/
theorem Nc.store {L : Srv → Nat → Value} {w : World} {b bc bs : Nat} {A : Option Addr} {n cc : Nat} {x : Int} {z : Nat → Int} {N : Nat} {K : Cs} (h : Nc L w b bc bs A n cc x z N K) (i j : Nat) (hi : i < N) (hj : j < 6) (s : Srv) (v : Value) (hv : L s j = v) (ho : ∀ k, k < 6 → k ≠ j → L s k = L (K.S i) k) : Nc L (w.setCell ⟨bs, i * 6 + j, none⟩ v) b bc bs A n cc x z N { K with S := updS K.S i s } := by
  have e : ∀ o, (w.setCell ⟨bs, i * 6 + j, none⟩ v).cell? ⟨b, o, none⟩ = w.cell? ⟨b, o, none⟩ := fun o => World.cell?_setCell_other _ _ _ _ (by have := h.d2; simp; (try omega))
  have hz : (w.setCell ⟨bs, i * 6 + j, none⟩ v).heap.size = w.heap.size := by simp [World.setCell]
  refine ⟨(e 0).trans h.c0, (e 1).trans h.c1, (e 2).trans h.c2, (e 3).trans h.c3, (e 4).trans h.c4, (e 5).trans h.c5, fun j => by simpa using h.f j, by rw [hz]; exact h.lt, h.clk.other (by have := h.d3; exact fun e => this e.symm) _, ?_, ?_, fun j => by simpa using h.sf j, by rw [hz]; exact h.sl, h.d1, h.d2, h.d3, h.dA, h.tb⟩
  · intro hn
    obtain ⟨B, O, hA, hB, hc⟩ := h.tab hn
    have hne : B ≠ bs := by subst hA; exact (h.dA _ rfl).2.2
    exact ⟨B, O, hA, by rw [hz]; exact hB, fun q hq => ⟨(World.cell?_setCell_other _ _ _ _ (by simp; (try omega))).trans (hc q hq).1, (hc q hq).2⟩⟩
  · intro i' hi' j' hj'
    by_cases hk : i' = i ∧ j' = j
    · obtain ⟨rfl, rfl⟩ := hk
      rw [World.cell?_setCell_same _ _ _ (h.sv i' hi' j' hj')]
      simp only [updS_same, hv]
    · rw [World.cell?_setCell_other _ _ _ _ (by simp; (try omega)), h.sv i' hi' j' hj']
      by_cases h2 : i' = i
      · subst h2
        simp only [updS_same]
        rw [ho j' hj' (fun e => hk ⟨rfl, e⟩)]
      · simp only [updS_other _ _ _ h2]
theorem Nc.head {L : Srv → Nat → Value} {w : World} {b bc bs : Nat} {A : Option Addr} {n cc : Nat} {x : Int} {z : Nat → Int} {N : Nat} {K : Cs} (h : Nc L w b bc bs A n cc x z N K) (o : Nat) (v : Value) : FlatAt (w.setCell ⟨b, o, none⟩ v) A 2 n z ∧ Ints3 (w.setCell ⟨b, o, none⟩ v) bc K.c K.t K.l ∧ (∀ i, i < N → ∀ j, j < 6 → (w.setCell ⟨b, o, none⟩ v).cell? ⟨bs, i * 6 + j, none⟩ = some (L (K.S i) j)) := by
  have hz : (w.setCell ⟨b, o, none⟩ v).heap.size = w.heap.size := by simp [World.setCell]
  refine ⟨?_, h.clk.other (by have := h.d1; exact this) _, fun i hi j hj => (World.cell?_setCell_other _ _ _ _ (by have := h.d2; simp; (try omega))).trans (h.sv i hi j hj)⟩
  intro hn
  obtain ⟨B, O, hA, hB, hc⟩ := h.tab hn
  have hne : B ≠ b := by subst hA; exact (h.dA _ rfl).1
  exact ⟨B, O, hA, by rw [hz]; exact hB, fun q hq => ⟨(World.cell?_setCell_other _ _ _ _ (by simp; (try omega))).trans (hc q hq).1, (hc q hq).2⟩⟩
theorem Nc.setN {L : Srv → Nat → Value} {w : World} {b bc bs : Nat} {A : Option Addr} {n cc : Nat} {x : Int} {z : Nat → Int} {N : Nat} {K : Cs} (h : Nc L w b bc bs A n cc x z N K) (m : Int) : Nc L (w.setCell ⟨b, 4, none⟩ (.int .u64 m)) b bc bs A n cc x z N { K with n := m } := by
  obtain ⟨h1, h2, h3⟩ := h.head 4 (.int .u64 m)
  have e : ∀ o, o ≠ 4 → (w.setCell ⟨b, 4, none⟩ (.int .u64 m)).cell? ⟨b, o, none⟩ = w.cell? ⟨b, o, none⟩ := fun o ho => World.cell?_setCell_other _ _ _ _ (by simp; (try omega))
  have hz : (w.setCell ⟨b, 4, none⟩ (.int .u64 m)).heap.size = w.heap.size := by simp [World.setCell]
  exact ⟨(e 0 (by omega)).trans h.c0, (e 1 (by omega)).trans h.c1, (e 2 (by omega)).trans h.c2, (e 3 (by omega)).trans h.c3, World.cell?_setCell_same _ _ _ h.c4, (e 5 (by omega)).trans h.c5, fun j => by simpa using h.f j, by rw [hz]; exact h.lt, h2, h1, h3, fun j => by simpa using h.sf j, by rw [hz]; exact h.sl, h.d1, h.d2, h.d3, h.dA, h.tb⟩
theorem Nc.setY {L : Srv → Nat → Value} {w : World} {b bc bs : Nat} {A : Option Addr} {n cc : Nat} {x : Int} {z : Nat → Int} {N : Nat} {K : Cs} (h : Nc L w b bc bs A n cc x z N K) (m : Int) : Nc L (w.setCell ⟨b, 5, none⟩ (.int .i64 m)) b bc bs A n cc x z N { K with syn := m } := by
  obtain ⟨h1, h2, h3⟩ := h.head 5 (.int .i64 m)
  have e : ∀ o, o ≠ 5 → (w.setCell ⟨b, 5, none⟩ (.int .i64 m)).cell? ⟨b, o, none⟩ = w.cell? ⟨b, o, none⟩ := fun o ho => World.cell?_setCell_other _ _ _ _ (by simp; (try omega))
  have hz : (w.setCell ⟨b, 5, none⟩ (.int .i64 m)).heap.size = w.heap.size := by simp [World.setCell]
  exact ⟨(e 0 (by omega)).trans h.c0, (e 1 (by omega)).trans h.c1, (e 2 (by omega)).trans h.c2, (e 3 (by omega)).trans h.c3, (e 4 (by omega)).trans h.c4, World.cell?_setCell_same _ _ _ h.c5, fun j => by simpa using h.f j, by rw [hz]; exact h.lt, h2, h1, h3, fun j => by simpa using h.sf j, by rw [hz]; exact h.sl, h.d1, h.d2, h.d3, h.dA, h.tb⟩
/-- A server's six cells, as the walk names them, the code's. -/
theorem Nc.six {w : World} {b bc bs : Nat} {A : Option Addr} {n cc : Nat} {x : Int} {z : Nat → Int} {N : Nat} {K : Cs} (h : Nc layP w b bc bs A n cc x z N K) (i : Nat) (hi : i < N) :
    w.cell? ⟨bs, i * 6, none⟩ = some (.int .u64 (K.S i).q) ∧ w.cell? ⟨bs, i * 6 + 1, none⟩ = some (.int .i64 (K.S i).a) ∧ w.cell? ⟨bs, i * 6 + 2, none⟩ = some (.bool (K.S i).has) ∧ w.cell? ⟨bs, i * 6 + 3, none⟩ = some (.int .i64 (K.S i).h) ∧ w.cell? ⟨bs, i * 6 + 4, none⟩ = some (.int .i64 (K.S i).lo) ∧ w.cell? ⟨bs, i * 6 + 5, none⟩ = some (.int .i64 (K.S i).hi) :=
  ⟨h.sv i hi 0 (by omega), h.sv i hi 1 (by omega), h.sv i hi 2 (by omega), h.sv i hi 3 (by omega), h.sv i hi 4 (by omega), h.sv i hi 5 (by omega)⟩
/-- The reference's. -/
theorem Nc.sixR {w : World} {b bc bs : Nat} {A : Option Addr} {n cc : Nat} {x : Int} {z : Nat → Int} {N : Nat} {K : Cs} (h : Nc layR w b bc bs A n cc x z N K) (i : Nat) (hi : i < N) :
    w.cell? ⟨bs, i * 6, none⟩ = some (.int .u64 (K.S i).q) ∧ w.cell? ⟨bs, i * 6 + 1, none⟩ = some (.int .i64 (K.S i).a) ∧ w.cell? ⟨bs, i * 6 + 2, none⟩ = some (.int .i64 (K.S i).lo) ∧ w.cell? ⟨bs, i * 6 + 3, none⟩ = some (.int .i64 (K.S i).hi) ∧ w.cell? ⟨bs, i * 6 + 4, none⟩ = some (.bool (K.S i).has) ∧ w.cell? ⟨bs, i * 6 + 5, none⟩ = some (.int .i64 (K.S i).h) :=
  ⟨h.sv i hi 0 (by omega), h.sv i hi 1 (by omega), h.sv i hi 2 (by omega), h.sv i hi 3 (by omega), h.sv i hi 4 (by omega), h.sv i hi 5 (by omega)⟩
end Go.Proofs.YtepdnkpmkhjlgaaGreat

/- NTP: a stamp as TAI, near a day; the nanoseconds of a part. -/
namespace Go.Proofs.YtepdnkpmkhjlgaaGreat
open Go.RowKit Go.Sort

theorem nan_bd (p : Int) (h0 : 0 ≤ p) (h1 : p ≤ 4294967295) : 0 ≤ nanV p ∧ nanV p ≤ 65536000000000 := by unfold nanV; omega
theorem ntp_nanos (p : Int) (w : World) (h0 : 0 ≤ p) (h1 : p ≤ 4294967295) : Calls Tryz.prog 69 #[.int .i64 p] w fun e w' => e = .returned (.int .i64 (nanV p)) ∧ w = w' := by
  have e1 : IntKind.i64.wrap (p * 1000000000) = p * 1000000000 := IntWalk.i64_in _ (by omega)
  have e2 : IntKind.i64.wrap (p * 1000000000 + 65536) = p * 1000000000 + 65536 := IntWalk.i64_in _ (by omega)
  have e3 : IntKind.i64.wrap (p * 1000000000 + 65536 - 1) = p * 1000000000 + 65536 - 1 := IntWalk.i64_in _ (by omega)
  have e4 : (p * 1000000000 + 65536 - 1).tdiv 65536 = nanV p := by rw [Int.tdiv_eq_ediv_of_nonneg (by omega)]; unfold nanV; congr 1; omega
  have e5 := nan_bd p h0 h1
  have e6 : IntKind.i64.wrap (nanV p) = nanV p := IntWalk.i64_in _ (by omega)
  generalize nanV p = q at *
  go_enter Tryz.func69, Tryz.ntmps69
  go_wp2
  go_ret
  exact ⟨rfl, rfl⟩
set_option maxRecDepth 100000 in
set_option maxHeartbeats 4000000 in
theorem ntp_time {w : World} {b bc bs : Nat} {A : Option Addr} {n cc : Nat} {x : Int} {z : Nat → Int} {N : Nat} {K : Cs} (h : Nc layP w b bc bs A n cc x z N K) (s day : Int) (s0 : 0 ≤ s) (s1 : s < 18446744073709551616) (d0 : -1 ≤ day) (d1 : day ≤ 106752) :
    Calls Tryz.prog 68 #[.pointer (some ⟨b, 0, none⟩), .int .u64 s, .int .i64 day] w fun e w' => e = .returned (.tuple #[.int .i64 (momV z n x s day).1, .int .i64 (momV z n x s day).2]) ∧ Below w.heap.size w w' := by
  have hn : n ≤ maxLen := by have := h.tb.2.1; unfold maxLen; omega
  have hdy : dayB day = true := dayB_mk (by omega) (by omega)
  have bN := nearDay_bd s day d0 d1
  have bM := nearNano_bd s day s0
  have HN0 := fun W : World => era_near s day W s0 s1
  have hNR : nearR s day = if dayB (nearDay s day) then .tuple #[.agg #[.int .i64 (nearDay s day), .int .i64 (nearNano s day)], .int .i64 0] else .tuple #[.agg #[.int .i64 0, .int .i64 0], .int .i64 11] := by unfold nearR; rw [if_pos hdy]
  have HZ := Lib.hid (fun (W : World) (k : Below w.heap.size w W) => h.below k)
  have hlb := h.lt
  by_cases hd : dayB (nearDay s day) = false
  · as_aux_lemma =>
    rw [hNR, hd] at HN0
    simp only [Bool.false_eq_true, if_false] at HN0
    have HN := Lib.hid HN0
    have hv : momV z n x s day = (0, 11) := by unfold momV; rw [if_pos hd]
    rw [hv]
    clear HN0 hNR hd bN bM hv
    go_enter Tryz.func68, Tryz.ntmps68
    go_wp2_with fail
    refine (HN.out w).mono ?_; rintro e w1 ⟨rfl, k1⟩
    have z1 := k1.size
    go_wp2_with fail
    go_ret2
    exact ⟨rfl, by (repeat' (first | (with_reducible exact Below.refl _ _) | (with_reducible assumption) | (with_reducible refine Below.trans ?_ (Below.mono (by with_reducible assumption) ?_)) | (with_reducible refine Below.alloc ?_ ?_ _) | (with_reducible refine Below.setCell ?_ ?_ _) | (with_reducible refine below_drewN ?_ _) | (with_reducible refine Below.drew ?_) | go_size))⟩
  · as_aux_lemma =>
    have hd' : dayB (nearDay s day) = true := by cases hq : dayB (nearDay s day) <;> simp_all
    rw [hNR, hd'] at HN0
    simp only [if_true] at HN0
    have HN := Lib.hid HN0
    have hdb := dayB_yes hd'
    have hv : momV z n x s day = if x ≤ nearDay s day then (0, 13) else if lenN z n (nearDay s day) * 1000000000 ≤ nearNano s day then (0, 11) else (taiN z n (nearDay s day) (nearNano s day), 0) := by unfold momV; rw [if_neg (by rw [hd']; simp)]
    rw [hv]
    have HLT := Lib.hid (fun (W : World) (k : Below w.heap.size w W) (q : lenN z n (nearDay s day) * 1000000000 ≤ nearNano s day) => scale_tai_late A n cc x (nearDay s day) (nearNano s day) z W (h.below k).tab h.tb hdb.1 hdb.2 bM.1 q)
    have HOK := Lib.hid (fun (W : World) (k : Below w.heap.size w W) (q : nearNano s day < lenN z n (nearDay s day) * 1000000000) => scale_tai_ok A n cc x (nearDay s day) (nearNano s day) z W (h.below k).tab h.tb hdb.1 hdb.2 bM.1 q)
    have hTV : taiN z n (nearDay s day) (nearNano s day) = addS (addS (mulS (nearDay s day) 86400000000000) (nearNano s day)) (mulS (offK z (nearDay s day) n) 1000000000) := rfl
    rw [← hTV] at HOK
    generalize taiN z n (nearDay s day) (nearNano s day) = tv at *
    generalize lenN z n (nearDay s day) = ln at *
    generalize nearNano s day = nn at *
    generalize nearDay s day = nd at *
    clear HN0 hNR hd hd' hv hTV hdb bM
    by_cases hx : x ≤ nd
    · rw [if_pos hx]
      have t1 : decide (nd ≥ x) = true := by simpa using hx
      have t2 : decide (x ≤ nd) = true := by simpa using hx
      clear HLT HOK
      go_enter Tryz.func68, Tryz.ntmps68
      go_wp2_with fail
      refine (HN.out w).mono ?_; rintro e w1 ⟨rfl, k1⟩
      have z1 := k1.size
      have kk : Below w.heap.size w (w1.alloc (.cells #[.int .i64 nd, .int .i64 nn] 105)) := by (repeat' (first | (with_reducible exact Below.refl _ _) | (with_reducible assumption) | (with_reducible refine Below.trans ?_ (Below.mono (by with_reducible assumption) ?_)) | (with_reducible refine Below.alloc ?_ ?_ _) | (with_reducible refine Below.setCell ?_ ?_ _) | (with_reducible refine below_drewN ?_ _) | (with_reducible refine Below.drew ?_) | go_size))
      have hK := HZ.out _ kk
      have c1 := hK.c1
      have c2 := hK.c2
      have KB := Lib.hid kk
      clear hK kk
      go_wp2_with fail
      go_quiet (fail)
      go_wp2_with fail
      go_ret2
      exact ⟨rfl, below_drewN KB.out _⟩
    · rw [if_neg hx]
      have t1 : decide (nd ≥ x) = false := by simpa using hx
      have t2 : decide (x ≤ nd) = false := by simpa using hx
      clear hx
      by_cases hl : ln * 1000000000 ≤ nn
      · rw [if_pos hl]
        have HL := Lib.hid hl
        clear hl HOK
        go_enter Tryz.func68, Tryz.ntmps68
        go_wp2_with fail
        refine (HN.out w).mono ?_; rintro e w1 ⟨rfl, k1⟩
        have z1 := k1.size
        have kk : Below w.heap.size w (w1.alloc (.cells #[.int .i64 nd, .int .i64 nn] 105)) := by (repeat' (first | (with_reducible exact Below.refl _ _) | (with_reducible assumption) | (with_reducible refine Below.trans ?_ (Below.mono (by with_reducible assumption) ?_)) | (with_reducible refine Below.alloc ?_ ?_ _) | (with_reducible refine Below.setCell ?_ ?_ _) | (with_reducible refine below_drewN ?_ _) | (with_reducible refine Below.drew ?_) | go_size))
        have hK := HZ.out _ kk
        have c1 := hK.c1
        have c2 := hK.c2
        have KB := Lib.hid kk
        clear hK kk
        go_wp2_with fail
        go_quiet (fail)
        have u0 : ((w1.alloc (.cells #[.int .i64 nd, .int .i64 nn] 105)).drewN nq).cell? ⟨w1.heap.size, 0, none⟩ = some (.int .i64 nd) := by simp
        have u1 : ((w1.alloc (.cells #[.int .i64 nd, .int .i64 nn] 105)).drewN nq).cell? ⟨w1.heap.size, 1, none⟩ = some (.int .i64 nn) := by simp
        have c1 : ((w1.alloc (.cells #[.int .i64 nd, .int .i64 nn] 105)).drewN nq).cell? ⟨b, 1, none⟩ = some (.slice A n cc) := c1
        have c2 : ((w1.alloc (.cells #[.int .i64 nd, .int .i64 nn] 105)).drewN nq).cell? ⟨b, 2, none⟩ = some (.int .i64 x) := c2
        have KD : Hid (Below w.heap.size w ((w1.alloc (.cells #[.int .i64 nd, .int .i64 nn] 105)).drewN nq)) := Lib.hid (below_drewN KB.out nq)
        clear KB
        generalize (w1.alloc (.cells #[.int .i64 nd, .int .i64 nn] 105)).drewN nq = V at *
        have AC := Lib.hid fun (d' : Nat) (os : Array Obj) => Calls.regrown_of (HLT.out (grow (redrawn V d') os) (KD.out.trans ((below_regrown V d' os).mono KD.out.size)) HL.out)
        have kc1 := fun d os => cell_regrown c1 d os
        have kc2 := fun d os => cell_regrown c2 d os
        have ku0 := fun d os => cell_regrown u0 d os
        have ku1 := fun d os => cell_regrown u1 d os
        clear c1 c2 u0 u1
        go_wp2_with fail
        refine wp_region_quiet_below (by kernel_rfl) (by kernel_rfl) ?_
        repeat (go_big_quiet_step ((go_at_call 86; exact AC.out _ _)))
        refine wpQuiet_nil ?_
        intro _ hw'
        obtain ⟨⟨dq, osq⟩, hw''⟩ := hw'
        subst hw''
        go_wp2_with fail
        go_ret2
        exact ⟨rfl, KD.out.trans ((below_regrown V dq osq).mono KD.out.size)⟩
      · rw [if_neg hl]
        have HL := Lib.hid (show nn < ln * 1000000000 from by omega)
        clear hl HLT
        go_enter Tryz.func68, Tryz.ntmps68
        go_wp2_with fail
        refine (HN.out w).mono ?_; rintro e w1 ⟨rfl, k1⟩
        have z1 := k1.size
        have kk : Below w.heap.size w (w1.alloc (.cells #[.int .i64 nd, .int .i64 nn] 105)) := by (repeat' (first | (with_reducible exact Below.refl _ _) | (with_reducible assumption) | (with_reducible refine Below.trans ?_ (Below.mono (by with_reducible assumption) ?_)) | (with_reducible refine Below.alloc ?_ ?_ _) | (with_reducible refine Below.setCell ?_ ?_ _) | (with_reducible refine below_drewN ?_ _) | (with_reducible refine Below.drew ?_) | go_size))
        have hK := HZ.out _ kk
        have c1 := hK.c1
        have c2 := hK.c2
        have KB := Lib.hid kk
        clear hK kk
        go_wp2_with fail
        go_quiet (fail)
        have u0 : ((w1.alloc (.cells #[.int .i64 nd, .int .i64 nn] 105)).drewN nq).cell? ⟨w1.heap.size, 0, none⟩ = some (.int .i64 nd) := by simp
        have u1 : ((w1.alloc (.cells #[.int .i64 nd, .int .i64 nn] 105)).drewN nq).cell? ⟨w1.heap.size, 1, none⟩ = some (.int .i64 nn) := by simp
        have c1 : ((w1.alloc (.cells #[.int .i64 nd, .int .i64 nn] 105)).drewN nq).cell? ⟨b, 1, none⟩ = some (.slice A n cc) := c1
        have c2 : ((w1.alloc (.cells #[.int .i64 nd, .int .i64 nn] 105)).drewN nq).cell? ⟨b, 2, none⟩ = some (.int .i64 x) := c2
        have KD : Hid (Below w.heap.size w ((w1.alloc (.cells #[.int .i64 nd, .int .i64 nn] 105)).drewN nq)) := Lib.hid (below_drewN KB.out nq)
        clear KB
        generalize (w1.alloc (.cells #[.int .i64 nd, .int .i64 nn] 105)).drewN nq = V at *
        have AC := Lib.hid fun (d' : Nat) (os : Array Obj) => Calls.regrown_of (HOK.out (grow (redrawn V d') os) (KD.out.trans ((below_regrown V d' os).mono KD.out.size)) HL.out)
        have kc1 := fun d os => cell_regrown c1 d os
        have kc2 := fun d os => cell_regrown c2 d os
        have ku0 := fun d os => cell_regrown u0 d os
        have ku1 := fun d os => cell_regrown u1 d os
        clear c1 c2 u0 u1
        go_wp2_with fail
        refine wp_region_quiet_below (by kernel_rfl) (by kernel_rfl) ?_
        repeat (go_big_quiet_step ((go_at_call 86; exact AC.out _ _)))
        refine wpQuiet_nil ?_
        intro _ hw'
        obtain ⟨⟨dq, osq⟩, hw''⟩ := hw'
        subst hw''
        go_wp2_with fail
        go_ret2
        exact ⟨rfl, KD.out.trans ((below_regrown V dq osq).mono KD.out.size)⟩
end Go.Proofs.YtepdnkpmkhjlgaaGreat

/- NTP: both stamps of an answer as TAI. -/
namespace Go.Proofs.YtepdnkpmkhjlgaaGreat
open Go.RowKit Go.Sort

abbrev pkVal (p : Pk) : Value := .agg #[.int .i64 p.l, .int .i64 p.m, .int .i64 p.s, .int .i64 p.d, .int .i64 p.r, .int .u64 p.o, .int .u64 p.v, .int .u64 p.t]
/-- What times tells. -/
def tmsV (z : Nat → Int) (n : Nat) (x : Int) (p : Pk) (hd : Int) : Int × Int × Int :=
  if hd = 9223372036854775807 then (0, 0, 11) else if (momV z n x p.v (utcD z n hd)).2 ≠ 0 then (0, 0, (momV z n x p.v (utcD z n hd)).2)
  else if (momV z n x p.t (utcD z n hd)).2 ≠ 0 then (0, 0, (momV z n x p.t (utcD z n hd)).2) else ((momV z n x p.v (utcD z n hd)).1, (momV z n x p.t (utcD z n hd)).1, 0)
theorem scale_utc_max (A : Option Addr) (n c : Nat) (x : Int) (z : Nat → Int) (w : World) (hz : FlatAt w A 2 n z) (hT : IsTab z n x) :
    Calls Tryz.prog 67 #[.agg #[.slice A n c, .int .i64 x], .int .i64 9223372036854775807] w fun e w' => e = .returned (.tuple #[.agg #[.int .i64 0, .int .i64 0], .int .i64 11]) ∧ Below w.heap.size w w' := by
  have HB0 : Below w.heap.size w ((w.alloc (.cells #[.slice A n c, .int .i64 x] 24)).alloc (.cells #[.int .i64 0, .int .i64 0] 105)) := by (repeat' (first | (with_reducible exact Below.refl _ _) | (with_reducible assumption) | (with_reducible refine Below.trans ?_ (Below.mono (by with_reducible assumption) ?_)) | (with_reducible refine Below.alloc ?_ ?_ _) | (with_reducible refine Below.setCell ?_ ?_ _) | (with_reducible refine below_drewN ?_ _) | (with_reducible refine Below.drew ?_) | go_size))
  have HIS := Lib.hid (leap_is_yes A n c x z _ (hz.below HB0) hT)
  have l0 : w.heap.size + 1 < ((w.alloc (.cells #[.slice A n c, .int .i64 x] 24)).alloc (.cells #[.int .i64 0, .int .i64 0] 105)).heap.size := by simp
  have I0 : Ints2 ((w.alloc (.cells #[.slice A n c, .int .i64 x] 24)).alloc (.cells #[.int .i64 0, .int .i64 0] 105)) (w.heap.size + 1) 0 0 := by
    have := Ints2.new (w.alloc (.cells #[.slice A n c, .int .i64 x] 24)) 0 0 105
    rwa [World.size_alloc] at this
  clear hz
  go_enter Tryz.func67, Tryz.ntmps67
  go_wp2_with fail
  refine HIS.out.mono ?_; rintro e w1 ⟨rfl, k1⟩
  have I1 := I0.below k1 l0
  have HB1 := HB0.trans (k1.mono HB0.size)
  have J := (I1.set0 0).set1 0
  have JC := Lib.hid (And.intro J.c0 J.c1)
  obtain ⟨i0, i1, if0, if1, il⟩ := I1
  have HB2 := Lib.hid ((HB1.setCell (p := ⟨w.heap.size + 1, 0, none⟩) (Nat.le_succ _) (.int .i64 0)).setCell (p := ⟨w.heap.size + 1, 1, none⟩) (Nat.le_succ _) (.int .i64 0))
  clear k1 HB0 HB1 I0 J l0 HIS
  go_wp2_with fail
  have j0 := JC.out.1
  have j1 := JC.out.2
  refine bodyPost_ret (v := .tuple #[.agg #[.int .i64 0, .int .i64 0], .int .i64 11]) (by simp [results, Tryz.results67, go_sem, j0, j1]) rfl ⟨rfl, HB2.out⟩
set_option maxRecDepth 100000 in
set_option maxHeartbeats 4000000 in
theorem ntp_times {w : World} {b bc bs : Nat} {A : Option Addr} {n cc : Nat} {x : Int} {z : Nat → Int} {N : Nat} {K : Cs} (h : Nc layP w b bc bs A n cc x z N K) (p : Pk) (hd : Int) (hp : p.ok) (h0 : 0 ≤ hd) (h1 : hd ≤ 9223372036854775807) :
    Calls Tryz.prog 40 #[.pointer (some ⟨b, 0, none⟩), pkVal p, .int .i64 hd] w fun e w' => e = .returned (.tuple #[.int .i64 (tmsV z n x p hd).1, .int .i64 (tmsV z n x p hd).2.1, .int .i64 (tmsV z n x p hd).2.2]) ∧ Below w.heap.size w w' := by
  obtain ⟨pl, pm, ps, pd, pr, po, pv, pt⟩ := p
  obtain ⟨v0, v1⟩ := hp.v
  obtain ⟨t0, t1⟩ := hp.t
  simp only at v0 v1 t0 t1
  show Calls Tryz.prog 40 #[.pointer (some ⟨b, 0, none⟩), .agg #[.int .i64 pl, .int .i64 pm, .int .i64 ps, .int .i64 pd, .int .i64 pr, .int .u64 po, .int .u64 pv, .int .u64 pt], .int .i64 hd] w _
  have hlb := h.lt
  have HW : Below w.heap.size w (w.alloc (.cells #[.int .i64 pl, .int .i64 pm, .int .i64 ps, .int .i64 pd, .int .i64 pr, .int .u64 po, .int .u64 pv, .int .u64 pt] 93)) := by (repeat' (first | (with_reducible exact Below.refl _ _) | (with_reducible assumption) | (with_reducible refine Below.trans ?_ (Below.mono (by with_reducible assumption) ?_)) | (with_reducible refine Below.alloc ?_ ?_ _) | (with_reducible refine Below.setCell ?_ ?_ _) | (with_reducible refine below_drewN ?_ _) | (with_reducible refine Below.drew ?_) | go_size))
  have hW := h.below HW
  have c1 := hW.c1
  have c2 := hW.c2
  have HH := Lib.hid (fun (W : World) (k : Below w.heap.size w W) => h.below k)
  by_cases hm : hd = 9223372036854775807
  · as_aux_lemma =>
    subst hm
    have HU := Lib.hid (scale_utc_max A n cc x z _ hW.tab h.tb)
    have hv : tmsV z n x ⟨pl, pm, ps, pd, pr, po, pv, pt⟩ 9223372036854775807 = (0, 0, 11) := by unfold tmsV; rw [if_pos rfl]
    rw [hv]
    clear hW
    go_enter Tryz.func40, Tryz.ntmps40
    go_wp2_with fail
    refine HU.out.mono ?_; rintro e w1 ⟨rfl, k1⟩
    have z1 := k1.size
    have kk := HW.trans (k1.mono HW.size)
    simp only [World.size_alloc] at z1
    go_wp2_with fail
    refine bodyPost_ret (v := .tuple #[.int .i64 0, .int .i64 0, .int .i64 11]) (by simp [results, Tryz.results40, go_sem]) rfl ⟨rfl, kk.alloc kk.size _⟩
  · as_aux_lemma =>
    have hb := utcD_bd (z := z) (n := n) hd h0 h1
    have HU := Lib.hid (scale_utc A n cc x hd z _ hW.tab h.tb (by omega) (by omega))
    have HUO := Lib.hid (fun d m q => (utc_of h.tb (tai := hd) (d := d) (m := m) q).1)
    have hv : tmsV z n x ⟨pl, pm, ps, pd, pr, po, pv, pt⟩ hd = if (momV z n x pv (utcD z n hd)).2 ≠ 0 then (0, 0, (momV z n x pv (utcD z n hd)).2)
        else if (momV z n x pt (utcD z n hd)).2 ≠ 0 then (0, 0, (momV z n x pt (utcD z n hd)).2) else ((momV z n x pv (utcD z n hd)).1, (momV z n x pt (utcD z n hd)).1, 0) := by unfold tmsV; rw [if_neg hm]
    rw [hv]
    have HT2 := Lib.hid (fun (W : World) (k : Below w.heap.size w W) => ntp_time (h.below k) pv (utcD z n hd) v0 v1 hb.1 hb.2)
    have HT3 := Lib.hid (fun (W : World) (k : Below w.heap.size w W) => ntp_time (h.below k) pt (utcD z n hd) t0 t1 hb.1 hb.2)
    generalize momV z n x pv (utcD z n hd) = q2 at *
    generalize momV z n x pt (utcD z n hd) = q3 at *
    obtain ⟨a2, e2⟩ := q2
    obtain ⟨a3, e3⟩ := q3
    simp only at HT2 HT3 ⊢
    clear hW hv hm
    have hn2 : (utcD z n hd) = utcD z n hd := rfl
    obtain ⟨dd, hdd⟩ : ∃ dd, utcD z n hd = dd := ⟨_, rfl⟩
    rw [hdd] at HT2 HT3 HUO
    clear hdd hn2 hb
    by_cases he2 : e2 = 0
    · subst he2
      rw [if_neg (by simp)]
      by_cases he3 : e3 = 0
      · subst he3
        rw [if_neg (by simp)]
        go_enter Tryz.func40, Tryz.ntmps40
        go_wp2_with fail
        refine HU.out.mono ?_; rintro e w1 ⟨⟨d, m, rfl, hu, _, _⟩, k1⟩
        obtain rfl : d = dd := HUO.out d m hu
        have k2 := HW.trans (k1.mono HW.size)
        have z1 := k1.size
        simp only [World.size_alloc] at z1
        have y6 : w1.cell? ⟨w.heap.size, 6, none⟩ = some (.int .u64 pv) := (k1.cell (p := ⟨w.heap.size, 6, none⟩) (by simp)).trans (by simp)
        have y7 : w1.cell? ⟨w.heap.size, 7, none⟩ = some (.int .u64 pt) := (k1.cell (p := ⟨w.heap.size, 7, none⟩) (by simp)).trans (by simp)
        have ly : w.heap.size < w1.heap.size := by omega
        have KB := Lib.hid (k2.alloc k2.size (.cells #[.int .i64 d, .int .i64 m] 105))
        have F6 : (w1.alloc (.cells #[.int .i64 d, .int .i64 m] 105)).cell? ⟨w.heap.size, 6, none⟩ = some (.int .u64 pv) := by rw [World.cell?_alloc_past _ _ _ ly]; exact y6
        have F7 : (w1.alloc (.cells #[.int .i64 d, .int .i64 m] 105)).cell? ⟨w.heap.size, 7, none⟩ = some (.int .u64 pt) := by rw [World.cell?_alloc_past _ _ _ ly]; exact y7
        have F0 : (w1.alloc (.cells #[.int .i64 d, .int .i64 m] 105)).cell? ⟨w1.heap.size, 0, none⟩ = some (.int .i64 d) := by simp
        have LF : w1.heap.size < (w1.alloc (.cells #[.int .i64 d, .int .i64 m] 105)).heap.size := by simp
        have FF := Lib.hid (And.intro F7 (And.intro F0 (And.intro LF ly)))
        clear k1 k2 hu F6 F7 F0 LF
        go_wp2_with fail
        refine (HT2.out _ KB.out).mono ?_; rintro e w2 ⟨rfl, k3⟩
        have g7 := (k3.cell (p := ⟨w.heap.size, 7, none⟩) (Nat.lt_trans FF.out.2.2.2 FF.out.2.2.1)).trans FF.out.1
        have g0 := (k3.cell (p := ⟨w1.heap.size, 0, none⟩) FF.out.2.2.1).trans FF.out.2.1
        have KC := Lib.hid (KB.out.trans (k3.mono KB.out.size))
        clear k3 y6 y7
        go_wp2_with fail
        refine (HT3.out _ KC.out).mono ?_; rintro e w3 ⟨rfl, k4⟩
        have KE := Lib.hid (KC.out.trans (k4.mono KC.out.size))
        clear k4
        go_wp2_with fail
        refine bodyPost_ret (v := .tuple #[.int .i64 a2, .int .i64 a3, .int .i64 0]) (by simp [results, Tryz.results40, go_sem]) rfl ⟨rfl, KE.out⟩
      · rw [if_pos he3]
        have t3 : (e3 != 0) = true := by simpa using he3
        have t3' : (e3 == 0) = false := by simpa using he3
        clear he3
        go_enter Tryz.func40, Tryz.ntmps40
        go_wp2_with fail
        refine HU.out.mono ?_; rintro e w1 ⟨⟨d, m, rfl, hu, _, _⟩, k1⟩
        obtain rfl : d = dd := HUO.out d m hu
        have k2 := HW.trans (k1.mono HW.size)
        have z1 := k1.size
        simp only [World.size_alloc] at z1
        have y6 : w1.cell? ⟨w.heap.size, 6, none⟩ = some (.int .u64 pv) := (k1.cell (p := ⟨w.heap.size, 6, none⟩) (by simp)).trans (by simp)
        have y7 : w1.cell? ⟨w.heap.size, 7, none⟩ = some (.int .u64 pt) := (k1.cell (p := ⟨w.heap.size, 7, none⟩) (by simp)).trans (by simp)
        have ly : w.heap.size < w1.heap.size := by omega
        have KB := Lib.hid (k2.alloc k2.size (.cells #[.int .i64 d, .int .i64 m] 105))
        have F6 : (w1.alloc (.cells #[.int .i64 d, .int .i64 m] 105)).cell? ⟨w.heap.size, 6, none⟩ = some (.int .u64 pv) := by rw [World.cell?_alloc_past _ _ _ ly]; exact y6
        have F7 : (w1.alloc (.cells #[.int .i64 d, .int .i64 m] 105)).cell? ⟨w.heap.size, 7, none⟩ = some (.int .u64 pt) := by rw [World.cell?_alloc_past _ _ _ ly]; exact y7
        have F0 : (w1.alloc (.cells #[.int .i64 d, .int .i64 m] 105)).cell? ⟨w1.heap.size, 0, none⟩ = some (.int .i64 d) := by simp
        have LF : w1.heap.size < (w1.alloc (.cells #[.int .i64 d, .int .i64 m] 105)).heap.size := by simp
        have FF := Lib.hid (And.intro F7 (And.intro F0 (And.intro LF ly)))
        clear k1 k2 hu F6 F7 F0 LF
        go_wp2_with fail
        refine (HT2.out _ KB.out).mono ?_; rintro e w2 ⟨rfl, k3⟩
        have g7 := (k3.cell (p := ⟨w.heap.size, 7, none⟩) (Nat.lt_trans FF.out.2.2.2 FF.out.2.2.1)).trans FF.out.1
        have g0 := (k3.cell (p := ⟨w1.heap.size, 0, none⟩) FF.out.2.2.1).trans FF.out.2.1
        have KC := Lib.hid (KB.out.trans (k3.mono KB.out.size))
        clear k3 y6 y7
        go_wp2_with fail
        refine (HT3.out _ KC.out).mono ?_; rintro e w3 ⟨rfl, k4⟩
        have KE := Lib.hid (KC.out.trans (k4.mono KC.out.size))
        clear k4
        go_wp2_with fail
        refine bodyPost_ret (v := .tuple #[.int .i64 0, .int .i64 0, .int .i64 e3]) (by simp [results, Tryz.results40, go_sem]) rfl ⟨rfl, KE.out⟩
    · rw [if_pos he2]
      have t2 : (e2 != 0) = true := by simpa using he2
      have t2' : (e2 == 0) = false := by simpa using he2
      clear he2
      go_enter Tryz.func40, Tryz.ntmps40
      go_wp2_with fail
      refine HU.out.mono ?_; rintro e w1 ⟨⟨d, m, rfl, hu, _, _⟩, k1⟩
      obtain rfl : d = dd := HUO.out d m hu
      have k2 := HW.trans (k1.mono HW.size)
      have z1 := k1.size
      simp only [World.size_alloc] at z1
      have y6 : w1.cell? ⟨w.heap.size, 6, none⟩ = some (.int .u64 pv) := (k1.cell (p := ⟨w.heap.size, 6, none⟩) (by simp)).trans (by simp)
      have y7 : w1.cell? ⟨w.heap.size, 7, none⟩ = some (.int .u64 pt) := (k1.cell (p := ⟨w.heap.size, 7, none⟩) (by simp)).trans (by simp)
      have ly : w.heap.size < w1.heap.size := by omega
      have KB := Lib.hid (k2.alloc k2.size (.cells #[.int .i64 d, .int .i64 m] 105))
      have F6 : (w1.alloc (.cells #[.int .i64 d, .int .i64 m] 105)).cell? ⟨w.heap.size, 6, none⟩ = some (.int .u64 pv) := by rw [World.cell?_alloc_past _ _ _ ly]; exact y6
      have F7 : (w1.alloc (.cells #[.int .i64 d, .int .i64 m] 105)).cell? ⟨w.heap.size, 7, none⟩ = some (.int .u64 pt) := by rw [World.cell?_alloc_past _ _ _ ly]; exact y7
      have F0 : (w1.alloc (.cells #[.int .i64 d, .int .i64 m] 105)).cell? ⟨w1.heap.size, 0, none⟩ = some (.int .i64 d) := by simp
      have LF : w1.heap.size < (w1.alloc (.cells #[.int .i64 d, .int .i64 m] 105)).heap.size := by simp
      have FF := Lib.hid (And.intro F7 (And.intro F0 (And.intro LF ly)))
      clear k1 k2 hu F6 F7 F0 LF
      go_wp2_with fail
      refine (HT2.out _ KB.out).mono ?_; rintro e w2 ⟨rfl, k3⟩
      have g7 := (k3.cell (p := ⟨w.heap.size, 7, none⟩) (Nat.lt_trans FF.out.2.2.2 FF.out.2.2.1)).trans FF.out.1
      have g0 := (k3.cell (p := ⟨w1.heap.size, 0, none⟩) FF.out.2.2.1).trans FF.out.2.1
      have KC := Lib.hid (KB.out.trans (k3.mono KB.out.size))
      clear k3 y6 y7
      go_wp2_with fail
      refine bodyPost_ret (v := .tuple #[.int .i64 0, .int .i64 0, .int .i64 e2]) (by simp [results, Tryz.results40, go_sem]) rfl ⟨rfl, KC.out⟩
end Go.Proofs.YtepdnkpmkhjlgaaGreat

