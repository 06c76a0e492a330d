/- Stage 18: StreamComes: whatever is lost, doubled and late, each record comes in order and once, and in the end all do: the claim (for every n and every weather). -/
import Derived.Deep.AppendLies
import Derived.Deep.AppendSrc
import Derived.Deep.DeepCutAuto
import Derived.Deep.MidRow
import Derived.Great.BuildSlice
import Derived.OrdersHeld
import Derived.Test.YtdffldlcbihjmaaDoorBase
import Derived.Test.YtdffldlcbihjmaaDoorBut
import Derived.Test.YtdffldlcbihjmaaDoorG17d
import Derived.Test.YtdffldlcbihjmaaDoorLaw
import Derived.Test.YtdffldlcbihjmaaDoorScG
/- The lower bits of a number. -/
set_option linter.unusedSimpArgs false
set_option linter.unusedVariables false
namespace Go.Proofs.YtdffldlcbihjmaaDoor
open Go.RowKit

theorem bits_and_le (x : Int) (k : Nat) (hk : k < 9223372036854775808) : 0 ≤ bits .and .i64 x (k : Int) ∧ bits .and .i64 x (k : Int) ≤ k := by
  have h : bits .and .i64 x (k : Int) = IntKind.i64.wrap ((BitVec.ofInt 64 x &&& BitVec.ofInt 64 (k : Int)).toNat : Int) := rfl
  have e0 : (BitVec.ofInt 64 (k : Int)).toNat = k := by
    rw [BitVec.ofInt_natCast, BitVec.toNat_ofNat]
    exact Nat.mod_eq_of_lt (by omega)
  have e : (BitVec.ofInt 64 x &&& BitVec.ofInt 64 (k : Int)).toNat ≤ k := by
    rw [BitVec.toNat_and]
    exact Nat.le_trans Nat.and_le_right (by omega)
  rw [h, IntWalk.i64_in _ (by omega)]
  omega
end Go.Proofs.YtdffldlcbihjmaaDoor

/- A step of a region that draws its order, in one word: an operation that may be taken first is taken, and what it lays is reckoned. -/
namespace Go.Proofs.YtdffldlcbihjmaaDoor
open Go.RowKit

theorem tk9 {P : Program} {md : Region.Mode} {ops : Array Oper} {Q : Exit → Act → World → Prop} {S : World → Prop} (i : Nat) {oi : Oper} {v : Value} {fuel : Nat} {listed listed' : Array Bool} {a a' : Act} {w : World}
    (h : wpAnyH P md ops Q S fuel listed' a' w) (hi : ops[i]? = some oi := by rfl) (hs : Region.noSelect ops = true := by kernel_rfl) (hf : Region.free md ops listed i = true := by kernel_rfl) (hr : (Region.ready md ops listed).contains i = true := by kernel_rfl)
    (hy : YieldsIf P ops S oi v a := by exact Or.inl ⟨by rfl, by intro w' hSw; (try dsimp only at hSw); go_simp; (try with_reducible rfl)⟩)
    (hQ : ∀ c a w, Q (.panic c) (a.put oi.dst v) w → Q (.panic c) a w := by exact fun _ _ _ h => h) (hS : S w := by assumption)
    (ha : a.put oi.dst v = a' := by (try simp only [Act.put, List.setIfInBounds_toArray, List.set_cons_zero, List.set_cons_succ, List.getElem_toArray, List.getElem_cons_succ, List.getElem_cons_zero]); rfl)
    (hl : listed.setIfInBounds i true = listed' := by (try simp only [List.setIfInBounds_toArray, List.set_cons_zero, List.set_cons_succ]); rfl) : wpAnyH P md ops Q S (fuel + 1) listed a w := by
  subst ha
  subst hl
  exact wpAnyH_take hi hs hf hr hQ hy hS h
/-- What was laid is reckoned. -/
theorem pt9 {P : Program} {md : Region.Mode} {ops : Array Oper} {Q : Exit → Act → World → Prop} {S : World → Prop} {fuel : Nat} {listed listed' : Array Bool} {a a' : Act} {w : World} (h : wpAnyH P md ops Q S fuel listed' a' w)
    (ha : a = a' := by (try simp only [Act.put, List.setIfInBounds_toArray, List.set_cons_zero, List.set_cons_succ, List.getElem_toArray, List.getElem_cons_succ, List.getElem_cons_zero]); rfl)
    (hl : listed = listed' := by (try simp only [List.setIfInBounds_toArray, List.set_cons_zero, List.set_cons_succ]); rfl) : wpAnyH P md ops Q S fuel listed a w := by
  subst ha
  subst hl
  exact h
end Go.Proofs.YtdffldlcbihjmaaDoor

/- Stage 18: StreamComes as plain mathematics: the two sides and what is under way; that all comes. -/
namespace Go.Proofs.YtdffldlcbihjmaaDoor

/-- A message under way: the records a, .., a + c - 1 (d), or that so many are there. -/
structure Mw where
  d : Bool
  a : Nat
  c : Nat
/-- acked, sent, waited; applied; under way. -/
structure Sw where
  A : Nat
  S : Nat
  W : Nat
  P : Nat
  U : List Mw
structure Mw.Ok (P S : Nat) (m : Mw) : Prop where
  dat : m.d = true → 1 ≤ m.a ∧ 1 ≤ m.c ∧ m.c ≤ 8 ∧ m.a + m.c ≤ S + 1
  ack : m.d = false → m.a ≤ P
theorem Mw.Ok.mono {P S P' S' : Nat} {m : Mw} (h : m.Ok P S) (h1 : P ≤ P') (h2 : S ≤ S') : m.Ok P' S' :=
  ⟨fun q => by have := h.dat q; omega, fun q => by have := h.ack q; omega⟩
structure Sw.Ok (n : Nat) (s : Sw) : Prop where
  ap : s.A ≤ s.P
  ps : s.P ≤ s.S
  sn : s.S ≤ n
  us : ∀ m ∈ s.U, m.Ok s.P s.S
def phi : List Mw → Nat
  | [] => 0
  | m :: t => (if m.d = true then 2 else 1) + phi t
theorem phi_append : ∀ l m : List Mw, phi (l ++ m) = phi l + phi m
  | [], m => by simp [phi]
  | a :: t, m => by simp only [List.cons_append, phi, phi_append t m]; omega
theorem phi_len : ∀ l : List Mw, l.length ≤ phi l ∧ phi l ≤ 2 * l.length
  | [] => by simp [phi]
  | a :: t => by
    have := phi_len t
    simp only [phi, List.length_cons]
    split <;> omega
def tickW (s : Sw) : Sw := ⟨s.A, s.S, if s.A < s.S then s.W + 1 else s.W, s.P, s.U⟩
def dueW (n : Nat) (s : Sw) : Prop := s.S < n ∨ (s.A < n ∧ 4 ≤ s.W)
instance (n : Nat) (s : Sw) : Decidable (dueW n s) := by unfold dueW; exact inferInstance
def fromW (n : Nat) (s : Sw) : Nat := if s.S < n then s.S + 1 else s.A + 1
def manyW (n : Nat) (s : Sw) : Nat := min 8 (n + 1 - fromW n s)
def sentW (n : Nat) (s : Sw) : Sw := ⟨s.A, max s.S (fromW n s + manyW n s - 1), 0, s.P, s.U ++ [⟨true, fromW n s, manyW n s⟩]⟩
def sendW (n : Nat) (s : Sw) : Sw := if dueW n s then sentW n s else s
def loseW (s : Sw) : Sw := ⟨s.A, s.S, s.W, s.P, s.U.tail⟩
def dblU : List Mw → List Mw
  | [] => []
  | m :: t => if (m :: t).length < 50 then t ++ [m, m] else m :: t
theorem dblU_cons (m : Mw) (t : List Mw) : dblU (m :: t) = if (m :: t).length < 50 then t ++ [m, m] else m :: t := rfl
def dblW (s : Sw) : Sw := ⟨s.A, s.S, s.W, s.P, dblU s.U⟩
def comeP (P : Nat) (m : Mw) : Nat := if m.a ≤ P + 1 then max P (m.a + m.c - 1) else P
def dlOne (s : Sw) (m : Mw) (t : List Mw) : Sw :=
  if m.d = true then ⟨s.A, s.S, s.W, comeP s.P m, t ++ [⟨false, comeP s.P m, 0⟩]⟩
  else if s.A < m.a ∧ m.a ≤ s.S then ⟨m.a, s.S, 0, s.P, t⟩ else ⟨s.A, s.S, s.W, s.P, t⟩
def dlW (s : Sw) : Sw := match s.U with
  | [] => s
  | m :: t => dlOne s m t
def dlN : Nat → Sw → Sw
  | 0, s => s
  | k + 1, s => dlW (dlN k s)
def wthW (x : Nat) (s : Sw) : Sw := if x = 1 then loseW s else if x = 2 then dblW s else s
def rndW (n x : Nat) (s : Sw) : Sw := if x = 3 then wthW x (sendW n (tickW s)) else dlN 10 (wthW x (sendW n (tickW s)))

theorem Sw.Ok.tick {n : Nat} {s : Sw} (h : s.Ok n) : (tickW s).Ok n := ⟨h.ap, h.ps, h.sn, h.us⟩
theorem due_bd {n : Nat} {s : Sw} (h : s.Ok n) (hd : dueW n s) : 1 ≤ fromW n s ∧ 1 ≤ manyW n s ∧ manyW n s ≤ 8 ∧ fromW n s + manyW n s ≤ n + 1 ∧ s.A < fromW n s ∧ fromW n s ≤ s.S + 1 := by
  have h1 := h.ap
  have h2 := h.ps
  have h3 := h.sn
  unfold dueW at hd
  unfold manyW fromW
  split <;> omega
theorem Sw.Ok.sent {n : Nat} {s : Sw} (h : s.Ok n) (hd : dueW n s) : (sentW n s).Ok n := by
  have hb := due_bd h hd
  have h3 := h.sn
  refine ⟨h.ap, Nat.le_trans h.ps (Nat.le_max_left _ _), ?_, fun m hm => ?_⟩
  · show max s.S (fromW n s + manyW n s - 1) ≤ n
    omega
  · show m.Ok s.P (max s.S (fromW n s + manyW n s - 1))
    rcases List.mem_append.1 hm with q | q
    · exact (h.us m q).mono (Nat.le_refl _) (Nat.le_max_left _ _)
    · rw [List.mem_singleton.1 q]
      exact ⟨fun _ => ⟨hb.1, hb.2.1, hb.2.2.1, by show fromW n s + manyW n s ≤ _; omega⟩, fun q => by cases q⟩
theorem Sw.Ok.send {n : Nat} {s : Sw} (h : s.Ok n) : (sendW n s).Ok n := by
  unfold sendW
  split
  · exact h.sent (by assumption)
  · exact h
theorem dblU_mem {l : List Mw} {m : Mw} (h : m ∈ dblU l) : m ∈ l := by
  cases l with
  | nil => exact h
  | cons a t =>
    rw [dblU_cons] at h
    split at h
    · rcases List.mem_append.1 h with q | q
      · exact List.mem_cons_of_mem _ q
      · simp at q
        rw [q]
        exact List.mem_cons_self ..
    · exact h
theorem Sw.Ok.wth {n x : Nat} {s : Sw} (h : s.Ok n) : (wthW x s).Ok n := by
  unfold wthW
  split
  · exact ⟨h.ap, h.ps, h.sn, fun m hm => h.us m (List.mem_of_mem_tail hm)⟩
  split
  · exact ⟨h.ap, h.ps, h.sn, fun m hm => h.us m (dblU_mem hm)⟩
  · exact h
theorem come_bd {P S : Nat} {m : Mw} (hp : P ≤ S) (h : m.Ok P S) (hd : m.d = true) : P ≤ comeP P m ∧ comeP P m ≤ S := by
  have := h.dat hd
  unfold comeP
  split <;> omega
theorem Sw.Ok.one {n : Nat} {s : Sw} {m : Mw} {t : List Mw} (h : s.Ok n) (hu : s.U = m :: t) : (dlOne s m t).Ok n := by
  have hm := h.us m (by rw [hu]; exact List.mem_cons_self ..)
  have ht : ∀ x ∈ t, x.Ok s.P s.S := fun x hx => h.us x (by rw [hu]; exact List.mem_cons_of_mem _ hx)
  unfold dlOne
  split
  · rename_i hd
    have hb := come_bd h.ps hm hd
    refine ⟨Nat.le_trans h.ap hb.1, hb.2, h.sn, fun x hx => ?_⟩
    rcases List.mem_append.1 hx with q | q
    · exact (ht x q).mono hb.1 (Nat.le_refl _)
    · rw [List.mem_singleton.1 q]
      exact ⟨(fun q => by cases q), fun _ => Nat.le_refl _⟩
  · rename_i hd
    have ha := hm.ack (by simpa using hd)
    split
    · exact ⟨ha, h.ps, h.sn, ht⟩
    · exact ⟨h.ap, h.ps, h.sn, ht⟩
theorem Sw.Ok.dl {n : Nat} {s : Sw} (h : s.Ok n) : (dlW s).Ok n := by
  unfold dlW
  split
  · exact h
  · exact h.one (by assumption)
theorem Sw.Ok.dlN {n : Nat} {s : Sw} (h : s.Ok n) : ∀ k, (dlN k s).Ok n
  | 0 => h
  | k + 1 => (Sw.Ok.dlN h k).dl
theorem phi_dlW (s : Sw) : phi (dlW s).U = phi s.U - 1 := by
  unfold dlW
  split
  · rename_i hu
    rw [hu]
    rfl
  · rename_i m t hu
    rw [hu]
    have e : phi (m :: t) = (if m.d = true then 2 else 1) + phi t := rfl
    rw [e]
    unfold dlOne
    by_cases hd : m.d = true
    · rw [if_pos hd, if_pos hd]
      show phi (t ++ _) = _
      rw [phi_append]
      simp [phi]
      omega
    · rw [if_neg hd, if_neg hd]
      split
      · show phi t = _; omega
      · show phi t = _; omega
theorem phi_dlN (s : Sw) : ∀ k, phi (dlN k s).U = phi s.U - k
  | 0 => rfl
  | k + 1 => by
    show phi (dlW (dlN k s)).U = _
    rw [phi_dlW, phi_dlN s k]
    omega
theorem dlW_nil {s : Sw} (h : s.U = []) : dlW s = s := by
  unfold dlW
  rw [h]
theorem dlN_nil {s : Sw} (h : s.U = []) : ∀ k, dlN k s = s
  | 0 => rfl
  | k + 1 => by
    show dlW (dlN k s) = s
    rw [dlN_nil h k]
    exact dlW_nil h
theorem dlN_add (s : Sw) (j : Nat) : ∀ k, dlN (j + k) s = dlN k (dlN j s)
  | 0 => rfl
  | k + 1 => by
    show dlW (dlN (j + k) s) = dlW (dlN k (dlN j s))
    rw [dlN_add s j k]
theorem dlN_stop {s : Sw} {k j : Nat} (h : (dlN k s).U = []) (hj : k ≤ j) : dlN j s = dlN k s := by
  obtain ⟨d, rfl⟩ := Nat.exists_eq_add_of_le hj
  rw [dlN_add, dlN_nil h]
theorem phi_send (n : Nat) (s : Sw) : phi (sendW n s).U ≤ phi s.U + 2 := by
  unfold sendW
  split
  · show phi (s.U ++ _) ≤ _
    rw [phi_append]
    simp [phi]
  · omega
theorem phi_wth (x : Nat) (s : Sw) : phi (wthW x s).U ≤ max (phi s.U) 100 := by
  unfold wthW
  split
  · show phi s.U.tail ≤ _
    cases s.U with
    | nil => exact Nat.zero_le _
    | cons a t => simp only [List.tail_cons, phi]; omega
  split
  · show phi (dblU s.U) ≤ _
    cases s.U with
    | nil => exact Nat.zero_le _
    | cons a t =>
      rw [dblU_cons]
      split
      · rename_i h
        have := (phi_len (t ++ [a, a])).2
        simp at this h
        omega
      · omega
  · omega
theorem phi_rnd (n x : Nat) (s : Sw) : phi (rndW n x s).U ≤ max (phi s.U + 2) 100 := by
  have h1 := phi_send n (tickW s)
  have h2 := phi_wth x (sendW n (tickW s))
  have h3 : phi (tickW s).U = phi s.U := rfl
  unfold rndW
  split
  · omega
  · rw [phi_dlN]
    omega
theorem phi_calm (n : Nat) (s : Sw) : phi (rndW n 0 s).U ≤ phi s.U + 2 - 10 := by
  have h1 := phi_send n (tickW s)
  have h3 : phi (tickW s).U = phi s.U := rfl
  show phi (dlN 10 (sendW n (tickW s))).U ≤ _
  rw [phi_dlN]
  omega
theorem Sw.Ok.rnd {n x : Nat} {s : Sw} (h : s.Ok n) : (rndW n x s).Ok n := by
  unfold rndW
  split
  · exact h.tick.send.wth
  · exact h.tick.send.wth.dlN 10
/-- What is left to do. -/
def rankW (n : Nat) (s : Sw) : Nat := (n - s.S + 7) / 8 + (if s.S < n then 4 else 4 - min s.W 4) + 5 * ((n - s.A + 7) / 8)
theorem rank_le {n : Nat} (s : Sw) (hn : n ≤ 60) : rankW n s ≤ 52 := by
  unfold rankW
  split <;> omega
/-- Records that are sent where nothing else is under way. -/
theorem alone {n : Nat} {s : Sw} {a c : Nat} (h : s.Ok n) (hu : s.U = [⟨true, a, c⟩]) (hw : s.W = 0) : dlN 10 s = ⟨comeP s.P ⟨true, a, c⟩, s.S, 0, comeP s.P ⟨true, a, c⟩, []⟩ := by
  have hm := h.us ⟨true, a, c⟩ (by rw [hu]; exact List.mem_cons_self ..)
  have hb := come_bd h.ps hm rfl
  have hap := h.ap
  generalize hP : comeP s.P ⟨true, a, c⟩ = P at *
  have e1 : dlN 1 s = ⟨s.A, s.S, s.W, P, [⟨false, P, 0⟩]⟩ := by
    show dlW s = _
    unfold dlW
    rw [hu]
    simp [dlOne, hP]
  have e2 : dlN 2 s = ⟨P, s.S, 0, P, []⟩ := by
    show dlW (dlN 1 s) = _
    rw [e1]
    unfold dlW dlOne
    simp only [Bool.false_eq_true, if_false]
    split
    · rfl
    · have : s.A = P := by omega
      rw [hw, this]
  rw [dlN_stop (k := 2) (by rw [e2]) (by omega), e2]
theorem calm {n : Nat} {s : Sw} (h : s.Ok n) (hu : s.U = []) : (n ≤ (rndW n 0 s).A) ∨ (rankW n (rndW n 0 s) + 1 ≤ rankW n s) := by
  have h1 := h.ap
  have h2 := h.ps
  have h3 := h.sn
  show n ≤ (dlN 10 (sendW n (tickW s))).A ∨ rankW n (dlN 10 (sendW n (tickW s))) + 1 ≤ rankW n s
  have hut : (tickW s).U = [] := hu
  unfold sendW
  split
  · rename_i hd
    have hb := due_bd h.tick hd
    have hok := h.tick.sent hd
    rw [alone hok (by show (tickW s).U ++ _ = _; rw [hut]; rfl) rfl]
    have eA : (tickW s).A = s.A := rfl
    have eS : (tickW s).S = s.S := rfl
    have eP : (sentW n (tickW s)).P = s.P := rfl
    have eW : (tickW s).W = if s.A < s.S then s.W + 1 else s.W := rfl
    have eT : (sentW n (tickW s)).S = max s.S (fromW n (tickW s) + manyW n (tickW s) - 1) := rfl
    rw [eP, eT]
    unfold dueW at hd
    rw [eA, eS, eW] at hd
    unfold rankW
    simp only
    by_cases hS : s.S < n
    · have hf : fromW n (tickW s) = s.S + 1 := by unfold fromW; rw [if_pos (by rw [eS]; exact hS), eS]
      have hm : manyW n (tickW s) = min 8 (n - s.S) := by unfold manyW; rw [hf]; omega
      rw [hf, hm]
      have hc : s.P ≤ comeP s.P ⟨true, s.S + 1, min 8 (n - s.S)⟩ := by unfold comeP; split <;> omega
      generalize comeP s.P ⟨true, s.S + 1, min 8 (n - s.S)⟩ = P at *
      right
      rw [if_pos hS]
      split <;> omega
    · have hf : fromW n (tickW s) = s.A + 1 := by unfold fromW; rw [if_neg (by rw [eS]; exact hS), eA]
      have hm : manyW n (tickW s) = min 8 (n - s.A) := by unfold manyW; rw [hf]; omega
      rw [hf, hm]
      have hAn : s.A < n ∧ 4 ≤ s.W + 1 := by
        rcases hd with q | q
        · exact absurd q hS
        · refine ⟨q.1, ?_⟩
          have := q.2
          split at this <;> omega
      have hc : s.A + min 8 (n - s.A) ≤ comeP s.P ⟨true, s.A + 1, min 8 (n - s.A)⟩ := by unfold comeP; simp only; split <;> omega
      generalize comeP s.P ⟨true, s.A + 1, min 8 (n - s.A)⟩ = P at *
      by_cases hP : n ≤ P
      · exact .inl hP
      right
      rw [if_neg hS]
      split <;> omega
  · rename_i hd
    rw [dlN_nil hut]
    unfold dueW at hd
    have eA : (tickW s).A = s.A := rfl
    have eS : (tickW s).S = s.S := rfl
    have eW : (tickW s).W = if s.A < s.S then s.W + 1 else s.W := rfl
    rw [eA, eS, eW] at hd
    by_cases hA : n ≤ s.A
    · exact .inl hA
    right
    unfold rankW
    rw [eA, eS, eW]
    have hS : ¬ s.S < n := fun q => hd (.inl q)
    have hlt : s.A < s.S := by omega
    rw [if_pos hlt] at hd ⊢
    have hw : ¬ 4 ≤ s.W + 1 := fun q => hd (.inr ⟨by omega, q⟩)
    rw [if_neg hS, if_neg hS]
    omega
theorem keep_all {n : Nat} {s : Sw} (h : s.Ok n) (hu : s.U = []) (hA : n ≤ s.A) : n ≤ (rndW n 0 s).A := by
  have h1 := h.ap
  have h2 := h.ps
  have h3 := h.sn
  show n ≤ (dlN 10 (sendW n (tickW s))).A
  have hut : (tickW s).U = [] := hu
  unfold sendW
  rw [if_neg (by
    intro hd
    unfold dueW at hd
    have eA : (tickW s).A = s.A := rfl
    have eS : (tickW s).S = s.S := rfl
    rw [eA, eS] at hd
    omega), dlN_nil hut]
  exact hA
/-- How the law goes on: i rounds are done, N have a weather. -/
structure GoodW (n N i : Nat) (s : Sw) : Prop where
  ok : s.Ok n
  wt : s.W ≤ i
  p1 : i ≤ N → phi s.U ≤ 100 + 2 * i
  p2 : N ≤ i → phi s.U ≤ 500 - 8 * (i - N)
  p3 : N + 63 ≤ i → n ≤ s.A ∨ rankW n s + (i - N - 63) ≤ 52
theorem good_start (n N : Nat) (hN : N ≤ 200) : GoodW n N 0 ⟨0, 0, 0, 0, []⟩ :=
  ⟨⟨Nat.le_refl _, Nat.le_refl _, Nat.zero_le _, fun _ h => by cases h⟩, Nat.le_refl _, fun _ => by simp [phi], fun _ => by simp [phi], fun h => by omega⟩
theorem wait_dlN (s : Sw) : ∀ k, (dlN k s).W ≤ s.W
  | 0 => Nat.le_refl _
  | k + 1 => by
    refine Nat.le_trans ?_ (wait_dlN s k)
    show (dlW (dlN k s)).W ≤ (dlN k s).W
    unfold dlW
    split
    · exact Nat.le_refl _
    · unfold dlOne
      split
      · exact Nat.le_refl _
      · split
        · exact Nat.zero_le _
        · exact Nat.le_refl _
theorem wait_rnd (n x : Nat) (s : Sw) : (rndW n x s).W ≤ s.W + 1 := by
  have h1 : (tickW s).W ≤ s.W + 1 := by
    have e : (tickW s).W = if s.A < s.S then s.W + 1 else s.W := rfl
    rw [e]
    split <;> omega
  have h2 : (sendW n (tickW s)).W ≤ s.W + 1 := by
    unfold sendW
    split
    · exact Nat.zero_le _
    · exact h1
  have h3 : (wthW x (sendW n (tickW s))).W ≤ s.W + 1 := by
    unfold wthW
    split
    · exact h2
    · split
      · exact h2
      · exact h2
  unfold rndW
  split
  · exact h3
  · exact Nat.le_trans (wait_dlN _ _) h3
theorem GoodW.next {n N i x : Nat} {s : Sw} (h : GoodW n N i s) (hn : n ≤ 60) (hN : N ≤ 200) (hx : N ≤ i → x = 0) : GoodW n N (i + 1) (rndW n x s) := by
  refine ⟨h.ok.rnd, Nat.le_trans (wait_rnd n x s) (by have := h.wt; omega), fun hi => ?_, fun hi => ?_, fun hi => ?_⟩
  · have := h.p1 (by omega)
    have := phi_rnd n x s
    omega
  · by_cases hN2 : N ≤ i
    · have := h.p2 hN2
      rw [hx hN2]
      have := phi_calm n s
      omega
    · have := h.p1 (by omega)
      have := phi_rnd n x s
      omega
  · by_cases hi2 : N + 63 ≤ i
    · have hp := h.p2 (by omega)
      have hl := (phi_len s.U).1
      have hu : s.U = [] := List.length_eq_zero_iff.1 (by omega)
      rw [hx (by omega)]
      rcases h.p3 hi2 with q | q
      · exact .inl (keep_all h.ok hu q)
      · rcases calm h.ok hu with r | r
        · exact .inl r
        · right; omega
    · right
      have := rank_le (rndW n x s) hn
      omega
theorem GoodW.done {n N : Nat} {s : Sw} (h : GoodW n N (N + 150) s) : s.A = n ∧ s.P = n := by
  have h1 := h.ok.ap
  have h2 := h.ok.ps
  have h3 := h.ok.sn
  rcases h.p3 (by omega) with q | q
  · omega
  · omega
theorem GoodW.phi {n N i : Nat} {s : Sw} (h : GoodW n N i s) (hN : N ≤ 200) : phi s.U ≤ 500 := by
  rcases Nat.lt_or_ge i N with q | q
  · have := h.p1 (by omega); omega
  · have := h.p2 q; omega
theorem GoodW.len {n N i : Nat} {s : Sw} (h : GoodW n N i s) (hN : N ≤ 200) : s.U.length ≤ 500 := by
  have hl := (phi_len s.U).1
  rcases Nat.lt_or_ge i N with q | q
  · have := h.p1 (by omega); omega
  · have := h.p2 q; omega
theorem wth_P (y : Nat) (s : Sw) : (wthW y s).P = s.P := by
  unfold wthW
  split
  · rfl
  · split <;> rfl
theorem send_P (n : Nat) (s : Sw) : (sendW n s).P = s.P := by
  unfold sendW
  split <;> rfl
theorem lose_nil {s : Sw} (h : s.U = []) : loseW s = s := by
  cases s
  simp only at h
  subst h
  rfl
theorem dbl_nil {s : Sw} (h : s.U = []) : dblW s = s := by
  cases s
  simp only at h
  subst h
  rfl
theorem dbl_long {s : Sw} (h : ¬ s.U.length < 50) : dblW s = s := by
  cases s with
  | mk A S W P U =>
    cases U with
    | nil => simp at h
    | cons m t =>
      show (⟨A, S, W, P, dblU (m :: t)⟩ : Sw) = _
      rw [dblU_cons, if_neg h]
theorem dbl_short {s : Sw} {m : Mw} {t : List Mw} (hu : s.U = m :: t) (h : s.U.length < 50) : dblW s = ⟨s.A, s.S, s.W, s.P, t ++ [m, m]⟩ := by
  cases s with
  | mk A S W P U =>
    simp only at hu
    subst hu
    show (⟨A, S, W, P, dblU (m :: t)⟩ : Sw) = _
    rw [dblU_cons, if_pos h]
/-- What the sender has behind an ack. -/
def ackW (s : Sw) (q : Nat) : Sw := if s.A < q ∧ q ≤ s.S then ⟨q, s.S, 0, s.P, s.U⟩ else s
theorem dlW_ack {s : Sw} {m : Mw} {t : List Mw} (hu : s.U = m :: t) (hd : m.d = false) : dlW s = ackW ⟨s.A, s.S, s.W, s.P, t⟩ m.a := by
  unfold dlW
  rw [hu]
  show dlOne s m t = _
  unfold dlOne ackW
  rw [if_neg (by rw [hd]; simp)]
theorem dlW_dat {s : Sw} {m : Mw} {t : List Mw} (hu : s.U = m :: t) (hd : m.d = true) : dlW s = ⟨s.A, s.S, s.W, comeP s.P m, t ++ [⟨false, comeP s.P m, 0⟩]⟩ := by
  unfold dlW
  rw [hu]
  show dlOne s m t = _
  unfold dlOne
  rw [if_pos hd]
end Go.Proofs.YtdffldlcbihjmaaDoor

/- Rows of structs of three cells that lie anywhere in a block of the call's own: append onto them, what is behind the first. -/
namespace Go.Proofs.YtdffldlcbihjmaaDoor
open Go.RowKit

/-- n structs of three cells each at the slice v; its room lies in a block of the call's own. -/
structure Qu (base : Nat) (w : World) (v : Value) (n : Nat) (xs : List Value) : Prop where
  len : xs.length = n * 3
  one : ∀ u ∈ xs, u.oneCell' = true
  ex : ∃ (A : Option Addr) (cap : Nat), v = .slice A n cap ∧ n ≤ cap ∧ cap ≤ maxLen ∧ (∀ ad, A = some ad → base ≤ ad.block ∧ ad.block < w.heap.size) ∧
    (0 < cap → ∃ g o, A = some ⟨g, o, none⟩ ∧ w.rangeAt g o xs ∧ w.there g o (cap * 3))
theorem Qu.nil (base : Nat) (w : World) : Qu base w (.slice none 0 0) 0 [] :=
  ⟨rfl, (fun _ h => by cases h), none, 0, rfl, Nat.le_refl _, by unfold maxLen; omega, (fun _ h => by cases h), fun h => absurd h (by omega)⟩
theorem Qu.shape {base : Nat} {w : World} {v : Value} {n : Nat} {xs : List Value} (h : Qu base w v n xs) : ∃ A cap, v = .slice A n cap ∧ n ≤ cap ∧ cap ≤ maxLen := by
  obtain ⟨A, cap, h1, h2, h3, _⟩ := h.ex
  exact ⟨A, cap, h1, h2, h3⟩
theorem Qu.lo {base : Nat} {w : World} {v : Value} {n : Nat} {xs : List Value} (h : Qu base w v n xs) {g : Nat} (hg : v.ownBlock = some g) : base ≤ g ∧ g < w.heap.size := by
  obtain ⟨A, cap, rfl, _, _, h4, _⟩ := h.ex
  cases A with
  | none => cases hg
  | some ad =>
    have : ad.block = g := by simpa [Value.ownBlock] using hg
    rw [← this]
    exact h4 ad rfl
/-- Where it lies, when there is room. -/
theorem Qu.at_ {base : Nat} {w : World} {A : Option Addr} {n cap : Nat} {xs : List Value} (h : Qu base w (.slice A n cap) n xs) (hc : 0 < cap) : ∃ g o, A = some ⟨g, o, none⟩ ∧ base ≤ g ∧ g < w.heap.size ∧ w.rangeAt g o xs ∧ w.there g o (cap * 3) := by
  obtain ⟨A', cap', he, _, _, h4, h5⟩ := h.ex
  injection he with e1 _ e3
  subst e1 e3
  obtain ⟨g, o, rfl, h6, h7⟩ := h5 hc
  exact ⟨g, o, rfl, (h4 _ rfl).1, (h4 _ rfl).2, h6, h7⟩
theorem Qu.caps {base : Nat} {w : World} {A : Option Addr} {n cap : Nat} {xs : List Value} (h : Qu base w (.slice A n cap) n xs) : n ≤ cap ∧ cap ≤ maxLen := by
  obtain ⟨A', cap', he, h2, h3, _⟩ := h.ex
  injection he with _ _ e3
  subst e3
  exact ⟨h2, h3⟩
theorem Qu.but {S : Nat → Prop} {base : Nat} {w w' : World} {v : Value} {n : Nat} {xs : List Value} (h : Qu base w v n xs) (k : But S w w') (hS : ∀ g, v.ownBlock = some g → ¬ S g) : Qu base w' v n xs := by
  obtain ⟨A, cap, rfl, h2, h3, h4, h5⟩ := h.ex
  refine ⟨h.len, h.one, A, cap, rfl, h2, h3, fun ad ha => ⟨(h4 ad ha).1, Nat.lt_of_lt_of_le (h4 ad ha).2 k.size⟩, fun hc => ?_⟩
  obtain ⟨g, o, rfl, h6, h7⟩ := h5 hc
  have hg := (h4 _ rfl).2
  have hn := hS g rfl
  exact ⟨g, o, rfl, fun j u hu => (k.cell g (o + j) hg hn).trans (h6 j u hu), fun j hj => ⟨by rw [k.cell g (o + j) hg hn]; exact (h7 j hj).1, by rw [k.frozen g (o + j) hg hn]; exact (h7 j hj).2⟩⟩
theorem Qu.below {base : Nat} {w w' : World} {v : Value} {n : Nat} {xs : List Value} (h : Qu base w v n xs) (k : Below w.heap.size w w') : Qu base w' v n xs := h.but (S := fun _ => False) (But.of_below k) (fun _ _ hf => hf)
/-- What is behind the first. -/
theorem Qu.tail {base : Nat} {w : World} {g o n cap : Nat} {xs : List Value} (h : Qu base w (.slice (some ⟨g, o, none⟩) (n + 1) cap) (n + 1) xs) :
    (1 < cap → Qu base w (.slice (some ⟨g, o + 3, none⟩) n (cap - 1)) n (xs.drop 3)) ∧ (cap = 1 → ∀ o', Qu base w (.slice (some ⟨g, o', none⟩) 0 0) 0 [] ∧ n = 0) := by
  have hcp := h.caps
  obtain ⟨g', o', he, hb, hlt, hr, ht⟩ := h.at_ (by omega)
  injection he with he
  injection he with e1 e2
  subst e1 e2
  have hl := h.len
  constructor
  · intro hc
    refine ⟨by rw [List.length_drop, hl]; omega, fun u hu => h.one u (List.mem_of_mem_drop hu), some ⟨g, o + 3, none⟩, cap - 1, rfl, by omega, by omega, fun ad ha => (by injection ha with ha; subst ha; exact ⟨hb, hlt⟩), fun _ => ⟨g, o + 3, rfl, fun j u hu => ?_, fun j hj => ?_⟩⟩
    · rw [List.getElem?_drop] at hu
      have := hr (3 + j) u hu
      rwa [← Nat.add_assoc] at this
    · have := ht (3 + j) (by omega)
      rwa [← Nat.add_assoc] at this
  · intro hc o'
    exact ⟨⟨rfl, (fun _ h => by cases h), some ⟨g, o', none⟩, 0, rfl, Nat.le_refl _, by unfold maxLen; omega, fun ad ha => (by injection ha with ha; subst ha; exact ⟨hb, hlt⟩), fun h => absurd h (by omega)⟩, by omega⟩
theorem setCells_grown (b : Nat) : ∀ (vs : List Value) (o : Nat) (w : World), w.grownBy (w.setCells b o vs) (some b)
  | [], _, w => ⟨rfl, rfl, rfl, Nat.le_refl _, fun _ _ _ => rfl⟩
  | v :: r, o, w => by
    have h := setCells_grown b r (o + 1) (w.setCell ⟨b, o, none⟩ v)
    have hz : (w.setCell ⟨b, o, none⟩ v).heap.size = w.heap.size := by simp [World.setCell]
    exact ⟨h.os, h.tape, h.output, by rw [← hz]; exact h.size, fun k hk hne => (h.block k (by rw [hz]; exact hk) hne).trans (Below.heap_setCell w ⟨b, o, none⟩ v k (fun e => hne (by rw [e])))⟩
theorem fill2 (i0 : TypeInfo) (hs : i0.size = 3) (z : Value) (C D : List Value) (hC : C.length = 3) (hD : D.length = 3) : Instr.fill (fun i => some (i * i0.size, i0.size)) ((Array.range (2 * i0.size)).map (z.cells[· % z.cells.size]!)) [(0, .agg C.toArray), (1, .agg D.toArray)] = some (C ++ D).toArray := by
  rw [hs]
  obtain ⟨r, h1, h2, h3⟩ := Great.fill_dense (s := 3) (by omega) [.agg C.toArray, .agg D.toArray] 0 ((Array.range (2 * 3)).map (z.cells[· % z.cells.size]!)) (by intro v hv; simp at hv; rcases hv with rfl | rfl <;> simpa [Value.cells]) (by simp)
  have hr : r = (C ++ D).toArray := by
    apply Array.ext_getElem?
    intro k
    have hcd : (C ++ D).toArray[k]? = (C ++ D)[k]? := List.getElem?_toArray ..
    rw [h3 k, hcd]
    by_cases hk : k < 3
    · rw [if_pos (by simp; omega), List.getElem?_append_left (by omega)]
      have e1 : k / 3 = 0 := by omega
      have e2 : k % 3 = k := by omega
      simp [e1, e2, Value.cells]
    · by_cases hk2 : k < 6
      · rw [if_pos (by simp; omega), List.getElem?_append_right (by omega)]
        have e1 : k / 3 = 1 := by omega
        have e2 : k % 3 = k - 3 := by omega
        simp [e1, e2, Value.cells, hC]
      · rw [if_neg (by simp; omega), Array.getElem?_eq_none (by simp; omega), List.getElem?_eq_none (by simp; omega)]
  subst hr
  exact h1
section
variable {P : Program}
/-- append onto such a row. -/
theorem run_append_qu (w : World) (t ty e : TypeId) (i : TypeInfo) (z : Value) (bytes : Nat) (ht : P.underlying t = some (.slice e)) (hi : P.info? e = some i) (hz : i.zero = some z) (hsize : i.size = 3) (hby : i.bytes = bytes) (hzs : z.cells.size = 3)
    (base : Nat) (v : Value) (n : Nat) (xs : List Value) (hq : Qu base w v n xs) (ad : Addr) (m c : Nat) (news : List Value) (hl : news.length = m * 3) (hnews : ∀ j u, news[j]? = some u → w.cell? (ad.add j) = some u) (h1 : ∀ u ∈ news, u.oneCell' = true)
    (hm : 0 < m) (h63 : n + m ≤ maxLen) (hbytes : (n + m) * bytes ≤ 140737488355328) (hbase : base ≤ w.heap.size) :
    ∃ g o cap w', (Builtin.append_ #[t, t] ty #[v, .slice (some ad) m c]).run P w = .ok (.slice (some ⟨g, o, none⟩) (n + m) cap) w' ∧
      Qu base w' (.slice (some ⟨g, o, none⟩) (n + m) cap) (n + m) (xs ++ news) ∧ w.grownBy w' v.ownBlock ∧ (v.ownBlock = some g ∨ g = w.heap.size) := by
  subst hby
  obtain ⟨A, cap, rfl, hnc, hcm, hA, hx⟩ := hq.ex
  have hxl := hq.len
  have hone : ∀ u ∈ xs ++ news, u.oneCell' = true := fun u hu => by
    rcases List.mem_append.1 hu with q | q
    · exact hq.one u q
    · exact h1 u q
  have hlen : (xs ++ news).length = (n + m) * 3 := by rw [List.length_append, hxl, hl]; omega
  have hs : Src P i.size t (.slice (some ad) m c) m news w := Src.ofSlice w ht ad m c news (by rw [hl, hsize]) hnews h1
  by_cases hroom : n + m ≤ cap
  · obtain ⟨g, o, rfl, hr, hth⟩ := hx (by omega)
    have hgl := hA _ rfl
    have hth2 : ∀ j, j < news.length → (w.cell? ⟨g, o + n * i.size + j, none⟩).isSome = true ∧ w.frozen? ⟨g, o + n * i.size + j, none⟩ = false := fun j hj => by
      have := hth (n * 3 + j) (by omega)
      rw [hsize, Nat.add_assoc]
      exact this
    have hrun := run_append_room_src (P := P) w t t ty e i ht hi g o n cap (.slice (some ad) m c) m news hs hroom (fun j hj => (hth2 j hj).1) (fun j hj => (hth2 j hj).2)
    rw [hsize] at hrun
    have hgr := setCells_grown g news (o + n * 3) w
    refine ⟨g, o, cap, _, hrun, ⟨hlen, hone, some ⟨g, o, none⟩, cap, rfl, hroom, hcm, fun a ha => ?_, fun _ => ⟨g, o, rfl, fun j u hu => ?_, World.there_setCells hth g _ _⟩⟩, hgr, .inl rfl⟩
    · injection ha with ha
      subst ha
      exact ⟨hgl.1, Nat.lt_of_lt_of_le hgl.2 hgr.size⟩
    · rcases Nat.lt_or_ge j (n * 3) with q | q
      · rw [List.getElem?_append_left (by omega)] at hu
        rw [World.cell?_setCells_out g news _ w ⟨g, o + j, none⟩ (fun _ _ => by left; show o + j < o + n * 3; omega)]
        exact hr j u hu
      · rw [List.getElem?_append_right (by omega), hxl] at hu
        have hj : j - n * 3 < news.length := (List.getElem?_eq_some_iff.1 hu).1
        have := World.cell?_setCells_in g news (o + n * 3) w (fun k hk => by have := (hth2 k hk).1; rwa [hsize] at this) (j - n * 3) hj
        rw [show o + n * 3 + (j - n * 3) = o + j from by omega] at this
        rw [this, ← hu, List.getElem?_eq_getElem hj]
  · have hg : cap < n + m := by omega
    have hold : (Builtin.firstCells i.size n (.slice A n cap)).run P w.drew = .ok xs.toArray w.drew := by
      rcases Nat.eq_zero_or_pos cap with h0 | hc
      · obtain rfl : n = 0 := by omega
        obtain rfl : xs = [] := List.eq_nil_of_length_eq_zero (by simpa using hxl)
        cases A with
        | none => exact run_firstCells_none w.drew i.size 0 0 cap
        | some a' => exact run_firstCells_some w.drew i.size 0 a' 0 cap [] (by simp) (by intro _ _ h'; simp at h')
      · obtain ⟨g, o, rfl, hr, _⟩ := hx hc
        refine run_firstCells_some w.drew i.size n ⟨g, o, none⟩ n cap xs (by rw [hxl, hsize]) (fun j u hu => ?_)
        rw [Addr.add_mid]
        exact hr j u hu
    have h63' : ((n + m : Nat) : Int) ≤ 9223372036854775807 := by unfold maxLen at h63; omega
    have hrun := run_append_grow_src (P := P) w t t ty e i z ht hi hz A n cap xs hold (.slice (some ad) m c) m news hs hg h63' (growslice_fits hg hbytes)
    have hge := grownCap_ge w (n + m) cap e
    have hgm := grownCap_le_maxLen w (n + m) cap e h63
    generalize grownCap w (n + m) cap e = G at *
    have hsz : ((xs ++ news).toArray ++ Builtin.zeroCells z.cells (G - (n + m))).size = G * 3 := by
      rw [Array.size_append, List.size_toArray, hlen, size_zeroCells, hzs]
      omega
    have hcell : ∀ j, (w.drew.alloc (.cells ((xs ++ news).toArray ++ Builtin.zeroCells z.cells (G - (n + m))) e)).cell? ⟨w.heap.size, j, none⟩ = ((xs ++ news).toArray ++ Builtin.zeroCells z.cells (G - (n + m)))[j]? := fun j => World.cell?_alloc_new w.drew _ _ j
    refine ⟨w.heap.size, 0, G, _, hrun, ⟨hlen, hone, _, G, rfl, hge, hgm, fun a ha => ?_, fun _ => ⟨w.heap.size, 0, rfl, fun j u hu => ?_, fun j hj => ⟨?_, ?_⟩⟩⟩, ⟨rfl, rfl, rfl, ?_, fun k hk _ => Below.heap_alloc w.drew _ k hk⟩, .inr rfl⟩
    · injection ha with ha
      subst ha
      refine ⟨hbase, ?_⟩
      show w.heap.size < (w.drew.alloc _).heap.size
      simp
    · rw [Nat.zero_add, hcell]
      have hj : j < (xs ++ news).length := (List.getElem?_eq_some_iff.1 hu).1
      rw [Array.getElem?_append_left (by simpa using hj), List.getElem?_toArray]
      exact hu
    · rw [Nat.zero_add, hcell, Array.getElem?_eq_getElem (by rw [hsz]; exact hj)]
      rfl
    · rw [Nat.zero_add]
      exact World.frozen?_alloc_new w.drew _ _ j
    · show w.heap.size ≤ (w.drew.alloc _).heap.size
      simp
/-- At the operation. -/
theorem wp_append_qu {o : Oper} {a : Act} {w : World} {K : Act → World → Prop} {Q : Exit → Act → World → Prop} (s x : Operand) (t : TypeId)
    (ho : o.op = .call { callee := .builtin .append, args := #[s, x], argTypes := #[t, t] })
    (base : Nat) (e : TypeId) (i : TypeInfo) (z : Value) (bytes : Nat) (ht : P.underlying t = some (.slice e)) (hi : P.info? e = some i) (hz : i.zero = some z) (hsize : i.size = 3) (hby : i.bytes = bytes) (hzs : z.cells.size = 3)
    (v : Value) (n : Nat) (xs : List Value) (hs : a.eval s = v) (hq : Qu base w v n xs) (ad : Addr) (m c : Nat) (news : List Value) (hx : a.eval x = .slice (some ad) m c) (hl : news.length = m * 3) (hnews : ∀ j u, news[j]? = some u → w.cell? (ad.add j) = some u) (h1 : ∀ u ∈ news, u.oneCell' = true)
    (hm : 0 < m) (h63 : n + m ≤ maxLen) (hbytes : (n + m) * bytes ≤ 140737488355328) (hbase : base ≤ w.heap.size)
    (h : ∀ g o' cap w', Qu base w' (.slice (some ⟨g, o', none⟩) (n + m) cap) (n + m) (xs ++ news) → w.grownBy w' v.ownBlock → (v.ownBlock = some g ∨ g = w.heap.size) → K (a.put o.dst (.slice (some ⟨g, o', none⟩) (n + m) cap)) w') : o.wp P a w K Q := by
  obtain ⟨g, o', cap, w', hr, h2, h3, h4⟩ := run_append_qu (P := P) w t o.type e i z bytes ht hi hz hsize hby hzs base v n xs hq ad m c news hl hnews h1 hm h63 hbytes hbase
  unfold Oper.wp execOp
  simp only [ho, resolve, invoke, builtin, Sem.run_bind, Sem.run_pure, Result.andThen_ok, List.map_toArray, List.map_cons, List.map_nil, hs, hx, hr]
  exact h g o' cap w' h2 h3 h4
/-- At a plain region's list. -/
theorem wpList_append_qu {ops : Array Oper} {rest : List Oper} {o : Oper} {a : Act} {w : World} {Q : Exit → Act → World → Prop} (hgd : o.guard = none) (s x : Operand) (t : TypeId)
    (ho : o.op = .call { callee := .builtin .append, args := #[s, x], argTypes := #[t, t] })
    (base : Nat) (e : TypeId) (i : TypeInfo) (z : Value) (bytes : Nat) (ht : P.underlying t = some (.slice e)) (hi : P.info? e = some i) (hz : i.zero = some z) (hsize : i.size = 3) (hby : i.bytes = bytes) (hzs : z.cells.size = 3)
    (v : Value) (n : Nat) (xs : List Value) (hs : a.eval s = v) (hq : Qu base w v n xs) (ad : Addr) (m c : Nat) (news : List Value) (hx : a.eval x = .slice (some ad) m c) (hl : news.length = m * 3) (hnews : ∀ j u, news[j]? = some u → w.cell? (ad.add j) = some u) (h1 : ∀ u ∈ news, u.oneCell' = true)
    (hm : 0 < m) (h63 : n + m ≤ maxLen) (hbytes : (n + m) * bytes ≤ 140737488355328) (hbase : base ≤ w.heap.size)
    (h : ∀ g o' cap w', Qu base w' (.slice (some ⟨g, o', none⟩) (n + m) cap) (n + m) (xs ++ news) → w.grownBy w' v.ownBlock → (v.ownBlock = some g ∨ g = w.heap.size) → wpList P ops Q rest (a.put o.dst (.slice (some ⟨g, o', none⟩) (n + m) cap)) w') : wpList P ops Q (o :: rest) a w :=
  wpList_plain hgd fun _ hK => by
    obtain ⟨g, o', cap, w', hr, h2, h3, h4⟩ := run_append_qu (P := P) w t o.type e i z bytes ht hi hz hsize hby hzs base v n xs hq ad m c news hl hnews h1 hm h63 hbytes hbase
    unfold Oper.wp execOp
    simp only [ho, resolve, invoke, builtin, Sem.run_bind, Sem.run_pure, Result.andThen_ok, List.map_toArray, List.map_cons, List.map_nil, hs, hx, hr]
    exact hK _ _ (h g o' cap w' h2 h3 h4)
end
end Go.Proofs.YtdffldlcbihjmaaDoor

/- Stage 18: StreamComes: the rows that are sent; what is under way, in memory. -/
namespace Go.Proofs.YtdffldlcbihjmaaDoor
open Go.RowKit Go.Sort Go.Op

theorem recS_okc {o : Int} {s : Nat} (ho : 0 ≤ o ∧ o < 5) (hs : 1 ≤ s ∧ s ≤ 1099511627776) : okR (recS o s) = true := by
  rw [ok_iff]
  have hm : min s 1099511627776 = s := Nat.min_eq_left hs.2
  constructor <;> simp [recS] <;> omega
theorem okR_recS {s : Nat} (h1 : 1 ≤ s) (h2 : s ≤ 60) : okR (recS 0 s) = true := recS_okc (by omega) (by omega)
theorem someR_cons (o : Int) (f n : Nat) : someR o f (n + 1) = recS o f :: someR o (f + 1) n := by
  simp only [someR, List.range_succ_eq_map, List.map_cons, List.map_map, Nat.add_zero]
  congr 1
  apply List.map_congr_left
  intro i _
  show recS o (f + (i + 1)) = recS o (f + 1 + i)
  rw [show f + (i + 1) = f + 1 + i from by omega]
theorem rowB_some {f n : Nat} (h1 : 1 ≤ f) (h2 : f + n ≤ 61) : rowB 0 (f : Int) (someR 0 f n) = true := by
  refine rowB_of' (fun i r hr => ?_)
  have hi : i < n := by
    have := (List.getElem?_eq_some_iff.1 hr).1
    rwa [someR_len] at this
  rw [someR_at hi] at hr
  injection hr with hr
  subst hr
  refine ⟨okR_recS (by omega) (by omega), rfl, ?_⟩
  show ((f + i : Nat) : Int) = (f : Int) + (i : Int)
  omega
theorem fstS_some {f n : Nat} (h : 1 ≤ n) : fstS (someR 0 f n) = (f : Int) := by
  obtain ⟨k, rfl⟩ : ∃ k, n = k + 1 := ⟨n - 1, by omega⟩
  rw [someR_cons]
  rfl
theorem take_row18 {o a : Int} : ∀ (rs acc : List Rc), rowB o (a + 1 + (acc.length : Int)) rs = true → takeS o a acc rs = acc ++ rs
  | [], acc, _ => by simp [takeS]
  | r :: t, acc, h => by
    simp only [rowB, Bool.and_eq_true, decide_eq_true_eq] at h
    rw [takeS_yes ⟨h.1, h.2.1, h.2.2.1⟩, take_row18 t (acc ++ [r]) (by
      rw [show a + 1 + ((acc ++ [r]).length : Int) = a + 1 + (acc.length : Int) + 1 from by simp; omega]
      exact h.2.2.2)]
    simp
/-- How many records come next of a message's. -/
def newW (P : Nat) (f c : Nat) : Nat := if f ≤ P + 1 then f + c - (P + 1) else 0
theorem take_some (P : Nat) : ∀ (c f : Nat), 1 ≤ f → f + c ≤ 61 → takeS 0 (P : Int) [] (someR 0 f c) = someR 0 (P + 1) (newW P f c)
  | 0, f, _, _ => by
    have : newW P f 0 = 0 := by unfold newW; split <;> omega
    rw [this]
    rfl
  | c + 1, f, h1, h2 => by
    by_cases hf : f = P + 1
    · subst hf
      have e : newW P (P + 1) (c + 1) = c + 1 := by unfold newW; rw [if_pos (by omega)]; omega
      rw [e, take_row18 (o := 0) (a := (P : Int)) _ [] (by
        have := rowB_some (f := P + 1) (n := c + 1) h1 h2
        simpa using this)]
      rfl
    · rw [someR_cons, takeS_skip (by
        rintro ⟨_, _, q⟩
        have : ((f : Nat) : Int) = (P : Int) + 1 + ((0 : Nat) : Int) := q
        omega) rfl, take_some P c (f + 1) (by omega) (by omega)]
      congr 1
      unfold newW
      split <;> split <;> omega
theorem come_new (P f c : Nat) (hc : 1 ≤ c) : comeP P ⟨true, f, c⟩ = P + newW P f c := by
  unfold comeP newW
  simp only
  split <;> omega
theorem send_some {a s f c : Nat} (h1 : 1 ≤ c) (h8 : c ≤ 8) (hf : a < f) (hs : f ≤ s + 1) (hb : f + c ≤ 61) : sendC 0 (a : Int) (s : Int) (someR 0 f c) = 0 := by
  have hrow := rowB_some (f := f) (n := c) (by omega) hb
  have hl := someR_len 0 f c
  have hfst := fstS_some (f := f) h1
  refine send_yes (by rw [hl]; omega) (fun r hr => ?_) (by rw [hl]; omega) (by rw [hfst]; omega) (by rw [hfst]; exact hrow)
  obtain ⟨i, hi, rfl⟩ := someR_mem hr
  exact ⟨okR_recS (by omega) (by omega), rfl⟩
/-- A message's bytes. -/
def datW (m : Mw) : List Int := if m.d = true then recE 0 (someR 0 m.a m.c) else ackE 0 (m.a : Int)
def wordW (m : Mw) : Wd := if m.d = true then ⟨1, 0, (m.a : Int), 0, 0, 0, 0, someR 0 m.a m.c⟩ else ⟨2, 0, (m.a : Int), 0, 0, 0, 0, []⟩
theorem datW_eq {P S : Nat} {m : Mw} (h : m.Ok P S) : datW m = frE (encW (wordW m)) := by
  unfold datW wordW
  split
  · rename_i hd
    have := h.dat hd
    unfold recE
    rw [fstS_some this.2.1]
  · rfl
theorem word_ok {P S : Nat} {m : Mw} (h : m.Ok P S) (hP : P ≤ 60) (hS : S ≤ 60) : okW (wordW m) = true := by
  unfold wordW
  split
  · rename_i hd
    have hb := h.dat hd
    have hrow := rowB_some (f := m.a) (n := m.c) hb.1 (by omega)
    have hl := someR_len 0 m.a m.c
    simp [okW, headW, bareW, hrow, hl]
    omega
  · rename_i hd
    have hb := h.ack (by simpa using hd)
    simp [okW, headW, bareW]
    omega
theorem word_by (m : Mw) : isBy (encW (wordW m)) := by
  refine encW_by (fun r hr => ?_)
  unfold wordW at hr
  split at hr
  · obtain ⟨i, _, rfl⟩ := someR_mem hr
    exact recS_by _ _
  · cases hr
/-- A message under way, in memory. -/
structure Mq where
  m : Mw
  g : Nat
  cap : Nat
def Mq.cs (x : Mq) : List Value := [.int .i64 (if x.m.d = true then 0 else 1), .int .i64 (if x.m.d = true then 1 else 0), .slice (some ⟨x.g, 0, none⟩) (datW x.m).length x.cap]
theorem Mq.len (x : Mq) : x.cs.length = 3 := rfl
structure Mq.At (base : Nat) (w : World) (x : Mq) : Prop where
  by_ : ByL w (some ⟨x.g, 0, none⟩) (datW x.m)
  ln : (datW x.m).length ≤ 1000000
  lc : (datW x.m).length ≤ x.cap
  cm : x.cap ≤ maxLen
  lo : base ≤ x.g
  lt : x.g < w.heap.size
theorem Mq.At.but {S : Nat → Prop} {base : Nat} {w w' : World} {x : Mq} (h : x.At base w) (k : But S w w') (hS : ¬ S x.g) : x.At base w' :=
  ⟨h.by_.but k (fun _ ad ha => by injection ha with ha; subst ha; exact hS), h.ln, h.lc, h.cm, h.lo, Nat.lt_of_lt_of_le h.lt k.size⟩
/-- What is under way. -/
structure Lq (base : Nat) (w : World) (v : Value) (L : List Mq) : Prop where
  q : Qu base w v L.length (L.flatMap Mq.cs)
  at_ : ∀ x ∈ L, x.At base w ∧ v.ownBlock ≠ some x.g
theorem Lq.nil (base : Nat) (w : World) : Lq base w (.slice none 0 0) [] := ⟨Qu.nil _ _, fun _ h => by cases h⟩
theorem Lq.but {S : Nat → Prop} {base : Nat} {w w' : World} {v : Value} {L : List Mq} (h : Lq base w v L) (k : But S w w') (hS : ∀ i, S i → i < base) : Lq base w' v L :=
  ⟨h.q.but k (fun g hg hs => by have := (h.q.lo hg).1; have := hS g hs; omega), fun x hx => ⟨(h.at_ x hx).1.but k (fun hs => by have := (h.at_ x hx).1.lo; have := hS _ hs; omega), (h.at_ x hx).2⟩⟩
theorem Lq.below {base : Nat} {w w' : World} {v : Value} {L : List Mq} (h : Lq base w v L) (k : Below w.heap.size w w') : Lq base w' v L := h.but (S := fun _ => False) (But.of_below k) (fun _ hf => hf.elim)
theorem Lq.only {base b : Nat} {w w' : World} {v : Value} {L : List Mq} (h : Lq base w v L) (k : Only b w w') (hb : b < base) : Lq base w' v L := h.but (S := fun i => i = b) (But.of_only k rfl) (fun i hi => by rw [hi]; exact hb)
theorem Lq.tail {base : Nat} {w : World} {g o cap : Nat} {x : Mq} {L : List Mq} (h : Lq base w (.slice (some ⟨g, o, none⟩) (L.length + 1) cap) (x :: L)) :
    (1 < cap → Lq base w (.slice (some ⟨g, o + 3, none⟩) L.length (cap - 1)) L) ∧ (cap = 1 → ∀ o', Lq base w (.slice (some ⟨g, o', none⟩) 0 0) [] ∧ L = []) := by
  have ht := h.q.tail
  have hd : ((x :: L).flatMap Mq.cs).drop 3 = L.flatMap Mq.cs := rfl
  rw [hd] at ht
  refine ⟨fun hc => ⟨ht.1 hc, fun y hy => ⟨(h.at_ y (List.mem_cons_of_mem _ hy)).1, (h.at_ y (List.mem_cons_of_mem _ hy)).2⟩⟩, fun hc o' => ?_⟩
  have := ht.2 hc o'
  exact ⟨⟨this.1, fun _ h => by cases h⟩, List.length_eq_zero_iff.1 this.2⟩
theorem Lq.app {base g o cap : Nat} {w w' : World} {v : Value} {L N : List Mq} (h : Lq base w v L) (hN : ∀ x ∈ N, x.At base w ∧ v.ownBlock ≠ some x.g)
    (hq : Qu base w' (.slice (some ⟨g, o, none⟩) (L.length + N.length) cap) (L.length + N.length) (L.flatMap Mq.cs ++ N.flatMap Mq.cs)) (hg : w.grownBy w' v.ownBlock) (hat : v.ownBlock = some g ∨ g = w.heap.size) : Lq base w' (.slice (some ⟨g, o, none⟩) (L.length + N.length) cap) (L ++ N) := by
  have hbt : But (fun i => v.ownBlock = some i) w w' := But.of_grown hg (fun i hi => hi)
  have key : ∀ x : Mq, x.At base w ∧ v.ownBlock ≠ some x.g → x.At base w' ∧ (Value.slice (some ⟨g, o, none⟩) (L.length + N.length) cap).ownBlock ≠ some x.g := fun x hx => by
    refine ⟨hx.1.but hbt hx.2, fun e => ?_⟩
    have e2 : g = x.g := by simpa [Value.ownBlock] using e
    rcases hat with q | q
    · exact hx.2 (by rw [q, e2])
    · have := hx.1.lt; omega
  refine ⟨by rw [List.length_append, List.flatMap_append]; exact hq, fun x hx => ?_⟩
  rcases List.mem_append.1 hx with q | q
  · exact key x (h.at_ x q)
  · exact key x (hN x q)
theorem Lq.lt {base : Nat} {w : World} {v : Value} {L : List Mq} (h : Lq base w v L) {g : Nat} (hg : v.ownBlock = some g) : base ≤ g ∧ g < w.heap.size := h.q.lo hg
end Go.Proofs.YtdffldlcbihjmaaDoor

/- Stage 18: StreamComes: both sides and what is under way, in memory; the calls. -/
namespace Go.Proofs.YtdffldlcbihjmaaDoor
open Go.RowKit Go.Sort Go.Op

/-- Both sides and what is under way. -/
structure Cm (w : World) (base bo bi : Nat) (wr : World) (u : Value) (L : List Mq) (s : Sw) : Prop where
  o : XB wr bo (outC 0 1 (s.A : Int) (s.S : Int) (s.W : Int))
  i : XB wr bi (inC 1 0 (s.P : Int))
  q : Lq base wr u L
  lm : L.map Mq.m = s.U
  ob : bo < base
  ib : bi < base
  ne : bo ≠ bi
  wo : w.heap.size ≤ bo
  wi : w.heap.size ≤ bi
  bel : Below w.heap.size w wr
  hb : base ≤ wr.heap.size
theorem Cm.below {w : World} {base bo bi : Nat} {wr wa : World} {u : Value} {L : List Mq} {s : Sw} (h : Cm w base bo bi wr u L s) (k : Below wr.heap.size wr wa) : Cm w base bo bi wa u L s :=
  ⟨h.o.below k, h.i.below k, h.q.below k, h.lm, h.ob, h.ib, h.ne, h.wo, h.wi, h.bel.trans (k.mono h.bel.size), Nat.le_trans h.hb k.size⟩
theorem Cm.outp {w : World} {base bo bi : Nat} {wr wa : World} {u : Value} {L : List Mq} {s : Sw} (h : Cm w base bo bi wr u L s) {A S W : Nat} (k : Only bo wr wa) (hx : XB wa bo (outC 0 1 (A : Int) (S : Int) (W : Int))) : Cm w base bo bi wa u L ⟨A, S, W, s.P, s.U⟩ :=
  ⟨hx, h.i.only k h.ne.symm, h.q.only k h.ob, h.lm, h.ob, h.ib, h.ne, h.wo, h.wi, h.bel.trans (k.below h.wo h.bel.size), Nat.le_trans h.hb k.size⟩
theorem Cm.inp {w : World} {base bo bi : Nat} {wr wa : World} {u : Value} {L : List Mq} {s : Sw} (h : Cm w base bo bi wr u L s) {P : Nat} (k : Only bi wr wa) (hx : XB wa bi (inC 1 0 (P : Int))) : Cm w base bo bi wa u L ⟨s.A, s.S, s.W, P, s.U⟩ :=
  ⟨h.o.only k h.ne, hx, h.q.only k h.ib, h.lm, h.ob, h.ib, h.ne, h.wo, h.wi, h.bel.trans (k.below h.wi h.bel.size), Nat.le_trans h.hb k.size⟩
theorem Cm.shape {w : World} {base bo bi : Nat} {wr : World} {u : Value} {L : List Mq} {s : Sw} (h : Cm w base bo bi wr u L s) : ∃ A cap, u = .slice A L.length cap ∧ L.length ≤ cap ∧ cap ≤ maxLen := h.q.q.shape
/-- A row of one message that a call tells. -/
def NewMsg (base : Nat) (w' : World) (u v : Value) (m : Mw) : Prop := ∃ B c g cap, v = .slice (some ⟨B, 0, none⟩) 1 c ∧ XB w' B (Mq.mk m g cap).cs ∧ (Mq.mk m g cap).At base w' ∧ u.ownBlock ≠ some g
theorem datW_pos {P S : Nat} {m : Mw} (h : m.Ok P S) : 0 < (datW m).length := by
  rw [datW_eq h, frE_len]
  omega
theorem NewMsg.of {base P S : Nat} {wa w' : World} {u v : Value} {m : Mw} {f t : Int} {d : List Int} {L : List Mq} (hq : Lq base wa u L) (hb : base ≤ wa.heap.size) (h : Msg1 wa.heap.size w' v f t d) (hm : m.Ok P S) (hd : d = datW m) (hf : f = if m.d = true then 0 else 1) (htt : t = if m.d = true then 1 else 0) : NewMsg base w' u v m := by
  obtain ⟨B, c, g, cap, _, q2, h1, h2, h3, h4, h5, h6⟩ := h
  subst hd
  refine ⟨B, c, g, cap, h1, by rw [hf, htt] at h2; exact h2, ⟨h3, h4, h5, h6, Nat.le_trans hb q2, ?_⟩, fun e => ?_⟩
  · obtain ⟨B', O', e, hl, _⟩ := h3 (datW_pos hm)
    injection e with e
    injection e with e
    rw [e]
    exact hl
  · have := (hq.lt e).2
    omega
/-- Some are laid behind the others. -/
theorem Cm.apps {w : World} {base bo bi : Nat} {wr w' : World} {u : Value} {L M : List Mq} {s : Sw} {g o cap : Nat} (h : Cm w base bo bi wr u L s) (hx : ∀ x ∈ M, x.At base wr ∧ u.ownBlock ≠ some x.g)
    (hq : Qu base w' (.slice (some ⟨g, o, none⟩) (L.length + M.length) cap) (L.length + M.length) (L.flatMap Mq.cs ++ M.flatMap Mq.cs)) (hg : wr.grownBy w' u.ownBlock) (hat : u.ownBlock = some g ∨ g = wr.heap.size) :
    Cm w base bo bi w' (.slice (some ⟨g, o, none⟩) (L.length + M.length) cap) (L ++ M) ⟨s.A, s.S, s.W, s.P, s.U ++ M.map Mq.m⟩ := by
  have hbt : But (fun i => u.ownBlock = some i) wr w' := But.of_grown hg (fun i hi => hi)
  have hlo : ∀ b, b < base → ¬ u.ownBlock = some b := fun b hb e => by have := (h.q.lt e).1; omega
  refine ⟨h.o.but hbt (hlo _ h.ob), h.i.but hbt (hlo _ h.ib), Lq.app h.q hx hq hg hat, by rw [List.map_append, h.lm], h.ob, h.ib, h.ne, h.wo, h.wi, h.bel.grown hg h.bel.size (fun j hj => ?_), Nat.le_trans h.hb hbt.size⟩
  have h1 := (h.q.lt hj).1
  have h2 := h.wo
  have h3 := h.ob
  omega
theorem Cm.app {w : World} {base bo bi : Nat} {wr w' : World} {u : Value} {L : List Mq} {s : Sw} {x : Mq} {g o cap : Nat} (h : Cm w base bo bi wr u L s) (hx : x.At base wr) (hne : u.ownBlock ≠ some x.g)
    (hq : Qu base w' (.slice (some ⟨g, o, none⟩) (L.length + 1) cap) (L.length + 1) (L.flatMap Mq.cs ++ x.cs)) (hg : wr.grownBy w' u.ownBlock) (hat : u.ownBlock = some g ∨ g = wr.heap.size) :
    Cm w base bo bi w' (.slice (some ⟨g, o, none⟩) (L.length + 1) cap) (L ++ [x]) ⟨s.A, s.S, s.W, s.P, s.U ++ [x.m]⟩ :=
  Cm.apps (M := [x]) h (fun y hy => by rw [List.mem_singleton.1 hy]; exact ⟨hx, hne⟩) (by simpa using hq) hg hat
/-- The first one goes. -/
theorem Cm.pop {w : World} {base bo bi : Nat} {wr : World} {g o cap : Nat} {x : Mq} {L : List Mq} {s : Sw} (h : Cm w base bo bi wr (.slice (some ⟨g, o, none⟩) (L.length + 1) cap) (x :: L) s) :
    (1 < cap → Cm w base bo bi wr (.slice (some ⟨g, o + 3, none⟩) L.length (cap - 1)) L ⟨s.A, s.S, s.W, s.P, s.U.tail⟩) ∧ (cap = 1 → ∀ o', Cm w base bo bi wr (.slice (some ⟨g, o', none⟩) 0 0) [] ⟨s.A, s.S, s.W, s.P, s.U.tail⟩ ∧ L = []) := by
  have ht := h.q.tail
  have hl : L.map Mq.m = s.U.tail := by rw [← h.lm]; rfl
  refine ⟨fun hc => ⟨h.o, h.i, ht.1 hc, hl, h.ob, h.ib, h.ne, h.wo, h.wi, h.bel, h.hb⟩, fun hc o' => ?_⟩
  have q := ht.2 hc o'
  refine ⟨⟨h.o, h.i, q.1, ?_, h.ob, h.ib, h.ne, h.wo, h.wi, h.bel, h.hb⟩, q.2⟩
  rw [q.2] at hl
  exact hl
/-- Where the first one lies. -/
theorem Cm.cons {w : World} {base bo bi : Nat} {wr : World} {u : Value} {x : Mq} {T : List Mq} {s : Sw} (h : Cm w base bo bi wr u (x :: T) s) : ∃ g o cap, u = .slice (some ⟨g, o, none⟩) (T.length + 1) cap ∧ g < wr.heap.size ∧ T.length + 1 ≤ cap ∧ cap ≤ maxLen ∧ wr.rangeAt g o x.cs := by
  obtain ⟨A, cap, rfl, h1, h2⟩ := h.shape
  have h3 : T.length + 1 ≤ cap := h1
  obtain ⟨g, o, rfl, _, h4, h5, _⟩ := h.q.q.at_ (by omega)
  refine ⟨g, o, cap, rfl, h4, h3, h2, fun j u hu => h5 j u ?_⟩
  rw [List.flatMap_cons, List.getElem?_append_left ((List.getElem?_eq_some_iff.1 hu).1)]
  exact hu
theorem c_tick {w : World} {base bo bi : Nat} {wr : World} {u : Value} {L : List Mq} {s : Sw} (h : Cm w base bo bi wr u L s) (hw : s.W ≤ 1000) :
    Calls Tryd.prog 32 #[.pointer (some ⟨bo, 0, none⟩)] wr fun e w' => e = .returned (.tuple #[]) ∧ Cm w base bo bi w' u L (tickW s) := by
  refine (st_tick bo 0 1 (s.A : Int) (s.S : Int) (s.W : Int) wr h.o (by omega)).mono ?_
  rintro e w' ⟨rfl, hp⟩
  refine ⟨rfl, h.outp hp.only ?_⟩
  have e : tickM (s.A : Int) (s.S : Int) (s.W : Int) = (((if s.A < s.S then s.W + 1 else s.W : Nat)) : Int) := by
    unfold tickM
    by_cases hl : s.A < s.S
    · rw [if_pos (by omega), if_pos hl]; rfl
    · rw [if_neg (by omega), if_neg hl]
  rw [← e]
  exact hp.xb
theorem c_need_yes {w : World} {base bo bi : Nat} {wr : World} {u : Value} {L : List Mq} {s : Sw} {n : Nat} (h : Cm w base bo bi wr u L s) (ho : s.Ok n) (hn : n ≤ 60) (hd : dueW n s) :
    Calls Tryd.prog 27 #[.pointer (some ⟨bo, 0, none⟩), .int .i64 (n : Int)] wr fun e w' => e = .returned (.tuple #[.int .i64 (fromW n s : Int), .bool true]) ∧ wr = w' := by
  have h1 := ho.ap
  have h2 := ho.ps
  have h3 := ho.sn
  refine (st_need bo 0 1 (s.A : Int) (s.S : Int) (s.W : Int) (n : Int) wr h.o (by omega) (by omega)).mono ?_
  rintro e w' ⟨rfl, rfl⟩
  have e : needM (s.A : Int) (s.S : Int) (s.W : Int) (n : Int) = ((fromW n s : Int), true) := by
    unfold needM fromW
    unfold dueW at hd
    by_cases hS : s.S < n
    · rw [if_pos (by omega), if_pos hS]; simp
    · rw [if_neg (by omega), if_neg hS, if_pos (by omega)]; simp
  rw [e]
  exact ⟨rfl, rfl⟩
theorem c_need_no {w : World} {base bo bi : Nat} {wr : World} {u : Value} {L : List Mq} {s : Sw} {n : Nat} (h : Cm w base bo bi wr u L s) (ho : s.Ok n) (hn : n ≤ 60) (hd : ¬ dueW n s) :
    Calls Tryd.prog 27 #[.pointer (some ⟨bo, 0, none⟩), .int .i64 (n : Int)] wr fun e w' => e = .returned (.tuple #[.int .i64 0, .bool false]) ∧ wr = w' := by
  have h1 := ho.ap
  have h2 := ho.ps
  have h3 := ho.sn
  refine (st_need bo 0 1 (s.A : Int) (s.S : Int) (s.W : Int) (n : Int) wr h.o (by omega) (by omega)).mono ?_
  rintro e w' ⟨rfl, rfl⟩
  have e : needM (s.A : Int) (s.S : Int) (s.W : Int) (n : Int) = (0, false) := by
    unfold needM
    unfold dueW at hd
    rw [if_neg (by omega), if_neg (by omega)]
  rw [e]
  exact ⟨rfl, rfl⟩
theorem c_need {w : World} {base bo bi : Nat} {wr : World} {u : Value} {L : List Mq} {s : Sw} {n : Nat} (h : Cm w base bo bi wr u L s) (ho : s.Ok n) (hn : n ≤ 60) :
    Calls Tryd.prog 27 #[.pointer (some ⟨bo, 0, none⟩), .int .i64 (n : Int)] wr fun e w' => ∃ (fr : Nat) (du : Bool), e = .returned (.tuple #[.int .i64 (fr : Int), .bool du]) ∧ wr = w' ∧ ((du = true ∧ dueW n s ∧ fr = fromW n s) ∨ (du = false ∧ ¬ dueW n s)) := by
  by_cases hd : dueW n s
  · exact (c_need_yes h ho hn hd).mono fun e w' ⟨he, hw⟩ => ⟨fromW n s, true, he, hw, .inl ⟨rfl, hd, rfl⟩⟩
  · exact (c_need_no h ho hn hd).mono fun e w' ⟨he, hw⟩ => ⟨0, false, he, hw, .inr ⟨rfl, hd⟩⟩
theorem c_send {w : World} {base bo bi : Nat} {wr : World} {u : Value} {L : List Mq} {s : Sw} {n : Nat} (h : Cm w base bo bi wr u L s) (ho : s.Ok n) (hn : n ≤ 60) (hd : dueW n s) (ht : Nib wr)
    {A : Option Addr} {c : Nat} {R : List Mr} (hR : RowAt wr (.slice A R.length c) R) (hat : ∀ m ∈ R, m.At (fun _ => True) wr) (hr : R.map Mr.r = someR 0 (fromW n s) (manyW n s)) :
    Calls Tryd.prog 34 #[.pointer (some ⟨bo, 0, none⟩), .slice A R.length c] wr fun e w' => ∃ v, e = .returned (.tuple #[v, .int .i64 0]) ∧ NewMsg base w' u v ⟨true, fromW n s, manyW n s⟩ ∧ Cm w base bo bi w' u L ⟨s.A, max s.S (fromW n s + manyW n s - 1), 0, s.P, s.U⟩ := by
  have hb := due_bd ho hd
  have h1 := ho.ap
  have h2 := ho.ps
  have h3 := ho.sn
  have hl : R.length = manyW n s := by
    have := congrArg List.length hr
    rwa [List.length_map, someR_len] at this
  obtain ⟨A', c', he, hc⟩ := hR.ex
  injection he with e1 _ e3
  subst e1 e3
  obtain ⟨B, O, rfl, _⟩ := hc (by omega)
  have hby : ∀ m ∈ R, isBy m.r.key ∧ isBy m.r.val := fun m hm => by
    have := List.mem_map_of_mem (f := Mr.r) hm
    rw [hr] at this
    obtain ⟨i, _, e⟩ := someR_mem this
    rw [e]
    exact recS_by _ _
  have hs := st_send bo 0 1 (s.A : Int) (s.S : Int) (s.W : Int) B O c R wr h.o hR hat hby (by omega) (by omega) (by omega) (by omega) ht
  rw [hr] at hs
  refine hs.mono ?_
  rintro e w' hres
  have hz := send_some (a := s.A) (s := s.S) (f := fromW n s) (c := manyW n s) hb.2.1 hb.2.2.1 hb.2.2.2.2.1 hb.2.2.2.2.2 (by omega)
  rcases hres with ⟨q, _⟩ | ⟨_, v, rfl, hm, hp⟩
  · exact absurd hz q
  have hok : Mw.Ok s.P (max s.S (fromW n s + manyW n s - 1)) ⟨true, fromW n s, manyW n s⟩ := ⟨fun _ => ⟨hb.1, hb.2.1, hb.2.2.1, by show fromW n s + manyW n s ≤ _; omega⟩, (fun q => by cases q)⟩
  refine ⟨v, rfl, NewMsg.of h.q h.hb hm hok rfl rfl rfl, h.outp hp.only ?_⟩
  have e : max (s.S : Int) (fstS (someR 0 (fromW n s) (manyW n s)) + ((someR 0 (fromW n s) (manyW n s)).length : Int) - 1) = ((max s.S (fromW n s + manyW n s - 1) : Nat) : Int) := by
    rw [fstS_some hb.2.1, someR_len]
    omega
  have hx := hp.xb
  rw [e] at hx
  exact hx
theorem c_decode {base P S : Nat} {wr : World} {x : Mq} (h : x.At base wr) (hm : x.m.Ok P S) (hP : P ≤ 60) (hS : S ≤ 60) :
    Calls Tryd.prog 20 #[.slice (some ⟨x.g, 0, none⟩) (datW x.m).length x.cap] wr fun e w' => (∃ (L : List Mr) (A : Option Addr) (c : Nat), e = .returned (.tuple #[wdV (if x.m.d = true then 1 else 2) 0 (x.m.a : Int) 0 0 0 0 (.slice A L.length c), .int .i64 0]) ∧
      L.map Mr.r = (if x.m.d = true then someR 0 x.m.a x.m.c else []) ∧ RowAt w' (.slice A L.length c) L ∧ (∀ m ∈ L, m.At (fun _ => True) w') ∧ L.length ≤ 64) ∧ Below wr.heap.size wr w' := by
  have hokw := word_ok hm hP hS
  have hown := wd_dec_own hokw (word_by x.m)
  have hE := datW_eq hm
  have hby : isBy (datW x.m) := by rw [hE]; exact frE_by (word_by x.m)
  rw [← hE] at hown
  refine (rwd_dec_ok (some ⟨x.g, 0, none⟩) (datW x.m) x.cap wr h.by_ hby h.ln h.lc h.cm (frO_inv hby hown.1).2.2.2 hown.2.1).mono ?_
  rintro e w' ⟨hres, k⟩
  refine ⟨?_, k⟩
  rcases hres with ⟨h9, _⟩ | ⟨_, ⟨h9, _⟩ | ⟨k', o', s', m1', c1', m2', c2', L', A8, c8, hd, rfl, ho8, hl64, hats, hbys⟩⟩
  · exact absurd hown.1 h9
  · rw [hown.2.2] at h9; cases h9
  have hq := Option.some.inj (hd.symm.trans hown.2.2)
  unfold wdOf wordW at hq
  by_cases hdd : x.m.d = true
  · rw [if_pos hdd] at hq
    simp only [Wd.mk.injEq] at hq
    obtain ⟨rfl, rfl, rfl, rfl, rfl, rfl, rfl, hLr⟩ := hq
    exact ⟨L', A8, c8, by rw [if_pos hdd], by rw [if_pos hdd]; exact hLr, RowAt.of ho8, fun m hm => (hats m hm).mono (fun _ _ _ => trivial), hl64⟩
  · rw [if_neg hdd] at hq
    simp only [Wd.mk.injEq] at hq
    obtain ⟨rfl, rfl, rfl, rfl, rfl, rfl, rfl, hLr⟩ := hq
    exact ⟨L', A8, c8, by rw [if_neg hdd], by rw [if_neg hdd]; exact hLr, RowAt.of ho8, fun m hm => (hats m hm).mono (fun _ _ _ => trivial), hl64⟩
theorem c_ack {w : World} {base bo bi : Nat} {wr : World} {u : Value} {L : List Mq} {s : Sw} (h : Cm w base bo bi wr u L s) (q : Nat) :
    Calls Tryd.prog 30 #[.pointer (some ⟨bo, 0, none⟩), .int .i64 (q : Int)] wr fun e w' => (∃ b, e = .returned (.bool b)) ∧ Cm w base bo bi w' u L (ackW s q) := by
  refine (st_ack bo 0 1 (s.A : Int) (s.S : Int) (s.W : Int) (q : Int) wr h.o).mono ?_
  rintro e w' ⟨rfl, hp⟩
  refine ⟨⟨_, rfl⟩, ?_⟩
  have hx := hp.xb
  unfold ackW
  by_cases hl : s.A < q ∧ q ≤ s.S
  · rw [if_pos hl]
    rw [if_pos (by simp [ackB]; omega)] at hx
    exact h.outp hp.only hx
  · rw [if_neg hl]
    rw [if_neg (by simp [ackB]; omega)] at hx
    exact h.outp hp.only hx
theorem c_done {w : World} {base bo bi : Nat} {wr : World} {u : Value} {L : List Mq} {s : Sw} {n : Nat} (h : Cm w base bo bi wr u L s) (ho : s.Ok n) (hn : n ≤ 60) {q : Nat} (hq : s.P ≤ q ∧ q ≤ 60) (ht : ∀ W, Below w.heap.size w W → Nib W) :
    Calls Tryd.prog 43 #[.pointer (some ⟨bi, 0, none⟩), .int .i64 (q : Int)] wr fun e w' => ∃ v, e = .returned v ∧ NewMsg base w' u v ⟨false, q, 0⟩ ∧ Cm w base bo bi w' u L ⟨s.A, s.S, s.W, q, s.U⟩ := by
  have h2 := ho.ps
  have h3 := ho.sn
  refine (st_done bi 1 0 (s.P : Int) (q : Int) wr h.i (by omega) (by omega) (fun W k => ht W (h.bel.trans (k.below h.wi h.bel.size)))).mono ?_
  rintro e w' ⟨v, rfl, hm, hp⟩
  have e : doneM (s.P : Int) (q : Int) = (q : Int) := by unfold doneM; omega
  rw [e] at hm hp
  exact ⟨v, rfl, NewMsg.of (P := q) (S := q) h.q h.hb hm ⟨(fun q => by cases q), fun _ => Nat.le_refl _⟩ rfl rfl rfl, h.inp hp.only hp.xb⟩
end Go.Proofs.YtdffldlcbihjmaaDoor

/- Stage 18: StreamComes: the law's walk (written by gen/s18c.py). -/
namespace Go.Proofs.YtdffldlcbihjmaaDoor
open Go.RowKit Go.Sort Go.Op

theorem msg_size : (Tryd.prog.info? 84).map (·.size) = some 3 := by kernel_rfl
theorem msg_info : (Tryd.prog.info? 84).map (fun i => (i.zero, i.size, i.bytes)) = some (some (.agg #[.int .i64 0, .int .i64 0, .slice none 0 0]), 3, 40) := by kernel_rfl
set_option maxRecDepth 100000 in
set_option maxHeartbeats 16000000 in
theorem law_comes (n N : Nat) (DA : Option Addr) (dc : Nat) (dz : Nat → Int) (w : World) (ht : Nib w) (hD : IntsAt w DA N dz) (hn : n ≤ 60) (hN : N ≤ 200) :
    Calls Tryd.prog 7 #[.int .i64 (n : Int), .slice DA N dc] w fun e w' => e = .returned (.bool true) ∧ Below w.heap.size w w' := by
  obtain ⟨i0, hi0, hz0, hz1, hz2⟩ := info_parts msg_info
  have t1 : decide ((n : Int) < 0) = false := by simp
  have t2 : decide ((60 : Int) < (n : Int)) = false := by simp; omega
  have t3 : decide ((200 : Int) < (N : Int)) = false := by simp; omega
  have HT := Lib.hid (fun (W : World) (q : Below w.heap.size w W) => ht.below q)
  have HD := Lib.hid hD
  have HNN := Lib.hid (And.intro hn hN)
  have e150 : IntKind.i64.wrap ((N : Int) + 150) = (N : Int) + 150 := IntWalk.i64_in _ (by omega)
  clear ht hD
  go_enter Tryd.func7, Tryd.ntmps7
  go_wp2_with fail
  refine (st_new_out 0 1 0 _).mono ?_; rintro e w1 hr
  obtain ⟨bo, rfl, hbo, xo, k1⟩ := new_yes hr (by decide)
  clear hr
  go_wp2_with fail
  refine (st_new_in 1 0 0 _).mono ?_; rintro e w2 hr
  obtain ⟨bi, rfl, hbi, xi, k2⟩ := new_yes hr (by decide)
  have HC0 : Hid (Cm w w2.heap.size bo bi w2 (.slice none 0 0) [] ⟨0, 0, 0, 0, []⟩) := Lib.hid ⟨xo.below k2, xi, Lq.nil _ _, rfl, (xo.below k2).lt, xi.lt, Nat.ne_of_lt (Nat.lt_of_lt_of_le xo.lt hbi), hbo, Nat.le_trans k1.size hbi, k1.trans (k2.mono k1.size), Nat.le_refl _⟩
  clear hr xo xi k1 k2 hbo hbi
  generalize w2.heap.size = base at *
  go_wp2_with fail
  go_loopw [9, 10, 11] (fun u c i wr => ∃ (k : Nat) (L : List Mq) (s : Sw), k ≤ N + 150 ∧ i = .int .i64 (k : Int) ∧ c = .int .i64 (s.P : Int) ∧ GoodW n N k s ∧ Cm w base bo bi wr u L s) (fun _ _ i _ => N + 150 - (intOf i).toNat)
  case atStart => exact ⟨0, [], ⟨0, 0, 0, 0, []⟩, by omega, by simp, by simp, good_start n N HNN.out.2, HC0.out⟩
  case round =>
    obtain ⟨k, L, s, hk, rfl, rfl, hg, hc⟩ := hrel
    obtain ⟨A0, cap0, rfl, _, _⟩ := hc.shape
    have HG := Lib.hid hg
    have HC := Lib.hid hc
    clear hg hc HC0
    have wk : IntKind.i64.wrap ((k : Int) + 1) = (k : Int) + 1 := IntWalk.i64_in _ (by omega)
    by_cases h1 : k < N + 150
    · have t4 : decide ((k : Int) < (N : Int) + 150) = true := by simp; omega
      have H1 := Lib.hid h1
      clear h1 hk
      go_upto_if 66 with fail
      go_cut [12] (fun p wx => ∃ x : Int, p = .int .i64 x ∧ wr = wx ∧ (N ≤ k → x = 0))
      case first =>
        by_cases h2 : k < N
        · as_aux_lemma =>
          have t5 : decide ((k : Int) < (N : Int)) = true := by simp; omega
          have hki : (k : Int) < (N : Int) := by omega
          obtain ⟨DB, DO, hDA, hDB, hdc⟩ := HD.out (by omega)
          have c0 := (HC.out.bel.cell (p := ⟨DB, DO + k, none⟩) hDB).trans (hdc k h2).1
          clear HD hdc
          subst hDA
          go_wp2_with fail
          go_meet
          exact ⟨dz k, rfl, rfl, fun q => by omega⟩
        · as_aux_lemma =>
          have t5 : decide ((k : Int) < (N : Int)) = false := by simp; omega
          go_wp2_with fail
          go_meet
          exact ⟨0, rfl, rfl, fun _ => rfl⟩
      case rest =>
      obtain ⟨x, rfl, hwc, hx0⟩ := hcut
      subst hwc
      generalize wr = V0 at *
      obtain ⟨y, hy, hy3, hy0⟩ : ∃ y : Nat, bits .and .i64 x 3 = (y : Int) ∧ y ≤ 3 ∧ (N ≤ k → y = 0) := by
        have hb := bits_and_le x 3 (by omega)
        refine ⟨(bits .and .i64 x 3).toNat, ?_, ?_, fun q => ?_⟩
        · exact (Int.toNat_of_nonneg hb.1).symm
        · have : bits .and .i64 x 3 ≤ 3 := hb.2
          omega
        · rw [hx0 q]
          decide
      have HY := Lib.hid (And.intro hy (And.intro hy3 hy0))
      clear hx0 hy hy3 hy0
      go_wp2_with fail
      refine (c_tick HC.out (by have := HG.out.wt; have := H1.out; have := HNN.out; omega)).mono ?_; rintro e V1 ⟨rfl, hc1⟩
      have HO1 := Lib.hid HG.out.ok.tick
      have HU1 : Hid ((tickW s).U.length ≤ 500) := Lib.hid (HG.out.len HNN.out.2)
      have HPP : Hid ((tickW s).P = s.P) := Lib.hid rfl
      have HP500 : Hid (∀ y', phi (wthW y' (sendW n (tickW s))).U ≤ 700) := Lib.hid (fun y' => by
        have h1 := HG.out.phi HNN.out.2
        have h2 := phi_send n (tickW s)
        have h3 := phi_wth y' (sendW n (tickW s))
        have h4 : phi (tickW s).U = phi s.U := rfl
        omega)
      have HG1 : Hid (∀ x', (N ≤ k → x' = 0) → GoodW n N (k + 1) (if x' = 3 then wthW x' (sendW n (tickW s)) else dlN 10 (wthW x' (sendW n (tickW s))))) := Lib.hid (fun x' hx' => HG.out.next HNN.out.1 HNN.out.2 hx')
      have HC1 := Lib.hid hc1
      clear hc1 HC HG
      generalize tickW s = s1 at *
      have HLN : Hid (L.length ≤ 500) := Lib.hid (by have := congrArg List.length HC1.out.lm; rw [List.length_map] at this; have := HU1.out; omega)
      go_wp2_with fail
      refine (c_need HC1.out HO1.out HNN.out.1).mono ?_; rintro e V2 ⟨fr, du, rfl, rfl, hdu⟩
      have HDU := Lib.hid hdu
      clear hdu
      go_upto_if 79 with fail
      go_cut [9] (fun u wx => ∃ L', Cm w base bo bi wx u L' (sendW n s1))
      case first =>
        rcases HDU.out with ⟨rfl, hd, hfr0⟩ | ⟨rfl, hd⟩
        · as_aux_lemma =>
          have hb := due_bd HO1.out hd
          have hsn := HO1.out.sn
          obtain ⟨c, hcc⟩ : ∃ c, manyW n s1 = c := ⟨_, rfl⟩
          have hfr : fromW n s1 = fr := hfr0.symm
          clear hfr0
          have hcm : c = min 8 (n + 1 - fr) := by rw [← hcc, ← hfr]; rfl
          rw [hcc, hfr] at hb
          have e1 : IntKind.i64.wrap ((n : Int) - (fr : Int)) = (n : Int) - (fr : Int) := IntWalk.i64_in _ (by omega)
          have e2 : IntKind.i64.wrap ((n : Int) - (fr : Int) + 1) = (n : Int) - (fr : Int) + 1 := IntWalk.i64_in _ (by omega)
          have HDD := Lib.hid hd
          have HFR := Lib.hid (And.intro hfr hcc)
          have HBB := Lib.hid hb
          have HSM : Hid (∀ z : Int, z = (c : Int) → Calls Tryd.prog 29 #[.int .i64 0, .int .i64 (fr : Int), .int .i64 z] V1 fun e w' => SomeRes 0 fr c V1 w' e) := Lib.hid (fun z hz => by rw [hz]; exact law_some 0 fr c V1 (by omega) (by omega))
          have HSZ := Lib.hid (HSM.out (min 8 ((n : Int) - (fr : Int) + 1)) (by omega))
          clear HSM hb hd hfr hcc hcm
          go_wp2_with fail
          refine HSZ.out.mono ?_; rintro e V3 ⟨v3, R, rfl, hT, hR⟩
          have HC3 := Lib.hid (HC1.out.below hT.bel)
          have HTL := Lib.hid (And.intro hT.rowAt (And.intro hT.at_ hT.len))
          obtain ⟨A3, c3, rfl⟩ := hT.shape
          have HRR := Lib.hid hR
          clear hT hR HSZ HC1
          have HSD : Hid (Calls Tryd.prog 34 #[.pointer (some ⟨bo, 0, none⟩), .slice A3 c c3] V3 fun e w' => ∃ v, e = .returned (.tuple #[v, .int .i64 0]) ∧ NewMsg base w' (.slice A0 L.length cap0) v ⟨true, fr, c⟩ ∧ Cm w base bo bi w' (.slice A0 L.length cap0) L ⟨s1.A, max s1.S (fr + c - 1), 0, s1.P, s1.U⟩) := Lib.hid (by
            have h := c_send HC3.out HO1.out HNN.out.1 HDD.out (HT.out _ HC3.out.bel) (A := A3) (c := c3) (R := R) (by rw [HTL.out.2.2]; exact HTL.out.1) HTL.out.2.1 (by rw [HFR.out.1, HFR.out.2]; exact HRR.out)
            rw [HTL.out.2.2, HFR.out.1, HFR.out.2] at h
            exact h)
          go_wp2_with fail
          refine HSD.out.mono ?_; rintro e V4 ⟨v4, rfl, hm4, hc4⟩
          obtain ⟨B, cB, gd, capd, rfl, hxb, hat, hne⟩ := hm4
          have HC4 := Lib.hid hc4
          have HXB := Lib.hid hxb
          have HAT := Lib.hid hat
          have HNE := Lib.hid hne
          clear hxb hat hne hc4 HSD HTL HRR HC3
          go_upto_region 21 with fail
          refine wp_region_lit ?_
          refine wpList_plain rfl (fun KK hKK => ?_)
          go_simp
          refine hKK _ _ ?_
          refine wpList_plain rfl (fun KK hKK => ?_)
          go_simp
          refine hKK _ _ ?_
          have hq0 := HC4.out.q.q
          have hbs := HC4.out.hb
          refine wpList_append_qu rfl (.tmp 94) (.tmp 95) 59 rfl base 84 i0 _ 40 Tryd.underlying59 hi0 hz0 hz1 hz2 rfl _ _ _ rfl hq0 ⟨B, 0, none⟩ 1 cB (Mq.mk ⟨true, fr, c⟩ gd capd).cs rfl rfl (fun j u hu => by rw [at_add, Nat.zero_add]; exact HXB.out.c j u hu) (by simp [Mq.cs, Value.oneCell']) (by omega) (by unfold maxLen; have := HLN.out; omega) (by have := HLN.out; omega) hbs ?_
          intro g' o' cap' W' hq' hg' hat'
          clear hq0 hbs
          refine wpList_plain rfl (fun KK hKK => ?_)
          go_simp
          refine hKK _ _ ?_
          refine wpList_nil ?_
          have HCA := Lib.hid (Cm.app HC4.out HAT.out HNE.out hq' hg' hat')
          clear hq' hg' hat'
          have hss : sendW n s1 = ⟨s1.A, max s1.S (fr + c - 1), 0, s1.P, s1.U ++ [⟨true, fr, c⟩]⟩ := by
            unfold sendW
            rw [if_pos HDD.out]
            unfold sentW
            rw [HFR.out.1, HFR.out.2]
          have HSS := Lib.hid hss
          clear hss
          go_wp2_with fail
          go_meet
          exact ⟨L ++ [⟨⟨true, fr, c⟩, gd, capd⟩], by rw [HSS.out]; exact HCA.out⟩
        · as_aux_lemma =>
          have HSS : Hid (sendW n s1 = s1) := Lib.hid (by unfold sendW; rw [if_neg hd])
          clear hd
          go_wp2_with fail
          go_meet
          exact ⟨L, by rw [HSS.out]; exact HC1.out⟩
      case rest =>
      obtain ⟨L2, hc2⟩ := hcut
      generalize wc = V5 at *
      clear HC1 HLN HDU
      have HC2 := Lib.hid hc2
      have HO2 := Lib.hid (HO1.out.send)
      have HU2 : Hid ((sendW n s1).U.length ≤ 501) := Lib.hid (by
        unfold sendW
        split
        · show (s1.U ++ _).length ≤ 501
          rw [List.length_append]
          have := HU1.out
          simp
          omega
        · exact Nat.le_succ_of_le HU1.out)
      have HPP2 : Hid (∀ y', (wthW y' (sendW n s1)).P = s.P) := Lib.hid (fun y' => by rw [wth_P, send_P]; exact HPP.out)
      obtain ⟨A5, cap5, rfl, _, _⟩ := hc2.shape
      clear hc2 HO1 HU1 HPP
      generalize sendW n s1 = s2 at *
      have hy := HY.out.1
      have HLE : Hid (L2.length = s2.U.length) := Lib.hid (by have := congrArg List.length HC2.out.lm; rwa [List.length_map] at this)
      go_upto_region 22 with fail
      go_cut [104] (fun p wx => p = .bool (decide (y = 1 ∧ 0 < L2.length)) ∧ V5 = wx)
      case first =>
        by_cases hy1 : y = 1
        · have e1 : ((y : Int) == 1) = true := by rw [hy1]; rfl
          by_cases hl : 0 < L2.length
          · as_aux_lemma =>
            have e2 : decide ((0 : Int) < (L2.length : Int)) = true := decide_eq_true (by omega)
            go_wp2_with fail
            go_meet
            exact ⟨by rw [decide_eq_true (show y = 1 ∧ 0 < L2.length from ⟨hy1, hl⟩)], rfl⟩
          · as_aux_lemma =>
            have e2 : decide ((0 : Int) < (L2.length : Int)) = false := decide_eq_false (by omega)
            go_wp2_with fail
            go_meet
            exact ⟨by rw [decide_eq_false (show ¬ (y = 1 ∧ 0 < L2.length) from fun q => hl q.2)], rfl⟩
        · as_aux_lemma =>
          have e1 : ((y : Int) == 1) = false := by rw [beq_eq_false_iff_ne]; omega
          go_wp2_with fail
          go_meet
          exact ⟨by rw [decide_eq_false (show ¬ (y = 1 ∧ 0 < L2.length) from fun q => hy1 q.1)], rfl⟩
      case rest =>
      obtain ⟨rfl, hwc⟩ := hcut
      subst hwc
      obtain ⟨b1, hb1⟩ : ∃ b, decide (y = 1 ∧ 0 < L2.length) = b := ⟨_, rfl⟩
      rw [hb1]
      have HB1 := Lib.hid hb1
      clear hb1
      go_upto_if 104 with fail
      go_cut [9] (fun u wx => ∃ L', Cm w base bo bi wx u L' (if y = 1 then loseW s2 else s2))
      case first =>
        cases b1
        · as_aux_lemma =>
          have hs : (if y = 1 then loseW s2 else s2) = s2 := by
            by_cases hy1 : y = 1
            · rw [if_pos hy1]
              refine lose_nil (List.length_eq_zero_iff.1 ?_)
              have h1 := of_decide_eq_false HB1.out
              have h2 := HLE.out
              have : ¬ 0 < L2.length := fun q => h1 ⟨hy1, q⟩
              omega
            · rw [if_neg hy1]
          have HS := Lib.hid hs
          clear hs
          go_wp2_with fail
          go_meet
          exact ⟨L2, by rw [HS.out]; exact HC2.out⟩
        · as_aux_lemma =>
          obtain ⟨hy1, hl⟩ := of_decide_eq_true HB1.out
          have HS : Hid ((if y = 1 then loseW s2 else s2) = ⟨s2.A, s2.S, s2.W, s2.P, s2.U.tail⟩) := Lib.hid (by rw [if_pos hy1]; rfl)
          cases L2 with
          | nil => exact absurd hl (by simp)
          | cons q T =>
          obtain ⟨g, o, cap, he, _, hTc, _, _⟩ := HC2.out.cons
          rw [he] at HC2 ⊢
          clear he hl hy1
          by_cases hcap : cap = 1
          · subst hcap
            have HPOP := Lib.hid ((HC2.out.pop.2 rfl o))
            obtain ⟨hp1, rfl⟩ := HPOP.out
            have HP1 := Lib.hid hp1
            clear hp1 HPOP
            go_wp2_with fail
            go_meet
            exact ⟨[], by rw [HS.out]; exact HP1.out⟩
          · have hcap1 : 1 < cap := by omega
            have HPOP := Lib.hid (HC2.out.pop.1 hcap1)
            have g1 : (1 : Int) ≤ (T.length : Int) + 1 := by omega
            go_wp2_with fail
            go_meet
            exact ⟨T, by rw [HS.out]; exact HPOP.out⟩
      case rest =>
      obtain ⟨L3, hc3⟩ := hcut
      generalize wc = V6 at *
      obtain ⟨A6, cap6, rfl, _, _⟩ := hc3.shape
      have HC3 := Lib.hid hc3
      have HL3 : Hid (L3.length = (if y = 1 then loseW s2 else s2).U.length) := Lib.hid (by have := congrArg List.length hc3.lm; rwa [List.length_map] at this)
      clear hc3 HC2 HB1 HLE
      go_upto_region 24 with fail
      go_cut [119] (fun p wx => p = .bool (decide (y = 2 ∧ 0 < L3.length ∧ L3.length < 50)) ∧ V6 = wx)
      case first =>
        by_cases hy1 : y = 2
        · have e1 : ((y : Int) == 2) = true := by rw [hy1]; rfl
          by_cases hl : 0 < L3.length
          · have e2 : decide ((0 : Int) < (L3.length : Int)) = true := decide_eq_true (by omega)
            by_cases hm : L3.length < 50
            · as_aux_lemma =>
              have e3 : decide ((L3.length : Int) < 50) = true := by simp; omega
              go_wp2_with fail
              go_meet
              exact ⟨by rw [decide_eq_true (show y = 2 ∧ 0 < L3.length ∧ L3.length < 50 from ⟨hy1, hl, hm⟩)], rfl⟩
            · as_aux_lemma =>
              have e3 : decide ((L3.length : Int) < 50) = false := by simp; omega
              go_wp2_with fail
              go_meet
              exact ⟨by rw [decide_eq_false (show ¬ (y = 2 ∧ 0 < L3.length ∧ L3.length < 50) from fun q => hm q.2.2)], rfl⟩
          · as_aux_lemma =>
            have e2 : decide ((0 : Int) < (L3.length : Int)) = false := decide_eq_false (by omega)
            go_wp2_with fail
            go_meet
            exact ⟨by rw [decide_eq_false (show ¬ (y = 2 ∧ 0 < L3.length ∧ L3.length < 50) from fun q => hl q.2.1)], rfl⟩
        · as_aux_lemma =>
          have e1 : ((y : Int) == 2) = false := by rw [beq_eq_false_iff_ne]; omega
          go_wp2_with fail
          go_meet
          exact ⟨by rw [decide_eq_false (show ¬ (y = 2 ∧ 0 < L3.length ∧ L3.length < 50) from fun q => hy1 q.1)], rfl⟩
      case rest =>
      obtain ⟨rfl, hwc⟩ := hcut
      subst hwc
      obtain ⟨b2, hb2⟩ : ∃ b, decide (y = 2 ∧ 0 < L3.length ∧ L3.length < 50) = b := ⟨_, rfl⟩
      rw [hb2]
      have HB2 := Lib.hid hb2
      clear hb2
      go_upto_if 119 with fail
      go_cut [9] (fun u wx => ∃ L', Cm w base bo bi wx u L' (wthW y s2))
      case first =>
        cases b2
        · as_aux_lemma =>
          have hs : wthW y s2 = (if y = 1 then loseW s2 else s2) := by
            unfold wthW
            by_cases hy1 : y = 1
            · rw [if_pos hy1, if_pos hy1]
            · rw [if_neg hy1, if_neg hy1]
              by_cases hy2 : y = 2
              · rw [if_pos hy2]
                have h1 := of_decide_eq_false HB2.out
                have h2 := HL3.out
                rw [if_neg hy1] at h2
                by_cases h0 : s2.U = []
                · exact dbl_nil h0
                · have h3 : 0 < s2.U.length := List.length_pos_iff.2 h0
                  exact dbl_long (fun q => h1 ⟨hy2, by omega, by omega⟩)
              · rw [if_neg hy2]
          have HS := Lib.hid hs
          clear hs
          go_wp2_with fail
          go_meet
          exact ⟨L3, by rw [HS.out]; exact HC3.out⟩
        · as_aux_lemma =>
          obtain ⟨hy2, hl, h50⟩ := of_decide_eq_true HB2.out
          have h1e : (if y = 1 then loseW s2 else s2) = s2 := if_neg (by omega)
          rw [h1e] at HC3 HL3
          cases L3 with
          | nil => exact absurd hl (by simp)
          | cons q T =>
          obtain ⟨g, o, cap, he, hgl, hTc, hcm, hrg⟩ := HC3.out.cons
          rw [he] at HC3 ⊢
          have HAQ := Lib.hid (HC3.out.q.at_ q (List.mem_cons_self ..))
          have hun : s2.U = q.m :: T.map Mq.m := HC3.out.lm.symm
          have HS : Hid (wthW y s2 = ⟨s2.A, s2.S, s2.W, s2.P, T.map Mq.m ++ [q.m, q.m]⟩) := Lib.hid (by
            unfold wthW
            rw [if_neg (by omega), if_pos hy2]
            exact dbl_short hun (by rw [← HL3.out]; exact h50))
          have HUT2 : Hid (s2.U.tail = T.map Mq.m) := Lib.hid (by rw [hun]; rfl)
          have HT50 : Hid (T.length + 1 < 50) := Lib.hid h50
          have hT1 : (1 : Int) ≤ (T.length : Int) + 1 := by omega
          have hT0 : (0 : Int) < (T.length : Int) + 1 := by omega
          clear he hl hy2 h50 h1e hun
          by_cases hcap : cap = 1
          · subst hcap
            obtain rfl : T = [] := List.length_eq_zero_iff.1 (by omega)
            go_upto_region 25 with fail
            refine wp_region_held_drew (S := fun _ => True) (by kernel_rfl) ?_ (fun hHeld => ?_)
            · trivial
            have kd : Below V6.heap.size V6 V6.drew := (Below.refl _ _).drew
            obtain ⟨V8, hV8⟩ : ∃ V8, V6.drew = V8 := ⟨_, rfl⟩
            rw [hV8] at kd ⊢
            clear hV8
            have HC8 := Lib.hid (HC3.out.below kd)
            have rq : V8.rangeAt g o q.cs := fun j u hu => (kd.cell (p := ⟨g, o + j, none⟩) hgl).trans (hrg j u hu)
            have HAQ8 := Lib.hid (And.intro (HAQ.out.1.but (S := fun _ => False) (But.of_below kd) (fun h => h)) HAQ.out.2)
            clear kd hrg
            refine tk9 0 ?_
            refine tk9 1 ?_
            refine tk9 2 ?_
            refine tk9 3 ?_
            refine tk9 5 ?_
            refine tk9 6 ?_
            refine wpAnyH_ready (rs := [4, 7]) (by kernel_rfl) (by simp) ?_
            refine AllReadyH.cons rfl (fun K hK => ?_) (AllReadyH.cons rfl (fun K hK => ?_) (AllReadyH.nil))
            · rw [if_pos (by rfl)]
              refine wp_load_mid 84 (.tmp 123) rfl g o rfl q.cs _ rq Tryd.underlying84 rfl msg_size ?_
              refine hK.out _ _ trivial (fun hHeld => ?_)
              clear hK K
              (try simp only [Act.put, List.setIfInBounds_toArray, List.set_cons_zero, List.set_cons_succ, List.getElem_toArray, List.getElem_cons_succ, List.getElem_cons_zero])
              refine wpAnyH_ready (rs := [7]) (by kernel_rfl) (by simp) ?_
              refine AllReadyH.cons rfl (fun K hK => ?_) (AllReadyH.nil)
              rw [if_pos (by rfl)]
              refine wp_load_mid 84 (.tmp 126) rfl g o rfl q.cs _ rq Tryd.underlying84 rfl msg_size ?_
              refine hK.out _ _ trivial (fun hHeld => ?_)
              clear hK K
              (try simp only [Act.put, List.setIfInBounds_toArray, List.set_cons_zero, List.set_cons_succ, List.getElem_toArray, List.getElem_cons_succ, List.getElem_cons_zero])
              refine wpAnyH_ready (rs := [8]) (by kernel_rfl) (by simp) ?_
              refine AllReadyH.cons rfl (fun K hK => ?_) (AllReadyH.nil)
              rw [if_pos (by rfl)]
              refine wp_buildSlice 59 84 2 _ rfl (q.cs ++ q.cs).toArray i0 _ Tryd.underlying59 hi0 hz0 (by rw [hz1]; omega) (by rw [hz1]; omega) (by rw [Array.toList_map]; exact fill2 i0 hz1 (.agg #[.int .i64 0, .int .i64 0, .slice none 0 0]) q.cs q.cs rfl rfl) ?_
              have hnw : ∀ j u, (q.cs ++ q.cs)[j]? = some u → (V8.alloc (.cells (q.cs ++ q.cs).toArray 84)).cell? ((⟨V8.heap.size, 0, none⟩ : Addr).add j) = some u := World.news_of_block (fr := (0, 0)) (heap_alloc_new V8 (.cells (q.cs ++ q.cs).toArray 84))
              obtain ⟨V9, hV9⟩ : ∃ V, V8.alloc (.cells (q.cs ++ q.cs).toArray 84) = V := ⟨_, rfl⟩
              have k9 : Below V8.heap.size V8 V9 := by rw [← hV9]; exact (Below.refl _ _).alloc (Nat.le_refl _) _
              rw [hV9] at hnw ⊢
              clear hV9
              refine hK.out _ _ trivial (fun hHeld => ?_)
              clear hK K
              (try simp only [Act.put, List.setIfInBounds_toArray, List.set_cons_zero, List.set_cons_succ, List.getElem_toArray, List.getElem_cons_succ, List.getElem_cons_zero])
              have HC9 := Lib.hid (HC8.out.below k9)
              have HAQ9 := Lib.hid (And.intro (HAQ8.out.1.but (S := fun _ => False) (But.of_below k9) (fun h => h)) HAQ8.out.2)
              have HPO := Lib.hid ((HC9.out.pop.2 rfl o).1)
              clear k9
              refine wpAnyH_ready (rs := [9]) (by kernel_rfl) (by simp) ?_
              refine AllReadyH.cons rfl (fun K hK => ?_) (AllReadyH.nil)
              rw [if_pos (by rfl)]
              refine wp_append_qu (.tmp 121) (.tmp 128) 59 rfl base 84 i0 _ 40 Tryd.underlying59 hi0 hz0 hz1 hz2 rfl (.slice (some ⟨g, o, none⟩) 0 0) 0 [] rfl HPO.out.q.q ⟨V8.heap.size, 0, none⟩ 2 2 (q.cs ++ q.cs) rfl rfl hnw (by simp [Mq.cs, Value.oneCell']) (by omega) (by unfold maxLen; have := HT50.out; omega) (by have := HT50.out; omega) HPO.out.hb ?_
              intro g' o' cap' W' hq' hg' hat'
              have HCA := Lib.hid (Cm.apps (M := [q, q]) HPO.out (fun x hx => by
                have hxq : x = q := by simpa using hx
                rw [hxq]
                exact ⟨HAQ9.out.1, HAQ9.out.2⟩) (by simpa using hq') hg' hat')
              clear hq' hg' hat' hnw
              refine hK.out _ _ trivial (fun hHeld => ?_)
              clear hK K
              (try simp only [Act.put, List.setIfInBounds_toArray, List.set_cons_zero, List.set_cons_succ, List.getElem_toArray, List.getElem_cons_succ, List.getElem_cons_zero])
              refine tk9 10 ?_
              refine wpAnyH_done (by kernel_rfl) ?_ _
              clear hHeld
              go_wp2_with fail
              go_meet
              exact ⟨[q, q], by rw [HS.out, ← HUT2.out]; exact HCA.out⟩
            · rw [if_pos (by rfl)]
              refine wp_load_mid 84 (.tmp 126) rfl g o rfl q.cs _ rq Tryd.underlying84 rfl msg_size ?_
              refine hK.out _ _ trivial (fun hHeld => ?_)
              clear hK K
              (try simp only [Act.put, List.setIfInBounds_toArray, List.set_cons_zero, List.set_cons_succ, List.getElem_toArray, List.getElem_cons_succ, List.getElem_cons_zero])
              refine wpAnyH_ready (rs := [4]) (by kernel_rfl) (by simp) ?_
              refine AllReadyH.cons rfl (fun K hK => ?_) (AllReadyH.nil)
              rw [if_pos (by rfl)]
              refine wp_load_mid 84 (.tmp 123) rfl g o rfl q.cs _ rq Tryd.underlying84 rfl msg_size ?_
              refine hK.out _ _ trivial (fun hHeld => ?_)
              clear hK K
              (try simp only [Act.put, List.setIfInBounds_toArray, List.set_cons_zero, List.set_cons_succ, List.getElem_toArray, List.getElem_cons_succ, List.getElem_cons_zero])
              refine wpAnyH_ready (rs := [8]) (by kernel_rfl) (by simp) ?_
              refine AllReadyH.cons rfl (fun K hK => ?_) (AllReadyH.nil)
              rw [if_pos (by rfl)]
              refine wp_buildSlice 59 84 2 _ rfl (q.cs ++ q.cs).toArray i0 _ Tryd.underlying59 hi0 hz0 (by rw [hz1]; omega) (by rw [hz1]; omega) (by rw [Array.toList_map]; exact fill2 i0 hz1 (.agg #[.int .i64 0, .int .i64 0, .slice none 0 0]) q.cs q.cs rfl rfl) ?_
              have hnw : ∀ j u, (q.cs ++ q.cs)[j]? = some u → (V8.alloc (.cells (q.cs ++ q.cs).toArray 84)).cell? ((⟨V8.heap.size, 0, none⟩ : Addr).add j) = some u := World.news_of_block (fr := (0, 0)) (heap_alloc_new V8 (.cells (q.cs ++ q.cs).toArray 84))
              obtain ⟨V9, hV9⟩ : ∃ V, V8.alloc (.cells (q.cs ++ q.cs).toArray 84) = V := ⟨_, rfl⟩
              have k9 : Below V8.heap.size V8 V9 := by rw [← hV9]; exact (Below.refl _ _).alloc (Nat.le_refl _) _
              rw [hV9] at hnw ⊢
              clear hV9
              refine hK.out _ _ trivial (fun hHeld => ?_)
              clear hK K
              (try simp only [Act.put, List.setIfInBounds_toArray, List.set_cons_zero, List.set_cons_succ, List.getElem_toArray, List.getElem_cons_succ, List.getElem_cons_zero])
              have HC9 := Lib.hid (HC8.out.below k9)
              have HAQ9 := Lib.hid (And.intro (HAQ8.out.1.but (S := fun _ => False) (But.of_below k9) (fun h => h)) HAQ8.out.2)
              have HPO := Lib.hid ((HC9.out.pop.2 rfl o).1)
              clear k9
              refine wpAnyH_ready (rs := [9]) (by kernel_rfl) (by simp) ?_
              refine AllReadyH.cons rfl (fun K hK => ?_) (AllReadyH.nil)
              rw [if_pos (by rfl)]
              refine wp_append_qu (.tmp 121) (.tmp 128) 59 rfl base 84 i0 _ 40 Tryd.underlying59 hi0 hz0 hz1 hz2 rfl (.slice (some ⟨g, o, none⟩) 0 0) 0 [] rfl HPO.out.q.q ⟨V8.heap.size, 0, none⟩ 2 2 (q.cs ++ q.cs) rfl rfl hnw (by simp [Mq.cs, Value.oneCell']) (by omega) (by unfold maxLen; have := HT50.out; omega) (by have := HT50.out; omega) HPO.out.hb ?_
              intro g' o' cap' W' hq' hg' hat'
              have HCA := Lib.hid (Cm.apps (M := [q, q]) HPO.out (fun x hx => by
                have hxq : x = q := by simpa using hx
                rw [hxq]
                exact ⟨HAQ9.out.1, HAQ9.out.2⟩) (by simpa using hq') hg' hat')
              clear hq' hg' hat' hnw
              refine hK.out _ _ trivial (fun hHeld => ?_)
              clear hK K
              (try simp only [Act.put, List.setIfInBounds_toArray, List.set_cons_zero, List.set_cons_succ, List.getElem_toArray, List.getElem_cons_succ, List.getElem_cons_zero])
              refine tk9 10 ?_
              refine wpAnyH_done (by kernel_rfl) ?_ _
              clear hHeld
              go_wp2_with fail
              go_meet
              exact ⟨[q, q], by rw [HS.out, ← HUT2.out]; exact HCA.out⟩
          · have hcap1 : 1 < cap := by omega
            go_upto_region 25 with fail
            refine wp_region_held_drew (S := fun _ => True) (by kernel_rfl) ?_ (fun hHeld => ?_)
            · trivial
            have kd : Below V6.heap.size V6 V6.drew := (Below.refl _ _).drew
            obtain ⟨V8, hV8⟩ : ∃ V8, V6.drew = V8 := ⟨_, rfl⟩
            rw [hV8] at kd ⊢
            clear hV8
            have HC8 := Lib.hid (HC3.out.below kd)
            have rq : V8.rangeAt g o q.cs := fun j u hu => (kd.cell (p := ⟨g, o + j, none⟩) hgl).trans (hrg j u hu)
            have HAQ8 := Lib.hid (And.intro (HAQ.out.1.but (S := fun _ => False) (But.of_below kd) (fun h => h)) HAQ.out.2)
            clear kd hrg
            refine tk9 0 ?_
            refine tk9 1 ?_
            refine tk9 2 ?_
            refine tk9 3 ?_
            refine tk9 5 ?_
            refine tk9 6 ?_
            refine wpAnyH_ready (rs := [4, 7]) (by kernel_rfl) (by simp) ?_
            refine AllReadyH.cons rfl (fun K hK => ?_) (AllReadyH.cons rfl (fun K hK => ?_) (AllReadyH.nil))
            · rw [if_pos (by rfl)]
              refine wp_load_mid 84 (.tmp 123) rfl g o rfl q.cs _ rq Tryd.underlying84 rfl msg_size ?_
              refine hK.out _ _ trivial (fun hHeld => ?_)
              clear hK K
              (try simp only [Act.put, List.setIfInBounds_toArray, List.set_cons_zero, List.set_cons_succ, List.getElem_toArray, List.getElem_cons_succ, List.getElem_cons_zero])
              refine wpAnyH_ready (rs := [7]) (by kernel_rfl) (by simp) ?_
              refine AllReadyH.cons rfl (fun K hK => ?_) (AllReadyH.nil)
              rw [if_pos (by rfl)]
              refine wp_load_mid 84 (.tmp 126) rfl g o rfl q.cs _ rq Tryd.underlying84 rfl msg_size ?_
              refine hK.out _ _ trivial (fun hHeld => ?_)
              clear hK K
              (try simp only [Act.put, List.setIfInBounds_toArray, List.set_cons_zero, List.set_cons_succ, List.getElem_toArray, List.getElem_cons_succ, List.getElem_cons_zero])
              refine wpAnyH_ready (rs := [8]) (by kernel_rfl) (by simp) ?_
              refine AllReadyH.cons rfl (fun K hK => ?_) (AllReadyH.nil)
              rw [if_pos (by rfl)]
              refine wp_buildSlice 59 84 2 _ rfl (q.cs ++ q.cs).toArray i0 _ Tryd.underlying59 hi0 hz0 (by rw [hz1]; omega) (by rw [hz1]; omega) (by rw [Array.toList_map]; exact fill2 i0 hz1 (.agg #[.int .i64 0, .int .i64 0, .slice none 0 0]) q.cs q.cs rfl rfl) ?_
              have hnw : ∀ j u, (q.cs ++ q.cs)[j]? = some u → (V8.alloc (.cells (q.cs ++ q.cs).toArray 84)).cell? ((⟨V8.heap.size, 0, none⟩ : Addr).add j) = some u := World.news_of_block (fr := (0, 0)) (heap_alloc_new V8 (.cells (q.cs ++ q.cs).toArray 84))
              obtain ⟨V9, hV9⟩ : ∃ V, V8.alloc (.cells (q.cs ++ q.cs).toArray 84) = V := ⟨_, rfl⟩
              have k9 : Below V8.heap.size V8 V9 := by rw [← hV9]; exact (Below.refl _ _).alloc (Nat.le_refl _) _
              rw [hV9] at hnw ⊢
              clear hV9
              refine hK.out _ _ trivial (fun hHeld => ?_)
              clear hK K
              (try simp only [Act.put, List.setIfInBounds_toArray, List.set_cons_zero, List.set_cons_succ, List.getElem_toArray, List.getElem_cons_succ, List.getElem_cons_zero])
              have HC9 := Lib.hid (HC8.out.below k9)
              have HAQ9 := Lib.hid (And.intro (HAQ8.out.1.but (S := fun _ => False) (But.of_below k9) (fun h => h)) HAQ8.out.2)
              have HPO := Lib.hid (HC9.out.pop.1 hcap1)
              clear k9
              refine wpAnyH_ready (rs := [9]) (by kernel_rfl) (by simp) ?_
              refine AllReadyH.cons rfl (fun K hK => ?_) (AllReadyH.nil)
              rw [if_pos (by rfl)]
              refine wp_append_qu (.tmp 121) (.tmp 128) 59 rfl base 84 i0 _ 40 Tryd.underlying59 hi0 hz0 hz1 hz2 rfl (.slice (some ⟨g, o + 3, none⟩) T.length (cap - 1)) T.length (T.flatMap Mq.cs) rfl HPO.out.q.q ⟨V8.heap.size, 0, none⟩ 2 2 (q.cs ++ q.cs) rfl rfl hnw (by simp [Mq.cs, Value.oneCell']) (by omega) (by unfold maxLen; have := HT50.out; omega) (by have := HT50.out; omega) HPO.out.hb ?_
              intro g' o' cap' W' hq' hg' hat'
              have HCA := Lib.hid (Cm.apps (M := [q, q]) HPO.out (fun x hx => by
                have hxq : x = q := by simpa using hx
                rw [hxq]
                exact ⟨HAQ9.out.1, HAQ9.out.2⟩) hq' hg' hat')
              clear hq' hg' hat' hnw
              refine hK.out _ _ trivial (fun hHeld => ?_)
              clear hK K
              (try simp only [Act.put, List.setIfInBounds_toArray, List.set_cons_zero, List.set_cons_succ, List.getElem_toArray, List.getElem_cons_succ, List.getElem_cons_zero])
              refine tk9 10 ?_
              refine wpAnyH_done (by kernel_rfl) ?_ _
              clear hHeld
              go_wp2_with fail
              go_meet
              exact ⟨T ++ [q, q], by rw [HS.out, ← HUT2.out]; exact HCA.out⟩
            · rw [if_pos (by rfl)]
              refine wp_load_mid 84 (.tmp 126) rfl g o rfl q.cs _ rq Tryd.underlying84 rfl msg_size ?_
              refine hK.out _ _ trivial (fun hHeld => ?_)
              clear hK K
              (try simp only [Act.put, List.setIfInBounds_toArray, List.set_cons_zero, List.set_cons_succ, List.getElem_toArray, List.getElem_cons_succ, List.getElem_cons_zero])
              refine wpAnyH_ready (rs := [4]) (by kernel_rfl) (by simp) ?_
              refine AllReadyH.cons rfl (fun K hK => ?_) (AllReadyH.nil)
              rw [if_pos (by rfl)]
              refine wp_load_mid 84 (.tmp 123) rfl g o rfl q.cs _ rq Tryd.underlying84 rfl msg_size ?_
              refine hK.out _ _ trivial (fun hHeld => ?_)
              clear hK K
              (try simp only [Act.put, List.setIfInBounds_toArray, List.set_cons_zero, List.set_cons_succ, List.getElem_toArray, List.getElem_cons_succ, List.getElem_cons_zero])
              refine wpAnyH_ready (rs := [8]) (by kernel_rfl) (by simp) ?_
              refine AllReadyH.cons rfl (fun K hK => ?_) (AllReadyH.nil)
              rw [if_pos (by rfl)]
              refine wp_buildSlice 59 84 2 _ rfl (q.cs ++ q.cs).toArray i0 _ Tryd.underlying59 hi0 hz0 (by rw [hz1]; omega) (by rw [hz1]; omega) (by rw [Array.toList_map]; exact fill2 i0 hz1 (.agg #[.int .i64 0, .int .i64 0, .slice none 0 0]) q.cs q.cs rfl rfl) ?_
              have hnw : ∀ j u, (q.cs ++ q.cs)[j]? = some u → (V8.alloc (.cells (q.cs ++ q.cs).toArray 84)).cell? ((⟨V8.heap.size, 0, none⟩ : Addr).add j) = some u := World.news_of_block (fr := (0, 0)) (heap_alloc_new V8 (.cells (q.cs ++ q.cs).toArray 84))
              obtain ⟨V9, hV9⟩ : ∃ V, V8.alloc (.cells (q.cs ++ q.cs).toArray 84) = V := ⟨_, rfl⟩
              have k9 : Below V8.heap.size V8 V9 := by rw [← hV9]; exact (Below.refl _ _).alloc (Nat.le_refl _) _
              rw [hV9] at hnw ⊢
              clear hV9
              refine hK.out _ _ trivial (fun hHeld => ?_)
              clear hK K
              (try simp only [Act.put, List.setIfInBounds_toArray, List.set_cons_zero, List.set_cons_succ, List.getElem_toArray, List.getElem_cons_succ, List.getElem_cons_zero])
              have HC9 := Lib.hid (HC8.out.below k9)
              have HAQ9 := Lib.hid (And.intro (HAQ8.out.1.but (S := fun _ => False) (But.of_below k9) (fun h => h)) HAQ8.out.2)
              have HPO := Lib.hid (HC9.out.pop.1 hcap1)
              clear k9
              refine wpAnyH_ready (rs := [9]) (by kernel_rfl) (by simp) ?_
              refine AllReadyH.cons rfl (fun K hK => ?_) (AllReadyH.nil)
              rw [if_pos (by rfl)]
              refine wp_append_qu (.tmp 121) (.tmp 128) 59 rfl base 84 i0 _ 40 Tryd.underlying59 hi0 hz0 hz1 hz2 rfl (.slice (some ⟨g, o + 3, none⟩) T.length (cap - 1)) T.length (T.flatMap Mq.cs) rfl HPO.out.q.q ⟨V8.heap.size, 0, none⟩ 2 2 (q.cs ++ q.cs) rfl rfl hnw (by simp [Mq.cs, Value.oneCell']) (by omega) (by unfold maxLen; have := HT50.out; omega) (by have := HT50.out; omega) HPO.out.hb ?_
              intro g' o' cap' W' hq' hg' hat'
              have HCA := Lib.hid (Cm.apps (M := [q, q]) HPO.out (fun x hx => by
                have hxq : x = q := by simpa using hx
                rw [hxq]
                exact ⟨HAQ9.out.1, HAQ9.out.2⟩) hq' hg' hat')
              clear hq' hg' hat' hnw
              refine hK.out _ _ trivial (fun hHeld => ?_)
              clear hK K
              (try simp only [Act.put, List.setIfInBounds_toArray, List.set_cons_zero, List.set_cons_succ, List.getElem_toArray, List.getElem_cons_succ, List.getElem_cons_zero])
              refine tk9 10 ?_
              refine wpAnyH_done (by kernel_rfl) ?_ _
              clear hHeld
              go_wp2_with fail
              go_meet
              exact ⟨T ++ [q, q], by rw [HS.out, ← HUT2.out]; exact HCA.out⟩
      case rest =>
      obtain ⟨L4, hc4⟩ := hcut
      generalize wc = V7 at *
      have HC4 := Lib.hid hc4
      have HO4 : Hid ((wthW y s2).Ok n) := Lib.hid HO2.out.wth
      have HG4 := Lib.hid (HG1.out y HY.out.2.2)
      have HP4 := Lib.hid (HPP2.out y)
      have HQ4 := Lib.hid (HP500.out y)
      obtain ⟨A7, cap7, rfl, _, _⟩ := hc4.shape
      clear hc4 HC3 HB2 HL3 HO2 HU2 HG1 HPP2 hy
      generalize wthW y s2 = s4 at *
      rw [← HP4.out]
      go_wp2_with fail
      go_loopw [9, 10, 17] (fun u c j wi => ∃ (m : Nat) (L : List Mq), m ≤ 10 ∧ j = .int .i64 (m : Int) ∧ c = .int .i64 ((dlN m s4).P : Int) ∧ Cm w base bo bi wi u L (dlN m s4) ∧ (y = 3 → m = 0)) (fun _ _ j _ => 10 - (intOf j).toNat)
      case atStart => exact ⟨0, L4, by omega, by simp, rfl, HC4.out, fun _ => rfl⟩
      case round =>
        obtain ⟨m, L, hm, rfl, rfl, hc, hm0⟩ := hrel
        obtain ⟨A8, cap8, rfl, _, _⟩ := hc.shape
        have HCI := Lib.hid hc
        have HOI := Lib.hid (HO4.out.dlN m)
        have HLI : Hid (L.map Mq.m = (dlN m s4).U) := Lib.hid hc.lm
        have HLE : Hid (L.length ≤ 1000) := Lib.hid (by
          have h1 := (phi_len (dlN m s4).U).1
          rw [phi_dlN, ← hc.lm, List.length_map] at h1
          have h2 := HQ4.out
          omega)
        have HM0 := Lib.hid hm0
        clear hc HC4 hm0
        have wm : IntKind.i64.wrap ((m : Int) + 1) = (m : Int) + 1 := IntWalk.i64_in _ (by omega)
        have hy := HY.out.1
        by_cases h10 : m < 10
        · have t6 : decide ((m : Int) < 10) = true := by simp; omega
          by_cases hl : 0 < L.length
          · have t7 : decide ((0 : Int) < (L.length : Int)) = true := decide_eq_true (by omega)
            by_cases hy3 : y = 3
            · as_aux_lemma =>
              subst hy3
              have hF : dlN m s4 = (if 3 = 3 then s4 else dlN 10 s4) := by
                rw [if_pos rfl, HM0.out rfl]
                rfl
              have HF := Lib.hid hF
              clear hF
              (try clear hy3)
              (try clear h10)
              go_wp2_with fail
              go_roundw
              case rel => exact ⟨k + 1, L, if 3 = 3 then s4 else dlN 10 s4, by have := H1.out; omega, by go_num, by rw [← HF.out], HG4.out, by rw [← HF.out]; exact HCI.out⟩
              all_goals ((try simp only [intOf]); have := H1.out; omega)
            · have t8 : ((y : Int) != 3) = true := by rw [bne_iff_ne]; omega
              obtain ⟨q, T, hL⟩ : ∃ q T, L = q :: T := by
                cases L with
                | nil => exact absurd hl (by simp)
                | cons q T => exact ⟨q, T, rfl⟩
              subst hL
              obtain ⟨g, o, cap, he, hgl, hTc, hcm, hrg⟩ := HCI.out.cons
              have hll : (((q :: T).length : Nat) : Int) = (T.length : Int) + 1 := by simp
              rw [hll] at t7
              rw [he] at HCI ⊢
              have HUN : Hid ((dlN m s4).U = q.m :: T.map Mq.m) := Lib.hid HLI.out.symm
              have HAQ := Lib.hid (HCI.out.q.at_ q (List.mem_cons_self ..)).1
              have HOI2 := Lib.hid HOI.out.ps
              have HMO := Lib.hid (HOI.out.us q.m (by rw [HUN.out]; exact List.mem_cons_self ..))
              have HSN : Hid ((dlN m s4).P ≤ 60 ∧ (dlN m s4).S ≤ 60) := Lib.hid (by have h1 := HOI.out.ps; have h2 := HOI.out.sn; have h3 := HNN.out.1; omega)
              have HUT : Hid ((dlN m s4).U.tail = T.map Mq.m) := Lib.hid (by rw [HUN.out]; rfl)
              have HLT : Hid (T.length ≤ 1000) := Lib.hid (by have := HLE.out; simp at this; omega)
              have HH10 := Lib.hid h10
              have HY3 := Lib.hid hy3
              have hT1 : (1 : Int) ≤ (T.length : Int) + 1 := by omega
              have hT0 : (0 : Int) < (T.length : Int) + 1 := by omega
              have c2 : wr.cell? ⟨g, o + 2, none⟩ = some (.slice (some ⟨q.g, 0, none⟩) (datW q.m).length q.cap) := hrg 2 _ rfl
              clear he hll hm h10 hl hy3 HLI HLE HOI HM0
              obtain ⟨nd, hnd⟩ : ∃ nd, (datW q.m).length = nd := ⟨_, rfl⟩
              have HND := Lib.hid hnd
              rw [hnd] at c2
              clear hnd
              by_cases hd : q.m.d = true
              · as_aux_lemma =>
                have c0 : wr.cell? ⟨g, o, none⟩ = some (.int .i64 0) := by
                  have h : wr.cell? ⟨g, o, none⟩ = some (.int .i64 (if q.m.d = true then 0 else 1)) := hrg 0 _ rfl
                  rwa [if_pos hd] at h
                have c1 : wr.cell? ⟨g, o + 1, none⟩ = some (.int .i64 1) := by
                  have h : wr.cell? ⟨g, o + 1, none⟩ = some (.int .i64 (if q.m.d = true then 1 else 0)) := hrg 1 _ rfl
                  rwa [if_pos hd] at h
                have HDD := Lib.hid hd
                clear hrg hd
                have HX18 : Hid (XB (wr.alloc (.cells #[.int .i64 0, .int .i64 1, .slice (some ⟨q.g, 0, none⟩) nd q.cap] 84)) wr.heap.size [.int .i64 0, .int .i64 1, .slice (some ⟨q.g, 0, none⟩) nd q.cap]) := Lib.hid (XB.new wr _ _)
                have kA : Below wr.heap.size wr (wr.alloc (.cells #[.int .i64 0, .int .i64 1, .slice (some ⟨q.g, 0, none⟩) nd q.cap] 84)) := (Below.refl _ _).alloc (Nat.le_refl _) _
                have HCa := Lib.hid (HCI.out.below kA)
                have HAQa := Lib.hid (HAQ.out.but (S := fun _ => False) (But.of_below kA) (fun h => h))
                clear kA HCI HAQ
                go_upto_region 30 with fail
                generalize wr.alloc (.cells #[.int .i64 0, .int .i64 1, .slice (some ⟨q.g, 0, none⟩) nd q.cap] 84) = Va at *
                generalize wr.heap.size = b18 at *
                clear c0 c1 c2 hgl
                go_cut [9] (fun u wx => Va = wx ∧ Cm w base bo bi wx u T ⟨(dlN m s4).A, (dlN m s4).S, (dlN m s4).W, (dlN m s4).P, (dlN m s4).U.tail⟩)
                case first =>
                  by_cases hcap : cap = 1
                  · subst hcap
                    have HPOP := Lib.hid ((HCa.out.pop.2 rfl o))
                    obtain ⟨hp1, rfl⟩ := HPOP.out
                    have HP1 := Lib.hid hp1
                    clear hp1 HPOP
                    go_wp2_with fail
                    go_meet
                    exact ⟨rfl, HP1.out⟩
                  · have hcap1 : 1 < cap := by omega
                    have HPOP := Lib.hid (HCa.out.pop.1 hcap1)
                    go_wp2_with fail
                    go_meet
                    exact ⟨rfl, HPOP.out⟩
                case rest =>
                obtain ⟨hwc, hcb⟩ := hcut
                subst hwc
                obtain ⟨A9, cap9, rfl, _, _⟩ := hcb.shape
                rw [HUT.out] at hcb
                have HCb := Lib.hid hcb
                have HDEC : Hid (Calls Tryd.prog 20 #[.slice (some ⟨q.g, 0, none⟩) nd q.cap] Va fun e w' => (∃ (R : List Mr) (A : Option Addr) (c : Nat), e = .returned (.tuple #[wdV 1 0 (q.m.a : Int) 0 0 0 0 (.slice A R.length c), .int .i64 0]) ∧ R.map Mr.r = someR 0 q.m.a q.m.c ∧ RowAt w' (.slice A R.length c) R ∧ (∀ m ∈ R, m.At (fun _ => True) w') ∧ R.length ≤ 64) ∧ Below Va.heap.size Va w') := Lib.hid (by
                  have h := c_decode HAQa.out HMO.out HSN.out.1 HSN.out.2
                  simp only [HDD.out, if_true] at h
                  rw [HND.out] at h
                  exact h)
                have x2 := HX18.out.c 2 _ rfl
                have xl := HX18.out.lt
                clear hcb HCa HAQa hTc hcm
                go_wp2_with fail
                refine HDEC.out.mono ?_; rintro e Vb ⟨⟨R, A8, c8, rfl, hR, hrow, hat, h64⟩, kb⟩
                have kB : Below Vb.heap.size Vb (Vb.alloc (.cells (wdC 1 0 (q.m.a : Int) 0 0 0 0 (.slice A8 R.length c8)) 34)) := (Below.refl _ _).alloc (Nat.le_refl _) _
                have HX19 : Hid (XB (Vb.alloc (.cells (wdC 1 0 (q.m.a : Int) 0 0 0 0 (.slice A8 R.length c8)) 34)) Vb.heap.size [.int .i64 1, .int .i64 0, .int .i64 (q.m.a : Int), .int .i64 0, .int .i64 0, .int .i64 0, .int .i64 0, .slice A8 R.length c8]) := Lib.hid (XB.new Vb _ _)
                have HX18c := Lib.hid ((HX18.out.below kb).below kB)
                have HCc := Lib.hid ((HCb.out.below kb).below kB)
                have HRW := Lib.hid (And.intro (hrow.below kB) (And.intro (fun m hm => (hat m hm).below kB) h64))
                have HRR := Lib.hid hR
                clear kb kB hR hrow hat h64 x2 xl HX18 HCb HDEC
                go_upto_region 32 with fail
                generalize Vb.alloc (.cells (wdC 1 0 (q.m.a : Int) 0 0 0 0 (.slice A8 R.length c8)) 34) = Vc at *
                generalize Vb.heap.size = b19 at *
                have x1 := HX18c.out.c 1 _ rfl
                have xl := HX18c.out.lt
                have z2 := HX19.out.c 2 _ rfl
                have z7 := HX19.out.c 7 _ rfl
                have zl := HX19.out.lt
                have hda := HMO.out.dat HDD.out
                obtain ⟨P, hP⟩ : ∃ P, (dlN m s4).P = P := ⟨_, rfl⟩
                obtain ⟨P', hP'⟩ : ∃ P', comeP P q.m = P' := ⟨_, rfl⟩
                have hcb := come_bd HOI2.out HMO.out HDD.out
                have hqm : q.m = ⟨true, q.m.a, q.m.c⟩ := by
                  cases hq : q.m with
                  | mk d a c =>
                    have := HDD.out
                    rw [hq] at this
                    simp only at this
                    rw [this]
                have hcn : P' = P + newW P q.m.a q.m.c := by
                  rw [← hP', hqm]
                  exact come_new P q.m.a q.m.c hda.2.1
                have HNX : Hid (dlN (m + 1) s4 = ⟨(dlN m s4).A, (dlN m s4).S, (dlN m s4).W, P', T.map Mq.m ++ [⟨false, P', 0⟩]⟩) := Lib.hid (by
                  have := dlW_dat HUN.out HDD.out
                  rw [hP, hP'] at this
                  exact this)
                rw [hP, hP'] at hcb
                have HPB : Hid (P ≤ P' ∧ P' ≤ 60 ∧ P ≤ 60) := Lib.hid (by have := HSN.out; omega)
                have hts := take_some P q.m.c q.m.a hda.1 (by have := HSN.out.2; omega)
                have HTS : Hid (takeS 0 (P : Int) [] (R.map Mr.r) = someR 0 (P + 1) (newW P q.m.a q.m.c)) := Lib.hid (by rw [HRR.out]; exact hts)
                obtain ⟨nw, hnw⟩ : ∃ k, newW P q.m.a q.m.c = k := ⟨_, rfl⟩
                rw [hnw] at HTS hcn
                have HCN := Lib.hid hcn
                rw [hP] at HCc ⊢
                have HTK : Hid (Calls Tryd.prog 40 #[.pointer (some ⟨bi, 0, none⟩), .slice A8 R.length c8] Vc fun e w' => TakeR 0 (P : Int) (R.map Mr.r) Vc w' e) := Lib.hid (st_take bi 1 0 (P : Int) A8 c8 R Vc HCc.out.i HRW.out.1 HRW.out.2.1 (by have := HRW.out.2.2; omega) (by have := HPB.out; omega))
                have eP1 : IntKind.i64.wrap ((P : Int) + 1) = (P : Int) + 1 := IntWalk.i64_in _ (by have := HPB.out; omega)
                have eP2 : IntKind.i64.wrap ((P : Int) + (nw : Int)) = (P' : Int) := by
                  rw [hcn, IntWalk.i64_in _ (by have := HPB.out; omega)]
                  omega
                have HPX := Lib.hid hP
                clear HX18c HX19 hP hP' hcb hqm hcn hts hnw hda
                go_wp2_with fail
                refine HTK.out.mono ?_; rintro e Vd ⟨v5, Z, rfl, hT, hZ⟩
                have hZ' : Z.map Mr.r = someR 0 (P + 1) nw := hZ.trans HTS.out
                have hzl : Z.length = nw := by
                  have := congrArg List.length hZ'
                  rwa [List.length_map, someR_len] at this
                have HCd := Lib.hid (HCc.out.below hT.bel)
                have HZR := Lib.hid (And.intro hT.rowAt (And.intro hT.at_ hZ'))
                obtain ⟨A5, c5, rfl⟩ := hT.shape
                rw [hzl] at HZR ⊢
                have HZL := Lib.hid hzl
                have HSO : Hid (Calls Tryd.prog 29 #[.int .i64 0, .int .i64 ((P : Int) + 1), .int .i64 (nw : Int)] Vd fun e w' => SomeRes 0 (P + 1) nw Vd w' e) := Lib.hid (by
                  have h := law_some 0 (P + 1) nw Vd (by have := HPB.out; omega) (by have h1 := HPB.out; have h2 := HCN.out; omega)
                  exact h)
                clear hT hZ hZ' hzl HTK HCc HRW HRR x1 xl z2 z7 zl
                go_wp2_with fail
                refine HSO.out.mono ?_; rintro e Ve ⟨v6, Y, rfl, hTY, hYr⟩
                have hby : ∀ (X : List Mr), X.map Mr.r = someR 0 (P + 1) nw → ∀ m ∈ X, isBy m.r.key ∧ isBy m.r.val := fun X hX m hm => by
                  have := List.mem_map_of_mem (f := Mr.r) hm
                  rw [hX] at this
                  obtain ⟨i, _, e⟩ := someR_mem this
                  rw [e]
                  exact recS_by _ _
                have HRC := Lib.hid (law_recs18 (.slice A5 nw c5) v6 Z Y Ve (HZR.out.1.below hTY.bel) hTY.rowAt (fun m hm => (HZR.out.2.1 m hm).below hTY.bel) hTY.at_ (fun m hm => (hby Z HZR.out.2.2 m hm).2) (fun m hm => (hby Z HZR.out.2.2 m hm).1) (hby Y hYr) (by rw [HZL.out]; have h1 := HPB.out; have h2 := HCN.out; omega))
                have HEQ : Hid (Z.map Mr.r = Y.map Mr.r) := Lib.hid (HZR.out.2.2.trans hYr.symm)
                have HCe := Lib.hid (HCd.out.below hTY.bel)
                obtain ⟨A6', c6', rfl⟩ := hTY.shape
                clear hTY hYr hby HSO HZR HCd
                go_wp2_with fail
                refine HRC.out.mono ?_; rintro e Vf ⟨⟨bb, rfl, hbb⟩, kf⟩
                obtain rfl : bb = true := hbb.2 HEQ.out
                have HCf := Lib.hid (HCe.out.below kf)
                clear hbb kf HRC HEQ HCe
                have HOX : Hid (Sw.Ok n ⟨(dlN m s4).A, (dlN m s4).S, (dlN m s4).W, P, T.map Mq.m⟩) := Lib.hid (by
                  have h := HO4.out.dlN m
                  rw [← HPX.out]
                  exact ⟨h.ap, h.ps, h.sn, fun x hx => h.us x (by rw [HUN.out]; exact List.mem_cons_of_mem _ hx)⟩)
                have HDN := Lib.hid (c_done HCf.out HOX.out HNN.out.1 (q := P') ⟨HPB.out.1, HPB.out.2.1⟩ (fun W k => HT.out W k))
                go_upto_region 40 with fail
                refine wp_region_lit ?_
                refine wpList_plain rfl (fun KK hKK => ?_)
                go_simp
                refine hKK _ _ ?_
                refine wpList_plain rfl (fun KK hKK => ?_)
                go_simp
                refine hKK _ _ ?_
                refine wpList_plain rfl (fun KK hKK => ?_)
                go_simp
                refine hKK _ _ ?_
                refine wpList_plain rfl (fun KK hKK => ?_)
                go_simp
                (go_at_call 43; refine HDN.out.mono ?_; rintro e Vg ⟨v7, rfl, hm7, hcg⟩)
                refine hKK _ _ ?_
                obtain ⟨B, cB, gd, capd, rfl, hxb, hat, hne⟩ := hm7
                have HCg := Lib.hid hcg
                have HXB := Lib.hid hxb
                have HAT := Lib.hid hat
                have HNE := Lib.hid hne
                have HLN := HLT
                clear hxb hat hne hcg HDN HCf
                have hq0 := HCg.out.q.q
                have hbs := HCg.out.hb
                refine wpList_append_qu rfl (.tmp 180) (.tmp 183) 59 rfl base 84 i0 _ 40 Tryd.underlying59 hi0 hz0 hz1 hz2 rfl _ _ _ rfl hq0 ⟨B, 0, none⟩ 1 cB (Mq.mk ⟨false, P', 0⟩ gd capd).cs rfl rfl (fun j u hu => by rw [at_add, Nat.zero_add]; exact HXB.out.c j u hu) (by simp [Mq.cs, Value.oneCell']) (by omega) (by unfold maxLen; have := HLN.out; omega) (by have := HLN.out; omega) hbs ?_
                intro g' o' cap' W' hq' hg' hat'
                clear hq0 hbs
                refine wpList_plain rfl (fun KK hKK => ?_)
                go_simp
                refine hKK _ _ ?_
                refine wpList_nil ?_
                have HCA := Lib.hid (Cm.app HCg.out HAT.out HNE.out hq' hg' hat')
                clear hq' hg' hat'
                go_wp2_with fail
                go_roundw
                case rel => exact ⟨m + 1, T ++ [⟨⟨false, P', 0⟩, gd, capd⟩], by have := HH10.out; omega, by go_num, by rw [HNX.out], by rw [HNX.out]; exact HCA.out, fun h => absurd h HY3.out⟩
                all_goals ((try simp only [intOf]); have := HH10.out; omega)
              · as_aux_lemma =>
                have c0 : wr.cell? ⟨g, o, none⟩ = some (.int .i64 1) := by
                  have h : wr.cell? ⟨g, o, none⟩ = some (.int .i64 (if q.m.d = true then 0 else 1)) := hrg 0 _ rfl
                  rwa [if_neg hd] at h
                have c1 : wr.cell? ⟨g, o + 1, none⟩ = some (.int .i64 0) := by
                  have h : wr.cell? ⟨g, o + 1, none⟩ = some (.int .i64 (if q.m.d = true then 1 else 0)) := hrg 1 _ rfl
                  rwa [if_neg hd] at h
                have HDD := Lib.hid hd
                clear hrg hd
                have HX18 : Hid (XB (wr.alloc (.cells #[.int .i64 1, .int .i64 0, .slice (some ⟨q.g, 0, none⟩) nd q.cap] 84)) wr.heap.size [.int .i64 1, .int .i64 0, .slice (some ⟨q.g, 0, none⟩) nd q.cap]) := Lib.hid (XB.new wr _ _)
                have kA : Below wr.heap.size wr (wr.alloc (.cells #[.int .i64 1, .int .i64 0, .slice (some ⟨q.g, 0, none⟩) nd q.cap] 84)) := (Below.refl _ _).alloc (Nat.le_refl _) _
                have HCa := Lib.hid (HCI.out.below kA)
                have HAQa := Lib.hid (HAQ.out.but (S := fun _ => False) (But.of_below kA) (fun h => h))
                clear kA HCI HAQ
                go_upto_region 30 with fail
                generalize wr.alloc (.cells #[.int .i64 1, .int .i64 0, .slice (some ⟨q.g, 0, none⟩) nd q.cap] 84) = Va at *
                generalize wr.heap.size = b18 at *
                clear c0 c1 c2 hgl
                go_cut [9] (fun u wx => Va = wx ∧ Cm w base bo bi wx u T ⟨(dlN m s4).A, (dlN m s4).S, (dlN m s4).W, (dlN m s4).P, (dlN m s4).U.tail⟩)
                case first =>
                  by_cases hcap : cap = 1
                  · subst hcap
                    have HPOP := Lib.hid ((HCa.out.pop.2 rfl o))
                    obtain ⟨hp1, rfl⟩ := HPOP.out
                    have HP1 := Lib.hid hp1
                    clear hp1 HPOP
                    go_wp2_with fail
                    go_meet
                    exact ⟨rfl, HP1.out⟩
                  · have hcap1 : 1 < cap := by omega
                    have HPOP := Lib.hid (HCa.out.pop.1 hcap1)
                    go_wp2_with fail
                    go_meet
                    exact ⟨rfl, HPOP.out⟩
                case rest =>
                obtain ⟨hwc, hcb⟩ := hcut
                subst hwc
                obtain ⟨A9, cap9, rfl, _, _⟩ := hcb.shape
                rw [HUT.out] at hcb
                have HCb := Lib.hid hcb
                have HDEC : Hid (Calls Tryd.prog 20 #[.slice (some ⟨q.g, 0, none⟩) nd q.cap] Va fun e w' => (∃ (R : List Mr) (A : Option Addr) (c : Nat), e = .returned (.tuple #[wdV 2 0 (q.m.a : Int) 0 0 0 0 (.slice A R.length c), .int .i64 0]) ∧ R.map Mr.r = [] ∧ RowAt w' (.slice A R.length c) R ∧ (∀ m ∈ R, m.At (fun _ => True) w') ∧ R.length ≤ 64) ∧ Below Va.heap.size Va w') := Lib.hid (by
                  have h := c_decode HAQa.out HMO.out HSN.out.1 HSN.out.2
                  simp only [HDD.out, if_false] at h
                  rw [HND.out] at h
                  exact h)
                have x2 := HX18.out.c 2 _ rfl
                have xl := HX18.out.lt
                clear hcb HCa HAQa hTc hcm
                go_wp2_with fail
                refine HDEC.out.mono ?_; rintro e Vb ⟨⟨R, A8, c8, rfl, hR, hrow, hat, h64⟩, kb⟩
                have kB : Below Vb.heap.size Vb (Vb.alloc (.cells (wdC 2 0 (q.m.a : Int) 0 0 0 0 (.slice A8 R.length c8)) 34)) := (Below.refl _ _).alloc (Nat.le_refl _) _
                have HX19 : Hid (XB (Vb.alloc (.cells (wdC 2 0 (q.m.a : Int) 0 0 0 0 (.slice A8 R.length c8)) 34)) Vb.heap.size [.int .i64 2, .int .i64 0, .int .i64 (q.m.a : Int), .int .i64 0, .int .i64 0, .int .i64 0, .int .i64 0, .slice A8 R.length c8]) := Lib.hid (XB.new Vb _ _)
                have HX18c := Lib.hid ((HX18.out.below kb).below kB)
                have HCc := Lib.hid ((HCb.out.below kb).below kB)
                have HRW := Lib.hid (And.intro (hrow.below kB) (And.intro (fun m hm => (hat m hm).below kB) h64))
                have HRR := Lib.hid hR
                clear kb kB hR hrow hat h64 x2 xl HX18 HCb HDEC
                go_upto_region 32 with fail
                generalize Vb.alloc (.cells (wdC 2 0 (q.m.a : Int) 0 0 0 0 (.slice A8 R.length c8)) 34) = Vc at *
                generalize Vb.heap.size = b19 at *
                have x1 := HX18c.out.c 1 _ rfl
                have xl := HX18c.out.lt
                have z2 := HX19.out.c 2 _ rfl
                have z7 := HX19.out.c 7 _ rfl
                have zl := HX19.out.lt
                have HNX : Hid (dlN (m + 1) s4 = ackW ⟨(dlN m s4).A, (dlN m s4).S, (dlN m s4).W, (dlN m s4).P, T.map Mq.m⟩ q.m.a) := Lib.hid (dlW_ack HUN.out (by simpa using HDD.out))
                have HPX : Hid ((dlN (m + 1) s4).P = (dlN m s4).P) := Lib.hid (by rw [HNX.out]; unfold ackW; split <;> rfl)
                clear HX18c HX19
                go_wp2_with fail
                refine (c_ack HCc.out q.m.a).mono ?_; rintro e Vd ⟨⟨bb, rfl⟩, hcd⟩
                rw [← HNX.out] at hcd
                have HCd := Lib.hid hcd
                clear hcd x1 xl z2 z7 zl HCc
                go_wp2_with fail
                go_roundw
                case rel => exact ⟨m + 1, T, by have := HH10.out; omega, by go_num, by rw [HPX.out], HCd.out, fun h => absurd h HY3.out⟩
                all_goals ((try simp only [intOf]); have := HH10.out; omega)
          · as_aux_lemma =>
            obtain rfl : L = [] := List.length_eq_zero_iff.1 (by omega)
            clear hl
            have hF : dlN m s4 = (if y = 3 then s4 else dlN 10 s4) := by
              have hu : (dlN m s4).U = [] := HLI.out.symm
              by_cases hy3 : y = 3
              · rw [if_pos hy3, HM0.out hy3]
                rfl
              · rw [if_neg hy3, dlN_stop hu hm]
            have HF := Lib.hid hF
            clear hF
            (try clear hy3)
            (try clear h10)
            go_wp2_with fail
            go_roundw
            case rel => exact ⟨k + 1, [], if y = 3 then s4 else dlN 10 s4, by have := H1.out; omega, by go_num, by rw [← HF.out], HG4.out, by rw [← HF.out]; exact HCI.out⟩
            all_goals ((try simp only [intOf]); have := H1.out; omega)
        · as_aux_lemma =>
          have t6 : decide ((m : Int) < 10) = false := by simp; omega
          have hm10 : m = 10 := by omega
          have hF : dlN m s4 = (if y = 3 then s4 else dlN 10 s4) := by
            by_cases hy3 : y = 3
            · exact absurd (HM0.out hy3) (by omega)
            · rw [if_neg hy3, hm10]
          have HF := Lib.hid hF
          clear hF
          (try clear hy3)
          (try clear hm10 h10)
          go_wp2_with fail
          go_roundw
          case rel => exact ⟨k + 1, L, if y = 3 then s4 else dlN 10 s4, by have := H1.out; omega, by go_num, by rw [← HF.out], HG4.out, by rw [← HF.out]; exact HCI.out⟩
          all_goals ((try simp only [intOf]); have := H1.out; omega)
    · as_aux_lemma =>
      have t4 : decide ((k : Int) < (N : Int) + 150) = false := by simp; omega
      obtain rfl : k = N + 150 := by omega
      obtain ⟨hA, hP⟩ := HG.out.done
      have HAP := Lib.hid (And.intro hA hP)
      rw [hP]
      clear h1 hk hA hP
      go_wp2_with fail
      refine (st_acked bo 0 1 _ _ _ _ HC.out.o).mono ?_; rintro e w7 ⟨rfl, rfl⟩
      rw [HAP.out.1]
      go_wp2_with fail
      refine (st_applied bi 1 0 _ _ HC.out.i).mono ?_; rintro e w8 ⟨rfl, rfl⟩
      rw [HAP.out.2]
      go_wp2_with fail
      refine (known18 _).mono ?_; rintro e w9 ⟨rfl, k9⟩
      have HB9 := Lib.hid (HC.out.bel.trans (k9.mono HC.out.bel.size))
      clear k9
      go_wp2_with fail
      go_ret
      exact ⟨rfl, HB9.out⟩
end Go.Proofs.YtdffldlcbihjmaaDoor

/- Stage 18: StreamComes: whatever is lost, doubled and late, each record comes in order and once, and in the end all do: the claim (for every n and every weather). -/
namespace Go.Proofs.YtdffldlcbihjmaaDoor
open Go.RowKit Go.Sort Go.Op

set_option maxRecDepth 100000 in
set_option maxHeartbeats 4000000 in
theorem comes_out (n : Int) (DA : Option Addr) (dn dc : Nat) (w : World) (h : ¬ (0 ≤ n ∧ n ≤ 60 ∧ dn ≤ 200)) :
    Calls Tryd.prog 7 #[.int .i64 n, .slice DA dn dc] w fun e w' => e = .returned (.bool true) ∧ Below w.heap.size w w' := by
  by_cases h1 : n < 0
  · clear h
    go_enter Tryd.func7, Tryd.ntmps7
    go_wp2_with fail
    refine (known18 _).mono ?_; rintro e w9 ⟨rfl, k9⟩
    go_wp2_with fail
    go_ret
    exact ⟨rfl, k9⟩
  by_cases h2 : 60 < n
  · clear h
    go_enter Tryd.func7, Tryd.ntmps7
    go_wp2_with fail
    refine (known18 _).mono ?_; rintro e w9 ⟨rfl, k9⟩
    go_wp2_with fail
    go_ret
    exact ⟨rfl, k9⟩
  have h3 : (200 : Int) < (dn : Int) := by omega
  clear h
  go_enter Tryd.func7, Tryd.ntmps7
  go_wp2_with fail
  refine (known18 _).mono ?_; rintro e w9 ⟨rfl, k9⟩
  go_wp2_with fail
  go_ret
  exact ⟨rfl, k9⟩
end Go.Proofs.YtdffldlcbihjmaaDoor
namespace Go.Proofs.YtdffldlcbihjmaaDoor
open Go.ChangeShapes Go.WideShapes Go.ChangeAt Go.RowKit Go.Joins Go.Deep
set_option maxRecDepth 100000 in
theorem streamComes_contract (H : Type) (enc : TypeId × Value → H) (W : World) (base : Nat) (args : Array Value) (ds gs : List (DataW H)) (before : List MemPlace)
    (hval0 : ∀ (j : Nat) t v, Tryd.f7.params[j]? = some t → args[j]? = some v → Value.okWide Tryd.prog W .any base t v)
    (hW : DataW.Whole enc Tryd.prog Tryd.f7.params.toList Rows.streamComesSpec.vars false W args.toList ds gs before)
    (hsz0 : (DataW.weightsEach Tryd.prog (Tryd.f7.params.toList ++ (OpenSpec.ofChange Rows.streamComesSpec).bare.plain.varTypes Tryd.prog) (ds ++ gs)).all (· ≤ reachBytes) = true) (hL : laidMetH Tryd.prog Rows.streamComesRow.laid W) (hS : W.ShapedOpen Tryd.prog) :
    Calls Tryd.prog 7 args W fun e W' => ∃ v, e = .returned v ∧ Rows.streamComesSpec.post enc Tryd.prog Tryd.f7 false true false false W args v W' := by
  have hval : ∀ (j : Nat) t v, Tryd.f7.params[j]? = some t → args[j]? = some v → Value.okWide Tryd.prog W .any base t v := hval0
  have hsz := hsz0
  have hW' := hW
  obtain ⟨p, q, hA0, hV, rfl, hfz, hnd⟩ := hW
  have hA : DataW.TrodAll enc Tryd.prog W 0 (fun _ => true) true Tryd.f7.params.toList args.toList ds p := hA0
  rw [Tryd.params7] at hA hval hsz
  have hsame : (Rows.streamComesSpec.fn H (ds ++ gs)).results = [.lit (.bool true)] ∧ (Rows.streamComesSpec.fn H (ds ++ gs)).args = ds ∧ (Rows.streamComesSpec.fn H (ds ++ gs)).vars = [] → ∀ W', Below W.heap.size W W' → Rows.streamComesSpec.post enc Tryd.prog Tryd.f7 false true false false W args (.bool true) W' :=
    fun h W' hb => law_post (tb := 4) hW' law_laid (by kernel_rfl) rfl Tryd.underlying4 h.1 h.2.1 rfl h.2.2 hb
  obtain ⟨v0, vs0, d0, ds0, p0, q0, hargs, rfl, rfl, h0, r0⟩ := trodAll_cons hA
  obtain ⟨v1, vs1, d1, ds1, p1, q1, rfl, rfl, rfl, h1, r1⟩ := trodAll_cons r0
  obtain ⟨rfl, rfl, rfl⟩ := trodAll_nil r1
  obtain rfl : args = #[v0, v1] := by cases args; simp_all
  obtain ⟨rfl, rfl⟩ := trodVars_none hV
  have hpost := hsame ⟨rfl, rfl, rfl⟩
  clear hsame hA0 hval0 hsz0
  obtain ⟨n, rfl, rfl, rfl, wf0⟩ := open_int Tryd.underlying3 (hval 0 3 v0 rfl rfl) h0
  obtain ⟨DA, dn, dc, dz, rfl, hdm, hD⟩ := open_int_slice (hval 1 70 v1 rfl rfl) h1
  have ht : Nib W := nib_of_laid hL
  by_cases hr : 0 ≤ n ∧ n ≤ 60 ∧ dn ≤ 200
  · obtain ⟨n', rfl⟩ : ∃ n' : Nat, n = (n' : Int) := ⟨n.toNat, by omega⟩
    exact (law_comes n' dn DA dc dz W ht hD (by omega) hr.2.2).mono fun e W' ⟨he, hb⟩ => ⟨_, he, hpost W' hb⟩
  · exact (comes_out n DA dn dc W hr).mono fun e W' ⟨he, hb⟩ => ⟨_, he, hpost W' hb⟩
theorem streamComes_reads (os : Os) {H : Type} (enc : TypeId × Value → H) : (DataW.whole enc Tryd.prog ((layW1 os).forCall (fun _ _ => 0) ⟨#[], #[.int .i64 0, .slice none 0 0], []⟩).memory Tryd.f7.params.toList Rows.streamComesSpec.vars false #[.int .i64 0, .slice none 0 0].toList 8).isSome = true := by kernel_rfl
theorem streamComes_met (os : Os) : laidMet Tryd.prog Rows.streamComesRow.laid ((layW1 os).forCall (fun _ _ => 0) ⟨#[], #[.int .i64 0, .slice none 0 0], []⟩).memory := laidMet_of_run' 8 (by kernel_rfl) (by kernel_rfl)
set_option maxRecDepth 100000 in
theorem streamComes_lifted (os : Os) (started : os.Started) (H : Type) (enc : TypeId × Value → H) (F : Stop.Interp) :
    ReturnsInHanded {} Tryd.checked os 7 .any ((OpenSpec.ofChange Rows.streamComesSpec).preRow enc Tryd.prog Tryd.f7 Rows.streamComesRow.domain false Rows.streamComesRow.laid) (((OpenSpec.ofChange Rows.streamComesSpec).at F).post enc Tryd.prog Tryd.f7 false true false false) := by
  obtain ⟨x, hx⟩ := Option.isSome_iff_exists.1 (streamComes_reads os enc)
  refine returnsInHanded_of_row (C := Tryd.checked) (s := OpenSpec.ofChange Rows.streamComesSpec) law_own started (by kernel_rfl) Tryd.func7
    (witness_row_at (enc := enc) (C := Tryd.checked) false (layW1 os) #[.int .i64 0, .slice none 0 0] rfl (by kernel_rfl) (by kernel_rfl) (by kernel_rfl)
      (OpenSpec.preRow_of_cond 8 hx (by rfl) (fun k hk => by cases hk) (by kernel_rfl) (streamComes_met os))) ?_
  intro W base args ds gs before hval hW _ _ hsz hL hS _
  exact streamComes_contract H enc W base args ds gs before hval hW hsz hL hS
theorem streamComes_said : Rows.StreamComesSaid :=
  OpenClaim.holds_of_cond 7 Tryd.f7 rfl rfl rfl rfl rfl rfl rfl ⟨rfl, rfl, rfl, rfl, rfl⟩ rfl rfl rfl rfl rfl (by kernel_rfl) Tryd.func7 (by kernel_rfl)
    (of_decide_eq_true (by kernel_rfl)) (by unfold Func.isWrapper; first | (rw [if_pos (by decide +kernel)]; kernel_rfl) | (rw [if_neg (by decide +kernel)]; exact ⟨rfl, rfl⟩))
    (fun os started H enc _ F => by rw [OpenClaim.pre_eq_preRow]; exact streamComes_lifted os started H enc F)
theorem streamComes_holds : Rows.StreamComesCardSaid :=
  Claim7.holds_tied_plain_at .later [] _ _ _ _ streamComes_said (fun _ h => by cases h) (by kernel_rfl) (fun _ h => by cases h) streamComes_row_tie rfl ⟨rfl, rfl⟩ (by kernel_rfl) rfl (plain_of (f0 := 7) (fn0 := Tryd.f7) (by kernel_rfl) Tryd.func7 (by kernel_rfl) (by kernel_rfl)) (by kernel_rfl)
end Go.Proofs.YtdffldlcbihjmaaDoor

