/- A chain: At, Get, Trim at any stamp, told by its versions as a list. -/
import Derived.Test.YtfjnjababehmmaaChMath2
import Derived.Test.YtfjnjababehmmaaChGet2
import Derived.Test.YtfjnjababehmmaaChTrim2
set_option linter.unusedSimpArgs false
set_option linter.unusedVariables false
namespace Go.Proofs.Ytfjnjababehmmaa
open Go.RowKit Go.Sort

def atM (L : List Vs) (t : Int × Int) : Option Vs := if posT L t = 0 then none else L[posT L t - 1]?
def getM (L : List Vs) (t : Int × Int) : Option Vs := match atM L t with
  | some x => if seenB x t.1 t.2 = true then some x else none
  | none => none
def cutM (L : List Vs) (t : Int × Int) : Nat := match atM L t with
  | some x => posT L t - (if seenB x t.1 t.2 = true then 1 else 0)
  | none => 0
theorem atM_cases {L : List Mv} (t : Int × Int) : (posT (L.map Mv.v) t = 0 ∧ atM (L.map Mv.v) t = none) ∨ ∃ k x, posT (L.map Mv.v) t = k + 1 ∧ L[k]? = some x ∧ atM (L.map Mv.v) t = some x.v := by
  rcases Nat.eq_zero_or_pos (posT (L.map Mv.v) t) with h | h
  · exact .inl ⟨h, by unfold atM; rw [if_pos h]⟩
  · have hle : posT (L.map Mv.v) t ≤ (L.map Mv.v).length := posP_le _ _
    simp only [List.length_map] at hle
    refine .inr ⟨posT (L.map Mv.v) t - 1, L[posT (L.map Mv.v) t - 1]'(by omega), by omega, List.getElem?_eq_getElem _, ?_⟩
    unfold atM
    rw [if_neg (by omega), List.getElem?_map, List.getElem?_eq_getElem (by omega)]
    rfl
def AtAns (L : List Mv) (t : Int × Int) (w w' : World) (e : Ending) : Prop :=
  (atM (L.map Mv.v) t = none ∧ e = .returned (.tuple #[verV 0 0 0 none 0 0 false 0, .bool false]) ∧ Below w.heap.size w w') ∨ (∃ x, x ∈ L ∧ atM (L.map Mv.v) t = some x.v ∧ AtSome x w w' e)
theorem ch_at (P : Nat → Prop) (b : Nat) (v : Value) (L : List Mv) (tm tc : Int) (w : World) (h : Ch P w b v L) (hl : L.length ≤ 1000000) (hr : Rise (L.map Mv.v)) (hok : ∀ x ∈ L, x.v.ok = true) :
    Calls Try.prog 21 #[.pointer (some ⟨b, 0, none⟩), .agg #[.int .i64 tm, .int .i64 tc]] w fun e w' => AtAns L (tm, tc) w w' e := by
  have hs := stand_t hr (tm, tc)
  rcases atM_cases (L := L) (tm, tc) with ⟨h0, ha⟩ | ⟨k, x, h0, hx, ha⟩
  · rw [h0] at hs
    exact (ch_at_none P b v L tm tc w h hl hs).mono fun e w' ⟨h1, h2⟩ => .inl ⟨ha, h1, h2⟩
  · rw [h0] at hs
    have := ok_bd (hok x (List.mem_of_getElem? hx))
    exact (ch_at_some P b v L tm tc k x w h hl hs hx (by omega)).mono fun e w' h1 => .inr ⟨x, List.mem_of_getElem? hx, ha, h1⟩
def GetAns (L : List Mv) (t : Int × Int) (w w' : World) (e : Ending) : Prop :=
  (getM (L.map Mv.v) t = none ∧ e = .returned (.tuple #[.slice none 0 0, .bool false]) ∧ Below w.heap.size w w') ∨ (∃ x, x ∈ L ∧ getM (L.map Mv.v) t = some x.v ∧ GetSome x w w' e)
theorem ch_get (P : Nat → Prop) (b : Nat) (v : Value) (L : List Mv) (tm tc : Int) (w : World) (h : Ch P w b v L) (hl : L.length ≤ 1000000) (hr : Rise (L.map Mv.v)) (hok : ∀ x ∈ L, x.v.ok = true) (hw : (Lit.int .i64 tm).wf = true) :
    Calls Try.prog 23 #[.pointer (some ⟨b, 0, none⟩), .agg #[.int .i64 tm, .int .i64 tc]] w fun e w' => GetAns L (tm, tc) w w' e := by
  have hs := stand_t hr (tm, tc)
  rcases atM_cases (L := L) (tm, tc) with ⟨h0, ha⟩ | ⟨k, x, h0, hx, ha⟩
  · rw [h0] at hs
    exact (ch_get_none P b v L tm tc w h hl hs).mono fun e w' ⟨h1, h2⟩ => .inl ⟨by unfold getM; rw [ha], h1, h2⟩
  · rw [h0] at hs
    cases hsn : seenB x.v tm tc with
    | false => exact (ch_get_unseen P b v L tm tc k x w h hl hs hx (hok x (List.mem_of_getElem? hx)) hsn hw).mono fun e w' ⟨h1, h2⟩ => .inl ⟨by unfold getM; rw [ha]; simp [hsn], h1, h2⟩
    | true => exact (ch_get_seen P b v L tm tc k x w h hl hs hx (hok x (List.mem_of_getElem? hx)) hsn hw).mono fun e w' h1 => .inr ⟨x, List.mem_of_getElem? hx, by unfold getM; rw [ha]; simp [hsn], h1⟩
def TrimAns (P : Nat → Prop) (b : Nat) (v : Value) (L : List Mv) (t : Int × Int) (w w' : World) (e : Ending) : Prop := e = .returned (.int .i64 (cutM (L.map Mv.v) t : Nat)) ∧ ∃ v', Ch P w' b v' (L.drop (cutM (L.map Mv.v) t)) ∧ But (FootC b v) w w'
theorem ch_trim_any (P : Nat → Prop) (b : Nat) (v : Value) (L : List Mv) (tm tc : Int) (w : World) (h : Ch P w b v L) (hl : L.length ≤ 1000000) (hr : Rise (L.map Mv.v)) (hok : ∀ x ∈ L, x.v.ok = true) (hw : (Lit.int .i64 tm).wf = true) :
    Calls Try.prog 26 #[.pointer (some ⟨b, 0, none⟩), .agg #[.int .i64 tm, .int .i64 tc]] w fun e w' => TrimAns P b v L (tm, tc) w w' e := by
  have hs := stand_t hr (tm, tc)
  rcases atM_cases (L := L) (tm, tc) with ⟨h0, ha⟩ | ⟨k, x, h0, hx, ha⟩
  · rw [h0] at hs
    have hc : cutM (L.map Mv.v) (tm, tc) = 0 := by unfold cutM; rw [ha]
    exact (ch_trim_none P b v L tm tc w h hl hs).mono fun e w' ⟨h1, h2⟩ => ⟨by rw [hc]; exact h1, v, by rw [hc]; exact h.below h2, But.of_below h2⟩
  · rw [h0] at hs
    obtain ⟨sb, hsn⟩ : ∃ sb, seenB x.v tm tc = sb := ⟨_, rfl⟩
    have hc : cutM (L.map Mv.v) (tm, tc) = k + 1 - (if sb then 1 else 0) := by unfold cutM; rw [ha]; simp only [h0, hsn]
    exact (ch_trim P b v L tm tc k x sb w h hl hs hx (hok x (List.mem_of_getElem? hx)) hw hsn).mono fun e w' ⟨h1, h2⟩ => ⟨by rw [hc]; exact h1, by rw [hc]; exact h2⟩
theorem posT_one (x : Vs) (t : Int × Int) : posT [x] t = if cmp2 x.ml x.ct t.1 t.2 ≤ 0 then 1 else 0 := by
  unfold posT posP leT
  by_cases h : cmp2 x.ml x.ct t.1 t.2 ≤ 0
  · simp [h]
  · simp [h]
theorem getM_one (x : Vs) (t : Int × Int) : getM [x] t = if seenB x t.1 t.2 = true then some x else none := by
  unfold getM atM
  rw [posT_one]
  by_cases h : cmp2 x.ml x.ct t.1 t.2 ≤ 0
  · simp [h]
  · simp [h, seenB]
theorem ofM_one {x : Vs} (h : x.ok = true) : ofM [] [x] = (0, [x]) := by
  have hp : putE [] x = 0 := by unfold putE hasAt posV posP; simp [h]
  rw [ofM, if_pos hp, ofM]
  simp [putL, posV, posP]
end Go.Proofs.Ytfjnjababehmmaa
