/- A trimmed chain as a list: what is seen from the stamp on is the same, at most one version is left ahead of it (plain mathematics). -/
import Derived.Test.YtfjnjababehmmaaChAny
import Derived.Test.YtfjnjababehmmaaRefMax2
set_option linter.unusedSimpArgs false
set_option linter.unusedVariables false
namespace Go.Proofs.Ytfjnjababehmmaa
open Go.RowKit Go.Sort

theorem posP_cons (p : Vs → Bool) (a : Vs) (t : List Vs) : posP p (a :: t) = if p a = true then posP p t + 1 else 0 := by
  unfold posP
  rw [List.takeWhile_cons]
  split <;> simp_all
theorem posP_drop {p : Vs → Bool} : ∀ (r : Nat) (L : List Vs), r ≤ posP p L → posP p (L.drop r) = posP p L - r
  | 0, L, _ => by simp
  | r + 1, [], h => by simp [posP] at h
  | r + 1, a :: t, h => by
    rw [posP_cons] at h ⊢
    split at h
    · rename_i ha
      rw [List.drop_succ_cons, posP_drop r t (by omega), if_pos ha]
      omega
    · omega
theorem posP_mono {p q : Vs → Bool} (h : ∀ x, p x = true → q x = true) : ∀ (L : List Vs), posP p L ≤ posP q L
  | [] => by simp [posP]
  | a :: t => by
    rw [posP_cons, posP_cons]
    have ih := posP_mono h t
    by_cases ha : p a = true
    · rw [if_pos ha, if_pos (h a ha)]; omega
    · rw [if_neg ha]; omega
theorem posT_mono {f t : Int × Int} (h : cmp2 f.1 f.2 t.1 t.2 ≤ 0) (L : List Vs) : posT L f ≤ posT L t :=
  posP_mono (fun x hx => by
    have h1 := cmp2_le.1 h
    have h2 : cmp2 x.ml x.ct f.1 f.2 ≤ 0 := by simpa [leT] using hx
    have h3 := cmp2_le.1 h2
    have h4 : cmp2 x.ml x.ct t.1 t.2 ≤ 0 := cmp2_le.2 (by omega)
    simpa [leT] using h4) L
theorem posT_drop {L : List Vs} {t : Int × Int} {r : Nat} (h : r ≤ posT L t) : posT (L.drop r) t = posT L t - r := posP_drop r L h
/-- What a cut takes away. -/
theorem cut_cases (L : List Vs) (f : Int × Int) : (posT L f = 0 ∧ cutM L f = 0) ∨ ∃ k x, posT L f = k + 1 ∧ L[k]? = some x ∧ ((seenB x f.1 f.2 = true ∧ cutM L f = k) ∨ (seenB x f.1 f.2 = false ∧ cutM L f = k + 1)) := by
  rcases Nat.eq_zero_or_pos (posT L f) with h | h
  · refine .inl ⟨h, ?_⟩
    unfold cutM atM
    rw [if_pos h]
  · have hle : posT L f ≤ L.length := posP_le _ _
    obtain ⟨x, hx⟩ : ∃ x, L[posT L f - 1]? = some x := ⟨L[posT L f - 1]'(by omega), List.getElem?_eq_getElem _⟩
    refine .inr ⟨posT L f - 1, x, by omega, hx, ?_⟩
    have ha : atM L f = some x := by unfold atM; rw [if_neg (by omega), hx]
    cases hs : seenB x f.1 f.2 with
    | true => exact .inl ⟨rfl, by unfold cutM; rw [ha]; simp [hs]⟩
    | false => exact .inr ⟨rfl, by unfold cutM; rw [ha]; simp [hs]; omega⟩
theorem cut_le (L : List Vs) (f : Int × Int) : cutM L f ≤ posT L f := by
  rcases cut_cases L f with ⟨h, k⟩ | ⟨k, x, h, _, ⟨_, e⟩ | ⟨_, e⟩⟩ <;> omega
theorem cut_len (L : List Vs) (f : Int × Int) : cutM L f ≤ L.length := Nat.le_trans (cut_le L f) (posP_le _ _)
theorem unseen_on {x : Vs} {f t : Int × Int} (hf : cmp2 x.ml x.ct f.1 f.2 ≤ 0) (h : cmp2 f.1 f.2 t.1 t.2 ≤ 0) (hs : seenB x f.1 f.2 = false) : seenB x t.1 t.2 = false := by
  have h1 := cmp2_le.1 h
  simp [seenB, hf] at hs
  simp [seenB]
  intro _ hg
  have := hs hg
  omega
theorem cut_get (L : List Vs) {f t : Int × Int} (h : cmp2 f.1 f.2 t.1 t.2 ≤ 0) : getM (L.drop (cutM L f)) t = getM L t := by
  have hm := posT_mono h L
  have hc := cut_le L f
  have hd := posT_drop (L := L) (t := t) (r := cutM L f) (by omega)
  rcases Nat.lt_or_ge (cutM L f) (posT L t) with hlt | hge
  · have ha : atM (L.drop (cutM L f)) t = atM L t := by
      unfold atM
      rw [hd, if_neg (by omega), if_neg (by omega), List.getElem?_drop]
      congr 1
      omega
    unfold getM
    rw [ha]
  · have ha : atM (L.drop (cutM L f)) t = none := by
      unfold atM
      rw [hd, if_pos (by omega)]
    have hb : getM L t = none := by
      rcases cut_cases L f with ⟨h0, k⟩ | ⟨k, x, h0, hx, ⟨_, e⟩ | ⟨hs, e⟩⟩
      · have : atM L t = none := by unfold atM; rw [if_pos (by omega)]
        unfold getM
        rw [this]
      · omega
      · have hk : posT L t = k + 1 := by omega
        have : atM L t = some x := by unfold atM; rw [if_neg (by omega), hk]; exact hx
        have hle : leT f x = true := takeWhile_at (p := leT f) (L := L) (j := k) (by show k < posT L f; omega) hx
        have hu := unseen_on (by simpa [leT] using hle) h hs
        unfold getM
        rw [this]
        simp [hu]
    rw [hb]
    unfold getM
    rw [ha]
theorem cut_seen (L : List Vs) (f : Int × Int) : (posT (L.drop (cutM L f)) f = 0 ∧ getM (L.drop (cutM L f)) f = none ∧ cutM (L.drop (cutM L f)) f = 0) ∨ (posT (L.drop (cutM L f)) f = 1 ∧ (∃ x, getM (L.drop (cutM L f)) f = some x) ∧ cutM (L.drop (cutM L f)) f = 0) := by
  have hd := posT_drop (L := L) (t := f) (cut_le L f)
  rcases cut_cases L f with ⟨h0, e⟩ | ⟨k, x, h0, hx, ⟨hs, e⟩ | ⟨_, e⟩⟩
  · have hp : posT (L.drop (cutM L f)) f = 0 := by omega
    have ha : atM (L.drop (cutM L f)) f = none := by unfold atM; rw [if_pos hp]
    exact .inl ⟨hp, by unfold getM; rw [ha], by unfold cutM at ha ⊢; rw [ha]⟩
  · have hp : posT (L.drop (cutM L f)) f = 1 := by omega
    have ha : atM (L.drop (cutM L f)) f = some x := by
      unfold atM
      rw [if_neg (by omega), List.getElem?_drop, hp, e]
      exact hx
    refine .inr ⟨hp, ⟨x, by unfold getM; rw [ha]; simp [hs]⟩, ?_⟩
    generalize L.drop (cutM L f) = M at *
    unfold cutM
    rw [ha]
    simp [hs, hp]
  · have hp : posT (L.drop (cutM L f)) f = 0 := by omega
    have ha : atM (L.drop (cutM L f)) f = none := by unfold atM; rw [if_pos hp]
    exact .inl ⟨hp, by unfold getM; rw [ha], by unfold cutM at ha ⊢; rw [ha]⟩
theorem mx2_ge (f a : Int × Int) : cmp2 f.1 f.2 (mx2 f a).1 (mx2 f a).2 ≤ 0 := by
  unfold mx2
  split
  · rename_i h
    have h1 : ¬ (a.1 < f.1 ∨ a.1 = f.1 ∧ a.2 ≤ f.2) := fun k => by have := (cmp2_le (a := a.1) (b := a.2) (c := f.1) (d := f.2)).2 k; omega
    exact cmp2_le.2 (by omega)
  · exact cmp2_le.2 (by omega)
/-- What Get hands out, in one form. -/
def gV : Option Vs → List Int
  | some x => x.val
  | none => []
theorem get_flat {L : List Mv} {t : Int × Int} {w w' : World} {e : Ending} (h : GetAns L t w w' e) (hx1 : ∀ x ∈ L, x.v.val.length ≤ 1000000) :
    ∃ A c, e = .returned (.tuple #[.slice A (gV (getM (L.map Mv.v) t)).length c, .bool (getM (L.map Mv.v) t).isSome]) ∧ ByL w' A (gV (getM (L.map Mv.v) t)) ∧ (gV (getM (L.map Mv.v) t)).length ≤ 1000000 ∧ Below w.heap.size w w' := by
  rcases h with ⟨h1, rfl, hb⟩ | ⟨x, hx, h1, v, rfl, ho, hb⟩
  · rw [h1]
    exact ⟨none, 0, rfl, fun h0 => by simp [gV] at h0, by simp [gV], hb⟩
  · rw [h1]
    obtain ⟨A3, c3, rfl, _, hby3, _, _⟩ := own8_shape ho
    exact ⟨A3, c3, rfl, hby3, hx1 x hx, hb⟩
end Go.Proofs.Ytfjnjababehmmaa
