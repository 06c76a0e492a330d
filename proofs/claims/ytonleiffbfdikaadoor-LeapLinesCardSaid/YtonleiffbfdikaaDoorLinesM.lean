/- Lines of a text with two put in; leap.Parse of them (for LeapLines). -/
import Derived.Test.YtonleiffbfdikaaDoorTxt
import Derived.Test.YtonleiffbfdikaaDoorParseTab4
set_option linter.unusedSimpArgs false
set_option linter.unusedVariables false
namespace Go.Proofs.YtonleiffbfdikaaDoor

/-- Where the j-th line begins. -/
def lineAt (L : List ByteArray) (j : Nat) : Nat := (linesTxt (L.take j)).size
theorem lineAt_succ (L : List ByteArray) (j : Nat) (h : j < L.length) : lineAt L (j + 1) = lineAt L j + L[j].size + 1 := by
  unfold lineAt
  rw [List.take_succ_eq_append_getElem h, linesTxt_append, linesTxt_one, ByteArray.size_append, ByteArray.size_append]
  have e : endT.size = 1 := rfl
  omega
theorem lines_cut (L : List ByteArray) (j : Nat) : linesTxt L = linesTxt (L.take j) ++ linesTxt (L.drop j) := by
  rw [← linesTxt_append, List.take_append_drop]
theorem lineAt_le (L : List ByteArray) (j : Nat) : lineAt L j ≤ (linesTxt L).size := by
  rw [lines_cut L j, ByteArray.size_append]; exact Nat.le_add_right _ _
theorem line_byte (L : List ByteArray) (hno : ∀ l, l ∈ L → (10 : UInt8) ∉ l.data.toList) (j i : Nat) (hj : j < L.length) (h1 : lineAt L j ≤ i) (h2 : i < lineAt L (j + 1)) :
    ∃ c, (linesTxt L).data.toList[i]? = some c ∧ (c = 10 ↔ i + 1 = lineAt L (j + 1)) := by
  have hs := lineAt_succ L j hj
  have e : (linesTxt L).data.toList = (linesTxt (L.take j)).data.toList ++ (L[j].data.toList ++ 10 :: (linesTxt (L.drop (j + 1))).data.toList) := by
    rw [lines_cut L j, List.drop_eq_getElem_cons hj]
    show (linesTxt (L.take j) ++ (L[j] ++ endT ++ linesTxt (L.drop (j + 1)))).data.toList = _
    rw [← txt_data]
    simp
  have l1 : (linesTxt (L.take j)).data.toList.length = lineAt L j := (Lib.size_eq _).symm
  have l2 : L[j].data.toList.length = L[j].size := (Lib.size_eq _).symm
  rw [e, List.getElem?_append_right (by omega), l1]
  by_cases hi : i - lineAt L j < L[j].size
  · rw [List.getElem?_append_left (by omega), List.getElem?_eq_getElem (by omega)]
    refine ⟨_, rfl, fun h => ?_, fun h => by omega⟩
    exact absurd (h ▸ List.getElem_mem _) (hno _ (List.getElem_mem hj))
  · have : i - lineAt L j = L[j].data.toList.length := by omega
    rw [this, List.getElem?_append_right (Nat.le_refl _), Nat.sub_self]
    exact ⟨10, rfl, fun _ => by omega, fun _ => rfl⟩
theorem cut_at_line (L : List ByteArray) (j : Nat) : (linesTxt L).extract 0 (lineAt L j) = linesTxt (L.take j) ∧ (linesTxt L).extract (lineAt L j) (linesTxt L).size = linesTxt (L.drop j) := by
  have e := lines_cut L j
  have ed : (linesTxt L).data.toList = (linesTxt (L.take j)).data.toList ++ (linesTxt (L.drop j)).data.toList := by rw [e]; simp
  have l1 : (linesTxt (L.take j)).data.toList.length = lineAt L j := (Lib.size_eq _).symm
  refine ⟨?_, ?_⟩
  · apply ByteArray.ext
    apply Array.toList_inj.1
    rw [Lib.extract_data, ed, List.drop_zero, Nat.sub_zero, ← l1, List.take_left]
  · apply ByteArray.ext
    apply Array.toList_inj.1
    rw [Lib.extract_data, ed, ← l1, List.drop_left, l1]
    have hz : (linesTxt L).size - lineAt L j = (linesTxt (L.drop j)).data.toList.length := by
      rw [e, ByteArray.size_append, ← Lib.size_eq]
      show lineAt L j + _ - _ = _
      omega
    rw [hz, List.take_length]
theorem ins_remark (L : List ByteArray) (j : Nat) (r : ByteArray) : linesTxt (L.take j) ++ ⟨#[35]⟩ ++ r ++ ⟨#[10, 10]⟩ ++ linesTxt (L.drop j) = linesTxt (L.take j ++ ([⟨#[35]⟩ ++ r, ⟨#[]⟩] ++ L.drop j)) := by
  rw [linesTxt_append, linesTxt_append]
  apply ByteArray.ext
  apply Array.toList_inj.1
  simp [linesTxt, endT]
theorem ins_wrong (L : List ByteArray) (j : Nat) : linesTxt (L.take j) ++ ⟨#[10, 119, 114, 111, 110, 103, 10]⟩ ++ linesTxt (L.drop j) = linesTxt (L.take j ++ ([⟨#[]⟩, ⟨#[119, 114, 111, 110, 103]⟩] ++ L.drop j)) := by
  rw [linesTxt_append, linesTxt_append]
  apply ByteArray.ext
  apply Array.toList_inj.1
  simp [linesTxt, endT]

def rho (j i : Nat) : Nat := if i ≤ j then i else if i ≤ j + 2 then j else i - 2
theorem ins_lo {α : Type} (Ls : List α) (j : Nat) (hj : j ≤ Ls.length) (a b e : α) (i : Nat) (h : i < j) : (Ls.take j ++ ([a, b] ++ Ls.drop j) ++ [e])[i]? = Ls[i]? := by
  have hl : (Ls.take j).length = j := by rw [List.length_take]; omega
  rw [List.append_assoc, List.getElem?_append_left (by omega), List.getElem?_take_of_lt h]
theorem ins_at {α : Type} (Ls : List α) (j : Nat) (hj : j ≤ Ls.length) (a b e : α) : (Ls.take j ++ ([a, b] ++ Ls.drop j) ++ [e])[j]? = some a ∧ (Ls.take j ++ ([a, b] ++ Ls.drop j) ++ [e])[j + 1]? = some b := by
  have hl : (Ls.take j).length = j := by rw [List.length_take]; omega
  constructor
  · rw [List.append_assoc, List.getElem?_append_right (by omega), hl, Nat.sub_self]; rfl
  · rw [List.append_assoc, List.getElem?_append_right (by omega), hl, Nat.add_sub_cancel_left]; rfl
theorem ins_hi {α : Type} (Ls : List α) (j : Nat) (hj : j ≤ Ls.length) (a b e : α) (i : Nat) (h : j + 2 ≤ i) (h2 : i < Ls.length + 2) : (Ls.take j ++ ([a, b] ++ Ls.drop j) ++ [e])[i]? = Ls[i - 2]? := by
  have hl : (Ls.take j).length = j := by rw [List.length_take]; omega
  have hd : (Ls.drop j).length = Ls.length - j := List.length_drop
  rw [List.append_assoc, List.getElem?_append_right (by omega), hl, List.append_assoc, List.getElem?_append_right (by simp; omega)]
  rw [List.getElem?_append_left (by simp; omega), List.getElem?_drop]
  congr 1
  simp
  omega
theorem ins_last {α : Type} (Ls : List α) (j : Nat) (hj : j ≤ Ls.length) (a b e : α) : (Ls.take j ++ ([a, b] ++ Ls.drop j) ++ [e])[Ls.length + 2]? = some e := by
  have hl : (Ls.take j ++ ([a, b] ++ Ls.drop j)).length = Ls.length + 2 := by
    rw [List.length_append, List.length_append, List.length_take, List.length_drop]
    simp
    omega
  rw [List.getElem?_append_right (by omega), hl, Nat.sub_self]; rfl
open Go.RowKit

theorem tabL_no10 {z : Nat → Int} {n : Nat} {x : Int} (h : IsTab z n x) : ∀ l, l ∈ tabL z n x → (10 : UInt8) ∉ l.data.toList := by
  intro l hl
  rcases List.mem_append.1 hl with hl | hl
  · obtain ⟨k, hk, rfl⟩ := List.mem_map.1 hl
    exact line_no10 (h.2.2.1 k (List.mem_range.1 hk))
  · obtain rfl := List.mem_singleton.1 hl
    exact end_no10 h.2.2.2.1 h.2.2.2.2.1
theorem rho_step (j i : Nat) : (i < j → rho j (i + 1) = rho j i + 1 ∧ rho j i = i) ∧ ((i = j ∨ i = j + 1) → rho j (i + 1) = rho j i) ∧ (j + 2 ≤ i → rho j (i + 1) = rho j i + 1 ∧ rho j i = i - 2) := by
  unfold rho
  refine ⟨fun h => ?_, fun h => ?_, fun h => ?_⟩
  · rw [if_pos (by omega), if_pos (by omega)]; exact ⟨rfl, rfl⟩
  · rcases h with rfl | rfl
    · rw [if_neg (by omega), if_pos (by omega), if_pos (by omega)]
    · rw [if_neg (by omega), if_pos (by omega), if_neg (by omega), if_pos (by omega)]
  · rw [if_neg (by omega), if_neg (by omega)]
    by_cases q : i ≤ j + 2
    · rw [if_neg (by omega), if_pos q]; omega
    · rw [if_neg (by omega), if_neg q]; omega
/-- What stands in the list with two lines put in, of the old lines. -/
theorem ins_old {z : Nat → Int} {n : Nat} {x : Int} (j : Nat) (hj : j ≤ n + 1) (a b : ByteArray) (i : Nat) (hi : i < n + 3) (h1 : i ≠ j) (h2 : i ≠ j + 1) :
    (rho j (i + 1) = rho j i + 1 ∧ ((rho j i < n ∧ ((tabL z n x).take j ++ ([a, b] ++ (tabL z n x).drop j) ++ [(⟨#[]⟩ : ByteArray)])[i]? = some (lineS z (rho j i))) ∨ (rho j i = n ∧ ((tabL z n x).take j ++ ([a, b] ++ (tabL z n x).drop j) ++ [(⟨#[]⟩ : ByteArray)])[i]? = some (endS x)))) := by
  have hl := tabL_len z n x
  have key : ∀ q, q < n + 1 → (q < n ∧ (tabL z n x)[q]? = some (lineS z q)) ∨ (q = n ∧ (tabL z n x)[q]? = some (endS x)) := fun q hq => by
    rcases Nat.lt_or_ge q n with h | h
    · left
      refine ⟨h, ?_⟩
      have := tabL_line z n x q h
      rwa [List.getElem?_append_left (by omega)] at this
    · right
      obtain rfl : q = n := by omega
      refine ⟨rfl, ?_⟩
      have := tabL_end z q x
      rwa [List.getElem?_append_left (by omega)] at this
  rcases (show i < j ∨ j + 2 ≤ i from by omega) with h | h
  · obtain ⟨e1, e2⟩ := (rho_step j i).1 h
    refine ⟨e1, ?_⟩
    rw [ins_lo _ j (by omega) a b _ i h, e2]
    exact key i (by omega)
  · obtain ⟨e1, e2⟩ := (rho_step j i).2.2 h
    refine ⟨e1, ?_⟩
    rw [ins_hi _ j (by omega) a b _ i h (by omega), e2]
    exact key (i - 2) (by omega)
theorem ins_len {z : Nat → Int} {n : Nat} {x : Int} (j : Nat) (hj : j ≤ n + 1) (a b : ByteArray) : ((tabL z n x).take j ++ ([a, b] ++ (tabL z n x).drop j)).length = n + 3 := by
  have hl := tabL_len z n x
  simp
  omega
theorem ins_mem {z : Nat → Int} {n : Nat} {x : Int} (j : Nat) (a b l : ByteArray) (h : l ∈ (tabL z n x).take j ++ ([a, b] ++ (tabL z n x).drop j)) : l = a ∨ l = b ∨ l ∈ tabL z n x := by
  rcases List.mem_append.1 h with h | h
  · exact .inr (.inr (List.mem_of_mem_take h))
  · rcases List.mem_append.1 h with h | h
    · simp at h
      rcases h with h | h
      · exact .inl h
      · exact .inr (.inl h)
    · exact .inr (.inr (List.mem_of_mem_drop h))
theorem take_drop_size {z : Nat → Int} {n : Nat} {x : Int} (h : IsTab z n x) (j : Nat) : (linesTxt ((tabL z n x).take j)).size + (linesTxt ((tabL z n x).drop j)).size ≤ 2100 := by
  have h1 := tab_size h
  have h2 := lines_cut (tabL z n x) j
  rw [show strOf (tabB z n x) = linesTxt (tabL z n x) from tab_txt z n x, h2, ByteArray.size_append] at h1
  exact h1
theorem parse_remark (n j : Nat) (x : Int) (z : Nat → Int) (r : ByteArray) (w : World) (hm : Mx w) (hT : IsTab z n x) (hzb : ∀ j, j < n * 2 → -9223372036854775808 ≤ z j ∧ z j ≤ 9223372036854775807) (hj : j ≤ n + 1) (hr : (10 : UInt8) ∉ r.data.toList) (hrs : r.size ≤ 100) :
    Calls Tryd.prog 23 #[.string (linesTxt ((tabL z n x).take j) ++ ⟨#[35]⟩ ++ r ++ ⟨#[10, 10]⟩ ++ linesTxt ((tabL z n x).drop j))] w fun e w' => ParseTb w n z x e w' ∧ Below w.heap.size w w' := by
  have hs := take_drop_size hT j
  have hsz : (linesTxt ((tabL z n x).take j) ++ ⟨#[35]⟩ ++ r ++ ⟨#[10, 10]⟩ ++ linesTxt ((tabL z n x).drop j)).size ≤ 8000 := by
    simp only [ByteArray.size_append]
    have e1 : (⟨#[35]⟩ : ByteArray).size = 1 := rfl
    have e2 : (⟨#[10, 10]⟩ : ByteArray).size = 2 := rfl
    omega
  have hl := ins_len (z := z) (x := x) j hj (⟨#[35]⟩ ++ r) ⟨#[]⟩
  have hsp := split_lines ((tabL z n x).take j ++ ([⟨#[35]⟩ ++ r, ⟨#[]⟩] ++ (tabL z n x).drop j)) (fun l h => by
    rcases ins_mem j _ _ l h with rfl | rfl | h
    · intro hc
      have e : (⟨#[35]⟩ ++ r : ByteArray).data.toList = 35 :: r.data.toList := by simp
      rw [e] at hc
      rcases List.mem_cons.1 hc with q | q
      · cases q
      · exact hr q
    · simp
    · exact tabL_no10 hT l h)
  rw [hl, ← ins_remark] at hsp
  have n1 := hT.1
  have n100 := hT.2.1
  have ht := tabL_len z n x
  refine parse_lines n (n + 3) x z _ _ (rho j) w hm hT hzb hsz hsp.2 hsp.1 ?_ (by unfold rho; rw [if_pos (Nat.zero_le _)]) ?_ (by omega) (by omega) ?_
  · have := ins_last (tabL z n x) j (by omega) (⟨#[35]⟩ ++ r) ⟨#[]⟩ (⟨#[]⟩ : ByteArray)
    rwa [ht] at this
  · unfold rho
    rw [if_neg (by omega)]
    split <;> omega
  · intro i hi
    by_cases h1 : i = j
    · subst h1
      exact .inl ⟨(rho_step i i).2.1 (.inl rfl), _, (ins_at (tabL z n x) i (by omega) (⟨#[35]⟩ ++ r) ⟨#[]⟩ ⟨#[]⟩).1, .inr ⟨r.data.toList, by simp⟩⟩
    by_cases h2 : i = j + 1
    · subst h2
      exact .inl ⟨(rho_step j (j + 1)).2.1 (.inr rfl), _, (ins_at (tabL z n x) j (by omega) (⟨#[35]⟩ ++ r) ⟨#[]⟩ ⟨#[]⟩).2, .inl rfl⟩
    exact .inr (ins_old j hj _ _ i hi h1 h2)
theorem parse_wr (n j : Nat) (x : Int) (z : Nat → Int) (w : World) (hm : Mx w) (hT : IsTab z n x) (hzb : ∀ j, j < n * 2 → -9223372036854775808 ≤ z j ∧ z j ≤ 9223372036854775807) (hj : j ≤ n + 1) :
    Calls Tryd.prog 23 #[.string (linesTxt ((tabL z n x).take j) ++ ⟨#[10, 119, 114, 111, 110, 103, 10]⟩ ++ linesTxt ((tabL z n x).drop j))] w fun e w' => e = .returned (.tuple #[.agg #[.slice none 0 0, .int .i64 0], .int .i64 (((j + 1 : Nat) : Int) + 1), .int .i64 10]) ∧ Below w.heap.size w w' := by
  have hs := take_drop_size hT j
  have hsz : (linesTxt ((tabL z n x).take j) ++ ⟨#[10, 119, 114, 111, 110, 103, 10]⟩ ++ linesTxt ((tabL z n x).drop j)).size ≤ 8000 := by
    simp only [ByteArray.size_append]
    have e1 : (⟨#[10, 119, 114, 111, 110, 103, 10]⟩ : ByteArray).size = 7 := rfl
    omega
  have hl := ins_len (z := z) (x := x) j hj ⟨#[]⟩ wrT
  have hsp := split_lines ((tabL z n x).take j ++ ([⟨#[]⟩, wrT] ++ (tabL z n x).drop j)) (fun l h => by
    rcases ins_mem j _ _ l h with rfl | rfl | h
    · simp
    · simp [wrT]
    · exact tabL_no10 hT l h)
  rw [hl, show linesTxt ((tabL z n x).take j ++ ([⟨#[]⟩, wrT] ++ (tabL z n x).drop j)) = linesTxt ((tabL z n x).take j) ++ ⟨#[10, 119, 114, 111, 110, 103, 10]⟩ ++ linesTxt ((tabL z n x).drop j) from (ins_wrong _ j).symm] at hsp
  have n1 := hT.1
  have n100 := hT.2.1
  have ht := tabL_len z n x
  refine parse_wrong n (n + 3) (j + 1) x z _ _ (rho j) w hm hT hzb hsz hsp.2 hsp.1 ?_ (by unfold rho; rw [if_pos (Nat.zero_le _)]) (by omega) ?_ (by omega) (by omega) ?_
  · have := ins_last (tabL z n x) j (by omega) ⟨#[]⟩ wrT (⟨#[]⟩ : ByteArray)
    rwa [ht] at this
  · exact (ins_at (tabL z n x) j (by omega) ⟨#[]⟩ wrT ⟨#[]⟩).2
  · intro i hi
    by_cases h1 : i = j
    · subst h1
      exact .inl ⟨(rho_step i i).2.1 (.inl rfl), _, (ins_at (tabL z n x) i (by omega) ⟨#[]⟩ wrT ⟨#[]⟩).1, .inl rfl⟩
    exact .inr (ins_old j hj _ _ i (by omega) h1 (by omega))
end Go.Proofs.YtonleiffbfdikaaDoor
