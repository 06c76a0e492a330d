/- A table's text: lines, what they hold, and what Parse keeps of them. -/
import Derived.Lib.SplitLaws
import Derived.Lib.Strings
import Derived.Test.YtonleiffbfdikaaDoorPrt3
import Derived.Test.YtonleiffbfdikaaDoorDig
import Derived.Test.YtonleiffbfdikaaDoorLeapPrt
import Derived.Test.YtonleiffbfdikaaDoorParse
import Derived.Lib.IndexMore
import Derived.Test.YtonleiffbfdikaaDoorLeapOf2
import Derived.Test.YtonleiffbfdikaaDoorLeap3M
/-! A text of lines, each with its end: split at the ends it is the lines, and nothing behind: plain mathematics. -/
set_option linter.unusedSimpArgs false
set_option linter.unusedVariables false
namespace Go.Proofs.YtonleiffbfdikaaDoor
open Go

def endT : ByteArray := ⟨#[10]⟩
/-- The lines' text. -/
def linesTxt : List ByteArray → ByteArray
  | [] => ⟨#[]⟩
  | l :: r => l ++ endT ++ linesTxt r
theorem index_end (c : UInt8) : ∀ (l r : List UInt8), c ∉ l → Lib.index (l ++ c :: r) [c] = (l.length : Int)
  | [], r, _ => by rw [List.nil_append, Lib.index]; simp [List.isPrefixOf]
  | b :: l, r, h => by
    have hb : b ≠ c := fun e => h (by simp [e])
    have ih := index_end c l r (fun e => h (by simp [e]))
    have hp : ([c] : List UInt8).isPrefixOf (b :: (l ++ c :: r)) = false := by simp [List.isPrefixOf, Ne.symm hb]
    rw [List.cons_append, Lib.index, hp, ih]
    have hne : ¬ ((l.length : Int) = -1) := by omega
    simp [hne]
theorem txt_data (l r : ByteArray) : (l ++ endT ++ r).data.toList = l.data.toList ++ 10 :: r.data.toList := by
  simp [endT]
theorem txt_size (l r : ByteArray) : (l ++ endT ++ r).size = l.size + 1 + r.size := by
  rw [ByteArray.size_append, ByteArray.size_append]; rfl
theorem split_lines : ∀ (L : List ByteArray), (∀ l, l ∈ L → (10 : UInt8) ∉ l.data.toList) → Lib.splitB endT 0 L.length (linesTxt L) = L ++ [⟨#[]⟩] ∧ Lib.countB (linesTxt L) endT = L.length
  | [], _ => ⟨rfl, by
    show Lib.count _ [10] = 0
    rw [Lib.count_one]; rfl⟩
  | l :: L, h => by
    obtain ⟨i1, i2⟩ := split_lines L (fun x hx => h x (by simp [hx]))
    have hix : Lib.indexB (linesTxt (l :: L)) endT = ((l.size : Nat) : Int) := by
      show Lib.index ((l ++ endT ++ linesTxt L).data.toList) [10] = _
      rw [txt_data, index_end _ _ _ (h l (by simp)), Lib.size_eq]
    have e1 : (linesTxt (l :: L)).extract 0 (l.size + 0) = l := by
      apply ByteArray.ext
      apply Array.toList_inj.1
      rw [Lib.extract_data]
      show List.take _ (List.drop 0 ((l ++ endT ++ linesTxt L).data.toList)) = _
      rw [txt_data, List.drop_zero, Nat.add_zero, Nat.sub_zero, Lib.size_eq, List.take_left]
    have e2 : (linesTxt (l :: L)).extract (l.size + endT.size) (linesTxt (l :: L)).size = linesTxt L := by
      apply ByteArray.ext
      apply Array.toList_inj.1
      rw [Lib.extract_data]
      show List.take ((l ++ endT ++ linesTxt L).size - _) (List.drop _ ((l ++ endT ++ linesTxt L).data.toList)) = _
      have e3 : endT.size = 1 := rfl
      rw [txt_data, txt_size, e3, Lib.size_eq l, show l.data.toList ++ 10 :: (linesTxt L).data.toList = (l.data.toList ++ [10]) ++ (linesTxt L).data.toList from by simp,
        show l.data.toList.length + 1 = (l.data.toList ++ [10]).length from by simp, List.drop_left, Lib.size_eq, Nat.add_sub_cancel_left, List.take_length]
    refine ⟨?_, ?_⟩
    · rw [List.length_cons, Lib.splitB_hit _ _ _ _ _ hix, e1, e2, i1]; rfl
    · rw [Lib.countB_hit _ _ _ (by decide) hix, e2, i2, List.length_cons]; omega
end Go.Proofs.YtonleiffbfdikaaDoor


/-! A date's text tells the date; digits of numbers (XPrm without the parse of any text). -/
namespace Go.Proofs.YtonleiffbfdikaaDoor
open Go.RowKit

theorem dig_nat (q : Nat) : (UInt8.ofNat (48 + q % 10)).toNat = 48 + q % 10 := by rw [UInt8.toNat_ofNat']; omega
theorem digGo_lowd (i n : Nat) : ∀ a : Int, digGo (lowd i n) a = a * (10 : Int) ^ i + ((n % 10 ^ i : Nat) : Int) := by
  induction i with
  | zero => intro a; simp [lowd, digGo, Nat.mod_one]
  | succ i ih =>
    intro a
    show (if 48 ≤ ((UInt8.ofNat (48 + n / 10 ^ i % 10)).toNat : Int) ∧ ((UInt8.ofNat (48 + n / 10 ^ i % 10)).toNat : Int) ≤ 57 then digGo (lowd i n) (a * 10 + ((UInt8.ofNat (48 + n / 10 ^ i % 10)).toNat - 48)) else -1) = _
    rw [dig_nat, if_pos (by omega), ih]
    have h1 : n % 10 ^ (i + 1) = n / 10 ^ i % 10 * 10 ^ i + n % 10 ^ i := by
      rw [Nat.pow_succ, Nat.mod_mul, Nat.mul_comm, Nat.add_comm]
    rw [h1, Int.pow_succ]
    generalize n / 10 ^ i % 10 = q
    generalize n % 10 ^ i = r
    push_cast
    rw [show ((48 : Int) + (q : Int) - 48) = (q : Int) from by omega, Int.add_mul, Int.mul_assoc, Int.mul_comm 10 ((10 : Int) ^ i)]
    omega
theorem ext_list (l : List UInt8) (a b : Nat) : ((strOf l).extract a b).data.toList = (l.drop a).take (b - a) := by
  rw [Lib.extract_data]; rfl
theorem lowd4 (n : Nat) : ∃ a b c d, lowd 4 n = [a, b, c, d] := ⟨_, _, _, _, rfl⟩
theorem lowd2 (n : Nat) : ∃ a b, lowd 2 n = [a, b] := ⟨_, _, rfl⟩
theorem dateS_text (y m d : Nat) (hv : Cal.Vld y m d) : DateText (dateS y m d) y m d := by
  have hb := hv
  obtain ⟨a1, a2, a3, a4, a5, a6⟩ := hb
  have hdm := Cal.dim_bd y m
  have e4 := digGo_lowd 4 y 0
  have e2 := digGo_lowd 2 m 0
  have e3 := digGo_lowd 2 d 0
  rw [Nat.mod_eq_of_lt (by omega)] at e4 e2 e3
  unfold dateS
  obtain ⟨p, q, r, t, h4⟩ := lowd4 y
  obtain ⟨u, v, h2⟩ := lowd2 m
  obtain ⟨g, h, h3⟩ := lowd2 d
  rw [h4] at e4
  rw [h2] at e2
  rw [h3] at e3
  rw [h4, h2, h3]
  refine ⟨by rw [strOf_size]; rfl, fun _ => rfl, fun _ => rfl, ?_, ?_, ?_, hv⟩
  · rw [ext_list]; show digGo [p, q, r, t] 0 = _; rw [e4]; omega
  · rw [ext_list]; show digGo [u, v] 0 = _; rw [e2]; omega
  · rw [strOf_size, ext_list]; show digGo [g, h] 0 = _; rw [e3]; omega
end Go.Proofs.YtonleiffbfdikaaDoor


/-! A table's text is its lines; what each line holds: plain mathematics. -/
namespace Go.Proofs.YtonleiffbfdikaaDoor
open Go.RowKit

/-- The line of one leap, with no end; the last line. -/
noncomputable def lineS (z : Nat → Int) (k : Nat) : ByteArray := dayS (z (k * 2)) ++ ⟨#[32]⟩ ++ strOf (Lib.decDigits (z (k * 2 + 1)).toNat)
noncomputable def endS (x : Int) : ByteArray := expT ++ dayS x
theorem linesTxt_append : ∀ (A B : List ByteArray), linesTxt (A ++ B) = linesTxt A ++ linesTxt B
  | [], B => by apply ByteArray.ext; simp [linesTxt]
  | l :: A, B => by rw [List.cons_append, linesTxt, linesTxt, linesTxt_append A B, ← ByteArray.append_assoc]
theorem linesTxt_one (l : ByteArray) : linesTxt [l] = l ++ endT := by
  apply ByteArray.ext; simp [linesTxt]
theorem lines_txt (z : Nat → Int) : ∀ n, strOf (linesB z n) = linesTxt ((List.range n).map (lineS z))
  | 0 => rfl
  | n + 1 => by
    rw [List.range_succ, List.map_append, linesTxt_append, ← lines_txt z n, List.map_cons, List.map_nil, linesTxt_one]
    apply ByteArray.ext
    simp [strOf, linesB, lineB, lineS, endT]
theorem tab_txt (z : Nat → Int) (n : Nat) (x : Int) : strOf (tabB z n x) = linesTxt ((List.range n).map (lineS z) ++ [endS x]) := by
  rw [linesTxt_append, ← lines_txt, linesTxt_one]
  apply ByteArray.ext
  simp [strOf, tabB, endS, endT, expT]
theorem lowd_dig (i n : Nat) : ∀ c, c ∈ lowd i n → 48 ≤ c.toNat ∧ c.toNat ≤ 57 := by
  induction i with
  | zero => intro c h; simp [lowd] at h
  | succ i ih =>
    intro c h
    rcases List.mem_cons.1 h with rfl | h
    · rw [dig_nat]; omega
    · exact ih c h
theorem dec_dig (n : Nat) : ∀ c, c ∈ Lib.decDigits n → 48 ≤ c.toNat ∧ c.toNat ≤ 57 := by
  induction n using Nat.strongRecOn with
  | ind n ih =>
    intro c h
    by_cases h10 : n < 10
    · rw [Lib.decDigits_one h10] at h
      obtain rfl := List.mem_singleton.1 h
      rw [UInt8.toNat_ofNat']; omega
    · rw [decDigits_snoc h10] at h
      rcases List.mem_append.1 h with h | h
      · exact ih _ (by omega) c h
      · obtain rfl := List.mem_singleton.1 h
        rw [dig_nat]; omega
theorem dec_lead (n : Nat) : (Lib.decDigits n).length = 1 ∨ ∃ c t, Lib.decDigits n = c :: t ∧ c.toNat ≠ 48 := by
  induction n using Nat.strongRecOn with
  | ind n ih =>
    by_cases h10 : n < 10
    · rw [Lib.decDigits_one h10]; exact .inl rfl
    · right
      rcases ih (n / 10) (by omega) with h | ⟨c, t, h, hc⟩
      · by_cases h100 : n / 10 < 10
        · refine ⟨UInt8.ofNat (48 + n / 10), [UInt8.ofNat (48 + n % 10)], ?_, ?_⟩
          · rw [decDigits_snoc h10, Lib.decDigits_one h100]; rfl
          · rw [UInt8.toNat_ofNat']; omega
        · rw [decDigits_snoc h100, List.length_append] at h
          have : 0 < (Lib.decDigits (n / 10 / 10)).length := by
            rcases ih (n / 10 / 10) (by omega) with h' | ⟨c, t, h', _⟩
            · omega
            · rw [h']; simp
          rw [List.length_singleton] at h
          omega
      · exact ⟨c, t ++ [UInt8.ofNat (48 + n % 10)], by rw [decDigits_snoc h10, h]; rfl, hc⟩
theorem capGo_snoc (c : UInt8) : ∀ (l : List UInt8) (a : Int), capGo (l ++ [c]) a = min (capGo l a * 10 + ((c.toNat : Int) - 48)) 1001
  | [], a => rfl
  | b :: l, a => by
    show capGo (l ++ [c]) _ = _
    rw [capGo_snoc c l]; rfl
theorem capGo_dec (n : Nat) (h : n ≤ 1000) : capGo (Lib.decDigits n) 0 = n := by
  induction n using Nat.strongRecOn with
  | ind n ih =>
    by_cases h10 : n < 10
    · rw [Lib.decDigits_one h10]
      show min ((0 : Int) * 10 + (((UInt8.ofNat (48 + n)).toNat : Int) - 48)) 1001 = n
      rw [UInt8.toNat_ofNat']; omega
    · rw [decDigits_snoc h10, capGo_snoc, ih (n / 10) (by omega) (by omega), dig_nat]
      omega
theorem dec_ok (n : Nat) (h : n < 10000) : DigitsOk (strOf (Lib.decDigits n)) := by
  have hl := dec_len h
  refine ⟨?_, ?_, ?_, ?_⟩
  · rw [strOf_size]
    rcases dec_lead n with h | ⟨c, t, h, _⟩
    · omega
    · rw [h]; simp
  · rw [strOf_size]; omega
  · intro k hk
    have hm : (strOf (Lib.decDigits n))[k]'hk ∈ Lib.decDigits n := by
      show ((strOf (Lib.decDigits n)).data[k]'hk) ∈ _
      simp [strOf]
    have := dec_dig n _ hm
    omega
  · rcases dec_lead n with h | ⟨c, t, h, hc⟩
    · left; rw [strOf_size]; exact h
    · right
      intro h0
      rw [show (strOf (Lib.decDigits n))[0]'h0 = c from by
        show ((strOf (Lib.decDigits n)).data[0]'h0) = c
        simp [strOf, h]]
      exact hc
theorem day_bytes (n : Int) (h1 : -719162 ≤ n) (h2 : n ≤ 2932896) : (∀ c, c ∈ (dayS n).data.toList → c.toNat = 45 ∨ (48 ≤ c.toNat ∧ c.toNat ≤ 57)) ∧ ∃ c t, (dayS n).data.toList = c :: t ∧ 48 ≤ c.toNat ∧ c.toNat ≤ 57 := by
  obtain ⟨y, m, d, hv, rfl⟩ := day_nat n h1 h2
  rw [dayS_eq y m d hv]
  show (∀ c, c ∈ lowd 4 y ++ [45] ++ lowd 2 m ++ [45] ++ lowd 2 d → _) ∧ ∃ c t, lowd 4 y ++ [45] ++ lowd 2 m ++ [45] ++ lowd 2 d = c :: t ∧ _
  refine ⟨fun c hc => ?_, ?_⟩
  · simp only [List.mem_append, List.mem_singleton] at hc
    rcases hc with (((h | h) | h) | h) | h
    · exact .inr (lowd_dig _ _ c h)
    · subst h; exact .inl rfl
    · exact .inr (lowd_dig _ _ c h)
    · subst h; exact .inl rfl
    · exact .inr (lowd_dig _ _ c h)
  · exact ⟨UInt8.ofNat (48 + y / 10 ^ 3 % 10), _, rfl, by rw [dig_nat]; omega⟩
end Go.Proofs.YtonleiffbfdikaaDoor


/-! What leap.Parse's parts answer at the lines of a table's text. -/
namespace Go.Proofs.YtonleiffbfdikaaDoor
open Go.RowKit

theorem lineS_data (z : Nat → Int) (k : Nat) : (lineS z k).data.toList = (dayS (z (k * 2))).data.toList ++ 32 :: Lib.decDigits (z (k * 2 + 1)).toNat := by
  simp [lineS, strOf]
theorem endS_data (x : Int) : (endS x).data.toList = [101, 120, 112, 105, 114, 101, 115] ++ 32 :: (dayS x).data.toList := by
  simp [endS, expT]
theorem cut_at (A D : List UInt8) (h : (32 : UInt8) ∉ A) : Lib.cut (A ++ 32 :: D) [32] = (A, D, true) := by
  have hi := index_end 32 A D h
  unfold Lib.cut
  rw [hi, if_pos (by omega)]
  simp
theorem day_no (n : Int) (h1 : -719162 ≤ n) (h2 : n ≤ 2932896) (c : UInt8) (hc : c.toNat < 45 ∨ 57 < c.toNat) : c ∉ (dayS n).data.toList := by
  intro h
  have := (day_bytes n h1 h2).1 c h
  omega
theorem dec_no (n : Nat) (c : UInt8) (hc : c.toNat < 45 ∨ 57 < c.toNat) : c ∉ Lib.decDigits n := by
  intro h
  have := dec_dig n c h
  omega
theorem line_no10 {z : Nat → Int} {k : Nat} (h : LeapOk z k) : (10 : UInt8) ∉ (lineS z k).data.toList := by
  rw [lineS_data]
  intro hm
  rcases List.mem_append.1 hm with hm | hm
  · exact day_no _ h.1 h.2.1 10 (by decide) hm
  · rcases List.mem_cons.1 hm with hm | hm
    · exact absurd hm (by decide)
    · exact dec_no _ 10 (by decide) hm
theorem end_no10 {x : Int} (h1 : -719162 ≤ x) (h2 : x ≤ 2932896) : (10 : UInt8) ∉ (endS x).data.toList := by
  rw [endS_data]
  intro hm
  rcases List.mem_append.1 hm with hm | hm
  · exact absurd hm (by decide)
  · rcases List.mem_cons.1 hm with hm | hm
    · exact absurd hm (by decide)
    · exact day_no _ h1 h2 10 (by decide) hm
theorem line_cut {z : Nat → Int} {k : Nat} (h : LeapOk z k) : Lib.cut (lineS z k).data.toList spT.data.toList = ((dayS (z (k * 2))).data.toList, (strOf (Lib.decDigits (z (k * 2 + 1)).toNat)).data.toList, true) := by
  rw [lineS_data]
  exact cut_at _ _ (day_no _ h.1 h.2.1 32 (by decide))
theorem end_cut (x : Int) : Lib.cut (endS x).data.toList spT.data.toList = ((strOf [101, 120, 112, 105, 114, 101, 115]).data.toList, (dayS x).data.toList, true) := by
  rw [endS_data]
  exact cut_at _ _ (by decide)
theorem line_first {z : Nat → Int} {k : Nat} (h : LeapOk z k) : ∃ c t, (lineS z k).data.toList = c :: t ∧ 48 ≤ c.toNat ∧ c.toNat ≤ 57 := by
  obtain ⟨c, t, e, hc⟩ := (day_bytes _ h.1 h.2.1).2
  exact ⟨c, _, by rw [lineS_data, e]; rfl, hc⟩
theorem line_pre {z : Nat → Int} {k : Nat} (h : LeapOk z k) : Lib.trimPrefix (lineS z k).data.toList expT.data.toList = (lineS z k).data.toList ∧ Lib.hasPrefix (lineS z k).data.toList expT.data.toList = false := by
  obtain ⟨c, t, e, hc⟩ := line_first h
  have hp : Lib.hasPrefix (lineS z k).data.toList expT.data.toList = false := by
    rw [e]
    show (List.isPrefixOf (101 :: _) (c :: t)) = false
    have hne : ((101 : UInt8) == c) = false := by
      rw [beq_eq_false_iff_ne]
      rintro rfl
      exact absurd hc.2 (by decide)
    rw [List.isPrefixOf, hne]; rfl
  exact ⟨by unfold Lib.trimPrefix; rw [hp]; rfl, hp⟩
theorem end_pre (x : Int) : Lib.trimPrefix (endS x).data.toList expT.data.toList = (dayS x).data.toList ∧ Lib.hasPrefix (endS x).data.toList expT.data.toList = true := by
  have e : (endS x).data.toList = expT.data.toList ++ (dayS x).data.toList := by simp [endS]
  have hp : Lib.hasPrefix (endS x).data.toList expT.data.toList = true := by
    unfold Lib.hasPrefix
    rw [e, List.isPrefixOf_iff_prefix]
    exact List.prefix_append _ _
  exact ⟨by unfold Lib.trimPrefix; rw [hp, if_pos rfl, e, List.drop_left], hp⟩
theorem day_text (n : Int) (h1 : -719162 ≤ n) (h2 : n ≤ 2932896) : ∃ y m d : Nat, Cal.num y m d = n ∧ DateText (dayS n) y m d := by
  obtain ⟨y, m, d, hv, rfl⟩ := day_nat n h1 h2
  exact ⟨y, m, d, rfl, by rw [dayS_eq y m d hv]; exact dateS_text y m d hv⟩
theorem lineS_size {z : Nat → Int} {k : Nat} (h : LeapOk z k) : (lineS z k).size ≤ 20 := by
  have h1 := dayS_size _ h.1 h.2.1
  have h2 := dec_len (n := (z (k * 2 + 1)).toNat) (by have := h.2.2.2.1; omega)
  unfold lineS
  rw [ByteArray.size_append, ByteArray.size_append, h1, strOf_size]
  have a1 : (⟨#[32]⟩ : ByteArray).size = 1 := rfl
  omega
theorem endS_size {x : Int} (h1 : -719162 ≤ x) (h2 : x ≤ 2932896) : (endS x).size = 18 := by
  unfold endS
  rw [ByteArray.size_append, dayS_size _ h1 h2]; rfl
theorem line_end {z : Nat → Int} {k : Nat} (w : World) (h : LeapOk z k) : Calls Tryd.prog 36 #[.string (lineS z k)] w fun e w' => e = .returned (.tuple #[.int .i64 0, .bool false]) ∧ Below w.heap.size w w' :=
  parseEnd_no (lineS z k) (lineS z k) w (line_pre h).1 (line_pre h).2
theorem line_leap {z : Nat → Int} {k : Nat} (w : World) (hm : Mx w) (h : LeapOk z k) : Calls Tryd.prog 37 #[.string (lineS z k)] w fun e w' => e = .returned (.tuple #[.agg #[.int .i64 (z (k * 2)), .int .i64 (z (k * 2 + 1))], .bool true]) ∧ Below w.heap.size w w' := by
  obtain ⟨y, m, d, hn, hD⟩ := day_text _ h.1 h.2.1
  have ho1 := h.2.2.1
  have ho2 := h.2.2.2.1
  refine parseLeap_yes (lineS z k) (dayS (z (k * 2))) (strOf (Lib.decDigits (z (k * 2 + 1)).toNat)) y m d _ _ w hm (by have := lineS_size h; omega) (line_cut h) hD hn (dec_ok _ (by omega)) ?_
  have := capGo_dec (z (k * 2 + 1)).toNat (by omega)
  rwa [Int.toNat_of_nonneg ho1] at this
theorem end_end (x : Int) (w : World) (h1 : -719162 ≤ x) (h2 : x ≤ 2932896) : Calls Tryd.prog 36 #[.string (endS x)] w fun e w' => e = .returned (.tuple #[.int .i64 x, .bool true]) ∧ Below w.heap.size w w' := by
  obtain ⟨y, m, d, hn, hD⟩ := day_text x h1 h2
  exact parseEnd_yes (endS x) (dayS x) y m d x w (end_pre x).1 (end_pre x).2 hD hn
theorem end_leap (x : Int) (w : World) (hm : Mx w) (h1 : -719162 ≤ x) (h2 : x ≤ 2932896) : Calls Tryd.prog 37 #[.string (endS x)] w fun e w' => e = .returned (.tuple #[.agg #[.int .i64 0, .int .i64 0], .bool false]) ∧ Below w.heap.size w w' :=
  parseLeap_no (endS x) (strOf [101, 120, 112, 105, 114, 101, 115]) (dayS x) w hm (by rw [endS_size h1 h2]; decide) (end_cut x) (by decide)
end Go.Proofs.YtonleiffbfdikaaDoor


/-! leap.Parse of the text of any table: the table. -/
namespace Go.Proofs.YtonleiffbfdikaaDoor
open Go.RowKit

/-- Lines of a text, in a block. -/
structure LnG (w : World) (b : Nat) (L : List ByteArray) : Prop where
  c : ∀ (j : Nat) (l : ByteArray), L[j]? = some l → w.cell? ⟨b, j, none⟩ = some (.string l)
  lt : b < w.heap.size
/-- What Parse keeps on its way through the lines. -/
structure GS (L : List ByteArray) (w0 wr : World) (v : Value) (xs : List Value) (n : Nat) (ex : Int) : Prop where
  x0 : Tb wr w0.heap.size (.slice none 0 0) 0
  xl : LnG wr (w0.heap.size + 1) L
  xt : Tb wr (w0.heap.size + 2) v ex
  row : wr.ownsRow 0 33 2 v n xs
  nb : ∀ g, v.ownBlock = some g → w0.heap.size + 2 < g
  hb : Below w0.heap.size w0 wr
theorem LnG.below {w w' : World} {b : Nat} {L : List ByteArray} (h : LnG w b L) (k : Below w.heap.size w w') : LnG w' b L :=
  ⟨fun j l hl => (k.cell (p := ⟨b, j, none⟩) h.lt).trans (h.c j l hl), Nat.lt_of_lt_of_le h.lt k.size⟩
theorem LnG.other {w : World} {b : Nat} {L : List ByteArray} (h : LnG w b L) {p : Addr} (hp : p.block ≠ b) (u : Value) : LnG (w.setCell p u) b L :=
  ⟨fun j l hl => (World.cell?_setCell_other _ _ _ _ (fun e => hp (by rw [e]))).trans (h.c j l hl), by simpa [World.setCell] using h.lt⟩
theorem GS.below {L : List ByteArray} {w0 w w' : World} {v : Value} {xs : List Value} {n : Nat} {ex : Int} (h : GS L w0 w v xs n ex) (k : Below w.heap.size w w') : GS L w0 w' v xs n ex :=
  ⟨h.x0.below k, h.xl.below k, h.xt.below k, (But.of_below (S := fun _ => False) k).row h.row (fun _ _ hf => hf), h.nb, h.hb.trans (k.mono h.hb.size)⟩
structure AppG (L : List ByteArray) (w0 w2 w3 : World) (v v' : Value) (ys : List Value) (m : Nat) (d o : Int) : Prop where
  ps : GS L w0 (w3.setCell ⟨w0.heap.size + 2, 0, none⟩ v') v' ys m 0
  c : w3.cell? ⟨w0.heap.size + 2, 0, none⟩ = some v
  f : w3.frozen? ⟨w0.heap.size + 2, 0, none⟩ = false
  l0 : (w3.setCell ⟨w0.heap.size + 2, 0, none⟩ v').cell? ⟨w2.heap.size, 0, none⟩ = some (.int .i64 d)
theorem GS.app {L : List ByteArray} {w0 w2 w3 : World} {v v' : Value} {xs ys : List Value} {n m : Nat} {d o : Int} {t t' : TypeId} (h : GS L w0 w2 v xs n 0)
    (hg : ((w2.alloc (.cells #[.int .i64 d, .int .i64 o] t)).alloc (.cells #[.int .i64 d, .int .i64 o] t')).grownBy w3 v.ownBlock) (hown : w3.ownsRow 0 33 2 v' m ys) (hv : ∀ g, v'.ownBlock = some g → v.ownBlock = some g ∨ g = w2.heap.size + 2) : AppG L w0 w2 w3 v v' ys m d o := by
  have hbut : But (fun k => v.ownBlock = some k) w2 w3 := (((But.refl (fun k => v.ownBlock = some k) w2).alloc _).alloc _).trans (But.of_grown (S := fun k => v.ownBlock = some k) hg (fun k hk => hk)) (fun _ _ hf => hf)
  have hlt := h.xt.lt
  have hn2 : ¬ (fun k => v.ownBlock = some k) (w0.heap.size + 2) := fun e => by have := h.nb _ e; omega
  have hn1 : ¬ (fun k => v.ownBlock = some k) (w0.heap.size + 1) := fun e => by have := h.nb _ e; omega
  have hn0 : ¬ (fun k => v.ownBlock = some k) w0.heap.size := fun e => by have := h.nb _ e; omega
  have Y0 : Tb w3 w0.heap.size (.slice none 0 0) 0 := ⟨(hbut.cell _ 0 h.x0.lt hn0).trans h.x0.c0, (hbut.cell _ 1 h.x0.lt hn0).trans h.x0.c1, (hbut.frozen _ 0 h.x0.lt hn0).trans h.x0.f0, (hbut.frozen _ 1 h.x0.lt hn0).trans h.x0.f1, Nat.lt_of_lt_of_le h.x0.lt hbut.size⟩
  have Y1 : LnG w3 (w0.heap.size + 1) L := ⟨fun j l hl => (hbut.cell _ j h.xl.lt hn1).trans (h.xl.c j l hl), Nat.lt_of_lt_of_le h.xl.lt hbut.size⟩
  have Y2 : Tb w3 (w0.heap.size + 2) v 0 := ⟨(hbut.cell _ 0 hlt hn2).trans h.xt.c0, (hbut.cell _ 1 hlt hn2).trans h.xt.c1, (hbut.frozen _ 0 hlt hn2).trans h.xt.f0, (hbut.frozen _ 1 hlt hn2).trans h.xt.f1, Nat.lt_of_lt_of_le hlt hbut.size⟩
  have hnv : ∀ g, v'.ownBlock = some g → w0.heap.size + 2 < g := fun g hg' => by
    rcases hv g hg' with e | e
    · exact h.nb g e
    · omega
  refine ⟨⟨Y0.other (by simp) _, Y1.other (by simp) _, Y2.set0 _, (But.of_only (S := fun k => k = w0.heap.size + 2) ((Only.refl _ w3).setB _) rfl).row hown (fun g hg' e => by have := hnv g hg'; omega), hnv, ?_⟩, Y2.c0, Y2.f0, ?_⟩
  · exact (h.hb.trans ⟨hbut.os, hbut.tape, hbut.output, hbut.size, fun k hk => hbut.block k (by have := h.hb.size; omega) (fun e => by have := h.nb k e; omega)⟩).setCell (by simp) _
  · rw [World.cell?_setCell_other _ _ _ _ (by simp; try omega)]
    have hnl : some w2.heap.size ≠ v.ownBlock := fun e => by have := (h.row.lt _ e.symm).2; omega
    rw [hg.cell_far ⟨w2.heap.size, 0, none⟩ (by simp; omega) hnl, World.cell?_alloc_past _ _ _ (by simp)]
    simp
theorem tab_pre {z : Nat → Int} {n : Nat} {x : Int} (h : IsTab z n x) (k : Nat) (hk : k < n) : IsTab z (k + 1) (z (k * 2) + 1) := by
  obtain ⟨a1, a2, a3, a4, a5, a6⟩ := h
  have hok := a3 k hk
  have hle : z (k * 2) ≤ z ((n - 1) * 2) := by
    by_cases e : k = n - 1
    · rw [e]; omega
    · have := leap_rise ⟨a1, a2, a3, a4, a5, a6⟩ k (n - 1) (by omega) (by omega); omega
  refine ⟨by omega, by omega, fun j hj => a3 j (by omega), by have := hok.1; omega, by omega, ?_⟩
  show z ((k + 1 - 1) * 2) < _
  rw [Nat.add_sub_cancel]; omega
theorem cellsOf_two (z : Nat → Int) (k : Nat) : cellsOf z ((k + 1) * 2) = cellsOf z (k * 2) ++ [.int .i64 (z (k * 2)), .int .i64 (z (k * 2 + 1))] := by
  rw [show (k + 1) * 2 = k * 2 + 2 from by omega]
  unfold cellsOf
  rw [List.range_succ, List.range_succ]
  simp
/-- The lines of a table's text. -/
noncomputable def tabL (z : Nat → Int) (n : Nat) (x : Int) : List ByteArray := (List.range n).map (lineS z) ++ [endS x]
theorem tabL_len (z : Nat → Int) (n : Nat) (x : Int) : (tabL z n x).length = n + 1 := by simp [tabL]
theorem tabL_line (z : Nat → Int) (n : Nat) (x : Int) (k : Nat) (h : k < n) : (tabL z n x ++ [⟨#[]⟩])[k]? = some (lineS z k) := by
  rw [List.getElem?_append_left (by rw [tabL_len]; omega)]
  unfold tabL
  rw [List.getElem?_append_left (by simp; exact h)]
  simp [h]
theorem tabL_end (z : Nat → Int) (n : Nat) (x : Int) : (tabL z n x ++ [⟨#[]⟩])[n]? = some (endS x) := by
  rw [List.getElem?_append_left (by rw [tabL_len]; omega)]
  unfold tabL
  rw [List.getElem?_append_right (by simp)]
  simp
theorem tabL_last (z : Nat → Int) (n : Nat) (x : Int) : (tabL z n x ++ [⟨#[]⟩])[n + 1]? = some ⟨#[]⟩ := by
  rw [List.getElem?_append_right (by rw [tabL_len]; omega), tabL_len]
  simp
theorem tab_split {z : Nat → Int} {n : Nat} {x : Int} (h : IsTab z n x) : Lib.countB (strOf (tabB z n x)) nlT = n + 1 ∧ Lib.splitB nlT 0 (n + 1) (strOf (tabB z n x)) = tabL z n x ++ [⟨#[]⟩] := by
  have hl : ∀ l, l ∈ tabL z n x → (10 : UInt8) ∉ l.data.toList := by
    intro l hl
    rcases List.mem_append.1 hl with hl | hl
    · obtain ⟨k, hk, rfl⟩ := List.mem_map.1 hl
      exact line_no10 (h.2.2.1 k (List.mem_range.1 hk))
    · obtain rfl := List.mem_singleton.1 hl
      exact end_no10 h.2.2.2.1 h.2.2.2.2.1
  have hs := split_lines (tabL z n x) hl
  rw [tabL_len] at hs
  rw [tab_txt]
  exact ⟨hs.2, hs.1⟩
theorem tab_size {z : Nat → Int} {n : Nat} {x : Int} (h : IsTab z n x) : (strOf (tabB z n x)).size ≤ 2100 := by
  have h1 := linesB_len (z := z) n (fun j hj => h.2.2.1 j hj)
  have h2 := endS_size h.2.2.2.1 h.2.2.2.2.1
  have hn := h.2.1
  have e : strOf (tabB z n x) = strOf (linesB z n) ++ (endS x ++ endT) := by
    rw [tab_txt, linesTxt_append, ← lines_txt, linesTxt_one]
  have e1 : endT.size = 1 := rfl
  rw [e, ByteArray.size_append, ByteArray.size_append, strOf_size]
  omega
end Go.Proofs.YtonleiffbfdikaaDoor


