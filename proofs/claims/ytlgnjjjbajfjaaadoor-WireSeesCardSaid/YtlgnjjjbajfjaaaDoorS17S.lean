/- Stage 17: a frame's bytes of which one is another one are none (plain mathematics). -/
/- Stage 17: WireSees walked. -/
/- Stage 17: WireSees: the card. (for every word, place and byte) -/
import Derived.Test.YtlgnjjjbajfjaaaDoorFrM
import Derived.Test.YtlgnjjjbajfjaaaDoorRef17
import Derived.Test.YtlgnjjjbajfjaaaDoorKnown17
import Derived.Test.YtlgnjjjbajfjaaaDoorRowSet
import Derived.Test.YtlgnjjjbajfjaaaDoorCard17
set_option linter.unusedSimpArgs false
set_option linter.unusedVariables false
namespace Go.Proofs.YtlgnjjjbajfjaaaDoor

theorem isBy_set' {l : List Int} (h : isBy l) {i : Nat} {x : Int} (hx : 0 ≤ x ∧ x ≤ 255) : isBy (l.set i x) := fun b hb => by
  rcases List.mem_or_eq_of_mem_set hb with q | rfl
  · exact h b q
  · exact hx
theorem frE_set_no {p : List Int} (hp : isBy p) {i : Nat} {x y : Int} (hy : (frE p)[i]? = some y) (hx : 0 ≤ x ∧ x ≤ 255) (hne : x ≠ y) : frO ((frE p).set i x) ≠ 0 := by
  intro h
  obtain ⟨_, hqb, he, _⟩ := frO_inv (isBy_set' (frE_by hp) hx) h
  generalize frP ((frE p).set i x) = q at *
  have hlen : q.length = p.length := by
    have := congrArg List.length he
    rw [List.length_set, frE_len, frE_len] at this
    omega
  obtain ⟨P, hP⟩ : ∃ P, hdE p.length ++ p = P := ⟨_, rfl⟩
  obtain ⟨Q, hQ⟩ : ∃ Q, hdE p.length ++ q = Q := ⟨_, rfl⟩
  have eP : frE p = P ++ enc4 (sumL P) := by unfold frE; rw [hP]
  have eQ : frE q = Q ++ enc4 (sumL Q) := by unfold frE; rw [hlen, hQ]
  have bP : isBy P := by rw [← hP]; exact isBy_append (hdE_by _) hp
  have bQ : isBy Q := by rw [← hQ]; exact isBy_append (hdE_by _) hqb
  have lPQ : P.length = Q.length := by rw [← hP, ← hQ, List.length_append, List.length_append, hlen]
  have by_ : 0 ≤ y ∧ y ≤ 255 := frE_by hp y (List.mem_of_getElem? hy)
  rw [eP] at hy he
  rw [eQ] at he
  by_cases hi : i < P.length
  · rw [List.set_append_left _ _ hi] at he
    obtain ⟨e1, e2⟩ := List.append_inj he (by rw [List.length_set]; exact lPQ)
    have e3 : sumL P = sumL Q := enc4_inj (sum_lt bP) (sum_lt bQ) e2
    rw [List.getElem?_append_left hi] at hy
    have hy2 : P[i] = y := by rw [List.getElem?_eq_getElem hi] at hy; injection hy
    have q1 : P = P.take i ++ y :: P.drop (i + 1) := by
      conv => lhs; rw [← List.take_append_drop i P]
      rw [List.drop_eq_getElem_cons hi, hy2]
    have q2 : Q = P.take i ++ x :: P.drop (i + 1) := by
      rw [← e1, List.set_eq_take_append_cons_drop, if_pos hi]
    refine sumL_one (isBy_take bP i) (isBy_drop bP (i + 1)) by_ hx (fun e => hne e.symm) ?_
    rw [← q1, ← q2]
    exact e3
  · rw [List.set_append_right _ _ (by omega)] at he
    obtain ⟨e1, e2⟩ := List.append_inj he lPQ
    rw [← e1] at e2
    rw [List.getElem?_append_right (by omega)] at hy
    have hj : i - P.length < (enc4 (sumL P)).length := (List.getElem?_eq_some_iff.1 hy).1
    have h2 := congrArg (fun l : List Int => l[i - P.length]?) e2
    simp only [List.getElem?_set_self hj, hy] at h2
    injection h2 with h2
    exact hne h2
theorem frO_set {l : List Int} {i : Nat} : (l.set i (l.getD i 0)).length = l.length := List.length_set
end Go.Proofs.YtlgnjjjbajfjaaaDoor
namespace Go.Proofs.YtlgnjjjbajfjaaaDoor
open Go.RowKit Go.Sort Go.Op

theorem and30 (n : Int) : ∃ d : Nat, d ≤ 1073741823 ∧ bits .and .i64 n 1073741823 = (d : Int) := by
  show ∃ d : Nat, d ≤ 1073741823 ∧ IntKind.i64.wrap ((BitVec.ofInt 64 n &&& BitVec.ofInt 64 1073741823).toNat : Int) = (d : Int)
  have e2 : (BitVec.ofInt 64 1073741823).toNat = 2 ^ 30 - 1 := by decide
  have h1 : (BitVec.ofInt 64 n &&& BitVec.ofInt 64 1073741823).toNat ≤ 1073741823 := by
    rw [BitVec.toNat_and, e2]
    exact Nat.and_le_right
  exact ⟨_, h1, IntWalk.i64_in _ (by omega)⟩
theorem xor8 (a b : Nat) (ha : a ≤ 255) (hb : b ≤ 255) : bits .xor .u8 (a : Int) (b : Int) = ((a ^^^ b : Nat) : Int) ∧ a ^^^ b ≤ 255 := by
  have h : bits .xor .u8 (a : Int) (b : Int) = IntKind.u8.wrap ((BitVec.ofInt 8 a ^^^ BitVec.ofInt 8 b).toNat : Int) := rfl
  have hl := Nat.xor_lt_two_pow (n := 8) (x := a) (y := b) (by omega) (by omega)
  have e : (2 : Nat) ^ 8 = 256 := by decide
  rw [e] at hl
  have ht : (BitVec.ofInt 8 a ^^^ BitVec.ofInt 8 b).toNat = a ^^^ b := by
    rw [BitVec.toNat_xor, BitVec.ofInt_natCast, BitVec.ofInt_natCast, BitVec.toNat_ofNat, BitVec.toNat_ofNat, Nat.mod_eq_of_lt (by omega), Nat.mod_eq_of_lt (by omega)]
  rw [h, ht, w8 _ (by omega) (by omega)]
  exact ⟨rfl, by omega⟩
theorem xor_ne {a b : Nat} (h : b ≠ 0) : a ^^^ b ≠ a := fun e => h (by
  have := xor_left_inj (k := a) (a := b) (b := 0) (by rw [e, Nat.xor_zero])
  exact this)
theorem Row8.put {base : Nat} {w : World} {g cap m : Nat} {l : List Int} (h : Row8 base w g cap m l) (i : Nat) (x : Int) : Row8 base (w.setCell ⟨g, i, none⟩ (.int .u8 x)) g cap m (l.set i x) := by
  have h1 := h.own.1
  refine ⟨⟨by rw [bC_len, List.length_set, ← bC_len]; exact h1, ?_⟩, by rw [List.length_set]; exact h.len⟩
  rcases h.own.2 with ⟨h, _⟩ | ⟨g', cap', cur, h, hb, hh, k1, k2, k3, k4⟩
  · cases h
  · injection h with a1 a2 a3
    injection a1 with a1
    injection a1 with a1
    subst a1
    subst a3
    refine .inr ⟨g, cap, cur.setIfInBounds i (.int .u8 x), rfl, hb, heap_setCell1 hh _, k1, k2, by rw [Array.size_setIfInBounds]; exact k3, ?_⟩
    rw [Array.toList_setIfInBounds, List.take_set, k4]
    simp [bC, List.map_set]
theorem Row8.cell {base : Nat} {w : World} {g cap m : Nat} {l : List Int} (h : Row8 base w g cap m l) {i : Nat} {x : Int} (hx : l[i]? = some x) : w.cell? ⟨g, i, none⟩ = some (.int .u8 x) ∧ w.frozen? ⟨g, i, none⟩ = false := by
  obtain ⟨cur, hg, _⟩ := row_block h.own
  have := World.ownsRow.cells h.own (g := g) rfl i (.int .u8 x) (by simp [bC, hx])
  rw [at_add, Nat.zero_add] at this
  exact ⟨this, by simp [World.frozen?, hg]⟩
set_option maxRecDepth 100000 in
set_option maxHeartbeats 4000000 in
theorem sees_zero (k o s m1 c1 m2 c2 at_ : Int) (A : Option Addr) (c : Nat) (L : List Mr) (w : World) (hrow : RowAt w (.slice A L.length c) L) (hs : ∀ m ∈ L, m.r.val.length ≤ 281474976710656 ∧ m.r.key.length ≤ 281474976710656) (hl : L.length ≤ maxLen) :
    Calls Tryd.prog 5 #[wdV k o s m1 c1 m2 c2 (.slice A L.length c), .int .i64 at_, .int .u8 0] w fun e w' => e = .returned (.bool true) ∧ Below w.heap.size w w' := by
  have hb0 : Below w.heap.size w (w.alloc (.cells (wdC k o s m1 c1 m2 c2 (.slice A L.length c)) 26)) := by (repeat' (first | (with_reducible exact Below.refl _ _) | (with_reducible assumption) | (with_reducible refine Below.trans ?_ (Below.mono (by with_reducible assumption) ?_)) | (with_reducible refine Below.alloc ?_ ?_ _) | (with_reducible refine Below.setCell ?_ ?_ _) | (with_reducible refine below_drewN ?_ _) | (with_reducible refine Below.drew ?_) | go_size))
  have HH := Lib.hid (law_heavy17 k o s m1 c1 m2 c2 A c L _ (hrow.below hb0) hs hl)
  have HB0 := Lib.hid hb0
  clear hrow hs hl hb0
  go_enter Tryd.func5, Tryd.ntmps5
  go_wp2_with fail
  refine HH.out.mono ?_; rintro e w1 ⟨⟨b, rfl, _⟩, k1⟩
  have HB1 := Lib.hid (HB0.out.trans (k1.mono HB0.out.size))
  clear k1 HH
  cases b
  all_goals
    go_wp2
    go_ret
    exact ⟨rfl, HB1.out⟩
set_option maxRecDepth 100000 in
set_option maxHeartbeats 4000000 in
theorem sees_no (k o s m1 c1 m2 c2 at_ : Int) (by_ : Nat) (A : Option Addr) (c : Nat) (L : List Mr) (w : World) (ht : Nib w) (hrow : RowAt w (.slice A L.length c) L) (hkb : ∀ m ∈ L, isBy m.r.key ∧ isBy m.r.val) (hs : ∀ m ∈ L, m.r.val.length ≤ 281474976710656 ∧ m.r.key.length ≤ 281474976710656) (hl : L.length ≤ maxLen) (hby : by_ ≠ 0) (hok : okW (wdOf k o s m1 c1 m2 c2 L) = false) :
    Calls Tryd.prog 5 #[wdV k o s m1 c1 m2 c2 (.slice A L.length c), .int .i64 at_, .int .u8 (by_ : Int)] w fun e w' => e = .returned (.bool true) ∧ Below w.heap.size w w' := by
  have hb0 : Below w.heap.size w (w.alloc (.cells (wdC k o s m1 c1 m2 c2 (.slice A L.length c)) 26)) := by (repeat' (first | (with_reducible exact Below.refl _ _) | (with_reducible assumption) | (with_reducible refine Below.trans ?_ (Below.mono (by with_reducible assumption) ?_)) | (with_reducible refine Below.alloc ?_ ?_ _) | (with_reducible refine Below.setCell ?_ ?_ _) | (with_reducible refine below_drewN ?_ _) | (with_reducible refine Below.drew ?_) | go_size))
  have HH := Lib.hid (law_heavy17 k o s m1 c1 m2 c2 A c L _ (hrow.below hb0) hs hl)
  have HB0 := Lib.hid hb0
  have X0 := Lib.hid (Wd8.new w 26 k o s m1 c1 m2 c2 (.slice A L.length c))
  have HE := Lib.hid (fun (W : World) (q : Below w.heap.size w W) (h4 : L.length ≤ 400) => wd_enc_no k o s m1 c1 m2 c2 A c L W (hrow.below q) (fun m hm => (hkb m hm).1) (by omega) hok)
  have HI := Lib.hid (fun (W : World) (q : Below w.heap.size w W) (h4 : L.length ≤ 400) => ref17_is k o s m1 c1 m2 c2 A c L W (hrow.below q) (fun m hm => (hkb m hm).1) (by omega))
  rw [hok] at HI
  have HT := Lib.hid (fun (W : World) (q : Below w.heap.size w W) => ht.below q)
  have q1 : ((by_ : Int) == 0) = false := by simp; omega
  clear hrow hs hl hb0 hkb ht hok hby
  go_enter Tryd.func5, Tryd.ntmps5
  go_wp2_with fail
  refine HH.out.mono ?_; rintro e w1 ⟨⟨b, rfl, h4⟩, k1⟩
  have HB1 := Lib.hid (HB0.out.trans (k1.mono HB0.out.size))
  have HX1 := Lib.hid (X0.out.below k1)
  have H4 := Lib.hid h4
  clear k1 HH h4
  cases b
  rotate_left
  · go_wp2
    go_ret
    exact ⟨rfl, HB1.out⟩
  obtain ⟨x0, x1, x2, x3, x4, x5, x6, x7, xlt⟩ := HX1.out
  go_wp2_with fail
  refine (HE.out w1 HB1.out (H4.out (by first | rfl | trivial))).mono ?_; rintro e w2 ⟨rfl, k2⟩
  have HB2 := Lib.hid (HB1.out.trans (k2.mono HB1.out.size))
  obtain ⟨y0, y1, y2, y3, y4, y5, y6, y7, ylt⟩ := HX1.out.below k2
  clear k2 HE x0 x1 x2 x3 x4 x5 x6 x7 xlt HX1
  go_wp2_with fail
  refine (HI.out w2 HB2.out (H4.out (by first | rfl | trivial))).mono ?_; rintro e w3 ⟨rfl, k3⟩
  have HB3 := Lib.hid (HB2.out.trans (k3.mono HB2.out.size))
  clear k3 HI y0 y1 y2 y3 y4 y5 y6 y7 ylt
  go_wp2_with fail
  refine (known17 _ (HT.out _ HB3.out)).mono ?_; rintro e w4 ⟨rfl, k4⟩
  have HB4 := Lib.hid (HB3.out.trans (k4.mono HB3.out.size))
  clear k4
  go_wp2
  go_ret
  exact ⟨rfl, HB4.out⟩
set_option maxRecDepth 100000 in
set_option maxHeartbeats 4000000 in
theorem sees_yes (k o s m1 c1 m2 c2 at_ : Int) (by_ : Nat) (A : Option Addr) (c : Nat) (L : List Mr) (w : World) (ht : Nib w) (hrow : RowAt w (.slice A L.length c) L) (hat : ∀ m ∈ L, m.At (fun _ => True) w) (hkb : ∀ m ∈ L, isBy m.r.key ∧ isBy m.r.val) (hs : ∀ m ∈ L, m.r.val.length ≤ 281474976710656 ∧ m.r.key.length ≤ 281474976710656) (hl : L.length ≤ maxLen) (hby : by_ ≠ 0) (hb1 : by_ ≤ 255) (hok : okW (wdOf k o s m1 c1 m2 c2 L) = true) :
    Calls Tryd.prog 5 #[wdV k o s m1 c1 m2 c2 (.slice A L.length c), .int .i64 at_, .int .u8 (by_ : Int)] w fun e w' => e = .returned (.bool true) ∧ Below w.heap.size w w' := by
  have hb0 : Below w.heap.size w (w.alloc (.cells (wdC k o s m1 c1 m2 c2 (.slice A L.length c)) 26)) := by (repeat' (first | (with_reducible exact Below.refl _ _) | (with_reducible assumption) | (with_reducible refine Below.trans ?_ (Below.mono (by with_reducible assumption) ?_)) | (with_reducible refine Below.alloc ?_ ?_ _) | (with_reducible refine Below.setCell ?_ ?_ _) | (with_reducible refine below_drewN ?_ _) | (with_reducible refine Below.drew ?_) | go_size))
  have HH := Lib.hid (law_heavy17 k o s m1 c1 m2 c2 A c L _ (hrow.below hb0) hs hl)
  have HB0 := Lib.hid hb0
  have X0 := Lib.hid (Wd8.new w 26 k o s m1 c1 m2 c2 (.slice A L.length c))
  have HE := Lib.hid (fun (W : World) (q : Below w.heap.size w W) (h4 : L.length ≤ 400) => wd_enc k o s m1 c1 m2 c2 A c L W (ht.below q) (hrow.below q) (fun m hm => (hat m hm).below q) hkb (by omega) hok)
  have HBD := Lib.hid (encW_bd hok)
  have hbk : isBy (encW (wdOf k o s m1 c1 m2 c2 L)) := encW_by (fun r hr => by
    obtain ⟨m, hm, rfl⟩ := List.mem_map.1 hr
    exact hkb m hm)
  have HFY := Lib.hid (frE_by hbk)
  have HSN := Lib.hid (fun i x y (h : (frE (encW (wdOf k o s m1 c1 m2 c2 L)))[i]? = some y) h2 h3 => frE_set_no hbk (i := i) (x := x) (y := y) h h2 h3)
  have HT := Lib.hid (fun (W : World) (q : Below w.heap.size w W) => ht.below q)
  have q1 : ((by_ : Int) == 0) = false := by simp; omega
  obtain ⟨d, hd, had⟩ := and30 at_
  have HBY := Lib.hid (And.intro hby hb1)
  clear hrow hs hl hb0 hkb ht hok hby hbk hat hb1
  generalize hE : encW (wdOf k o s m1 c1 m2 c2 L) = E at *
  have HEQ := Lib.hid hE
  clear hE
  go_enter Tryd.func5, Tryd.ntmps5
  go_wp2_with fail
  refine HH.out.mono ?_; rintro e w1 ⟨⟨b, rfl, h4⟩, k1⟩
  have HB1 := Lib.hid (HB0.out.trans (k1.mono HB0.out.size))
  have HX1 := Lib.hid (X0.out.below k1)
  have H4 := Lib.hid h4
  clear k1 HH h4
  cases b
  rotate_left
  · go_wp2
    go_ret
    exact ⟨rfl, HB1.out⟩
  obtain ⟨x0, x1, x2, x3, x4, x5, x6, x7, xlt⟩ := HX1.out
  go_wp2_with fail
  refine (HE.out w1 HB1.out (H4.out (by first | rfl | trivial))).mono ?_; rintro e w2 ⟨⟨g, cap, rfl, hr⟩, k2⟩
  obtain ⟨n, hn⟩ : ∃ n, 12 + E.length = n := ⟨_, rfl⟩
  have hr' : Row8 w1.heap.size w2 g cap (12 + (encW (wdOf k o s m1 c1 m2 c2 L)).length) (frE (encW (wdOf k o s m1 c1 m2 c2 L))) := hr
  rw [HEQ.out, hn] at hr' ⊢
  have hbd := HBD.out
  have hnp : 0 < n := by omega
  have hnm : n ≤ 100012 := by omega
  have hnz : ((n : Int) == 0) = false := by simp; omega
  have hnz1 : (n : Int) ≠ 0 := by omega
  have hnz2 : (n == 0) = false := by simp; omega
  have hnz3 : ¬ n = 0 := by omega
  obtain ⟨i, hi⟩ : ∃ i, d % n = i := ⟨_, rfl⟩
  have hin : i < n := by rw [← hi]; exact Nat.mod_lt _ hnp
  have hrem : Int.tmod (d : Int) (n : Int) = (i : Int) := by have q9 := Int.ofNat_tmod d n; rw [hi] at q9; exact q9.symm
  have hii : (i : Int) < (n : Int) := by omega
  have hi1 : ((i : Int).toNat) = i := by simp
  obtain ⟨y, hy⟩ : ∃ y, (frE E)[i]? = some y := ⟨_, List.getElem?_eq_getElem (by rw [hr'.len]; exact hin)⟩
  have hyb := HFY.out y (List.mem_of_getElem? hy)
  obtain ⟨yn, rfl⟩ : ∃ yn : Nat, y = (yn : Int) := ⟨y.toNat, by omega⟩
  obtain ⟨hx8, hl8⟩ := xor8 yn by_ (by omega) HBY.out.2
  have hxn : yn ^^^ by_ ≠ yn := xor_ne HBY.out.1
  obtain ⟨x, hx⟩ : ∃ x, yn ^^^ by_ = x := ⟨_, rfl⟩
  rw [hx] at hx8 hl8 hxn
  obtain ⟨cy, cf⟩ := hr'.cell hy
  have HR3 := Lib.hid (hr'.put i (x : Int))
  have hne := HSN.out i (x : Int) (yn : Int) hy ⟨by omega, by omega⟩ (by omega)
  have HB2 := Lib.hid (HB1.out.trans (k2.mono HB1.out.size))
  have HB3 : Hid (Below w.heap.size w (w2.setCell ⟨g, i, none⟩ (.int .u8 (x : Int)))) := Lib.hid (HB2.out.setCell (by have h1 := hr'.ge; have h2 := HB1.out.size; first | omega | (simp; omega)) _)
  have hcl := hr'.cap_le
  have hcl2 : n ≤ cap ∧ cap ≤ maxLen := hcl
  have HY3 : isBy ((frE E).set i (x : Int)) := isBy_set' HFY.out ⟨by omega, by omega⟩
  have hlen3 : ((frE E).set i (x : Int)).length = n := HR3.out.len
  have HD := Lib.hid (wd_dec_no (some ⟨g, 0, none⟩) ((frE E).set i (x : Int)) cap (w2.setCell ⟨g, i, none⟩ (.int .u8 (x : Int))) (HT.out _ HB3.out) HR3.out.by_ HY3 (by rw [hlen3]; omega) (by rw [hlen3]; exact hcl2.1) hcl2.2 hne)
  rw [hlen3] at HD
  obtain ⟨f, hf⟩ : ∃ f, frO ((frE E).set i (x : Int)) = f := ⟨_, rfl⟩
  rw [hf] at HD hne
  have q4 : (f != 0) = true := by simpa using hne
  have q5 : (f == 0) = false := by simpa using hne
  have HW := Lib.hid (fun (W : World) => law_words 0 0 0 0 0 0 0 0 0 0 0 0 0 0 none none 0 0 [] [] W (rowAt_nil W) (rowAt_nil W) (fun m hm => by cases hm) (fun m hm => by cases hm) (fun m hm => by cases hm) (fun m hm => by cases hm) (by simp))
  clear hr hr' k2 hn hbd hi hy hyb hx hne hxn HE HSN HFY hcl hcl2 HY3 hlen3 hf hd HR3 HBY HBD x0 x1 x2 x3 x4 x5 x6 x7 xlt HX1 X0
  go_wp2_with fail
  refine HD.out.mono ?_; rintro e w4 ⟨hno, k4⟩
  have he : e = _ := hno
  subst he
  have HB4 := Lib.hid (HB3.out.trans (k4.mono HB3.out.size))
  have HB5 := Lib.hid (HB4.out.alloc HB4.out.size (.cells (wdC 0 0 0 0 0 0 0 (.slice none 0 0)) 26))
  clear k4 HD cy cf hno
  go_wp2_with fail
  refine (HW.out _).mono ?_; rintro e w5 ⟨⟨b, rfl, hb⟩, k5⟩
  have hbt : b = true := hb.2 trivial
  subst hbt
  have HB6 := Lib.hid (HB5.out.trans (k5.mono HB5.out.size))
  clear k5 hb HW
  go_wp2_with fail
  refine (known17 _ (HT.out _ HB6.out)).mono ?_; rintro e w6 ⟨rfl, k6⟩
  have HB7 := Lib.hid (HB6.out.trans (k6.mono HB6.out.size))
  clear k6
  go_wp2
  go_ret
  exact ⟨rfl, HB7.out⟩
end Go.Proofs.YtlgnjjjbajfjaaaDoor
namespace Go.Proofs.YtlgnjjjbajfjaaaDoor
open Go.ChangeShapes Go.WideShapes Go.ChangeAt Go.RowKit Go.Joins

theorem wf_u8s {x : Int} (h : (Lit.int .u8 x).wf = true) : 0 ≤ x ∧ x ≤ 255 := by
  simp [Lit.wf, IntKind.min, IntKind.max, IntKind.signed, IntKind.bits] at h
  omega
set_option maxRecDepth 100000 in
theorem wireSees_contract (H : Type) (enc : TypeId × Value → H) (W : World) (base : Nat) (args : Array Value) (ds gs : List (DataW H)) (before : List MemPlace)
    (hval0 : ∀ (j : Nat) t v, Tryd.f5.params[j]? = some t → args[j]? = some v → Value.okWide Tryd.prog W .any base t v)
    (hW : DataW.Whole enc Tryd.prog Tryd.f5.params.toList Rows.wireSeesSpec.vars false W args.toList ds gs before)
    (hsz0 : (DataW.weightsEach Tryd.prog (Tryd.f5.params.toList ++ (OpenSpec.ofChange Rows.wireSeesSpec).bare.plain.varTypes Tryd.prog) (ds ++ gs)).all (· ≤ reachBytes) = true) (hL : laidMetH Tryd.prog Rows.wireSeesRow.laid W) (hS : W.ShapedOpen Tryd.prog) :
    Calls Tryd.prog 5 args W fun e W' => ∃ v, e = .returned v ∧ Rows.wireSeesSpec.post enc Tryd.prog Tryd.f5 false true false false W args v W' := by
  have hval : ∀ (j : Nat) t v, Tryd.f5.params[j]? = some t → args[j]? = some v → Value.okWide Tryd.prog W .any base t v := hval0
  have hsz := hsz0
  have hW' := hW
  obtain ⟨p, q, hA0, hV, rfl, hfz, hnd⟩ := hW
  have hA : DataW.TrodAll enc Tryd.prog W 0 (fun _ => true) true Tryd.f5.params.toList args.toList ds p := hA0
  rw [Tryd.params5] at hA hval hsz
  have hsame : (Rows.wireSeesSpec.fn H (ds ++ gs)).results = [.lit (.bool true)] ∧ (Rows.wireSeesSpec.fn H (ds ++ gs)).args = ds ∧ (Rows.wireSeesSpec.fn H (ds ++ gs)).vars = [] → ∀ W', Below W.heap.size W W' → Rows.wireSeesSpec.post enc Tryd.prog Tryd.f5 false true false false W args (.bool true) W' :=
    fun h W' hb => law_post (tb := 4) hW' law_laid (by kernel_rfl) rfl Tryd.underlying4 h.1 h.2.1 rfl h.2.2 hb
  obtain ⟨v0, vs0, d0, ds0, p0, q0, hargs, rfl, rfl, h0, r0⟩ := trodAll_cons hA
  obtain ⟨v1, vs1, d1, ds1, p1, q1, rfl, rfl, rfl, h1, r1⟩ := trodAll_cons r0
  obtain ⟨v2, vs2, d2, ds2, p2, q2, rfl, rfl, rfl, h2, r2⟩ := trodAll_cons r1
  obtain ⟨rfl, rfl, rfl⟩ := trodAll_nil r2
  obtain rfl : args = #[v0, v1, v2] := by cases args; simp_all
  obtain ⟨rfl, rfl⟩ := trodVars_none hV
  have hpost := hsame ⟨rfl, rfl, rfl⟩
  clear hsame hA0 hval0 hsz0
  obtain ⟨k, o, s, m1, c1, m2, c2, L, A, c, rfl, hmx, hrow, hin, hz⟩ := open_word (hval 0 26 v0 rfl rfl) h0
  obtain ⟨at_, rfl, rfl, rfl, _⟩ := open_int Tryd.underlying3 (hval 1 3 v1 rfl rfl) h1
  obtain ⟨b, rfl, rfl, rfl, wb⟩ := open_int Tryd.underlying5 (hval 2 5 v2 rfl rfl) h2
  have hk := hz reachBytes (sized_each (j := 0) hsz rfl rfl)
  unfold reachBytes at hk
  have ht : Nib W := nib_of_laid hL
  have hs : ∀ m ∈ L, m.r.val.length ≤ 281474976710656 ∧ m.r.key.length ≤ 281474976710656 := fun m hm => ⟨by have := (hk m hm).1; omega, by have := (hk m hm).2; omega⟩
  have hkb : ∀ m ∈ L, isBy m.r.key ∧ isBy m.r.val := fun m hm => ⟨(hin m hm).key, (hin m hm).val⟩
  obtain ⟨b0, b1⟩ := wf_u8s wb
  obtain ⟨n, rfl⟩ := Int.eq_ofNat_of_zero_le b0
  by_cases hn : n = 0
  · subst hn
    exact (sees_zero k o s m1 c1 m2 c2 at_ A c L W hrow hs hmx).mono fun e W' ⟨he, hb⟩ => ⟨_, he, hpost W' hb⟩
  · cases hA : okW (wdOf k o s m1 c1 m2 c2 L)
    · exact (sees_no k o s m1 c1 m2 c2 at_ n A c L W ht hrow hkb hs hmx hn hA).mono fun e W' ⟨he, hb⟩ => ⟨_, he, hpost W' hb⟩
    · exact (sees_yes k o s m1 c1 m2 c2 at_ n A c L W ht hrow (fun m hm => (hin m hm).at_) hkb hs hmx hn (by omega) hA).mono fun e W' ⟨he, hb⟩ => ⟨_, he, hpost W' hb⟩
theorem wireSees_reads (os : Os) {H : Type} (enc : TypeId × Value → H) : (DataW.whole enc Tryd.prog ((layW1 os).forCall (fun _ _ => 0) ⟨#[], #[wdV 0 0 0 0 0 0 0 (.slice none 0 0), .int .i64 0, .int .u8 0], []⟩).memory Tryd.f5.params.toList Rows.wireSeesSpec.vars false #[wdV 0 0 0 0 0 0 0 (.slice none 0 0), .int .i64 0, .int .u8 0].toList 8).isSome = true := by kernel_rfl
theorem wireSees_met (os : Os) : laidMet Tryd.prog Rows.wireSeesRow.laid ((layW1 os).forCall (fun _ _ => 0) ⟨#[], #[wdV 0 0 0 0 0 0 0 (.slice none 0 0), .int .i64 0, .int .u8 0], []⟩).memory := laidMet_of_run' 8 (by kernel_rfl) (by kernel_rfl)
set_option maxRecDepth 100000 in
theorem wireSees_lifted (os : Os) (started : os.Started) (H : Type) (enc : TypeId × Value → H) (F : Stop.Interp) :
    ReturnsInHanded {} Tryd.checked os 5 .any ((OpenSpec.ofChange Rows.wireSeesSpec).preRow enc Tryd.prog Tryd.f5 Rows.wireSeesRow.domain false Rows.wireSeesRow.laid) (((OpenSpec.ofChange Rows.wireSeesSpec).at F).post enc Tryd.prog Tryd.f5 false true false false) := by
  obtain ⟨x, hx⟩ := Option.isSome_iff_exists.1 (wireSees_reads os enc)
  refine returnsInHanded_of_row (C := Tryd.checked) (s := OpenSpec.ofChange Rows.wireSeesSpec) law_own started (by kernel_rfl) Tryd.func5
    (witness_row_at (enc := enc) (C := Tryd.checked) false (layW1 os) #[wdV 0 0 0 0 0 0 0 (.slice none 0 0), .int .i64 0, .int .u8 0] rfl (by kernel_rfl) (by kernel_rfl) (by kernel_rfl)
      (OpenSpec.preRow_of_cond 8 hx (by rfl) (fun k hk => by cases hk) (by kernel_rfl) (wireSees_met os))) ?_
  intro W base args ds gs before hval hW _ _ hsz hL hS _
  exact wireSees_contract H enc W base args ds gs before hval hW hsz hL hS
theorem wireSees_said : Rows.WireSeesSaid :=
  OpenClaim.holds_of_cond 5 Tryd.f5 rfl rfl rfl rfl rfl rfl rfl ⟨rfl, rfl, rfl, rfl, rfl⟩ rfl rfl rfl rfl rfl (by kernel_rfl) Tryd.func5 (by kernel_rfl)
    (of_decide_eq_true (by kernel_rfl)) (by unfold Func.isWrapper; first | (rw [if_pos (by decide +kernel)]; kernel_rfl) | (rw [if_neg (by decide +kernel)]; exact ⟨rfl, rfl⟩))
    (fun os started H enc _ F => by rw [OpenClaim.pre_eq_preRow]; exact wireSees_lifted os started H enc F)
theorem wireSees_holds : Rows.WireSeesCardSaid :=
  Claim7.holds_tied_plain_at .later [] _ _ _ _ wireSees_said (fun _ h => by cases h) (by kernel_rfl) (fun _ h => by cases h) wireSees_row_tie rfl ⟨rfl, rfl⟩ (by kernel_rfl) rfl (plain_of (f0 := 5) (fn0 := Tryd.f5) (by kernel_rfl) Tryd.func5 (by kernel_rfl) (by kernel_rfl)) (by kernel_rfl)
end Go.Proofs.YtlgnjjjbajfjaaaDoor
