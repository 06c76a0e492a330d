/- rec.Decode. -/
import Derived.Test.YtpflbhcgkndpcaaGreatDoorG16l
import Derived.Test.YtpflbhcgkndpcaaGreatDoorRec9
import Derived.Test.YtpflbhcgkndpcaaGreatDoorStrB
set_option linter.unusedSimpArgs false
set_option linter.unusedVariables false
namespace Go.Proofs.YtpflbhcgkndpcaaGreatDoor
open Go.RowKit

/-- A block of known cells that may be written. -/
structure XB (W : World) (B : Nat) (vs : List Value) : Prop where
  c : ∀ (j : Nat) u, vs[j]? = some u → W.cell? ⟨B, j, none⟩ = some u
  fz : ∀ o, W.frozen? ⟨B, o, none⟩ = false
  lt : B < W.heap.size
theorem XB.but {S : Nat → Prop} {W W' : World} {B : Nat} {vs : List Value} (h : XB W B vs) (k : But S W W') (hs : ¬ S B) : XB W' B vs :=
  ⟨fun j u hu => (k.cell B j h.lt hs).trans (h.c j u hu), fun o => (k.frozen B o h.lt hs).trans (h.fz o), Nat.lt_of_lt_of_le h.lt k.size⟩
theorem XB.below {W W' : World} {B : Nat} {vs : List Value} (h : XB W B vs) (k : Below W.heap.size W W') : XB W' B vs := h.but (S := fun _ => False) (But.of_below k) (fun hf => hf)
theorem XB.only {W W' : World} {B b : Nat} {vs : List Value} (h : XB W B vs) (k : Only b W W') (hn : B ≠ b) : XB W' B vs := h.but (S := fun i => i = b) (But.of_only k rfl) hn
theorem XB.new (W : World) (cs : Array Value) (t : TypeId) : XB (W.alloc (.cells cs t)) W.heap.size cs.toList :=
  ⟨fun j u hu => by rw [World.cell?_alloc_new]; simpa using hu, fun o => by simp, by simp⟩
theorem XB.set {W : World} {B : Nat} {vs : List Value} (h : XB W B vs) (i : Nat) (hi : i < vs.length) (u : Value) : XB (W.setCell ⟨B, i, none⟩ u) B (vs.set i u) := by
  refine ⟨fun j v hv => ?_, fun o => by simpa using h.fz o, by simpa [World.setCell] using h.lt⟩
  by_cases e : i = j
  · subst e
    rw [List.getElem?_set_self (by omega)] at hv
    injection hv with hv
    subst hv
    exact World.cell?_setCell_same _ _ _ (h.c i vs[i] (List.getElem?_eq_getElem hi))
  · rw [List.getElem?_set_ne e] at hv
    rw [World.cell?_setCell_other _ _ _ _ (fun q => e (by injection q))]
    exact h.c j v hv
theorem XB.other {W : World} {B : Nat} {vs : List Value} (h : XB W B vs) {p : Addr} (hp : p.block ≠ B) (u : Value) : XB (W.setCell p u) B vs :=
  ⟨fun j v hv => (World.cell?_setCell_other _ _ _ _ (fun e => hp (by rw [e]))).trans (h.c j v hv), fun o => by simpa using h.fz o, by simpa [World.setCell] using h.lt⟩
/-- The numbers that Nums laid stand in the block. -/
theorem NumsRel.xb {Q : Nat → Prop} {b : Nat} {ps : List (Nat × Nat)} {s : RSt} {w wr : World} {k B : Nat} {vs vs' : List Value} (h : NumsRel Q b ps s w wr k) (hx : XB w B vs) (hb : B ≠ b) (hl : vs.length = vs'.length)
    (hg : ∀ (j : Nat) u, vs'[j]? = some u → (∃ (i : Nat) (q : i < ps.length), i < k ∧ ps[i] = (B, j) ∧ u = .int .i64 ((numsR k s).1.getD i 0 : Nat)) ∨ (vs[j]? = some u ∧ ∀ (i : Nat) (q : i < ps.length), i < k → ps[i] ≠ (B, j))) : XB wr B vs' := by
  refine ⟨fun j u hu => ?_, fun o => (h.frz B o hx.lt hb).trans (hx.fz o), Nat.lt_of_lt_of_le hx.lt h.but.size⟩
  rcases hg j u hu with ⟨i, q, hi, he, rfl⟩ | ⟨h1, h2⟩
  · have := h.got i q hi
    rw [he] at this
    exact this
  · rw [h.old B j hx.lt hb (fun i q hi => h2 i q hi)]
    exact hx.c j u h1
def zeroR : List Value := [.int .i64 0, .int .i64 0, .string ⟨#[]⟩, .int .i64 0, .int .i64 0, .int .i64 0, .slice none 0 0, .bool false, .int .i64 0]
theorem XB.place {Q : Nat → Prop} {W : World} {B b g i : Nat} {vs : List Value} {x : Int} (h : XB W B vs) (hi : vs[i]? = some (.int .i64 x)) (hg : B ≠ g) (hb : B ≠ b) (hq : ¬ Q B) : Place Q b g W (B, i) := ⟨hg, hb, hq, h.lt, ⟨x, h.c i _ hi⟩, h.fz i⟩
/-- What Decode tells. -/
def DecRes (l : List Int) (w w' : World) (e : Ending) : Prop :=
  (decR l = none ∧ e = .returned (.tuple #[recV 0 0 ⟨#[]⟩ 0 0 0 none 0 0 false 0, .int .i64 3])) ∨
  (∃ r A c, decR l = some r ∧ e = .returned (.tuple #[recV r.o r.s (strB r.key) r.ml r.ct r.vo A r.val.length c r.gone r.tt, .int .i64 0]) ∧ ByL w' A r.val ∧ (A = none → r.val.length = 0) ∧ (∀ ad, A = some ad → w.heap.size ≤ ad.block))
theorem pR_walk (l : List Int) : pR (some l) = ⟨⟨((numsR 2 (some l)).1.getD 0 0 : Nat), ((numsR 2 (some l)).1.getD 1 0 : Nat), (rBytes (numsR 2 (some l)).2).1, ((numsR 4 (rBytes (numsR 2 (some l)).2).2).1.getD 0 0 : Nat), ((numsR 4 (rBytes (numsR 2 (some l)).2).2).1.getD 1 0 : Nat), ((numsR 2 (some l)).1.getD 0 0 : Nat),
    (rBytes (numsR 4 (rBytes (numsR 2 (some l)).2).2).2).1, (numsR 4 (rBytes (numsR 2 (some l)).2).2).1.getD 2 0 == 1, ((numsR 4 (rBytes (numsR 2 (some l)).2).2).1.getD 3 0 : Nat)⟩, (numsR 4 (rBytes (numsR 2 (some l)).2).2).1.getD 2 0, (rBytes (numsR 4 (rBytes (numsR 2 (some l)).2).2).2).2⟩ := rfl
set_option maxRecDepth 100000 in
set_option maxHeartbeats 8000000 in
theorem rec_dec (A : Option Addr) (l : List Int) (c : Nat) (w : World) (hby : ByL w A l) (hb : isBy l) (hn : A = none → l.length = 0) (hl : l.length ≤ 100000)
    (hIs : ∀ (o s : Int) (key : ByteArray) (ml ct vo : Int) (A : Option Addr) (n c : Nat) (gone : Bool) (tt : Int) (w : World), Calls Tryz.prog 54 #[recV o s key ml ct vo A n c gone tt] w fun e w' => e = .returned (.bool (okN o s key.size ml ct vo n gone tt)) ∧ Below w.heap.size w w') :
    Calls Tryz.prog 222 #[.slice A l.length c] w fun e w' => DecRes l w w' e ∧ Below w.heap.size w w' := by
  have HB0 : Below w.heap.size w ((w.alloc (recO 0 0 ⟨#[]⟩ 0 0 0 none 0 0 false 0)).alloc (recO 0 0 ⟨#[]⟩ 0 0 0 none 0 0 false 0)) := by (repeat' (first | (with_reducible exact Below.refl _ _) | (with_reducible assumption) | (with_reducible refine Below.trans ?_ (Below.mono (by with_reducible assumption) ?_)) | (with_reducible refine Below.alloc ?_ ?_ _) | (with_reducible refine Below.setCell ?_ ?_ _) | (with_reducible refine below_drewN ?_ _) | (with_reducible refine Below.drew ?_) | go_size))
  have HNR := Lib.hid (new_reader A l c _ (hby.below HB0) hb hn (by omega))
  have HRB : Hid (XB ((w.alloc (recO 0 0 ⟨#[]⟩ 0 0 0 none 0 0 false 0)).alloc (recO 0 0 ⟨#[]⟩ 0 0 0 none 0 0 false 0)) w.heap.size zeroR) := Lib.hid ((XB.new w _ _).below ((Below.refl _ _).alloc (Nat.le_refl _) _))
  have HX : Hid (XB ((w.alloc (recO 0 0 ⟨#[]⟩ 0 0 0 none 0 0 false 0)).alloc (recO 0 0 ⟨#[]⟩ 0 0 0 none 0 0 false 0)) (w.heap.size + 1) zeroR) := Lib.hid (by
    have := XB.new (w.alloc (recO 0 0 ⟨#[]⟩ 0 0 0 none 0 0 false 0)) #[.int .i64 0, .int .i64 0, .string ⟨#[]⟩, .int .i64 0, .int .i64 0, .int .i64 0, .slice none 0 0, .bool false, .int .i64 0] 46
    rwa [World.size_alloc] at this)
  have HB := Lib.hid HB0
  have HLL : Hid (l.length ≤ 100000) := hl
  have HPR := Lib.hid (pR_walk l)
  have HBY := Lib.hid hb
  have HIS := Lib.hid hIs
  have hz2 : w.heap.size + 2 ≤ ((w.alloc (recO 0 0 ⟨#[]⟩ 0 0 0 none 0 0 false 0)).alloc (recO 0 0 ⟨#[]⟩ 0 0 0 none 0 0 false 0)).heap.size := by simp
  clear hby hb hn hl HB0 hIs
  go_enter Tryz.func222, Tryz.ntmps222
  go_wp2_with fail
  generalize (w.alloc (recO 0 0 ⟨#[]⟩ 0 0 0 none 0 0 false 0)).alloc (recO 0 0 ⟨#[]⟩ 0 0 0 none 0 0 false 0) = Z at *
  refine HNR.out.mono ?_; rintro e W1 ⟨b, g, rfl, hR1, hg, hbg, k1, hgl⟩
  have l1 : w.heap.size + 2 ≤ W1.heap.size := Nat.le_trans hz2 k1.size
  have hgq : w.heap.size + 2 ≤ g := Nat.le_trans hz2 hg
  have hbq : w.heap.size + 2 ≤ b := Nat.le_trans hz2 hbg
  have KA : Below W1.heap.size W1 (W1.alloc (.cells #[.pointer (some ⟨w.heap.size + 1, 0, none⟩), .pointer (some ⟨w.heap.size + 1, 1, none⟩)] 309)) := (Below.refl _ _).alloc (Nat.le_refl _) _
  have X1 := (HX.out.below k1).below KA
  have RB1 := (HRB.out.below k1).below KA
  have HN := Lib.hid (rd_nums b W1.heap.size 2 [(w.heap.size + 1, 0), (w.heap.size + 1, 1)] (some l) _ (hR1.below KA) (by show l.length ≤ _; have := HLL.out; omega) (by simp) (by have := hR1.lt; omega) (by
      intro j q
      rcases (show j = 0 ∨ j = 1 from by simp at q; omega) with rfl | rfl <;> simp [go_sem]) (by
      intro p hp
      simp only [List.mem_cons, List.not_mem_nil, or_false] at hp
      rcases hp with rfl | rfl
      · exact X1.place (x := 0) rfl (by omega) (by omega) (by omega)
      · exact X1.place (x := 0) rfl (by omega) (by omega) (by omega)) (by
      intro i j hi hj hij
      rcases (show i = 0 ∧ j = 1 from by simp at hi hj; omega) with ⟨rfl, rfl⟩
      simp) (by simp))
  have HX1 := Lib.hid X1
  have HRB1 := Lib.hid RB1
  have HB1 : Hid (Below w.heap.size w (W1.alloc (.cells #[.pointer (some ⟨w.heap.size + 1, 0, none⟩), .pointer (some ⟨w.heap.size + 1, 1, none⟩)] 309))) := Lib.hid ((HB.out.trans (k1.mono (by omega))).trans (KA.mono (by omega)))
  clear hR1 hg hbg k1 KA X1 RB1 HX HRB HB HNR hz2
  go_wp2_with fail
  refine HN.out.mono ?_; rintro e W2 ⟨rfl, hN2⟩
  have X2 : XB W2 (w.heap.size + 1) [.int .i64 ((numsR 2 (some l)).1.getD 0 0 : Nat), .int .i64 ((numsR 2 (some l)).1.getD 1 0 : Nat), .string ⟨#[]⟩, .int .i64 0, .int .i64 0, .int .i64 0, .slice none 0 0, .bool false, .int .i64 0] :=
    hN2.xb HX1.out (by omega) rfl (by
      intro j u hu
      rcases j with _ | _ | j
      · left
        exact ⟨0, by simp, by simp, rfl, by simpa using hu.symm⟩
      · left
        exact ⟨1, by simp, by simp, rfl, by simpa using hu.symm⟩
      · right
        refine ⟨by simpa [zeroR] using hu, fun i q hi => ?_⟩
        rcases (show i = 0 ∨ i = 1 from by simp at q; omega) with rfl | rfl <;> simp)
  have RB2 : XB W2 w.heap.size zeroR := HRB1.out.but hN2.but (by
      rintro (e | ⟨p, hp, e⟩)
      · omega
      · simp only [List.mem_cons, List.not_mem_nil, or_false] at hp
        rcases hp with rfl | rfl <;> (have q : w.heap.size + 1 = w.heap.size := e; omega))
  have B2 : Below w.heap.size w W2 := HB1.out.trans (hN2.but.below (by
      rintro i (rfl | ⟨p, hp, e⟩)
      · omega
      · simp only [List.mem_cons, List.not_mem_nil, or_false] at hp
        rcases hp with rfl | rfl <;> (have q : w.heap.size + 1 = i := e; omega)) HB1.out.size)
  have s2 : W1.heap.size + 1 ≤ W2.heap.size := by have := hN2.but.size; simpa using this
  have hR2 := hN2.rd
  have hl2 : rLeft (numsR 2 (some l)).2 ≤ 100000 := Nat.le_trans (numsR_left 2 (some l)) HLL.out
  clear hN2 HN HX1 HRB1 HB1
  generalize ((numsR 2 (some l)).1.getD 0 0 : Nat) = o at *
  generalize ((numsR 2 (some l)).1.getD 1 0 : Nat) = s at *
  change Rd _ W2 b (numsR 2 (some l)).2 at hR2
  generalize (numsR 2 (some l)).2 = st2 at *
  have HBT := Lib.hid (rd_bytes b st2 W2 hR2 (by omega))
  have HBY2 := Lib.hid (rBytes_by hR2.by_).2
  have HX2 := Lib.hid X2
  have HRB2 := Lib.hid RB2
  have HB2 := Lib.hid B2
  have bl2 : b < W2.heap.size := hR2.lt
  have hl3 : rLeft (rBytes st2).2 ≤ 100000 := Nat.le_trans (rBytes_left st2).1 hl2
  clear X2 RB2 B2 hR2
  go_wp2_with fail
  refine HBT.out.mono ?_; rintro e W3 ⟨ht, hp⟩
  obtain ⟨A3, c3, rfl, y3, n3, _, _, f3⟩ := ht
  have hcv := run_str W3 A3 (rBytes st2).1 c3 y3 HBY2.out (fun e => (n3 e).1)
  have hky : Hid (kL (strB (rBytes st2).1) = (rBytes st2).1) := Lib.hid (kL_str HBY2.out)
  have X3 := HX2.out.only hp.only (by omega)
  have HRB3 := Lib.hid (HRB2.out.only hp.only (by omega))
  have HB3 := Lib.hid (HB2.out.trans (hp.only.below (by omega) HB2.out.size))
  have hR3 := hp.rd
  have s3 : W2.heap.size ≤ W3.heap.size := hp.only.size
  change Rd _ W3 b (rBytes st2).2 at hR3
  clear hp y3 n3 f3 HBT HX2 HRB2 HB2
  generalize (rBytes st2).2 = st3 at *
  have HSTR : Hid (strB (rBytes st2).1 = strB (rBytes st2).1) := Lib.hid rfl
  have x2 := X3.c 2 _ rfl
  have xf := X3.fz 2
  have xl := X3.lt
  have HX3 := Lib.hid X3
  have HR3 := Lib.hid hR3
  clear X3 hR3
  have HW5 : Hid (∀ (K : ByteArray) , ∃ U, U = ((W3.setCell ⟨w.heap.size + 1, 2, none⟩ (.string K)).alloc (.cells #[.int .i64 0] 3))) := Lib.hid (fun K => ⟨_, rfl⟩)
  clear HW5
  generalize strB (rBytes st2).1 = K at *
  go_wp2_with fail
  have XS := (HX3.out.set 2 (by simp) (.string K)).below ((Below.refl _ _).alloc (Nat.le_refl _) (.cells #[.int .i64 0] 3))
  have RBS := (HRB3.out.other (p := ⟨w.heap.size + 1, 2, none⟩) (by simp) (.string K)).below ((Below.refl _ _).alloc (Nat.le_refl _) (.cells #[.int .i64 0] 3))
  have RS := (HR3.out.but (S := fun i => i = w.heap.size + 1) (But.of_only ((Only.refl (w.heap.size + 1) W3).setB (o := 2) (.string K)) rfl) (by omega) (fun i e => by subst e; omega)).below ((Below.refl _ _).alloc (Nat.le_refl _) (.cells #[.int .i64 0] 3))
  have GS := XB.new (W3.setCell ⟨w.heap.size + 1, 2, none⟩ (.string K)) #[.int .i64 0] 3
  have zS : (W3.setCell ⟨w.heap.size + 1, 2, none⟩ (.string K)).heap.size = W3.heap.size := by simp [World.setCell]
  rw [zS] at GS
  have BS : Below w.heap.size w ((W3.setCell ⟨w.heap.size + 1, 2, none⟩ (.string K)).alloc (.cells #[.int .i64 0] 3)) := (HB3.out.setCell (p := ⟨w.heap.size + 1, 2, none⟩) (by show w.heap.size ≤ w.heap.size + 1; omega) _).alloc (by have := HB3.out.size; rw [zS]; exact this) _
  have zU : ((W3.setCell ⟨w.heap.size + 1, 2, none⟩ (.string K)).alloc (.cells #[.int .i64 0] 3)).heap.size = W3.heap.size + 1 := by rw [World.size_alloc, zS]
  clear HX3 HRB3 HR3 HB3 zS x2 xf hcv
  generalize (W3.setCell ⟨w.heap.size + 1, 2, none⟩ (.string K)).alloc (.cells #[.int .i64 0] 3) = U at *
  have KA : Below U.heap.size U (U.alloc (.cells #[.pointer (some ⟨w.heap.size + 1, 3, none⟩), .pointer (some ⟨w.heap.size + 1, 4, none⟩), .pointer (some ⟨W3.heap.size, 0, none⟩), .pointer (some ⟨w.heap.size + 1, 8, none⟩)] 309)) := (Below.refl _ _).alloc (Nat.le_refl _) _
  have X1 := XS.below KA
  have RB1 := RBS.below KA
  have G1 := GS.below KA
  have R1 := RS.below KA
  have hN := Lib.hid (rd_nums b (W3.heap.size + 1) 4 [(w.heap.size + 1, 3), (w.heap.size + 1, 4), (W3.heap.size, 0), (w.heap.size + 1, 8)] st3 _ R1 (by omega) (by rw [World.size_alloc, zU]; omega) (by omega) (by
      intro j q
      rw [← zU]
      rcases (show j = 0 ∨ j = 1 ∨ j = 2 ∨ j = 3 from by simp at q; omega) with rfl | rfl | rfl | rfl <;> simp [go_sem]) (by
      intro p hp
      simp only [List.mem_cons, List.not_mem_nil, or_false] at hp
      rcases hp with rfl | rfl | rfl | rfl
      · exact X1.place (x := 0) rfl (by omega) (by omega) (by omega)
      · exact X1.place (x := 0) rfl (by omega) (by omega) (by omega)
      · exact G1.place (x := 0) rfl (by omega) (by omega) (by omega)
      · exact X1.place (x := 0) rfl (by omega) (by omega) (by omega)) (by
      intro i j hi hj hij
      rcases (show (i = 0 ∧ j = 1) ∨ (i = 0 ∧ j = 2) ∨ (i = 0 ∧ j = 3) ∨ (i = 1 ∧ j = 2) ∨ (i = 1 ∧ j = 3) ∨ (i = 2 ∧ j = 3) from by simp at hi hj; omega) with ⟨rfl, rfl⟩ | ⟨rfl, rfl⟩ | ⟨rfl, rfl⟩ | ⟨rfl, rfl⟩ | ⟨rfl, rfl⟩ | ⟨rfl, rfl⟩ <;> simp <;> omega) (by simp))
  have HX1 := Lib.hid X1
  have HRB1 := Lib.hid RB1
  have HG1 := Lib.hid G1
  have HB1 : Hid (Below w.heap.size w (U.alloc (.cells #[.pointer (some ⟨w.heap.size + 1, 3, none⟩), .pointer (some ⟨w.heap.size + 1, 4, none⟩), .pointer (some ⟨W3.heap.size, 0, none⟩), .pointer (some ⟨w.heap.size + 1, 8, none⟩)] 309))) := Lib.hid (BS.trans (KA.mono BS.size))
  clear XS RBS RS GS BS KA X1 RB1 G1 R1
  refine hN.out.mono ?_; rintro e W4 ⟨rfl, hN4⟩
  have X4 : XB W4 (w.heap.size + 1) [.int .i64 o, .int .i64 s, .string K, .int .i64 ((numsR 4 st3).1.getD 0 0 : Nat), .int .i64 ((numsR 4 st3).1.getD 1 0 : Nat), .int .i64 0, .slice none 0 0, .bool false, .int .i64 ((numsR 4 st3).1.getD 3 0 : Nat)] :=
    hN4.xb HX1.out (by omega) rfl (by
      intro j u hu
      rcases j with _ | _ | _ | _ | _ | _ | _ | _ | _ | j
      · right; refine ⟨by simpa using hu, fun i q hi => ?_⟩
        rcases (show i = 0 ∨ i = 1 ∨ i = 2 ∨ i = 3 from by simp at q; omega) with rfl | rfl | rfl | rfl <;> simp <;> omega
      · right; refine ⟨by simpa using hu, fun i q hi => ?_⟩
        rcases (show i = 0 ∨ i = 1 ∨ i = 2 ∨ i = 3 from by simp at q; omega) with rfl | rfl | rfl | rfl <;> simp <;> omega
      · right; refine ⟨by simpa using hu, fun i q hi => ?_⟩
        rcases (show i = 0 ∨ i = 1 ∨ i = 2 ∨ i = 3 from by simp at q; omega) with rfl | rfl | rfl | rfl <;> simp <;> omega
      · left; exact ⟨0, by simp, by simp, rfl, by simpa using hu.symm⟩
      · left; exact ⟨1, by simp, by simp, rfl, by simpa using hu.symm⟩
      · right; refine ⟨by simpa using hu, fun i q hi => ?_⟩
        rcases (show i = 0 ∨ i = 1 ∨ i = 2 ∨ i = 3 from by simp at q; omega) with rfl | rfl | rfl | rfl <;> simp <;> omega
      · right; refine ⟨by simpa using hu, fun i q hi => ?_⟩
        rcases (show i = 0 ∨ i = 1 ∨ i = 2 ∨ i = 3 from by simp at q; omega) with rfl | rfl | rfl | rfl <;> simp <;> omega
      · right; refine ⟨by simpa using hu, fun i q hi => ?_⟩
        rcases (show i = 0 ∨ i = 1 ∨ i = 2 ∨ i = 3 from by simp at q; omega) with rfl | rfl | rfl | rfl <;> simp <;> omega
      · left; exact ⟨3, by simp, by simp, rfl, by simpa using hu.symm⟩
      · simp at hu)
  have G4 : XB W4 W3.heap.size [.int .i64 ((numsR 4 st3).1.getD 2 0 : Nat)] :=
    hN4.xb HG1.out (by omega) rfl (by
      intro j u hu
      rcases j with _ | j
      · left; exact ⟨2, by simp, by simp, rfl, by simpa using hu.symm⟩
      · simp at hu)
  have RB4 : XB W4 w.heap.size zeroR := HRB1.out.but hN4.but (by
      rintro (e | ⟨p, hp, e⟩)
      · omega
      · simp only [List.mem_cons, List.not_mem_nil, or_false] at hp
        rcases hp with rfl | rfl | rfl | rfl <;> simp only at e <;> omega)
  have B4 : Below w.heap.size w W4 := HB1.out.trans (hN4.but.below (by
      rintro i (rfl | ⟨p, hp, e⟩)
      · omega
      · simp only [List.mem_cons, List.not_mem_nil, or_false] at hp
        rcases hp with rfl | rfl | rfl | rfl <;> simp only at e <;> omega) HB1.out.size)
  have s4 : W3.heap.size + 1 ≤ W4.heap.size := by have := hN4.but.size; simp only [World.size_alloc, zU] at this; omega
  have hR4 := hN4.rd
  have hl4 : rLeft (numsR 4 st3).2 ≤ 100000 := Nat.le_trans (numsR_left 4 st3) hl3
  change Rd _ W4 b (numsR 4 st3).2 at hR4
  clear hN4 hN HX1 HRB1 HG1 HB1 zU
  generalize ((numsR 4 st3).1.getD 0 0 : Nat) = ml at *
  generalize ((numsR 4 st3).1.getD 1 0 : Nat) = ct at *
  generalize ((numsR 4 st3).1.getD 2 0 : Nat) = gn at *
  generalize ((numsR 4 st3).1.getD 3 0 : Nat) = tt at *
  generalize (numsR 4 st3).2 = st4 at *
  have HBT := Lib.hid (rd_bytes b st4 W4 hR4 (by omega))
  have HBV := Lib.hid (rBytes_by hR4.by_).2
  have HX4 := Lib.hid X4
  have HRB4 := Lib.hid RB4
  have HG4 := Lib.hid G4
  have HB4 := Lib.hid B4
  have bl4 : b < W4.heap.size := hR4.lt
  clear X4 RB4 G4 B4 hR4 xl
  go_wp2_with fail
  refine HBT.out.mono ?_; rintro e W5 ⟨ht, hp⟩
  obtain ⟨A5, c5, rfl, y5, n5, _, _, f5⟩ := ht
  have X5 := HX4.out.only hp.only (by omega)
  have G5 := HG4.out.only hp.only (by omega)
  have HRB5 := Lib.hid (HRB4.out.only hp.only (by omega))
  have HB5 := Lib.hid (HB4.out.trans (hp.only.below (by omega) HB4.out.size))
  have s5 : W4.heap.size ≤ W5.heap.size := hp.only.size
  have hR5 := hp.rd
  change Rd _ W5 b (rBytes st4).2 at hR5
  have HV5 := Lib.hid (And.intro y5 (And.intro n5 f5))
  clear hp y5 n5 f5 HBT HX4 HRB4 HG4 HB4
  generalize (rBytes st4).2 = st5 at *
  generalize (rBytes st4).1 = val at *
  have x0 := X5.c 0 _ rfl
  have x1 := X5.c 1 _ rfl
  have x2 := X5.c 2 _ rfl
  have x3 := X5.c 3 _ rfl
  have x4 := X5.c 4 _ rfl
  have x5 := X5.c 5 _ rfl
  have x6 := X5.c 6 _ rfl
  have x7 := X5.c 7 _ rfl
  have x8 := X5.c 8 _ rfl
  have xf5 := X5.fz 5
  have xf6 := X5.fz 6
  have xf7 := X5.fz 7
  have xl := X5.lt
  have g0 := G5.c 0 _ rfl
  have gl := G5.lt
  have gne : W3.heap.size ≠ w.heap.size + 1 := by omega
  have HX5 := Lib.hid X5
  have HG5 := Lib.hid G5
  have HR5 := Lib.hid hR5
  clear X5 G5 hR5
  go_wp2_with fail
  have HGN : Hid (∀ (j : Nat), True) := Lib.hid (fun _ => trivial)
  clear HGN
  have X6 := ((HX5.out.set 6 (by simp) (.slice A5 val.length c5)).set 5 (by simp) (.int .i64 o)).set 7 (by simp) (.bool ((gn : Int) == 1))
  have G6 := ((HG5.out.other (p := ⟨w.heap.size + 1, 6, none⟩) (fun e => gne e.symm) (.slice A5 val.length c5)).other (p := ⟨w.heap.size + 1, 5, none⟩) (fun e => gne e.symm) (.int .i64 o)).other (p := ⟨w.heap.size + 1, 7, none⟩) (fun e => gne e.symm) (.bool ((gn : Int) == 1))
  have RB6 := ((HRB5.out.other (p := ⟨w.heap.size + 1, 6, none⟩) (by simp) (.slice A5 val.length c5)).other (p := ⟨w.heap.size + 1, 5, none⟩) (by simp) (.int .i64 o)).other (p := ⟨w.heap.size + 1, 7, none⟩) (by simp) (.bool ((gn : Int) == 1))
  have hO : Only (w.heap.size + 1) W5 (((W5.setCell ⟨w.heap.size + 1, 6, none⟩ (.slice A5 val.length c5)).setCell ⟨w.heap.size + 1, 5, none⟩ (.int .i64 o)).setCell ⟨w.heap.size + 1, 7, none⟩ (.bool ((gn : Int) == 1))) := (((Only.refl _ W5).setB _).setB _).setB _
  have R6 := HR5.out.but (S := fun i => i = w.heap.size + 1) (But.of_only hO rfl) (by omega) (fun i e => by subst e; omega)
  have B6 := HB5.out.trans (hO.below (B := w.heap.size) (by omega) HB5.out.size)
  have V6 := HV5.out.1.only hO (fun ad had => by have := (HV5.out.2.2 ad had).1; omega)
  have HW6 := Lib.hid (rd_whole b st5 _ R6)
  have s6 := hO.size
  clear hO R6 HX5 HG5 HRB5 HR5 HB5 x0 x1 x2 x3 x4 x5 x6 x7 x8 xf5 xf6 xf7 xl g0 gl
  generalize ((W5.setCell ⟨w.heap.size + 1, 6, none⟩ (.slice A5 val.length c5)).setCell ⟨w.heap.size + 1, 5, none⟩ (.int .i64 o)).setCell ⟨w.heap.size + 1, 7, none⟩ (.bool ((gn : Int) == 1)) = W6 at *
  have HX6 := Lib.hid X6
  have HRB6 := Lib.hid RB6
  have HB6 := Lib.hid B6
  have HV6 : Hid (ByL W6 A5 val ∧ (A5 = none → val.length = 0) ∧ ∀ ad, A5 = some ad → w.heap.size ≤ ad.block) := Lib.hid ⟨V6, fun e => (HV5.out.2.1 e).1, fun ad had => by have := (HV5.out.2.2 ad had).1; omega⟩
  have g0 := G6.c 0 _ rfl
  have gl := G6.lt
  have r0 := RB6.c 0 _ rfl
  have r1 := RB6.c 1 _ rfl
  have r2 := RB6.c 2 _ rfl
  have r3 := RB6.c 3 _ rfl
  have r4 := RB6.c 4 _ rfl
  have r5 := RB6.c 5 _ rfl
  have r6 := RB6.c 6 _ rfl
  have r7 := RB6.c 7 _ rfl
  have r8 := RB6.c 8 _ rfl
  have rf := RB6.fz
  have rl := RB6.lt
  have x0 := X6.c 0 _ rfl
  have x1 := X6.c 1 _ rfl
  have x2 := X6.c 2 _ rfl
  have x3 := X6.c 3 _ rfl
  have x4 := X6.c 4 _ rfl
  have x5 := X6.c 5 _ rfl
  have x6 := X6.c 6 _ rfl
  have x7 := X6.c 7 _ rfl
  have x8 := X6.c 8 _ rfl
  have xl := X6.lt
  have HAD : Hid (∀ ad, A5 = some ad → w.heap.size + 1 ≤ ad.block) := Lib.hid (fun ad had => by have := (HV5.out.2.2 ad had).1; omega)
  clear X6 G6 RB6 B6 V6 HV5
  by_cases hwh : st5 = some []
  rotate_left
  · have t0 : decide (st5 = some []) = false := by simpa using hwh
    rw [t0] at HW6
    have HD : Hid (decR l = none) := Lib.hid (by unfold decR; rw [HPR.out]; rw [if_neg (fun h => hwh h.1)])
    clear t0
    go_wp2_with (go_at_call 73; refine HW6.out.mono ?_; rintro e W7 ⟨rfl, rfl⟩)
    have RBf := (((((((((HRB6.out.set 0 (by simp [zeroR]) (.int .i64 0)).set 1 (by simp [zeroR]) (.int .i64 0)).set 2 (by simp [zeroR]) (.string ⟨#[]⟩)).set 3 (by simp [zeroR]) (.int .i64 0)).set 4 (by simp [zeroR]) (.int .i64 0)).set 5 (by simp [zeroR]) (.int .i64 0)).set 6 (by simp [zeroR]) (.slice none 0 0)).set 7 (by simp [zeroR]) (.bool false)).set 8 (by simp [zeroR]) (.int .i64 0))
    have z0 := RBf.c 0 _ rfl
    have z1 := RBf.c 1 _ rfl
    have z2 := RBf.c 2 _ rfl
    have z3 := RBf.c 3 _ rfl
    have z4 := RBf.c 4 _ rfl
    have z5 := RBf.c 5 _ rfl
    have z6 := RBf.c 6 _ rfl
    have z7 := RBf.c 7 _ rfl
    have z8 := RBf.c 8 _ rfl
    have HF : Hid (Below w.heap.size w _) := Lib.hid ((((((((((HB6.out.setCell (p := ⟨w.heap.size, 0, none⟩) (Nat.le_refl _) (.int .i64 0)).setCell (p := ⟨w.heap.size, 1, none⟩) (Nat.le_refl _) (.int .i64 0)).setCell (p := ⟨w.heap.size, 2, none⟩) (Nat.le_refl _) (.string ⟨#[]⟩)).setCell (p := ⟨w.heap.size, 3, none⟩) (Nat.le_refl _) (.int .i64 0)).setCell (p := ⟨w.heap.size, 4, none⟩) (Nat.le_refl _) (.int .i64 0)).setCell (p := ⟨w.heap.size, 5, none⟩) (Nat.le_refl _) (.int .i64 0)).setCell (p := ⟨w.heap.size, 6, none⟩) (Nat.le_refl _) (.slice none 0 0)).setCell (p := ⟨w.heap.size, 7, none⟩) (Nat.le_refl _) (.bool false)).setCell (p := ⟨w.heap.size, 8, none⟩) (Nat.le_refl _) (.int .i64 0)))
    refine bodyPost_ret (v := .tuple #[recV 0 0 ⟨#[]⟩ 0 0 0 none 0 0 false 0, .int .i64 3]) (by simp [results, Tryz.results222, go_sem, z0, z1, z2, z3, z4, z5, z6, z7, z8]) rfl ⟨.inl ⟨HD.out, rfl⟩, HF.out⟩
  have t0 : decide (st5 = some []) = true := by simpa using hwh
  rw [t0] at HW6
  clear t0
  by_cases hgt : 1 < gn
  · have HD : Hid (decR l = none) := Lib.hid (by unfold decR; rw [HPR.out]; rw [if_neg (fun h => by have := h.2.1; simp only at this; omega)])
    have t1 : decide ((1 : Int) < (gn : Int)) = true := by simp; omega
    have t1' : decide (1 < gn) = true := by simpa using hgt
    clear hgt hwh
    go_wp2_with (go_at_call 73; refine HW6.out.mono ?_; rintro e W7 ⟨rfl, rfl⟩)
    have RBf := (((((((((HRB6.out.set 0 (by simp [zeroR]) (.int .i64 0)).set 1 (by simp [zeroR]) (.int .i64 0)).set 2 (by simp [zeroR]) (.string ⟨#[]⟩)).set 3 (by simp [zeroR]) (.int .i64 0)).set 4 (by simp [zeroR]) (.int .i64 0)).set 5 (by simp [zeroR]) (.int .i64 0)).set 6 (by simp [zeroR]) (.slice none 0 0)).set 7 (by simp [zeroR]) (.bool false)).set 8 (by simp [zeroR]) (.int .i64 0))
    have z0 := RBf.c 0 _ rfl
    have z1 := RBf.c 1 _ rfl
    have z2 := RBf.c 2 _ rfl
    have z3 := RBf.c 3 _ rfl
    have z4 := RBf.c 4 _ rfl
    have z5 := RBf.c 5 _ rfl
    have z6 := RBf.c 6 _ rfl
    have z7 := RBf.c 7 _ rfl
    have z8 := RBf.c 8 _ rfl
    have HF : Hid (Below w.heap.size w _) := Lib.hid ((((((((((HB6.out.setCell (p := ⟨w.heap.size, 0, none⟩) (Nat.le_refl _) (.int .i64 0)).setCell (p := ⟨w.heap.size, 1, none⟩) (Nat.le_refl _) (.int .i64 0)).setCell (p := ⟨w.heap.size, 2, none⟩) (Nat.le_refl _) (.string ⟨#[]⟩)).setCell (p := ⟨w.heap.size, 3, none⟩) (Nat.le_refl _) (.int .i64 0)).setCell (p := ⟨w.heap.size, 4, none⟩) (Nat.le_refl _) (.int .i64 0)).setCell (p := ⟨w.heap.size, 5, none⟩) (Nat.le_refl _) (.int .i64 0)).setCell (p := ⟨w.heap.size, 6, none⟩) (Nat.le_refl _) (.slice none 0 0)).setCell (p := ⟨w.heap.size, 7, none⟩) (Nat.le_refl _) (.bool false)).setCell (p := ⟨w.heap.size, 8, none⟩) (Nat.le_refl _) (.int .i64 0)))
    refine bodyPost_ret (v := .tuple #[recV 0 0 ⟨#[]⟩ 0 0 0 none 0 0 false 0, .int .i64 3]) (by simp [results, Tryz.results222, go_sem, z0, z1, z2, z3, z4, z5, z6, z7, z8]) rfl ⟨.inl ⟨HD.out, rfl⟩, HF.out⟩
  have t1 : decide ((1 : Int) < (gn : Int)) = false := by simp; omega
  have t1' : decide (1 < gn) = false := by simpa using hgt
  have HIS6 := Lib.hid (HIS.out o s K ml ct o A5 val.length c5 ((gn : Int) == 1) tt W6)
  have hgi : ((gn : Int) == 1) = (gn == 1) := by rw [Bool.eq_iff_iff]; simp; omega
  have hok : okR ⟨o, s, (rBytes st2).1, ml, ct, o, val, gn == 1, tt⟩ = okN o s K.size ml ct o val.length ((gn : Int) == 1) tt := by
    rw [okR_n]
    show okN o s (rBytes st2).1.length ml ct o val.length (gn == 1) tt = _
    rw [← hky.out, kL_len, hgi]
  have HGI := Lib.hid hgi
  have HKE : Hid (strB (rBytes st2).1 = K) := Lib.hid (by rw [← hky.out, str_kL])
  have HDD : Hid (∀ b, okN o s K.size ml ct o val.length ((gn : Int) == 1) tt = b → decR l = if b then some ⟨o, s, (rBytes st2).1, ml, ct, o, val, gn == 1, tt⟩ else none) := Lib.hid (fun b hbb => by
    unfold decR
    rw [HPR.out]
    simp only
    rw [hok, hbb]
    cases b
    · rw [if_neg (fun h => by cases h.2.2)]; rfl
    · rw [if_pos ⟨hwh, by omega, rfl⟩]; rfl)
  have HNE : Hid (∀ ad, A5 = some ad → w.heap.size + 1 ≤ ad.block) := Lib.hid (fun ad had => HAD.out ad had)
  clear hgi hok hgt hwh
  cases hk : okN o s K.size ml ct o val.length ((gn : Int) == 1) tt
  · have HD : Hid (decR l = none) := Lib.hid (HDD.out false hk)
    rw [hk] at HIS6
    clear hk HDD
    go_wp2_with (first | (go_at_call 73; refine HW6.out.mono ?_; rintro e W7 ⟨rfl, rfl⟩) | (go_at_call 54; refine HIS6.out.mono ?_; rintro e W7 ⟨rfl, k7⟩; have X7 := HX6.out.below k7; have RB7 := HRB6.out.below k7; have HRB7 := Lib.hid RB7; have HB7 := Lib.hid (HB6.out.trans (k7.mono HB6.out.size)); clear k7 x0 x1 x2 x3 x4 x5 x6 x7 x8 xl r0 r1 r2 r3 r4 r5 r6 r7 r8 rf rl; have x0 := X7.c 0 _ rfl; have x1 := X7.c 1 _ rfl; have x2 := X7.c 2 _ rfl; have x3 := X7.c 3 _ rfl; have x4 := X7.c 4 _ rfl; have x5 := X7.c 5 _ rfl; have x6 := X7.c 6 _ rfl; have x7 := X7.c 7 _ rfl; have x8 := X7.c 8 _ rfl; have xl := X7.lt; have r0 := RB7.c 0 _ rfl; have r1 := RB7.c 1 _ rfl; have r2 := RB7.c 2 _ rfl; have r3 := RB7.c 3 _ rfl; have r4 := RB7.c 4 _ rfl; have r5 := RB7.c 5 _ rfl; have r6 := RB7.c 6 _ rfl; have r7 := RB7.c 7 _ rfl; have r8 := RB7.c 8 _ rfl; have rf := RB7.fz; have rl := RB7.lt))
    have RBf := (((((((((HRB7.out.set 0 (by simp [zeroR]) (.int .i64 0)).set 1 (by simp [zeroR]) (.int .i64 0)).set 2 (by simp [zeroR]) (.string ⟨#[]⟩)).set 3 (by simp [zeroR]) (.int .i64 0)).set 4 (by simp [zeroR]) (.int .i64 0)).set 5 (by simp [zeroR]) (.int .i64 0)).set 6 (by simp [zeroR]) (.slice none 0 0)).set 7 (by simp [zeroR]) (.bool false)).set 8 (by simp [zeroR]) (.int .i64 0))
    have z0 := RBf.c 0 _ rfl
    have z1 := RBf.c 1 _ rfl
    have z2 := RBf.c 2 _ rfl
    have z3 := RBf.c 3 _ rfl
    have z4 := RBf.c 4 _ rfl
    have z5 := RBf.c 5 _ rfl
    have z6 := RBf.c 6 _ rfl
    have z7 := RBf.c 7 _ rfl
    have z8 := RBf.c 8 _ rfl
    have HF : Hid (Below w.heap.size w _) := Lib.hid ((((((((((HB7.out.setCell (p := ⟨w.heap.size, 0, none⟩) (Nat.le_refl _) (.int .i64 0)).setCell (p := ⟨w.heap.size, 1, none⟩) (Nat.le_refl _) (.int .i64 0)).setCell (p := ⟨w.heap.size, 2, none⟩) (Nat.le_refl _) (.string ⟨#[]⟩)).setCell (p := ⟨w.heap.size, 3, none⟩) (Nat.le_refl _) (.int .i64 0)).setCell (p := ⟨w.heap.size, 4, none⟩) (Nat.le_refl _) (.int .i64 0)).setCell (p := ⟨w.heap.size, 5, none⟩) (Nat.le_refl _) (.int .i64 0)).setCell (p := ⟨w.heap.size, 6, none⟩) (Nat.le_refl _) (.slice none 0 0)).setCell (p := ⟨w.heap.size, 7, none⟩) (Nat.le_refl _) (.bool false)).setCell (p := ⟨w.heap.size, 8, none⟩) (Nat.le_refl _) (.int .i64 0)))
    refine bodyPost_ret (v := .tuple #[recV 0 0 ⟨#[]⟩ 0 0 0 none 0 0 false 0, .int .i64 3]) (by simp [results, Tryz.results222, go_sem, z0, z1, z2, z3, z4, z5, z6, z7, z8]) rfl ⟨.inl ⟨HD.out, rfl⟩, HF.out⟩
  · have HD := Lib.hid (HDD.out true hk)
    rw [hk] at HIS6
    clear hk HDD
    go_wp2_with (first | (go_at_call 73; refine HW6.out.mono ?_; rintro e W7 ⟨rfl, rfl⟩) | (go_at_call 54; refine HIS6.out.mono ?_; rintro e W7 ⟨rfl, k7⟩; have X7 := HX6.out.below k7; have RB7 := HRB6.out.below k7; have HRB7 := Lib.hid RB7; have HB7 := Lib.hid (HB6.out.trans (k7.mono HB6.out.size)); have HV7 := Lib.hid (HV6.out.1.below k7); clear k7 x0 x1 x2 x3 x4 x5 x6 x7 x8 xl r0 r1 r2 r3 r4 r5 r6 r7 r8 rf rl; have x0 := X7.c 0 _ rfl; have x1 := X7.c 1 _ rfl; have x2 := X7.c 2 _ rfl; have x3 := X7.c 3 _ rfl; have x4 := X7.c 4 _ rfl; have x5 := X7.c 5 _ rfl; have x6 := X7.c 6 _ rfl; have x7 := X7.c 7 _ rfl; have x8 := X7.c 8 _ rfl; have xl := X7.lt; have r0 := RB7.c 0 _ rfl; have r1 := RB7.c 1 _ rfl; have r2 := RB7.c 2 _ rfl; have r3 := RB7.c 3 _ rfl; have r4 := RB7.c 4 _ rfl; have r5 := RB7.c 5 _ rfl; have r6 := RB7.c 6 _ rfl; have r7 := RB7.c 7 _ rfl; have r8 := RB7.c 8 _ rfl; have rf := RB7.fz; have rl := RB7.lt))
    have RBf := (((((((((HRB7.out.set 0 (by simp [zeroR]) (.int .i64 o)).set 1 (by simp [zeroR]) (.int .i64 s)).set 2 (by simp [zeroR]) (.string K)).set 3 (by simp [zeroR]) (.int .i64 ml)).set 4 (by simp [zeroR]) (.int .i64 ct)).set 5 (by simp [zeroR]) (.int .i64 o)).set 6 (by simp [zeroR]) (.slice A5 val.length c5)).set 7 (by simp [zeroR]) (.bool ((gn : Int) == 1))).set 8 (by simp [zeroR]) (.int .i64 tt))
    have z0 := RBf.c 0 _ rfl
    have z1 := RBf.c 1 _ rfl
    have z2 := RBf.c 2 _ rfl
    have z3 := RBf.c 3 _ rfl
    have z4 := RBf.c 4 _ rfl
    have z5 := RBf.c 5 _ rfl
    have z6 := RBf.c 6 _ rfl
    have z7 := RBf.c 7 _ rfl
    have z8 := RBf.c 8 _ rfl
    have HF : Hid (Below w.heap.size w _) := Lib.hid ((((((((((HB7.out.setCell (p := ⟨w.heap.size, 0, none⟩) (Nat.le_refl _) (.int .i64 o)).setCell (p := ⟨w.heap.size, 1, none⟩) (Nat.le_refl _) (.int .i64 s)).setCell (p := ⟨w.heap.size, 2, none⟩) (Nat.le_refl _) (.string K)).setCell (p := ⟨w.heap.size, 3, none⟩) (Nat.le_refl _) (.int .i64 ml)).setCell (p := ⟨w.heap.size, 4, none⟩) (Nat.le_refl _) (.int .i64 ct)).setCell (p := ⟨w.heap.size, 5, none⟩) (Nat.le_refl _) (.int .i64 o)).setCell (p := ⟨w.heap.size, 6, none⟩) (Nat.le_refl _) (.slice A5 val.length c5)).setCell (p := ⟨w.heap.size, 7, none⟩) (Nat.le_refl _) (.bool ((gn : Int) == 1))).setCell (p := ⟨w.heap.size, 8, none⟩) (Nat.le_refl _) (.int .i64 tt)))
    have HVF := Lib.hid (HV7.out.but (S := fun i => i = w.heap.size) (But.of_only ((((((((((Only.refl w.heap.size W7).setB (o := 0) (.int .i64 o)).setB (o := 1) (.int .i64 s)).setB (o := 2) (.string K)).setB (o := 3) (.int .i64 ml)).setB (o := 4) (.int .i64 ct)).setB (o := 5) (.int .i64 o)).setB (o := 6) (.slice A5 val.length c5)).setB (o := 7) (.bool ((gn : Int) == 1))).setB (o := 8) (.int .i64 tt)) rfl) (fun _ ad had e => by have := HNE.out ad had; omega))
    refine bodyPost_ret (v := .tuple #[recV o s K ml ct o A5 val.length c5 ((gn : Int) == 1) tt, .int .i64 0]) (by simp [results, Tryz.results222, go_sem, z0, z1, z2, z3, z4, z5, z6, z7, z8]) rfl ⟨.inr ⟨_, A5, c5, HD.out, by rw [HGI.out, HKE.out], HVF.out, HV6.out.2.1, HV6.out.2.2⟩, HF.out⟩
end Go.Proofs.YtpflbhcgkndpcaaGreatDoor
