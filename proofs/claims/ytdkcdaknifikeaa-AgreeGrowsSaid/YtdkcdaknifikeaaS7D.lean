/- Stage 7: AgreeGrows (written by gen/s7d.py). -/
import Derived.Test.YtdkcdaknifikeaaIv
import Derived.Test.YtdkcdaknifikeaaLaw
import Derived.Test.YtdkcdaknifikeaaTwo
import Derived.BigGuard
import Derived.BigGuardPart
import Derived.BigCall
set_option linter.unusedSimpArgs false
set_option linter.unusedVariables false
namespace Go.Proofs.Ytdkcdaknifikeaa
open Go.ChangeShapes Go.WideShapes Go.ChangeAt Go.RowKit Go.Joins

theorem iv_cells : Try.prog.cellsOf 25 = 2 := by kernel_rfl
theorem open_iv {H : Type} {enc : TypeId × Value → H} {w : World} {r : Reach} {base b0 : Nat} {sp : Nat → Bool} {held : Bool} {v : Value} {d : DataW H} {p : List MemPlace}
    (hv : Value.okWide Try.prog w r b0 25 v) (h : DataW.Trod enc Try.prog w base sp held 25 v d p) :
    ∃ y m : Int, v = .agg #[.int .i64 y, .int .i64 m] ∧ (Lit.int .i64 y).wf = true ∧ (Lit.int .i64 m).wf = true := by
  obtain ⟨c0, c1, y0, y1, n, rfl, rfl, rfl, hy0, hy1⟩ := open_agg2 Try.underlying25 (by kernel_rfl) iv_cells hv h
  obtain ⟨a, e0, _, wa⟩ := DataW.trod_int Try.underlying3 hy0
  obtain ⟨b, e1, _, wb⟩ := DataW.trod_int Try.underlying3 hy1
  simp at e0 e1
  subst e0 e1
  exact ⟨a, b, rfl, wa, wb⟩
theorem cnt_snoc (l : List (Int × Int)) (i : Int × Int) (x : Int) : Ag.cnt (l ++ [i]) x = Ag.cnt l x + if Ag.inB x i then 1 else 0 := by
  unfold Ag.cnt
  rw [List.countP_append]
  simp [List.countP_cons]
theorem most_snoc {l : List (Int × Int)} {i : Int × Int} {a b a' b' : Int} {m m' : Nat} (h : Ag.MostIs l a b m) (k : Ag.MostIs (l ++ [i]) a' b' m') : (m' = m ∨ m' = m + 1) ∧ (i.2 < i.1 → m' = m) := by
  have h1 : m ≤ m' := by
    rcases Nat.eq_zero_or_pos m with h0 | h0
    · omega
    · have := h.at_ h0
      have q := k.le a
      rw [cnt_snoc] at q
      omega
  have h2 : m' ≤ m + 1 ∧ (i.2 < i.1 → m' ≤ m) := by
    rcases Nat.eq_zero_or_pos m' with h0 | h0
    · omega
    · have := k.at_ h0
      have q := h.le a'
      rw [cnt_snoc] at this
      refine ⟨by split at this <;> omega, fun hi => ?_⟩
      rw [if_neg (by simp [Ag.inB]; omega)] at this
      omega
  exact ⟨by omega, fun hi => by have := h2.2 hi; omega⟩
/-- What stands while a call runs that began at w, its box ahead of all. -/
structure G (w W : World) (lo hi : Int) : Prop where
  hb : Below w.heap.size w W
  box : Ints2 W w.heap.size lo hi
theorem G.size {w W : World} {lo hi : Int} (h : G w W lo hi) : w.heap.size + 1 ≤ W.heap.size := h.box.lt
theorem G.held {w W : World} {lo hi : Int} (h : G w W lo hi) : W.cell? ⟨w.heap.size, 0, none⟩ = some (.int .i64 lo) ∧ W.cell? ⟨w.heap.size, 1, none⟩ = some (.int .i64 hi) := ⟨h.box.c0, h.box.c1⟩
theorem G.alloc {w W : World} {lo hi : Int} (h : G w W lo hi) (o : Obj) : G w (W.alloc o) lo hi := ⟨h.hb.alloc h.hb.size o, h.box.alloc o⟩
theorem G.call {w W W' : World} {lo hi : Int} (h : G w W lo hi) (k : Below W.heap.size W W') : G w W' lo hi := ⟨h.hb.trans (k.mono h.hb.size), h.box.below k h.box.lt⟩
theorem G.grown {w W W' : World} {lo hi : Int} (h : G w W lo hi) {v : Value} {l : List (Int × Int)} (hp : POwn (w.heap.size + 1) W v l) (hg : W.grownBy W' v.ownBlock) : G w W' lo hi :=
  ⟨h.hb.grown hg h.hb.size (fun k hk => by have := (World.ownsRow.lt hp k hk).1; omega), h.box.grown hg (fun e => by have := (World.ownsRow.lt hp _ e.symm).1; omega)⟩
theorem POwn.mono {b b' : Nat} {W : World} {v : Value} {l : List (Int × Int)} (h : POwn b W v l) (hb : b' ≤ b) : POwn b' W v l := by
  refine ⟨h.1, ?_⟩
  rcases h.2 with hn | ⟨g, cap, cur, rfl, h2, r⟩
  · exact .inl hn
  · exact .inr ⟨g, cap, cur, rfl, by omega, r⟩
/-- A pair in a block of its own. -/
structure PN (W : World) (b : Nat) (lo hi : Int) : Prop where
  c0 : W.cell? ⟨b, 0, none⟩ = some (.int .i64 lo)
  c1 : W.cell? ⟨b, 1, none⟩ = some (.int .i64 hi)
  lt : b < W.heap.size
theorem PN.new (W : World) (lo hi : Int) (t : TypeId) : PN (W.alloc (.cells #[.int .i64 lo, .int .i64 hi] t)) W.heap.size lo hi := by constructor <;> simp
theorem PN.alloc {W : World} {b : Nat} {lo hi : Int} (h : PN W b lo hi) (o : Obj) : PN (W.alloc o) b lo hi := ⟨(World.cell?_alloc_past o b 0 h.lt).trans h.c0, (World.cell?_alloc_past o b 1 h.lt).trans h.c1, by have := h.lt; simp; omega⟩
theorem PN.call {W W' : World} {b : Nat} {lo hi : Int} (h : PN W b lo hi) (k : Below W.heap.size W W') : PN W' b lo hi := ⟨(k.cell (p := ⟨b, 0, none⟩) h.lt).trans h.c0, (k.cell (p := ⟨b, 1, none⟩) h.lt).trans h.c1, Nat.lt_of_lt_of_le h.lt k.size⟩
theorem PN.news {W : World} {b : Nat} {lo hi : Int} (h : PN W b lo hi) : ∀ j y, ([.int .i64 lo, .int .i64 hi] : List Value)[j]? = some y → W.cell? ((⟨b, 0, none⟩ : Addr).add j) = some y := by
  intro j y hj
  rw [at_add]
  cases j with
  | zero => simp at hj; subst hj; exact h.c0
  | succ j =>
    cases j with
    | zero => simp at hj; subst hj; exact h.c1
    | succ j => simp at hj
theorem ivs_tells {z : Nat → Int} {n : Nat} {lo hi : Int} (h : Tells (ivs z n)) (h1 : -9223372036854775808 ≤ lo ∧ lo ≤ 9223372036854775807) (h2 : -9223372036854775808 ≤ hi ∧ hi ≤ 9223372036854775807) : Tells (ivs z n ++ [(lo, hi)]) := by
  intro i hi
  rcases List.mem_append.1 hi with hi | hi
  · exact h i hi
  · obtain rfl : i = (_, _) := by simpa using hi
    exact ⟨h1, h2⟩
theorem agreeGrows_out (A : Option Addr) (n c : Nat) (lo hi : Int) (w : World) (h : 200 < n) (hn : n ≤ maxLen) :
    Calls Try.prog 7 #[.slice A n c, .agg #[.int .i64 lo, .int .i64 hi]] w fun e w' => e = .returned (.bool true) ∧ Below w.heap.size w w' := by
  unfold maxLen at hn
  have h' : (200 : Int) < (n : Int) := by omega
  go_enter Try.func7, Try.ntmps7
  go_wp2
  go_ret
  exact ⟨rfl, by (repeat' (first | (with_reducible exact Below.refl _ _) | (with_reducible assumption) | (with_reducible refine Below.trans ?_ (Below.mono (by with_reducible assumption) ?_)) | (with_reducible refine Below.alloc ?_ ?_ _) | (with_reducible refine Below.setCell ?_ ?_ _) | (with_reducible refine below_drewN ?_ _) | (with_reducible refine Below.drew ?_) | go_size))⟩
set_option maxRecDepth 100000 in
set_option maxHeartbeats 16000000 in
theorem agreeGrows_in (z : Nat → Int) (A : Option Addr) (n c : Nat) (lo hi : Int) (w : World) (hn : n ≤ 200) (hA : A = none → n = 0 ∧ c = 0) (hz : FlatAt w A 2 n z) (b1 : -9223372036854775808 ≤ lo ∧ lo ≤ 9223372036854775807) (b2 : -9223372036854775808 ≤ hi ∧ hi ≤ 9223372036854775807) :
    Calls Try.prog 7 #[.slice A n c, .agg #[.int .i64 lo, .int .i64 hi]] w fun e w' => e = .returned (.bool true) ∧ Below w.heap.size w w' := by
  have hn' : (n : Int) ≤ 200 := by omega
  obtain ⟨i0, hi0, hz0, hz1, hz2⟩ := info_parts iv_info
  have HB0 : Below w.heap.size w (w.alloc (.cells #[.int .i64 lo, .int .i64 hi] 25)) := by (repeat' (first | (with_reducible exact Below.refl _ _) | (with_reducible assumption) | (with_reducible refine Below.trans ?_ (Below.mono (by with_reducible assumption) ?_)) | (with_reducible refine Below.alloc ?_ ?_ _) | (with_reducible refine Below.setCell ?_ ?_ _) | (with_reducible refine below_drewN ?_ _) | (with_reducible refine Below.drew ?_) | go_size))
  have C := Lib.hid (most_any z A n c _ (by omega) (hz.below HB0))
  have G0 := Lib.hid (G.mk HB0 (Ints2.new w lo hi 25))
  have HT := Lib.hid (ivs_tells hz.tells b1 b2)
  have CO := Lib.hid (fun (W : World) (hb : Below w.heap.size w W) => own7_any z A n c W hA (hz.below hb) (by omega))
  clear hz hA HB0 b1 b2
  go_enter Try.func7, Try.ntmps7
  go_wp2_with fail
  refine C.out.mono ?_; rintro e w1 ⟨a, b, m, rfl, hm, hb1⟩
  have hml := most_le hm
  rw [ivs_len] at hml
  have G1 := Lib.hid ((G0.out.call hb1).alloc (.cells #[.int .i64 a, .int .i64 b] 25))
  have HM := Lib.hid hm
  clear hb1 hm C G0
  go_wp2_with fail
  refine wp_region_held_drew (S := fun w' => w'.cell? ⟨w.heap.size, 0, none⟩ = some (.int .i64 lo) ∧ w'.cell? ⟨w.heap.size, 1, none⟩ = some (.int .i64 hi)) (by kernel_rfl) ?_ (fun hHeld => ?_)
  · exact G1.out.held
  have G0 : G w (w1.alloc (.cells #[.int .i64 a, .int .i64 b] 25)).drew lo hi := ⟨G1.out.hb.drew, G1.out.box.drew⟩
  clear G1
  generalize (w1.alloc (.cells #[.int .i64 a, .int .i64 b] 25)).drew = W0 at *
  refine wpAnyH_take (i := 0) (v := ?_) rfl (by kernel_rfl) (by kernel_rfl) (by kernel_rfl) (fun _ _ _ h => h) (Or.inl ⟨by rfl, ?_⟩) (by assumption) ?_
  rotate_left
  · intro w' hSw; (try dsimp only at hSw); go_simp; (try with_reducible rfl)
  (try simp only [Act.put, List.setIfInBounds_toArray, List.set_cons_zero, List.set_cons_succ, List.getElem_toArray, List.getElem_cons_succ, List.getElem_cons_zero])
  refine wpAnyH_take (i := 2) (v := ?_) rfl (by kernel_rfl) (by kernel_rfl) (by kernel_rfl) (fun _ _ _ h => h) (Or.inl ⟨by rfl, ?_⟩) (by assumption) ?_
  rotate_left
  · intro w' hSw; (try dsimp only at hSw); go_simp; (try with_reducible rfl)
  (try simp only [Act.put, List.setIfInBounds_toArray, List.set_cons_zero, List.set_cons_succ, List.getElem_toArray, List.getElem_cons_succ, List.getElem_cons_zero])
  refine wpAnyH_ready (rs := [1, 3, 9]) (by kernel_rfl) (by simp) ?_
  refine AllReadyH.cons rfl (fun K hK => ?_) (AllReadyH.cons rfl (fun K hK => ?_) (AllReadyH.cons rfl (fun K hK => ?_) (AllReadyH.nil)))
  · go_simp
    (go_at_call 9; refine (CO.out W0 G0.hb).mono ?_; rintro e W1 ⟨v1, rfl, hO1, hb1⟩)
    have G1 := G0.call hb1
    have O1 := hO1.mono G0.size
    (try dsimp only)
    refine hK.out _ _ ?_ (fun hHeld => ?_)
    · exact G1.held
    clear hK K
    (try simp only [Act.put, List.setIfInBounds_toArray, List.set_cons_zero, List.set_cons_succ, List.getElem_toArray, List.getElem_cons_succ, List.getElem_cons_zero])
    clear hO1 hb1
    refine wpAnyH_ready (rs := [3, 9]) (by kernel_rfl) (by simp) ?_
    refine AllReadyH.cons rfl (fun K hK => ?_) (AllReadyH.cons rfl (fun K hK => ?_) (AllReadyH.nil))
    · go_simp
      (try dsimp only)
      refine hK.out _ _ ?_ (fun hHeld => ?_)
      · exact (G1.alloc (.cells #[.int .i64 lo, .int .i64 hi] 25)).held
      clear hK K
      (try simp only [Act.put, List.setIfInBounds_toArray, List.set_cons_zero, List.set_cons_succ, List.getElem_toArray, List.getElem_cons_succ, List.getElem_cons_zero])
      have G2 := G1.alloc (.cells #[.int .i64 lo, .int .i64 hi] 25)
      have O2 := POwn.alloc O1 (.cells #[.int .i64 lo, .int .i64 hi] 25)
      have P2 := PN.new W1 lo hi 25
      generalize hW2 : W1.alloc (.cells #[.int .i64 lo, .int .i64 hi] 25) = W2 at *
      clear hW2
      refine wpAnyH_ready (rs := [4, 9]) (by kernel_rfl) (by simp) ?_
      refine AllReadyH.cons rfl (fun K hK => ?_) (AllReadyH.cons rfl (fun K hK => ?_) (AllReadyH.nil))
      · rw [if_pos (by rfl)]
        have hO3 : W2.ownsRow (w.heap.size + 1) 25 2 v1 n (cellsOf (zl (ivs z n)) (n * 2)) := by
          have := O2
          unfold POwn at this
          rwa [ivs_len] at this
        refine wp_append_lies _ _ _ _ (by rfl) (w.heap.size + 1) 25 i0 _ 2 16 Try.underlying22 hi0 hz0 hz1 hz2 rfl (by decide) v1 n _ (by rfl) hO3 ⟨W1.heap.size, 0, none⟩ 1 1 [.int .i64 lo, .int .i64 hi] (by rfl) (by rfl) P2.news (by simp [Value.oneCell']) (by omega) (by unfold maxLen; omega) (by omega) G2.size _ rfl ?_
        intro g3 cap3 W3 own3 hg3 hat3 hlt3
        have G3 := G2.grown O2 hg3
        have O3 : POwn (w.heap.size + 1) W3 (.slice (some ⟨g3, 0, none⟩) (n + 1) cap3) (ivs z n ++ [(lo, hi)]) := POwn.snoc (i := (lo, hi)) (by rw [ivs_len]; exact own3)
        (try dsimp only)
        refine hK.out _ _ ?_ (fun hHeld => ?_)
        · exact G3.held
        clear hK K
        (try simp only [Act.put, List.setIfInBounds_toArray, List.set_cons_zero, List.set_cons_succ, List.getElem_toArray, List.getElem_cons_succ, List.getElem_cons_zero])
        clear own3 hg3 hat3 hlt3 hO3
        refine wpAnyH_ready (rs := [5, 9]) (by kernel_rfl) (by simp) ?_
        refine AllReadyH.cons rfl (fun K hK => ?_) (AllReadyH.cons rfl (fun K hK => ?_) (AllReadyH.nil))
        · go_simp
          obtain ⟨A4, c4, hs4, hf4⟩ := O3.flat HT.out
          rw [show (ivs z n ++ [(lo, hi)]).length = n + 1 from by rw [List.length_append, ivs_len]; rfl] at hs4
          obtain ⟨rfl, rfl⟩ : some ⟨g3, 0, none⟩ = A4 ∧ cap3 = c4 := by injection hs4 with h1 h2 h3; exact ⟨h1, h3⟩
          have CM4 := most_list (c := cap3) hf4 (by rw [List.length_append, ivs_len]; simp; omega)
          rw [show (ivs z n ++ [(lo, hi)]).length = n + 1 from by rw [List.length_append, ivs_len]; rfl] at CM4
          clear hs4 hf4
          (go_at_call 10; refine CM4.mono ?_; rintro e W4 ⟨a', b', m', rfl, hm', hb4⟩)
          have HS4 := most_snoc HM.out hm'
          have hml4 : m' ≤ n + 1 := by have := most_le hm'; rwa [List.length_append, ivs_len] at this
          have G4 := G3.call hb4
          (try dsimp only)
          refine hK.out _ _ ?_ (fun hHeld => ?_)
          · exact G4.held
          clear hK K
          (try simp only [Act.put, List.setIfInBounds_toArray, List.set_cons_zero, List.set_cons_succ, List.getElem_toArray, List.getElem_cons_succ, List.getElem_cons_zero])
          clear hb4 hm' CM4 O3
          refine wpAnyH_take (i := 6) (v := ?_) rfl (by kernel_rfl) (by kernel_rfl) (by kernel_rfl) (fun _ _ _ h => h) (Or.inl ⟨by rfl, ?_⟩) (by assumption) ?_
          rotate_left
          · intro w' hSw; (try dsimp only at hSw); go_simp; (try with_reducible rfl)
          (try simp only [Act.put, List.setIfInBounds_toArray, List.set_cons_zero, List.set_cons_succ, List.getElem_toArray, List.getElem_cons_succ, List.getElem_cons_zero])
          refine wpAnyH_take (i := 7) (v := ?_) rfl (by kernel_rfl) (by kernel_rfl) (by kernel_rfl) (fun _ _ _ h => h) (Or.inl ⟨by rfl, ?_⟩) (by assumption) ?_
          rotate_left
          · intro w' hSw; (try dsimp only at hSw); go_simp; (try with_reducible rfl)
          (try simp only [Act.put, List.setIfInBounds_toArray, List.set_cons_zero, List.set_cons_succ, List.getElem_toArray, List.getElem_cons_succ, List.getElem_cons_zero])
          refine wpAnyH_take (i := 8) (v := ?_) rfl (by kernel_rfl) (by kernel_rfl) (by kernel_rfl) (fun _ _ _ h => h) (Or.inl ⟨by rfl, ?_⟩) (by assumption) ?_
          rotate_left
          · intro w' hSw; (try dsimp only at hSw); go_simp; (try with_reducible rfl)
          (try simp only [Act.put, List.setIfInBounds_toArray, List.set_cons_zero, List.set_cons_succ, List.getElem_toArray, List.getElem_cons_succ, List.getElem_cons_zero])
          refine wpAnyH_ready (rs := [9]) (by kernel_rfl) (by simp) ?_
          refine AllReadyH.cons rfl (fun K hK => ?_) (AllReadyH.nil)
          · go_simp
            (try dsimp only)
            refine hK.out _ _ ?_ (fun hHeld => ?_)
            · exact (G4.alloc (.cells #[.int .i64 0, .int .i64 0] 25)).held
            clear hK K
            (try simp only [Act.put, List.setIfInBounds_toArray, List.set_cons_zero, List.set_cons_succ, List.getElem_toArray, List.getElem_cons_succ, List.getElem_cons_zero])
            have G5 := G4.alloc (.cells #[.int .i64 0, .int .i64 0] 25)
            have N5 := Ints2.new W4 0 0 25
            have q5 : w.heap.size ≠ W4.heap.size := by have := G4.size; omega
            have zb5 : w.heap.size ≤ W4.heap.size := by have := G4.size; omega
            generalize hW5 : W4.alloc (.cells #[.int .i64 0, .int .i64 0] 25) = W5 at *
            clear hW5
            obtain ⟨n0, n1, nf0, nf1, nl⟩ := N5
            refine wpAnyH_ready (rs := [10]) (by kernel_rfl) (by simp) ?_
            refine AllReadyH.cons rfl (fun K hK => ?_) (AllReadyH.nil)
            go_simp
            (try dsimp only)
            refine hK.out _ _ ?_ (fun hHeld => ?_)
            · exact ⟨((G5.box.other (p := ⟨W4.heap.size, 0, none⟩) (by simp; omega) _).other (p := ⟨W4.heap.size, 1, none⟩) (by simp; omega) _).c0, ((G5.box.other (p := ⟨W4.heap.size, 0, none⟩) (by simp; omega) _).other (p := ⟨W4.heap.size, 1, none⟩) (by simp; omega) _).c1⟩
            clear hK K
            (try simp only [Act.put, List.setIfInBounds_toArray, List.set_cons_zero, List.set_cons_succ, List.getElem_toArray, List.getElem_cons_succ, List.getElem_cons_zero])
            refine wpAnyH_take (i := 11) (v := ?_) rfl (by kernel_rfl) (by kernel_rfl) (by kernel_rfl) (fun _ _ _ h => h) (Or.inl ⟨by rfl, ?_⟩) (by assumption) ?_
            rotate_left
            · intro w' hSw; (try dsimp only at hSw); go_simp; (try with_reducible rfl)
            (try simp only [Act.put, List.setIfInBounds_toArray, List.set_cons_zero, List.set_cons_succ, List.getElem_toArray, List.getElem_cons_succ, List.getElem_cons_zero])
            refine wpAnyH_done (by kernel_rfl) ?_ _
            have hb9 : w.heap.size ≤ W4.heap.size := zb5
            obtain ⟨y0, y1, f0, f1, l3⟩ := G5.box
            have HBn := G5.hb
            have zn := HBn.size
            have hcase : ((m' = m ∧ lo ≤ hi) ∨ (m' = m ∧ hi < lo)) ∨ (m' = m + 1 ∧ lo ≤ hi) := by have h1 := HS4.1; have h2 := HS4.2; simp only at h2; omega
            have hm3 : m' ≤ 201 := by omega
            clear HS4 hml4 HM HT CO n0 n1 nf0 nf1 G5
            rcases hcase with (⟨rfl, hc⟩ | ⟨rfl, hc⟩) | ⟨rfl, hc⟩
            · go_wp2_with (go_at_call 14; refine (known7 _).mono ?_; rintro e w5 ⟨rfl, hb5⟩; obtain ⟨hc5, hf5⟩ := bcell hb5; have hz5 := hb5.size; (try simp only [World.size_alloc, World.size_setCell, World.heap_drewN] at hb5 hc5 hf5 hz5); (try have ha05 : w.heap.size < w5.heap.size := by omega); (try have ha15 : w.heap.size + 1 < w5.heap.size := by omega); (try have ha25 : w.heap.size + 2 < w5.heap.size := by omega); (try have hal5 : w.heap.size ≤ w5.heap.size := by omega); (try have ham5 : w.heap.size < w5.heap.size + 2 := by omega))
              go_ret
              go_light
              exact ⟨rfl, by (repeat' (first | (with_reducible exact Below.refl _ _) | (with_reducible assumption) | (with_reducible refine Below.trans ?_ (Below.mono (by with_reducible assumption) ?_)) | (with_reducible refine Below.alloc ?_ ?_ _) | (with_reducible refine Below.setCell ?_ ?_ _) | (with_reducible refine below_drewN ?_ _) | (with_reducible refine Below.drew ?_) | go_size))⟩
            · have tf : decide (lo ≤ hi) = false := by simp; omega
              go_wp2_with (go_at_call 14; refine (known7 _).mono ?_; rintro e w5 ⟨rfl, hb5⟩; obtain ⟨hc5, hf5⟩ := bcell hb5; have hz5 := hb5.size; (try simp only [World.size_alloc, World.size_setCell, World.heap_drewN] at hb5 hc5 hf5 hz5); (try have ha05 : w.heap.size < w5.heap.size := by omega); (try have ha15 : w.heap.size + 1 < w5.heap.size := by omega); (try have ha25 : w.heap.size + 2 < w5.heap.size := by omega); (try have hal5 : w.heap.size ≤ w5.heap.size := by omega); (try have ham5 : w.heap.size < w5.heap.size + 2 := by omega))
              go_ret
              go_light
              exact ⟨rfl, by (repeat' (first | (with_reducible exact Below.refl _ _) | (with_reducible assumption) | (with_reducible refine Below.trans ?_ (Below.mono (by with_reducible assumption) ?_)) | (with_reducible refine Below.alloc ?_ ?_ _) | (with_reducible refine Below.setCell ?_ ?_ _) | (with_reducible refine below_drewN ?_ _) | (with_reducible refine Below.drew ?_) | go_size))⟩
            · have tf : (((m + 1 : Nat) : Int) == (m : Int)) = false := by simp; try omega
              have tf2 : ((m : Int) + 1 == (m : Int)) = false := by simp; try omega
              go_wp2_with (go_at_call 14; refine (known7 _).mono ?_; rintro e w5 ⟨rfl, hb5⟩; obtain ⟨hc5, hf5⟩ := bcell hb5; have hz5 := hb5.size; (try simp only [World.size_alloc, World.size_setCell, World.heap_drewN] at hb5 hc5 hf5 hz5); (try have ha05 : w.heap.size < w5.heap.size := by omega); (try have ha15 : w.heap.size + 1 < w5.heap.size := by omega); (try have ha25 : w.heap.size + 2 < w5.heap.size := by omega); (try have hal5 : w.heap.size ≤ w5.heap.size := by omega); (try have ham5 : w.heap.size < w5.heap.size + 2 := by omega))
              go_ret
              go_light
              exact ⟨rfl, by (repeat' (first | (with_reducible exact Below.refl _ _) | (with_reducible assumption) | (with_reducible refine Below.trans ?_ (Below.mono (by with_reducible assumption) ?_)) | (with_reducible refine Below.alloc ?_ ?_ _) | (with_reducible refine Below.setCell ?_ ?_ _) | (with_reducible refine below_drewN ?_ _) | (with_reducible refine Below.drew ?_) | go_size))⟩
        · go_simp
          (try dsimp only)
          refine hK.out _ _ ?_ (fun hHeld => ?_)
          · exact (G3.alloc (.cells #[.int .i64 0, .int .i64 0] 25)).held
          clear hK K
          (try simp only [Act.put, List.setIfInBounds_toArray, List.set_cons_zero, List.set_cons_succ, List.getElem_toArray, List.getElem_cons_succ, List.getElem_cons_zero])
          have G6 := G3.alloc (.cells #[.int .i64 0, .int .i64 0] 25)
          have O6 := POwn.alloc O3 (.cells #[.int .i64 0, .int .i64 0] 25)
          have N6 := Ints2.new W3 0 0 25
          have q6 : w.heap.size ≠ W3.heap.size := by have := G3.size; omega
          have zb6 : w.heap.size ≤ W3.heap.size := by have := G3.size; omega
          have nv6 : (Value.slice (some ⟨g3, 0, none⟩) (n + 1) cap3).ownBlock ≠ some W3.heap.size := fun e => by have := (World.ownsRow.lt O3 _ e).2; omega
          generalize hW6 : W3.alloc (.cells #[.int .i64 0, .int .i64 0] 25) = W6 at *
          clear hW6
          refine wpAnyH_ready (rs := [5]) (by kernel_rfl) (by simp) ?_
          refine AllReadyH.cons rfl (fun K hK => ?_) (AllReadyH.nil)
          · go_simp
            obtain ⟨A7, c7, hs7, hf7⟩ := O6.flat HT.out
            rw [show (ivs z n ++ [(lo, hi)]).length = n + 1 from by rw [List.length_append, ivs_len]; rfl] at hs7
            obtain ⟨rfl, rfl⟩ : some ⟨g3, 0, none⟩ = A7 ∧ cap3 = c7 := by injection hs7 with h1 h2 h3; exact ⟨h1, h3⟩
            have CM7 := most_list (c := cap3) hf7 (by rw [List.length_append, ivs_len]; simp; omega)
            rw [show (ivs z n ++ [(lo, hi)]).length = n + 1 from by rw [List.length_append, ivs_len]; rfl] at CM7
            clear hs7 hf7
            (go_at_call 10; refine CM7.mono ?_; rintro e W7 ⟨a', b', m', rfl, hm', hb7⟩)
            have HS7 := most_snoc HM.out hm'
            have hml7 : m' ≤ n + 1 := by have := most_le hm'; rwa [List.length_append, ivs_len] at this
            have G7 := G6.call hb7
            have N7 := N6.below hb7 N6.lt
            (try dsimp only)
            refine hK.out _ _ ?_ (fun hHeld => ?_)
            · exact G7.held
            clear hK K
            (try simp only [Act.put, List.setIfInBounds_toArray, List.set_cons_zero, List.set_cons_succ, List.getElem_toArray, List.getElem_cons_succ, List.getElem_cons_zero])
            clear hb7 hm' CM7 O6
            refine wpAnyH_take (i := 6) (v := ?_) rfl (by kernel_rfl) (by kernel_rfl) (by kernel_rfl) (fun _ _ _ h => h) (Or.inl ⟨by rfl, ?_⟩) (by assumption) ?_
            rotate_left
            · intro w' hSw; (try dsimp only at hSw); go_simp; (try with_reducible rfl)
            (try simp only [Act.put, List.setIfInBounds_toArray, List.set_cons_zero, List.set_cons_succ, List.getElem_toArray, List.getElem_cons_succ, List.getElem_cons_zero])
            refine wpAnyH_take (i := 7) (v := ?_) rfl (by kernel_rfl) (by kernel_rfl) (by kernel_rfl) (fun _ _ _ h => h) (Or.inl ⟨by rfl, ?_⟩) (by assumption) ?_
            rotate_left
            · intro w' hSw; (try dsimp only at hSw); go_simp; (try with_reducible rfl)
            (try simp only [Act.put, List.setIfInBounds_toArray, List.set_cons_zero, List.set_cons_succ, List.getElem_toArray, List.getElem_cons_succ, List.getElem_cons_zero])
            refine wpAnyH_take (i := 8) (v := ?_) rfl (by kernel_rfl) (by kernel_rfl) (by kernel_rfl) (fun _ _ _ h => h) (Or.inl ⟨by rfl, ?_⟩) (by assumption) ?_
            rotate_left
            · intro w' hSw; (try dsimp only at hSw); go_simp; (try with_reducible rfl)
            (try simp only [Act.put, List.setIfInBounds_toArray, List.set_cons_zero, List.set_cons_succ, List.getElem_toArray, List.getElem_cons_succ, List.getElem_cons_zero])
            obtain ⟨n0, n1, nf0, nf1, nl⟩ := N7
            refine wpAnyH_ready (rs := [10]) (by kernel_rfl) (by simp) ?_
            refine AllReadyH.cons rfl (fun K hK => ?_) (AllReadyH.nil)
            go_simp
            (try dsimp only)
            refine hK.out _ _ ?_ (fun hHeld => ?_)
            · exact ⟨((G7.box.other (p := ⟨W3.heap.size, 0, none⟩) (by simp; omega) _).other (p := ⟨W3.heap.size, 1, none⟩) (by simp; omega) _).c0, ((G7.box.other (p := ⟨W3.heap.size, 0, none⟩) (by simp; omega) _).other (p := ⟨W3.heap.size, 1, none⟩) (by simp; omega) _).c1⟩
            clear hK K
            (try simp only [Act.put, List.setIfInBounds_toArray, List.set_cons_zero, List.set_cons_succ, List.getElem_toArray, List.getElem_cons_succ, List.getElem_cons_zero])
            refine wpAnyH_take (i := 11) (v := ?_) rfl (by kernel_rfl) (by kernel_rfl) (by kernel_rfl) (fun _ _ _ h => h) (Or.inl ⟨by rfl, ?_⟩) (by assumption) ?_
            rotate_left
            · intro w' hSw; (try dsimp only at hSw); go_simp; (try with_reducible rfl)
            (try simp only [Act.put, List.setIfInBounds_toArray, List.set_cons_zero, List.set_cons_succ, List.getElem_toArray, List.getElem_cons_succ, List.getElem_cons_zero])
            refine wpAnyH_done (by kernel_rfl) ?_ _
            have hb9 : w.heap.size ≤ W3.heap.size := zb6
            obtain ⟨y0, y1, f0, f1, l3⟩ := G7.box
            have HBn := G7.hb
            have zn := HBn.size
            have hcase : ((m' = m ∧ lo ≤ hi) ∨ (m' = m ∧ hi < lo)) ∨ (m' = m + 1 ∧ lo ≤ hi) := by have h1 := HS7.1; have h2 := HS7.2; simp only at h2; omega
            have hm3 : m' ≤ 201 := by omega
            clear HS7 hml7 HM HT CO n0 n1 nf0 nf1 G7
            rcases hcase with (⟨rfl, hc⟩ | ⟨rfl, hc⟩) | ⟨rfl, hc⟩
            · go_wp2_with (go_at_call 14; refine (known7 _).mono ?_; rintro e w5 ⟨rfl, hb5⟩; obtain ⟨hc5, hf5⟩ := bcell hb5; have hz5 := hb5.size; (try simp only [World.size_alloc, World.size_setCell, World.heap_drewN] at hb5 hc5 hf5 hz5); (try have ha05 : w.heap.size < w5.heap.size := by omega); (try have ha15 : w.heap.size + 1 < w5.heap.size := by omega); (try have ha25 : w.heap.size + 2 < w5.heap.size := by omega); (try have hal5 : w.heap.size ≤ w5.heap.size := by omega); (try have ham5 : w.heap.size < w5.heap.size + 2 := by omega))
              go_ret
              go_light
              exact ⟨rfl, by (repeat' (first | (with_reducible exact Below.refl _ _) | (with_reducible assumption) | (with_reducible refine Below.trans ?_ (Below.mono (by with_reducible assumption) ?_)) | (with_reducible refine Below.alloc ?_ ?_ _) | (with_reducible refine Below.setCell ?_ ?_ _) | (with_reducible refine below_drewN ?_ _) | (with_reducible refine Below.drew ?_) | go_size))⟩
            · have tf : decide (lo ≤ hi) = false := by simp; omega
              go_wp2_with (go_at_call 14; refine (known7 _).mono ?_; rintro e w5 ⟨rfl, hb5⟩; obtain ⟨hc5, hf5⟩ := bcell hb5; have hz5 := hb5.size; (try simp only [World.size_alloc, World.size_setCell, World.heap_drewN] at hb5 hc5 hf5 hz5); (try have ha05 : w.heap.size < w5.heap.size := by omega); (try have ha15 : w.heap.size + 1 < w5.heap.size := by omega); (try have ha25 : w.heap.size + 2 < w5.heap.size := by omega); (try have hal5 : w.heap.size ≤ w5.heap.size := by omega); (try have ham5 : w.heap.size < w5.heap.size + 2 := by omega))
              go_ret
              go_light
              exact ⟨rfl, by (repeat' (first | (with_reducible exact Below.refl _ _) | (with_reducible assumption) | (with_reducible refine Below.trans ?_ (Below.mono (by with_reducible assumption) ?_)) | (with_reducible refine Below.alloc ?_ ?_ _) | (with_reducible refine Below.setCell ?_ ?_ _) | (with_reducible refine below_drewN ?_ _) | (with_reducible refine Below.drew ?_) | go_size))⟩
            · have tf : (((m + 1 : Nat) : Int) == (m : Int)) = false := by simp; try omega
              have tf2 : ((m : Int) + 1 == (m : Int)) = false := by simp; try omega
              go_wp2_with (go_at_call 14; refine (known7 _).mono ?_; rintro e w5 ⟨rfl, hb5⟩; obtain ⟨hc5, hf5⟩ := bcell hb5; have hz5 := hb5.size; (try simp only [World.size_alloc, World.size_setCell, World.heap_drewN] at hb5 hc5 hf5 hz5); (try have ha05 : w.heap.size < w5.heap.size := by omega); (try have ha15 : w.heap.size + 1 < w5.heap.size := by omega); (try have ha25 : w.heap.size + 2 < w5.heap.size := by omega); (try have hal5 : w.heap.size ≤ w5.heap.size := by omega); (try have ham5 : w.heap.size < w5.heap.size + 2 := by omega))
              go_ret
              go_light
              exact ⟨rfl, by (repeat' (first | (with_reducible exact Below.refl _ _) | (with_reducible assumption) | (with_reducible refine Below.trans ?_ (Below.mono (by with_reducible assumption) ?_)) | (with_reducible refine Below.alloc ?_ ?_ _) | (with_reducible refine Below.setCell ?_ ?_ _) | (with_reducible refine below_drewN ?_ _) | (with_reducible refine Below.drew ?_) | go_size))⟩
      · go_simp
        (try dsimp only)
        refine hK.out _ _ ?_ (fun hHeld => ?_)
        · exact (G2.alloc (.cells #[.int .i64 0, .int .i64 0] 25)).held
        clear hK K
        (try simp only [Act.put, List.setIfInBounds_toArray, List.set_cons_zero, List.set_cons_succ, List.getElem_toArray, List.getElem_cons_succ, List.getElem_cons_zero])
        have G8 := G2.alloc (.cells #[.int .i64 0, .int .i64 0] 25)
        have O8 := POwn.alloc O2 (.cells #[.int .i64 0, .int .i64 0] 25)
        have P8 := P2.alloc (.cells #[.int .i64 0, .int .i64 0] 25)
        have N8 := Ints2.new W2 0 0 25
        have q8 : w.heap.size ≠ W2.heap.size := by have := G2.size; omega
        have zb8 : w.heap.size ≤ W2.heap.size := by have := G2.size; omega
        have nv8 : v1.ownBlock ≠ some W2.heap.size := fun e => by have := (World.ownsRow.lt O2 _ e).2; omega
        generalize hW8 : W2.alloc (.cells #[.int .i64 0, .int .i64 0] 25) = W8 at *
        clear hW8
        refine wpAnyH_ready (rs := [4]) (by kernel_rfl) (by simp) ?_
        refine AllReadyH.cons rfl (fun K hK => ?_) (AllReadyH.nil)
        · rw [if_pos (by rfl)]
          have hO9 : W8.ownsRow (w.heap.size + 1) 25 2 v1 n (cellsOf (zl (ivs z n)) (n * 2)) := by
            have := O8
            unfold POwn at this
            rwa [ivs_len] at this
          refine wp_append_lies _ _ _ _ (by rfl) (w.heap.size + 1) 25 i0 _ 2 16 Try.underlying22 hi0 hz0 hz1 hz2 rfl (by decide) v1 n _ (by rfl) hO9 ⟨W1.heap.size, 0, none⟩ 1 1 [.int .i64 lo, .int .i64 hi] (by rfl) (by rfl) P8.news (by simp [Value.oneCell']) (by omega) (by unfold maxLen; omega) (by omega) G8.size _ rfl ?_
          intro g9 cap9 W9 own9 hg9 hat9 hlt9
          have G9 := G8.grown O8 hg9
          have O9 : POwn (w.heap.size + 1) W9 (.slice (some ⟨g9, 0, none⟩) (n + 1) cap9) (ivs z n ++ [(lo, hi)]) := POwn.snoc (i := (lo, hi)) (by rw [ivs_len]; exact own9)
          have N9 := N8.grown hg9 (fun e => nv8 e.symm)
          (try dsimp only)
          refine hK.out _ _ ?_ (fun hHeld => ?_)
          · exact G9.held
          clear hK K
          (try simp only [Act.put, List.setIfInBounds_toArray, List.set_cons_zero, List.set_cons_succ, List.getElem_toArray, List.getElem_cons_succ, List.getElem_cons_zero])
          clear own9 hg9 hat9 hlt9 hO9
          refine wpAnyH_ready (rs := [5]) (by kernel_rfl) (by simp) ?_
          refine AllReadyH.cons rfl (fun K hK => ?_) (AllReadyH.nil)
          · go_simp
            obtain ⟨A10, c10, hs10, hf10⟩ := O9.flat HT.out
            rw [show (ivs z n ++ [(lo, hi)]).length = n + 1 from by rw [List.length_append, ivs_len]; rfl] at hs10
            obtain ⟨rfl, rfl⟩ : some ⟨g9, 0, none⟩ = A10 ∧ cap9 = c10 := by injection hs10 with h1 h2 h3; exact ⟨h1, h3⟩
            have CM10 := most_list (c := cap9) hf10 (by rw [List.length_append, ivs_len]; simp; omega)
            rw [show (ivs z n ++ [(lo, hi)]).length = n + 1 from by rw [List.length_append, ivs_len]; rfl] at CM10
            clear hs10 hf10
            (go_at_call 10; refine CM10.mono ?_; rintro e W10 ⟨a', b', m', rfl, hm', hb10⟩)
            have HS10 := most_snoc HM.out hm'
            have hml10 : m' ≤ n + 1 := by have := most_le hm'; rwa [List.length_append, ivs_len] at this
            have G10 := G9.call hb10
            have N10 := N9.below hb10 N9.lt
            (try dsimp only)
            refine hK.out _ _ ?_ (fun hHeld => ?_)
            · exact G10.held
            clear hK K
            (try simp only [Act.put, List.setIfInBounds_toArray, List.set_cons_zero, List.set_cons_succ, List.getElem_toArray, List.getElem_cons_succ, List.getElem_cons_zero])
            clear hb10 hm' CM10 O9
            refine wpAnyH_take (i := 6) (v := ?_) rfl (by kernel_rfl) (by kernel_rfl) (by kernel_rfl) (fun _ _ _ h => h) (Or.inl ⟨by rfl, ?_⟩) (by assumption) ?_
            rotate_left
            · intro w' hSw; (try dsimp only at hSw); go_simp; (try with_reducible rfl)
            (try simp only [Act.put, List.setIfInBounds_toArray, List.set_cons_zero, List.set_cons_succ, List.getElem_toArray, List.getElem_cons_succ, List.getElem_cons_zero])
            refine wpAnyH_take (i := 7) (v := ?_) rfl (by kernel_rfl) (by kernel_rfl) (by kernel_rfl) (fun _ _ _ h => h) (Or.inl ⟨by rfl, ?_⟩) (by assumption) ?_
            rotate_left
            · intro w' hSw; (try dsimp only at hSw); go_simp; (try with_reducible rfl)
            (try simp only [Act.put, List.setIfInBounds_toArray, List.set_cons_zero, List.set_cons_succ, List.getElem_toArray, List.getElem_cons_succ, List.getElem_cons_zero])
            refine wpAnyH_take (i := 8) (v := ?_) rfl (by kernel_rfl) (by kernel_rfl) (by kernel_rfl) (fun _ _ _ h => h) (Or.inl ⟨by rfl, ?_⟩) (by assumption) ?_
            rotate_left
            · intro w' hSw; (try dsimp only at hSw); go_simp; (try with_reducible rfl)
            (try simp only [Act.put, List.setIfInBounds_toArray, List.set_cons_zero, List.set_cons_succ, List.getElem_toArray, List.getElem_cons_succ, List.getElem_cons_zero])
            obtain ⟨n0, n1, nf0, nf1, nl⟩ := N10
            refine wpAnyH_ready (rs := [10]) (by kernel_rfl) (by simp) ?_
            refine AllReadyH.cons rfl (fun K hK => ?_) (AllReadyH.nil)
            go_simp
            (try dsimp only)
            refine hK.out _ _ ?_ (fun hHeld => ?_)
            · exact ⟨((G10.box.other (p := ⟨W2.heap.size, 0, none⟩) (by simp; omega) _).other (p := ⟨W2.heap.size, 1, none⟩) (by simp; omega) _).c0, ((G10.box.other (p := ⟨W2.heap.size, 0, none⟩) (by simp; omega) _).other (p := ⟨W2.heap.size, 1, none⟩) (by simp; omega) _).c1⟩
            clear hK K
            (try simp only [Act.put, List.setIfInBounds_toArray, List.set_cons_zero, List.set_cons_succ, List.getElem_toArray, List.getElem_cons_succ, List.getElem_cons_zero])
            refine wpAnyH_take (i := 11) (v := ?_) rfl (by kernel_rfl) (by kernel_rfl) (by kernel_rfl) (fun _ _ _ h => h) (Or.inl ⟨by rfl, ?_⟩) (by assumption) ?_
            rotate_left
            · intro w' hSw; (try dsimp only at hSw); go_simp; (try with_reducible rfl)
            (try simp only [Act.put, List.setIfInBounds_toArray, List.set_cons_zero, List.set_cons_succ, List.getElem_toArray, List.getElem_cons_succ, List.getElem_cons_zero])
            refine wpAnyH_done (by kernel_rfl) ?_ _
            have hb9 : w.heap.size ≤ W2.heap.size := zb8
            obtain ⟨y0, y1, f0, f1, l3⟩ := G10.box
            have HBn := G10.hb
            have zn := HBn.size
            have hcase : ((m' = m ∧ lo ≤ hi) ∨ (m' = m ∧ hi < lo)) ∨ (m' = m + 1 ∧ lo ≤ hi) := by have h1 := HS10.1; have h2 := HS10.2; simp only at h2; omega
            have hm3 : m' ≤ 201 := by omega
            clear HS10 hml10 HM HT CO n0 n1 nf0 nf1 G10
            rcases hcase with (⟨rfl, hc⟩ | ⟨rfl, hc⟩) | ⟨rfl, hc⟩
            · go_wp2_with (go_at_call 14; refine (known7 _).mono ?_; rintro e w5 ⟨rfl, hb5⟩; obtain ⟨hc5, hf5⟩ := bcell hb5; have hz5 := hb5.size; (try simp only [World.size_alloc, World.size_setCell, World.heap_drewN] at hb5 hc5 hf5 hz5); (try have ha05 : w.heap.size < w5.heap.size := by omega); (try have ha15 : w.heap.size + 1 < w5.heap.size := by omega); (try have ha25 : w.heap.size + 2 < w5.heap.size := by omega); (try have hal5 : w.heap.size ≤ w5.heap.size := by omega); (try have ham5 : w.heap.size < w5.heap.size + 2 := by omega))
              go_ret
              go_light
              exact ⟨rfl, by (repeat' (first | (with_reducible exact Below.refl _ _) | (with_reducible assumption) | (with_reducible refine Below.trans ?_ (Below.mono (by with_reducible assumption) ?_)) | (with_reducible refine Below.alloc ?_ ?_ _) | (with_reducible refine Below.setCell ?_ ?_ _) | (with_reducible refine below_drewN ?_ _) | (with_reducible refine Below.drew ?_) | go_size))⟩
            · have tf : decide (lo ≤ hi) = false := by simp; omega
              go_wp2_with (go_at_call 14; refine (known7 _).mono ?_; rintro e w5 ⟨rfl, hb5⟩; obtain ⟨hc5, hf5⟩ := bcell hb5; have hz5 := hb5.size; (try simp only [World.size_alloc, World.size_setCell, World.heap_drewN] at hb5 hc5 hf5 hz5); (try have ha05 : w.heap.size < w5.heap.size := by omega); (try have ha15 : w.heap.size + 1 < w5.heap.size := by omega); (try have ha25 : w.heap.size + 2 < w5.heap.size := by omega); (try have hal5 : w.heap.size ≤ w5.heap.size := by omega); (try have ham5 : w.heap.size < w5.heap.size + 2 := by omega))
              go_ret
              go_light
              exact ⟨rfl, by (repeat' (first | (with_reducible exact Below.refl _ _) | (with_reducible assumption) | (with_reducible refine Below.trans ?_ (Below.mono (by with_reducible assumption) ?_)) | (with_reducible refine Below.alloc ?_ ?_ _) | (with_reducible refine Below.setCell ?_ ?_ _) | (with_reducible refine below_drewN ?_ _) | (with_reducible refine Below.drew ?_) | go_size))⟩
            · have tf : (((m + 1 : Nat) : Int) == (m : Int)) = false := by simp; try omega
              have tf2 : ((m : Int) + 1 == (m : Int)) = false := by simp; try omega
              go_wp2_with (go_at_call 14; refine (known7 _).mono ?_; rintro e w5 ⟨rfl, hb5⟩; obtain ⟨hc5, hf5⟩ := bcell hb5; have hz5 := hb5.size; (try simp only [World.size_alloc, World.size_setCell, World.heap_drewN] at hb5 hc5 hf5 hz5); (try have ha05 : w.heap.size < w5.heap.size := by omega); (try have ha15 : w.heap.size + 1 < w5.heap.size := by omega); (try have ha25 : w.heap.size + 2 < w5.heap.size := by omega); (try have hal5 : w.heap.size ≤ w5.heap.size := by omega); (try have ham5 : w.heap.size < w5.heap.size + 2 := by omega))
              go_ret
              go_light
              exact ⟨rfl, by (repeat' (first | (with_reducible exact Below.refl _ _) | (with_reducible assumption) | (with_reducible refine Below.trans ?_ (Below.mono (by with_reducible assumption) ?_)) | (with_reducible refine Below.alloc ?_ ?_ _) | (with_reducible refine Below.setCell ?_ ?_ _) | (with_reducible refine below_drewN ?_ _) | (with_reducible refine Below.drew ?_) | go_size))⟩
    · go_simp
      (try dsimp only)
      refine hK.out _ _ ?_ (fun hHeld => ?_)
      · exact (G1.alloc (.cells #[.int .i64 0, .int .i64 0] 25)).held
      clear hK K
      (try simp only [Act.put, List.setIfInBounds_toArray, List.set_cons_zero, List.set_cons_succ, List.getElem_toArray, List.getElem_cons_succ, List.getElem_cons_zero])
      have G11 := G1.alloc (.cells #[.int .i64 0, .int .i64 0] 25)
      have O11 := POwn.alloc O1 (.cells #[.int .i64 0, .int .i64 0] 25)
      have N11 := Ints2.new W1 0 0 25
      have q11 : w.heap.size ≠ W1.heap.size := by have := G1.size; omega
      have zb11 : w.heap.size ≤ W1.heap.size := by have := G1.size; omega
      have nv11 : v1.ownBlock ≠ some W1.heap.size := fun e => by have := (World.ownsRow.lt O1 _ e).2; omega
      generalize hW11 : W1.alloc (.cells #[.int .i64 0, .int .i64 0] 25) = W11 at *
      clear hW11
      refine wpAnyH_ready (rs := [3]) (by kernel_rfl) (by simp) ?_
      refine AllReadyH.cons rfl (fun K hK => ?_) (AllReadyH.nil)
      · go_simp
        (try dsimp only)
        refine hK.out _ _ ?_ (fun hHeld => ?_)
        · exact (G11.alloc (.cells #[.int .i64 lo, .int .i64 hi] 25)).held
        clear hK K
        (try simp only [Act.put, List.setIfInBounds_toArray, List.set_cons_zero, List.set_cons_succ, List.getElem_toArray, List.getElem_cons_succ, List.getElem_cons_zero])
        have G12 := G11.alloc (.cells #[.int .i64 lo, .int .i64 hi] 25)
        have O12 := POwn.alloc O11 (.cells #[.int .i64 lo, .int .i64 hi] 25)
        have N12 := N11.alloc (.cells #[.int .i64 lo, .int .i64 hi] 25)
        have P12 := PN.new W11 lo hi 25
        generalize hW12 : W11.alloc (.cells #[.int .i64 lo, .int .i64 hi] 25) = W12 at *
        clear hW12
        refine wpAnyH_ready (rs := [4]) (by kernel_rfl) (by simp) ?_
        refine AllReadyH.cons rfl (fun K hK => ?_) (AllReadyH.nil)
        · rw [if_pos (by rfl)]
          have hO13 : W12.ownsRow (w.heap.size + 1) 25 2 v1 n (cellsOf (zl (ivs z n)) (n * 2)) := by
            have := O12
            unfold POwn at this
            rwa [ivs_len] at this
          refine wp_append_lies _ _ _ _ (by rfl) (w.heap.size + 1) 25 i0 _ 2 16 Try.underlying22 hi0 hz0 hz1 hz2 rfl (by decide) v1 n _ (by rfl) hO13 ⟨W11.heap.size, 0, none⟩ 1 1 [.int .i64 lo, .int .i64 hi] (by rfl) (by rfl) P12.news (by simp [Value.oneCell']) (by omega) (by unfold maxLen; omega) (by omega) G12.size _ rfl ?_
          intro g13 cap13 W13 own13 hg13 hat13 hlt13
          have G13 := G12.grown O12 hg13
          have O13 : POwn (w.heap.size + 1) W13 (.slice (some ⟨g13, 0, none⟩) (n + 1) cap13) (ivs z n ++ [(lo, hi)]) := POwn.snoc (i := (lo, hi)) (by rw [ivs_len]; exact own13)
          have N13 := N12.grown hg13 (fun e => nv11 e.symm)
          (try dsimp only)
          refine hK.out _ _ ?_ (fun hHeld => ?_)
          · exact G13.held
          clear hK K
          (try simp only [Act.put, List.setIfInBounds_toArray, List.set_cons_zero, List.set_cons_succ, List.getElem_toArray, List.getElem_cons_succ, List.getElem_cons_zero])
          clear own13 hg13 hat13 hlt13 hO13
          refine wpAnyH_ready (rs := [5]) (by kernel_rfl) (by simp) ?_
          refine AllReadyH.cons rfl (fun K hK => ?_) (AllReadyH.nil)
          · go_simp
            obtain ⟨A14, c14, hs14, hf14⟩ := O13.flat HT.out
            rw [show (ivs z n ++ [(lo, hi)]).length = n + 1 from by rw [List.length_append, ivs_len]; rfl] at hs14
            obtain ⟨rfl, rfl⟩ : some ⟨g13, 0, none⟩ = A14 ∧ cap13 = c14 := by injection hs14 with h1 h2 h3; exact ⟨h1, h3⟩
            have CM14 := most_list (c := cap13) hf14 (by rw [List.length_append, ivs_len]; simp; omega)
            rw [show (ivs z n ++ [(lo, hi)]).length = n + 1 from by rw [List.length_append, ivs_len]; rfl] at CM14
            clear hs14 hf14
            (go_at_call 10; refine CM14.mono ?_; rintro e W14 ⟨a', b', m', rfl, hm', hb14⟩)
            have HS14 := most_snoc HM.out hm'
            have hml14 : m' ≤ n + 1 := by have := most_le hm'; rwa [List.length_append, ivs_len] at this
            have G14 := G13.call hb14
            have N14 := N13.below hb14 N13.lt
            (try dsimp only)
            refine hK.out _ _ ?_ (fun hHeld => ?_)
            · exact G14.held
            clear hK K
            (try simp only [Act.put, List.setIfInBounds_toArray, List.set_cons_zero, List.set_cons_succ, List.getElem_toArray, List.getElem_cons_succ, List.getElem_cons_zero])
            clear hb14 hm' CM14 O13
            refine wpAnyH_take (i := 6) (v := ?_) rfl (by kernel_rfl) (by kernel_rfl) (by kernel_rfl) (fun _ _ _ h => h) (Or.inl ⟨by rfl, ?_⟩) (by assumption) ?_
            rotate_left
            · intro w' hSw; (try dsimp only at hSw); go_simp; (try with_reducible rfl)
            (try simp only [Act.put, List.setIfInBounds_toArray, List.set_cons_zero, List.set_cons_succ, List.getElem_toArray, List.getElem_cons_succ, List.getElem_cons_zero])
            refine wpAnyH_take (i := 7) (v := ?_) rfl (by kernel_rfl) (by kernel_rfl) (by kernel_rfl) (fun _ _ _ h => h) (Or.inl ⟨by rfl, ?_⟩) (by assumption) ?_
            rotate_left
            · intro w' hSw; (try dsimp only at hSw); go_simp; (try with_reducible rfl)
            (try simp only [Act.put, List.setIfInBounds_toArray, List.set_cons_zero, List.set_cons_succ, List.getElem_toArray, List.getElem_cons_succ, List.getElem_cons_zero])
            refine wpAnyH_take (i := 8) (v := ?_) rfl (by kernel_rfl) (by kernel_rfl) (by kernel_rfl) (fun _ _ _ h => h) (Or.inl ⟨by rfl, ?_⟩) (by assumption) ?_
            rotate_left
            · intro w' hSw; (try dsimp only at hSw); go_simp; (try with_reducible rfl)
            (try simp only [Act.put, List.setIfInBounds_toArray, List.set_cons_zero, List.set_cons_succ, List.getElem_toArray, List.getElem_cons_succ, List.getElem_cons_zero])
            obtain ⟨n0, n1, nf0, nf1, nl⟩ := N14
            refine wpAnyH_ready (rs := [10]) (by kernel_rfl) (by simp) ?_
            refine AllReadyH.cons rfl (fun K hK => ?_) (AllReadyH.nil)
            go_simp
            (try dsimp only)
            refine hK.out _ _ ?_ (fun hHeld => ?_)
            · exact ⟨((G14.box.other (p := ⟨W1.heap.size, 0, none⟩) (by simp; omega) _).other (p := ⟨W1.heap.size, 1, none⟩) (by simp; omega) _).c0, ((G14.box.other (p := ⟨W1.heap.size, 0, none⟩) (by simp; omega) _).other (p := ⟨W1.heap.size, 1, none⟩) (by simp; omega) _).c1⟩
            clear hK K
            (try simp only [Act.put, List.setIfInBounds_toArray, List.set_cons_zero, List.set_cons_succ, List.getElem_toArray, List.getElem_cons_succ, List.getElem_cons_zero])
            refine wpAnyH_take (i := 11) (v := ?_) rfl (by kernel_rfl) (by kernel_rfl) (by kernel_rfl) (fun _ _ _ h => h) (Or.inl ⟨by rfl, ?_⟩) (by assumption) ?_
            rotate_left
            · intro w' hSw; (try dsimp only at hSw); go_simp; (try with_reducible rfl)
            (try simp only [Act.put, List.setIfInBounds_toArray, List.set_cons_zero, List.set_cons_succ, List.getElem_toArray, List.getElem_cons_succ, List.getElem_cons_zero])
            refine wpAnyH_done (by kernel_rfl) ?_ _
            have hb9 : w.heap.size ≤ W1.heap.size := zb11
            obtain ⟨y0, y1, f0, f1, l3⟩ := G14.box
            have HBn := G14.hb
            have zn := HBn.size
            have hcase : ((m' = m ∧ lo ≤ hi) ∨ (m' = m ∧ hi < lo)) ∨ (m' = m + 1 ∧ lo ≤ hi) := by have h1 := HS14.1; have h2 := HS14.2; simp only at h2; omega
            have hm3 : m' ≤ 201 := by omega
            clear HS14 hml14 HM HT CO n0 n1 nf0 nf1 G14
            rcases hcase with (⟨rfl, hc⟩ | ⟨rfl, hc⟩) | ⟨rfl, hc⟩
            · go_wp2_with (go_at_call 14; refine (known7 _).mono ?_; rintro e w5 ⟨rfl, hb5⟩; obtain ⟨hc5, hf5⟩ := bcell hb5; have hz5 := hb5.size; (try simp only [World.size_alloc, World.size_setCell, World.heap_drewN] at hb5 hc5 hf5 hz5); (try have ha05 : w.heap.size < w5.heap.size := by omega); (try have ha15 : w.heap.size + 1 < w5.heap.size := by omega); (try have ha25 : w.heap.size + 2 < w5.heap.size := by omega); (try have hal5 : w.heap.size ≤ w5.heap.size := by omega); (try have ham5 : w.heap.size < w5.heap.size + 2 := by omega))
              go_ret
              go_light
              exact ⟨rfl, by (repeat' (first | (with_reducible exact Below.refl _ _) | (with_reducible assumption) | (with_reducible refine Below.trans ?_ (Below.mono (by with_reducible assumption) ?_)) | (with_reducible refine Below.alloc ?_ ?_ _) | (with_reducible refine Below.setCell ?_ ?_ _) | (with_reducible refine below_drewN ?_ _) | (with_reducible refine Below.drew ?_) | go_size))⟩
            · have tf : decide (lo ≤ hi) = false := by simp; omega
              go_wp2_with (go_at_call 14; refine (known7 _).mono ?_; rintro e w5 ⟨rfl, hb5⟩; obtain ⟨hc5, hf5⟩ := bcell hb5; have hz5 := hb5.size; (try simp only [World.size_alloc, World.size_setCell, World.heap_drewN] at hb5 hc5 hf5 hz5); (try have ha05 : w.heap.size < w5.heap.size := by omega); (try have ha15 : w.heap.size + 1 < w5.heap.size := by omega); (try have ha25 : w.heap.size + 2 < w5.heap.size := by omega); (try have hal5 : w.heap.size ≤ w5.heap.size := by omega); (try have ham5 : w.heap.size < w5.heap.size + 2 := by omega))
              go_ret
              go_light
              exact ⟨rfl, by (repeat' (first | (with_reducible exact Below.refl _ _) | (with_reducible assumption) | (with_reducible refine Below.trans ?_ (Below.mono (by with_reducible assumption) ?_)) | (with_reducible refine Below.alloc ?_ ?_ _) | (with_reducible refine Below.setCell ?_ ?_ _) | (with_reducible refine below_drewN ?_ _) | (with_reducible refine Below.drew ?_) | go_size))⟩
            · have tf : (((m + 1 : Nat) : Int) == (m : Int)) = false := by simp; try omega
              have tf2 : ((m : Int) + 1 == (m : Int)) = false := by simp; try omega
              go_wp2_with (go_at_call 14; refine (known7 _).mono ?_; rintro e w5 ⟨rfl, hb5⟩; obtain ⟨hc5, hf5⟩ := bcell hb5; have hz5 := hb5.size; (try simp only [World.size_alloc, World.size_setCell, World.heap_drewN] at hb5 hc5 hf5 hz5); (try have ha05 : w.heap.size < w5.heap.size := by omega); (try have ha15 : w.heap.size + 1 < w5.heap.size := by omega); (try have ha25 : w.heap.size + 2 < w5.heap.size := by omega); (try have hal5 : w.heap.size ≤ w5.heap.size := by omega); (try have ham5 : w.heap.size < w5.heap.size + 2 := by omega))
              go_ret
              go_light
              exact ⟨rfl, by (repeat' (first | (with_reducible exact Below.refl _ _) | (with_reducible assumption) | (with_reducible refine Below.trans ?_ (Below.mono (by with_reducible assumption) ?_)) | (with_reducible refine Below.alloc ?_ ?_ _) | (with_reducible refine Below.setCell ?_ ?_ _) | (with_reducible refine below_drewN ?_ _) | (with_reducible refine Below.drew ?_) | go_size))⟩
  · go_simp
    (try dsimp only)
    refine hK.out _ _ ?_ (fun hHeld => ?_)
    · exact (G0.alloc (.cells #[.int .i64 lo, .int .i64 hi] 25)).held
    clear hK K
    (try simp only [Act.put, List.setIfInBounds_toArray, List.set_cons_zero, List.set_cons_succ, List.getElem_toArray, List.getElem_cons_succ, List.getElem_cons_zero])
    have G15 := G0.alloc (.cells #[.int .i64 lo, .int .i64 hi] 25)
    have P15 := PN.new W0 lo hi 25
    generalize hW15 : W0.alloc (.cells #[.int .i64 lo, .int .i64 hi] 25) = W15 at *
    clear hW15
    refine wpAnyH_ready (rs := [1, 9]) (by kernel_rfl) (by simp) ?_
    refine AllReadyH.cons rfl (fun K hK => ?_) (AllReadyH.cons rfl (fun K hK => ?_) (AllReadyH.nil))
    · go_simp
      (go_at_call 9; refine (CO.out W15 G15.hb).mono ?_; rintro e W16 ⟨v16, rfl, hO16, hb16⟩)
      have G16 := G15.call hb16
      have O16 := hO16.mono G15.size
      have P16 := P15.call hb16
      (try dsimp only)
      refine hK.out _ _ ?_ (fun hHeld => ?_)
      · exact G16.held
      clear hK K
      (try simp only [Act.put, List.setIfInBounds_toArray, List.set_cons_zero, List.set_cons_succ, List.getElem_toArray, List.getElem_cons_succ, List.getElem_cons_zero])
      clear hO16 hb16
      refine wpAnyH_ready (rs := [4, 9]) (by kernel_rfl) (by simp) ?_
      refine AllReadyH.cons rfl (fun K hK => ?_) (AllReadyH.cons rfl (fun K hK => ?_) (AllReadyH.nil))
      · rw [if_pos (by rfl)]
        have hO17 : W16.ownsRow (w.heap.size + 1) 25 2 v16 n (cellsOf (zl (ivs z n)) (n * 2)) := by
          have := O16
          unfold POwn at this
          rwa [ivs_len] at this
        refine wp_append_lies _ _ _ _ (by rfl) (w.heap.size + 1) 25 i0 _ 2 16 Try.underlying22 hi0 hz0 hz1 hz2 rfl (by decide) v16 n _ (by rfl) hO17 ⟨W0.heap.size, 0, none⟩ 1 1 [.int .i64 lo, .int .i64 hi] (by rfl) (by rfl) P16.news (by simp [Value.oneCell']) (by omega) (by unfold maxLen; omega) (by omega) G16.size _ rfl ?_
        intro g17 cap17 W17 own17 hg17 hat17 hlt17
        have G17 := G16.grown O16 hg17
        have O17 : POwn (w.heap.size + 1) W17 (.slice (some ⟨g17, 0, none⟩) (n + 1) cap17) (ivs z n ++ [(lo, hi)]) := POwn.snoc (i := (lo, hi)) (by rw [ivs_len]; exact own17)
        (try dsimp only)
        refine hK.out _ _ ?_ (fun hHeld => ?_)
        · exact G17.held
        clear hK K
        (try simp only [Act.put, List.setIfInBounds_toArray, List.set_cons_zero, List.set_cons_succ, List.getElem_toArray, List.getElem_cons_succ, List.getElem_cons_zero])
        clear own17 hg17 hat17 hlt17 hO17
        refine wpAnyH_ready (rs := [5, 9]) (by kernel_rfl) (by simp) ?_
        refine AllReadyH.cons rfl (fun K hK => ?_) (AllReadyH.cons rfl (fun K hK => ?_) (AllReadyH.nil))
        · go_simp
          obtain ⟨A18, c18, hs18, hf18⟩ := O17.flat HT.out
          rw [show (ivs z n ++ [(lo, hi)]).length = n + 1 from by rw [List.length_append, ivs_len]; rfl] at hs18
          obtain ⟨rfl, rfl⟩ : some ⟨g17, 0, none⟩ = A18 ∧ cap17 = c18 := by injection hs18 with h1 h2 h3; exact ⟨h1, h3⟩
          have CM18 := most_list (c := cap17) hf18 (by rw [List.length_append, ivs_len]; simp; omega)
          rw [show (ivs z n ++ [(lo, hi)]).length = n + 1 from by rw [List.length_append, ivs_len]; rfl] at CM18
          clear hs18 hf18
          (go_at_call 10; refine CM18.mono ?_; rintro e W18 ⟨a', b', m', rfl, hm', hb18⟩)
          have HS18 := most_snoc HM.out hm'
          have hml18 : m' ≤ n + 1 := by have := most_le hm'; rwa [List.length_append, ivs_len] at this
          have G18 := G17.call hb18
          (try dsimp only)
          refine hK.out _ _ ?_ (fun hHeld => ?_)
          · exact G18.held
          clear hK K
          (try simp only [Act.put, List.setIfInBounds_toArray, List.set_cons_zero, List.set_cons_succ, List.getElem_toArray, List.getElem_cons_succ, List.getElem_cons_zero])
          clear hb18 hm' CM18 O17
          refine wpAnyH_take (i := 6) (v := ?_) rfl (by kernel_rfl) (by kernel_rfl) (by kernel_rfl) (fun _ _ _ h => h) (Or.inl ⟨by rfl, ?_⟩) (by assumption) ?_
          rotate_left
          · intro w' hSw; (try dsimp only at hSw); go_simp; (try with_reducible rfl)
          (try simp only [Act.put, List.setIfInBounds_toArray, List.set_cons_zero, List.set_cons_succ, List.getElem_toArray, List.getElem_cons_succ, List.getElem_cons_zero])
          refine wpAnyH_take (i := 7) (v := ?_) rfl (by kernel_rfl) (by kernel_rfl) (by kernel_rfl) (fun _ _ _ h => h) (Or.inl ⟨by rfl, ?_⟩) (by assumption) ?_
          rotate_left
          · intro w' hSw; (try dsimp only at hSw); go_simp; (try with_reducible rfl)
          (try simp only [Act.put, List.setIfInBounds_toArray, List.set_cons_zero, List.set_cons_succ, List.getElem_toArray, List.getElem_cons_succ, List.getElem_cons_zero])
          refine wpAnyH_take (i := 8) (v := ?_) rfl (by kernel_rfl) (by kernel_rfl) (by kernel_rfl) (fun _ _ _ h => h) (Or.inl ⟨by rfl, ?_⟩) (by assumption) ?_
          rotate_left
          · intro w' hSw; (try dsimp only at hSw); go_simp; (try with_reducible rfl)
          (try simp only [Act.put, List.setIfInBounds_toArray, List.set_cons_zero, List.set_cons_succ, List.getElem_toArray, List.getElem_cons_succ, List.getElem_cons_zero])
          refine wpAnyH_ready (rs := [9]) (by kernel_rfl) (by simp) ?_
          refine AllReadyH.cons rfl (fun K hK => ?_) (AllReadyH.nil)
          · go_simp
            (try dsimp only)
            refine hK.out _ _ ?_ (fun hHeld => ?_)
            · exact (G18.alloc (.cells #[.int .i64 0, .int .i64 0] 25)).held
            clear hK K
            (try simp only [Act.put, List.setIfInBounds_toArray, List.set_cons_zero, List.set_cons_succ, List.getElem_toArray, List.getElem_cons_succ, List.getElem_cons_zero])
            have G19 := G18.alloc (.cells #[.int .i64 0, .int .i64 0] 25)
            have N19 := Ints2.new W18 0 0 25
            have q19 : w.heap.size ≠ W18.heap.size := by have := G18.size; omega
            have zb19 : w.heap.size ≤ W18.heap.size := by have := G18.size; omega
            generalize hW19 : W18.alloc (.cells #[.int .i64 0, .int .i64 0] 25) = W19 at *
            clear hW19
            obtain ⟨n0, n1, nf0, nf1, nl⟩ := N19
            refine wpAnyH_ready (rs := [10]) (by kernel_rfl) (by simp) ?_
            refine AllReadyH.cons rfl (fun K hK => ?_) (AllReadyH.nil)
            go_simp
            (try dsimp only)
            refine hK.out _ _ ?_ (fun hHeld => ?_)
            · exact ⟨((G19.box.other (p := ⟨W18.heap.size, 0, none⟩) (by simp; omega) _).other (p := ⟨W18.heap.size, 1, none⟩) (by simp; omega) _).c0, ((G19.box.other (p := ⟨W18.heap.size, 0, none⟩) (by simp; omega) _).other (p := ⟨W18.heap.size, 1, none⟩) (by simp; omega) _).c1⟩
            clear hK K
            (try simp only [Act.put, List.setIfInBounds_toArray, List.set_cons_zero, List.set_cons_succ, List.getElem_toArray, List.getElem_cons_succ, List.getElem_cons_zero])
            refine wpAnyH_take (i := 11) (v := ?_) rfl (by kernel_rfl) (by kernel_rfl) (by kernel_rfl) (fun _ _ _ h => h) (Or.inl ⟨by rfl, ?_⟩) (by assumption) ?_
            rotate_left
            · intro w' hSw; (try dsimp only at hSw); go_simp; (try with_reducible rfl)
            (try simp only [Act.put, List.setIfInBounds_toArray, List.set_cons_zero, List.set_cons_succ, List.getElem_toArray, List.getElem_cons_succ, List.getElem_cons_zero])
            refine wpAnyH_done (by kernel_rfl) ?_ _
            have hb9 : w.heap.size ≤ W18.heap.size := zb19
            obtain ⟨y0, y1, f0, f1, l3⟩ := G19.box
            have HBn := G19.hb
            have zn := HBn.size
            have hcase : ((m' = m ∧ lo ≤ hi) ∨ (m' = m ∧ hi < lo)) ∨ (m' = m + 1 ∧ lo ≤ hi) := by have h1 := HS18.1; have h2 := HS18.2; simp only at h2; omega
            have hm3 : m' ≤ 201 := by omega
            clear HS18 hml18 HM HT CO n0 n1 nf0 nf1 G19
            rcases hcase with (⟨rfl, hc⟩ | ⟨rfl, hc⟩) | ⟨rfl, hc⟩
            · go_wp2_with (go_at_call 14; refine (known7 _).mono ?_; rintro e w5 ⟨rfl, hb5⟩; obtain ⟨hc5, hf5⟩ := bcell hb5; have hz5 := hb5.size; (try simp only [World.size_alloc, World.size_setCell, World.heap_drewN] at hb5 hc5 hf5 hz5); (try have ha05 : w.heap.size < w5.heap.size := by omega); (try have ha15 : w.heap.size + 1 < w5.heap.size := by omega); (try have ha25 : w.heap.size + 2 < w5.heap.size := by omega); (try have hal5 : w.heap.size ≤ w5.heap.size := by omega); (try have ham5 : w.heap.size < w5.heap.size + 2 := by omega))
              go_ret
              go_light
              exact ⟨rfl, by (repeat' (first | (with_reducible exact Below.refl _ _) | (with_reducible assumption) | (with_reducible refine Below.trans ?_ (Below.mono (by with_reducible assumption) ?_)) | (with_reducible refine Below.alloc ?_ ?_ _) | (with_reducible refine Below.setCell ?_ ?_ _) | (with_reducible refine below_drewN ?_ _) | (with_reducible refine Below.drew ?_) | go_size))⟩
            · have tf : decide (lo ≤ hi) = false := by simp; omega
              go_wp2_with (go_at_call 14; refine (known7 _).mono ?_; rintro e w5 ⟨rfl, hb5⟩; obtain ⟨hc5, hf5⟩ := bcell hb5; have hz5 := hb5.size; (try simp only [World.size_alloc, World.size_setCell, World.heap_drewN] at hb5 hc5 hf5 hz5); (try have ha05 : w.heap.size < w5.heap.size := by omega); (try have ha15 : w.heap.size + 1 < w5.heap.size := by omega); (try have ha25 : w.heap.size + 2 < w5.heap.size := by omega); (try have hal5 : w.heap.size ≤ w5.heap.size := by omega); (try have ham5 : w.heap.size < w5.heap.size + 2 := by omega))
              go_ret
              go_light
              exact ⟨rfl, by (repeat' (first | (with_reducible exact Below.refl _ _) | (with_reducible assumption) | (with_reducible refine Below.trans ?_ (Below.mono (by with_reducible assumption) ?_)) | (with_reducible refine Below.alloc ?_ ?_ _) | (with_reducible refine Below.setCell ?_ ?_ _) | (with_reducible refine below_drewN ?_ _) | (with_reducible refine Below.drew ?_) | go_size))⟩
            · have tf : (((m + 1 : Nat) : Int) == (m : Int)) = false := by simp; try omega
              have tf2 : ((m : Int) + 1 == (m : Int)) = false := by simp; try omega
              go_wp2_with (go_at_call 14; refine (known7 _).mono ?_; rintro e w5 ⟨rfl, hb5⟩; obtain ⟨hc5, hf5⟩ := bcell hb5; have hz5 := hb5.size; (try simp only [World.size_alloc, World.size_setCell, World.heap_drewN] at hb5 hc5 hf5 hz5); (try have ha05 : w.heap.size < w5.heap.size := by omega); (try have ha15 : w.heap.size + 1 < w5.heap.size := by omega); (try have ha25 : w.heap.size + 2 < w5.heap.size := by omega); (try have hal5 : w.heap.size ≤ w5.heap.size := by omega); (try have ham5 : w.heap.size < w5.heap.size + 2 := by omega))
              go_ret
              go_light
              exact ⟨rfl, by (repeat' (first | (with_reducible exact Below.refl _ _) | (with_reducible assumption) | (with_reducible refine Below.trans ?_ (Below.mono (by with_reducible assumption) ?_)) | (with_reducible refine Below.alloc ?_ ?_ _) | (with_reducible refine Below.setCell ?_ ?_ _) | (with_reducible refine below_drewN ?_ _) | (with_reducible refine Below.drew ?_) | go_size))⟩
        · go_simp
          (try dsimp only)
          refine hK.out _ _ ?_ (fun hHeld => ?_)
          · exact (G17.alloc (.cells #[.int .i64 0, .int .i64 0] 25)).held
          clear hK K
          (try simp only [Act.put, List.setIfInBounds_toArray, List.set_cons_zero, List.set_cons_succ, List.getElem_toArray, List.getElem_cons_succ, List.getElem_cons_zero])
          have G20 := G17.alloc (.cells #[.int .i64 0, .int .i64 0] 25)
          have O20 := POwn.alloc O17 (.cells #[.int .i64 0, .int .i64 0] 25)
          have N20 := Ints2.new W17 0 0 25
          have q20 : w.heap.size ≠ W17.heap.size := by have := G17.size; omega
          have zb20 : w.heap.size ≤ W17.heap.size := by have := G17.size; omega
          have nv20 : (Value.slice (some ⟨g17, 0, none⟩) (n + 1) cap17).ownBlock ≠ some W17.heap.size := fun e => by have := (World.ownsRow.lt O17 _ e).2; omega
          generalize hW20 : W17.alloc (.cells #[.int .i64 0, .int .i64 0] 25) = W20 at *
          clear hW20
          refine wpAnyH_ready (rs := [5]) (by kernel_rfl) (by simp) ?_
          refine AllReadyH.cons rfl (fun K hK => ?_) (AllReadyH.nil)
          · go_simp
            obtain ⟨A21, c21, hs21, hf21⟩ := O20.flat HT.out
            rw [show (ivs z n ++ [(lo, hi)]).length = n + 1 from by rw [List.length_append, ivs_len]; rfl] at hs21
            obtain ⟨rfl, rfl⟩ : some ⟨g17, 0, none⟩ = A21 ∧ cap17 = c21 := by injection hs21 with h1 h2 h3; exact ⟨h1, h3⟩
            have CM21 := most_list (c := cap17) hf21 (by rw [List.length_append, ivs_len]; simp; omega)
            rw [show (ivs z n ++ [(lo, hi)]).length = n + 1 from by rw [List.length_append, ivs_len]; rfl] at CM21
            clear hs21 hf21
            (go_at_call 10; refine CM21.mono ?_; rintro e W21 ⟨a', b', m', rfl, hm', hb21⟩)
            have HS21 := most_snoc HM.out hm'
            have hml21 : m' ≤ n + 1 := by have := most_le hm'; rwa [List.length_append, ivs_len] at this
            have G21 := G20.call hb21
            have N21 := N20.below hb21 N20.lt
            (try dsimp only)
            refine hK.out _ _ ?_ (fun hHeld => ?_)
            · exact G21.held
            clear hK K
            (try simp only [Act.put, List.setIfInBounds_toArray, List.set_cons_zero, List.set_cons_succ, List.getElem_toArray, List.getElem_cons_succ, List.getElem_cons_zero])
            clear hb21 hm' CM21 O20
            refine wpAnyH_take (i := 6) (v := ?_) rfl (by kernel_rfl) (by kernel_rfl) (by kernel_rfl) (fun _ _ _ h => h) (Or.inl ⟨by rfl, ?_⟩) (by assumption) ?_
            rotate_left
            · intro w' hSw; (try dsimp only at hSw); go_simp; (try with_reducible rfl)
            (try simp only [Act.put, List.setIfInBounds_toArray, List.set_cons_zero, List.set_cons_succ, List.getElem_toArray, List.getElem_cons_succ, List.getElem_cons_zero])
            refine wpAnyH_take (i := 7) (v := ?_) rfl (by kernel_rfl) (by kernel_rfl) (by kernel_rfl) (fun _ _ _ h => h) (Or.inl ⟨by rfl, ?_⟩) (by assumption) ?_
            rotate_left
            · intro w' hSw; (try dsimp only at hSw); go_simp; (try with_reducible rfl)
            (try simp only [Act.put, List.setIfInBounds_toArray, List.set_cons_zero, List.set_cons_succ, List.getElem_toArray, List.getElem_cons_succ, List.getElem_cons_zero])
            refine wpAnyH_take (i := 8) (v := ?_) rfl (by kernel_rfl) (by kernel_rfl) (by kernel_rfl) (fun _ _ _ h => h) (Or.inl ⟨by rfl, ?_⟩) (by assumption) ?_
            rotate_left
            · intro w' hSw; (try dsimp only at hSw); go_simp; (try with_reducible rfl)
            (try simp only [Act.put, List.setIfInBounds_toArray, List.set_cons_zero, List.set_cons_succ, List.getElem_toArray, List.getElem_cons_succ, List.getElem_cons_zero])
            obtain ⟨n0, n1, nf0, nf1, nl⟩ := N21
            refine wpAnyH_ready (rs := [10]) (by kernel_rfl) (by simp) ?_
            refine AllReadyH.cons rfl (fun K hK => ?_) (AllReadyH.nil)
            go_simp
            (try dsimp only)
            refine hK.out _ _ ?_ (fun hHeld => ?_)
            · exact ⟨((G21.box.other (p := ⟨W17.heap.size, 0, none⟩) (by simp; omega) _).other (p := ⟨W17.heap.size, 1, none⟩) (by simp; omega) _).c0, ((G21.box.other (p := ⟨W17.heap.size, 0, none⟩) (by simp; omega) _).other (p := ⟨W17.heap.size, 1, none⟩) (by simp; omega) _).c1⟩
            clear hK K
            (try simp only [Act.put, List.setIfInBounds_toArray, List.set_cons_zero, List.set_cons_succ, List.getElem_toArray, List.getElem_cons_succ, List.getElem_cons_zero])
            refine wpAnyH_take (i := 11) (v := ?_) rfl (by kernel_rfl) (by kernel_rfl) (by kernel_rfl) (fun _ _ _ h => h) (Or.inl ⟨by rfl, ?_⟩) (by assumption) ?_
            rotate_left
            · intro w' hSw; (try dsimp only at hSw); go_simp; (try with_reducible rfl)
            (try simp only [Act.put, List.setIfInBounds_toArray, List.set_cons_zero, List.set_cons_succ, List.getElem_toArray, List.getElem_cons_succ, List.getElem_cons_zero])
            refine wpAnyH_done (by kernel_rfl) ?_ _
            have hb9 : w.heap.size ≤ W17.heap.size := zb20
            obtain ⟨y0, y1, f0, f1, l3⟩ := G21.box
            have HBn := G21.hb
            have zn := HBn.size
            have hcase : ((m' = m ∧ lo ≤ hi) ∨ (m' = m ∧ hi < lo)) ∨ (m' = m + 1 ∧ lo ≤ hi) := by have h1 := HS21.1; have h2 := HS21.2; simp only at h2; omega
            have hm3 : m' ≤ 201 := by omega
            clear HS21 hml21 HM HT CO n0 n1 nf0 nf1 G21
            rcases hcase with (⟨rfl, hc⟩ | ⟨rfl, hc⟩) | ⟨rfl, hc⟩
            · go_wp2_with (go_at_call 14; refine (known7 _).mono ?_; rintro e w5 ⟨rfl, hb5⟩; obtain ⟨hc5, hf5⟩ := bcell hb5; have hz5 := hb5.size; (try simp only [World.size_alloc, World.size_setCell, World.heap_drewN] at hb5 hc5 hf5 hz5); (try have ha05 : w.heap.size < w5.heap.size := by omega); (try have ha15 : w.heap.size + 1 < w5.heap.size := by omega); (try have ha25 : w.heap.size + 2 < w5.heap.size := by omega); (try have hal5 : w.heap.size ≤ w5.heap.size := by omega); (try have ham5 : w.heap.size < w5.heap.size + 2 := by omega))
              go_ret
              go_light
              exact ⟨rfl, by (repeat' (first | (with_reducible exact Below.refl _ _) | (with_reducible assumption) | (with_reducible refine Below.trans ?_ (Below.mono (by with_reducible assumption) ?_)) | (with_reducible refine Below.alloc ?_ ?_ _) | (with_reducible refine Below.setCell ?_ ?_ _) | (with_reducible refine below_drewN ?_ _) | (with_reducible refine Below.drew ?_) | go_size))⟩
            · have tf : decide (lo ≤ hi) = false := by simp; omega
              go_wp2_with (go_at_call 14; refine (known7 _).mono ?_; rintro e w5 ⟨rfl, hb5⟩; obtain ⟨hc5, hf5⟩ := bcell hb5; have hz5 := hb5.size; (try simp only [World.size_alloc, World.size_setCell, World.heap_drewN] at hb5 hc5 hf5 hz5); (try have ha05 : w.heap.size < w5.heap.size := by omega); (try have ha15 : w.heap.size + 1 < w5.heap.size := by omega); (try have ha25 : w.heap.size + 2 < w5.heap.size := by omega); (try have hal5 : w.heap.size ≤ w5.heap.size := by omega); (try have ham5 : w.heap.size < w5.heap.size + 2 := by omega))
              go_ret
              go_light
              exact ⟨rfl, by (repeat' (first | (with_reducible exact Below.refl _ _) | (with_reducible assumption) | (with_reducible refine Below.trans ?_ (Below.mono (by with_reducible assumption) ?_)) | (with_reducible refine Below.alloc ?_ ?_ _) | (with_reducible refine Below.setCell ?_ ?_ _) | (with_reducible refine below_drewN ?_ _) | (with_reducible refine Below.drew ?_) | go_size))⟩
            · have tf : (((m + 1 : Nat) : Int) == (m : Int)) = false := by simp; try omega
              have tf2 : ((m : Int) + 1 == (m : Int)) = false := by simp; try omega
              go_wp2_with (go_at_call 14; refine (known7 _).mono ?_; rintro e w5 ⟨rfl, hb5⟩; obtain ⟨hc5, hf5⟩ := bcell hb5; have hz5 := hb5.size; (try simp only [World.size_alloc, World.size_setCell, World.heap_drewN] at hb5 hc5 hf5 hz5); (try have ha05 : w.heap.size < w5.heap.size := by omega); (try have ha15 : w.heap.size + 1 < w5.heap.size := by omega); (try have ha25 : w.heap.size + 2 < w5.heap.size := by omega); (try have hal5 : w.heap.size ≤ w5.heap.size := by omega); (try have ham5 : w.heap.size < w5.heap.size + 2 := by omega))
              go_ret
              go_light
              exact ⟨rfl, by (repeat' (first | (with_reducible exact Below.refl _ _) | (with_reducible assumption) | (with_reducible refine Below.trans ?_ (Below.mono (by with_reducible assumption) ?_)) | (with_reducible refine Below.alloc ?_ ?_ _) | (with_reducible refine Below.setCell ?_ ?_ _) | (with_reducible refine below_drewN ?_ _) | (with_reducible refine Below.drew ?_) | go_size))⟩
      · go_simp
        (try dsimp only)
        refine hK.out _ _ ?_ (fun hHeld => ?_)
        · exact (G16.alloc (.cells #[.int .i64 0, .int .i64 0] 25)).held
        clear hK K
        (try simp only [Act.put, List.setIfInBounds_toArray, List.set_cons_zero, List.set_cons_succ, List.getElem_toArray, List.getElem_cons_succ, List.getElem_cons_zero])
        have G22 := G16.alloc (.cells #[.int .i64 0, .int .i64 0] 25)
        have O22 := POwn.alloc O16 (.cells #[.int .i64 0, .int .i64 0] 25)
        have P22 := P16.alloc (.cells #[.int .i64 0, .int .i64 0] 25)
        have N22 := Ints2.new W16 0 0 25
        have q22 : w.heap.size ≠ W16.heap.size := by have := G16.size; omega
        have zb22 : w.heap.size ≤ W16.heap.size := by have := G16.size; omega
        have nv22 : v16.ownBlock ≠ some W16.heap.size := fun e => by have := (World.ownsRow.lt O16 _ e).2; omega
        generalize hW22 : W16.alloc (.cells #[.int .i64 0, .int .i64 0] 25) = W22 at *
        clear hW22
        refine wpAnyH_ready (rs := [4]) (by kernel_rfl) (by simp) ?_
        refine AllReadyH.cons rfl (fun K hK => ?_) (AllReadyH.nil)
        · rw [if_pos (by rfl)]
          have hO23 : W22.ownsRow (w.heap.size + 1) 25 2 v16 n (cellsOf (zl (ivs z n)) (n * 2)) := by
            have := O22
            unfold POwn at this
            rwa [ivs_len] at this
          refine wp_append_lies _ _ _ _ (by rfl) (w.heap.size + 1) 25 i0 _ 2 16 Try.underlying22 hi0 hz0 hz1 hz2 rfl (by decide) v16 n _ (by rfl) hO23 ⟨W0.heap.size, 0, none⟩ 1 1 [.int .i64 lo, .int .i64 hi] (by rfl) (by rfl) P22.news (by simp [Value.oneCell']) (by omega) (by unfold maxLen; omega) (by omega) G22.size _ rfl ?_
          intro g23 cap23 W23 own23 hg23 hat23 hlt23
          have G23 := G22.grown O22 hg23
          have O23 : POwn (w.heap.size + 1) W23 (.slice (some ⟨g23, 0, none⟩) (n + 1) cap23) (ivs z n ++ [(lo, hi)]) := POwn.snoc (i := (lo, hi)) (by rw [ivs_len]; exact own23)
          have N23 := N22.grown hg23 (fun e => nv22 e.symm)
          (try dsimp only)
          refine hK.out _ _ ?_ (fun hHeld => ?_)
          · exact G23.held
          clear hK K
          (try simp only [Act.put, List.setIfInBounds_toArray, List.set_cons_zero, List.set_cons_succ, List.getElem_toArray, List.getElem_cons_succ, List.getElem_cons_zero])
          clear own23 hg23 hat23 hlt23 hO23
          refine wpAnyH_ready (rs := [5]) (by kernel_rfl) (by simp) ?_
          refine AllReadyH.cons rfl (fun K hK => ?_) (AllReadyH.nil)
          · go_simp
            obtain ⟨A24, c24, hs24, hf24⟩ := O23.flat HT.out
            rw [show (ivs z n ++ [(lo, hi)]).length = n + 1 from by rw [List.length_append, ivs_len]; rfl] at hs24
            obtain ⟨rfl, rfl⟩ : some ⟨g23, 0, none⟩ = A24 ∧ cap23 = c24 := by injection hs24 with h1 h2 h3; exact ⟨h1, h3⟩
            have CM24 := most_list (c := cap23) hf24 (by rw [List.length_append, ivs_len]; simp; omega)
            rw [show (ivs z n ++ [(lo, hi)]).length = n + 1 from by rw [List.length_append, ivs_len]; rfl] at CM24
            clear hs24 hf24
            (go_at_call 10; refine CM24.mono ?_; rintro e W24 ⟨a', b', m', rfl, hm', hb24⟩)
            have HS24 := most_snoc HM.out hm'
            have hml24 : m' ≤ n + 1 := by have := most_le hm'; rwa [List.length_append, ivs_len] at this
            have G24 := G23.call hb24
            have N24 := N23.below hb24 N23.lt
            (try dsimp only)
            refine hK.out _ _ ?_ (fun hHeld => ?_)
            · exact G24.held
            clear hK K
            (try simp only [Act.put, List.setIfInBounds_toArray, List.set_cons_zero, List.set_cons_succ, List.getElem_toArray, List.getElem_cons_succ, List.getElem_cons_zero])
            clear hb24 hm' CM24 O23
            refine wpAnyH_take (i := 6) (v := ?_) rfl (by kernel_rfl) (by kernel_rfl) (by kernel_rfl) (fun _ _ _ h => h) (Or.inl ⟨by rfl, ?_⟩) (by assumption) ?_
            rotate_left
            · intro w' hSw; (try dsimp only at hSw); go_simp; (try with_reducible rfl)
            (try simp only [Act.put, List.setIfInBounds_toArray, List.set_cons_zero, List.set_cons_succ, List.getElem_toArray, List.getElem_cons_succ, List.getElem_cons_zero])
            refine wpAnyH_take (i := 7) (v := ?_) rfl (by kernel_rfl) (by kernel_rfl) (by kernel_rfl) (fun _ _ _ h => h) (Or.inl ⟨by rfl, ?_⟩) (by assumption) ?_
            rotate_left
            · intro w' hSw; (try dsimp only at hSw); go_simp; (try with_reducible rfl)
            (try simp only [Act.put, List.setIfInBounds_toArray, List.set_cons_zero, List.set_cons_succ, List.getElem_toArray, List.getElem_cons_succ, List.getElem_cons_zero])
            refine wpAnyH_take (i := 8) (v := ?_) rfl (by kernel_rfl) (by kernel_rfl) (by kernel_rfl) (fun _ _ _ h => h) (Or.inl ⟨by rfl, ?_⟩) (by assumption) ?_
            rotate_left
            · intro w' hSw; (try dsimp only at hSw); go_simp; (try with_reducible rfl)
            (try simp only [Act.put, List.setIfInBounds_toArray, List.set_cons_zero, List.set_cons_succ, List.getElem_toArray, List.getElem_cons_succ, List.getElem_cons_zero])
            obtain ⟨n0, n1, nf0, nf1, nl⟩ := N24
            refine wpAnyH_ready (rs := [10]) (by kernel_rfl) (by simp) ?_
            refine AllReadyH.cons rfl (fun K hK => ?_) (AllReadyH.nil)
            go_simp
            (try dsimp only)
            refine hK.out _ _ ?_ (fun hHeld => ?_)
            · exact ⟨((G24.box.other (p := ⟨W16.heap.size, 0, none⟩) (by simp; omega) _).other (p := ⟨W16.heap.size, 1, none⟩) (by simp; omega) _).c0, ((G24.box.other (p := ⟨W16.heap.size, 0, none⟩) (by simp; omega) _).other (p := ⟨W16.heap.size, 1, none⟩) (by simp; omega) _).c1⟩
            clear hK K
            (try simp only [Act.put, List.setIfInBounds_toArray, List.set_cons_zero, List.set_cons_succ, List.getElem_toArray, List.getElem_cons_succ, List.getElem_cons_zero])
            refine wpAnyH_take (i := 11) (v := ?_) rfl (by kernel_rfl) (by kernel_rfl) (by kernel_rfl) (fun _ _ _ h => h) (Or.inl ⟨by rfl, ?_⟩) (by assumption) ?_
            rotate_left
            · intro w' hSw; (try dsimp only at hSw); go_simp; (try with_reducible rfl)
            (try simp only [Act.put, List.setIfInBounds_toArray, List.set_cons_zero, List.set_cons_succ, List.getElem_toArray, List.getElem_cons_succ, List.getElem_cons_zero])
            refine wpAnyH_done (by kernel_rfl) ?_ _
            have hb9 : w.heap.size ≤ W16.heap.size := zb22
            obtain ⟨y0, y1, f0, f1, l3⟩ := G24.box
            have HBn := G24.hb
            have zn := HBn.size
            have hcase : ((m' = m ∧ lo ≤ hi) ∨ (m' = m ∧ hi < lo)) ∨ (m' = m + 1 ∧ lo ≤ hi) := by have h1 := HS24.1; have h2 := HS24.2; simp only at h2; omega
            have hm3 : m' ≤ 201 := by omega
            clear HS24 hml24 HM HT CO n0 n1 nf0 nf1 G24
            rcases hcase with (⟨rfl, hc⟩ | ⟨rfl, hc⟩) | ⟨rfl, hc⟩
            · go_wp2_with (go_at_call 14; refine (known7 _).mono ?_; rintro e w5 ⟨rfl, hb5⟩; obtain ⟨hc5, hf5⟩ := bcell hb5; have hz5 := hb5.size; (try simp only [World.size_alloc, World.size_setCell, World.heap_drewN] at hb5 hc5 hf5 hz5); (try have ha05 : w.heap.size < w5.heap.size := by omega); (try have ha15 : w.heap.size + 1 < w5.heap.size := by omega); (try have ha25 : w.heap.size + 2 < w5.heap.size := by omega); (try have hal5 : w.heap.size ≤ w5.heap.size := by omega); (try have ham5 : w.heap.size < w5.heap.size + 2 := by omega))
              go_ret
              go_light
              exact ⟨rfl, by (repeat' (first | (with_reducible exact Below.refl _ _) | (with_reducible assumption) | (with_reducible refine Below.trans ?_ (Below.mono (by with_reducible assumption) ?_)) | (with_reducible refine Below.alloc ?_ ?_ _) | (with_reducible refine Below.setCell ?_ ?_ _) | (with_reducible refine below_drewN ?_ _) | (with_reducible refine Below.drew ?_) | go_size))⟩
            · have tf : decide (lo ≤ hi) = false := by simp; omega
              go_wp2_with (go_at_call 14; refine (known7 _).mono ?_; rintro e w5 ⟨rfl, hb5⟩; obtain ⟨hc5, hf5⟩ := bcell hb5; have hz5 := hb5.size; (try simp only [World.size_alloc, World.size_setCell, World.heap_drewN] at hb5 hc5 hf5 hz5); (try have ha05 : w.heap.size < w5.heap.size := by omega); (try have ha15 : w.heap.size + 1 < w5.heap.size := by omega); (try have ha25 : w.heap.size + 2 < w5.heap.size := by omega); (try have hal5 : w.heap.size ≤ w5.heap.size := by omega); (try have ham5 : w.heap.size < w5.heap.size + 2 := by omega))
              go_ret
              go_light
              exact ⟨rfl, by (repeat' (first | (with_reducible exact Below.refl _ _) | (with_reducible assumption) | (with_reducible refine Below.trans ?_ (Below.mono (by with_reducible assumption) ?_)) | (with_reducible refine Below.alloc ?_ ?_ _) | (with_reducible refine Below.setCell ?_ ?_ _) | (with_reducible refine below_drewN ?_ _) | (with_reducible refine Below.drew ?_) | go_size))⟩
            · have tf : (((m + 1 : Nat) : Int) == (m : Int)) = false := by simp; try omega
              have tf2 : ((m : Int) + 1 == (m : Int)) = false := by simp; try omega
              go_wp2_with (go_at_call 14; refine (known7 _).mono ?_; rintro e w5 ⟨rfl, hb5⟩; obtain ⟨hc5, hf5⟩ := bcell hb5; have hz5 := hb5.size; (try simp only [World.size_alloc, World.size_setCell, World.heap_drewN] at hb5 hc5 hf5 hz5); (try have ha05 : w.heap.size < w5.heap.size := by omega); (try have ha15 : w.heap.size + 1 < w5.heap.size := by omega); (try have ha25 : w.heap.size + 2 < w5.heap.size := by omega); (try have hal5 : w.heap.size ≤ w5.heap.size := by omega); (try have ham5 : w.heap.size < w5.heap.size + 2 := by omega))
              go_ret
              go_light
              exact ⟨rfl, by (repeat' (first | (with_reducible exact Below.refl _ _) | (with_reducible assumption) | (with_reducible refine Below.trans ?_ (Below.mono (by with_reducible assumption) ?_)) | (with_reducible refine Below.alloc ?_ ?_ _) | (with_reducible refine Below.setCell ?_ ?_ _) | (with_reducible refine below_drewN ?_ _) | (with_reducible refine Below.drew ?_) | go_size))⟩
    · go_simp
      (try dsimp only)
      refine hK.out _ _ ?_ (fun hHeld => ?_)
      · exact (G15.alloc (.cells #[.int .i64 0, .int .i64 0] 25)).held
      clear hK K
      (try simp only [Act.put, List.setIfInBounds_toArray, List.set_cons_zero, List.set_cons_succ, List.getElem_toArray, List.getElem_cons_succ, List.getElem_cons_zero])
      have G25 := G15.alloc (.cells #[.int .i64 0, .int .i64 0] 25)
      have P25 := P15.alloc (.cells #[.int .i64 0, .int .i64 0] 25)
      have N25 := Ints2.new W15 0 0 25
      have q25 : w.heap.size ≠ W15.heap.size := by have := G15.size; omega
      have zb25 : w.heap.size ≤ W15.heap.size := by have := G15.size; omega
      generalize hW25 : W15.alloc (.cells #[.int .i64 0, .int .i64 0] 25) = W25 at *
      clear hW25
      refine wpAnyH_ready (rs := [1]) (by kernel_rfl) (by simp) ?_
      refine AllReadyH.cons rfl (fun K hK => ?_) (AllReadyH.nil)
      · go_simp
        (go_at_call 9; refine (CO.out W25 G25.hb).mono ?_; rintro e W26 ⟨v26, rfl, hO26, hb26⟩)
        have G26 := G25.call hb26
        have O26 := hO26.mono G25.size
        have P26 := P25.call hb26
        have N26 := N25.below hb26 N25.lt
        have nv26 : v26.ownBlock ≠ some W15.heap.size := fun e => by have := (World.ownsRow.lt hO26 _ e).1; have := N25.lt; omega
        (try dsimp only)
        refine hK.out _ _ ?_ (fun hHeld => ?_)
        · exact G26.held
        clear hK K
        (try simp only [Act.put, List.setIfInBounds_toArray, List.set_cons_zero, List.set_cons_succ, List.getElem_toArray, List.getElem_cons_succ, List.getElem_cons_zero])
        clear hO26 hb26
        refine wpAnyH_ready (rs := [4]) (by kernel_rfl) (by simp) ?_
        refine AllReadyH.cons rfl (fun K hK => ?_) (AllReadyH.nil)
        · rw [if_pos (by rfl)]
          have hO27 : W26.ownsRow (w.heap.size + 1) 25 2 v26 n (cellsOf (zl (ivs z n)) (n * 2)) := by
            have := O26
            unfold POwn at this
            rwa [ivs_len] at this
          refine wp_append_lies _ _ _ _ (by rfl) (w.heap.size + 1) 25 i0 _ 2 16 Try.underlying22 hi0 hz0 hz1 hz2 rfl (by decide) v26 n _ (by rfl) hO27 ⟨W0.heap.size, 0, none⟩ 1 1 [.int .i64 lo, .int .i64 hi] (by rfl) (by rfl) P26.news (by simp [Value.oneCell']) (by omega) (by unfold maxLen; omega) (by omega) G26.size _ rfl ?_
          intro g27 cap27 W27 own27 hg27 hat27 hlt27
          have G27 := G26.grown O26 hg27
          have O27 : POwn (w.heap.size + 1) W27 (.slice (some ⟨g27, 0, none⟩) (n + 1) cap27) (ivs z n ++ [(lo, hi)]) := POwn.snoc (i := (lo, hi)) (by rw [ivs_len]; exact own27)
          have N27 := N26.grown hg27 (fun e => nv26 e.symm)
          (try dsimp only)
          refine hK.out _ _ ?_ (fun hHeld => ?_)
          · exact G27.held
          clear hK K
          (try simp only [Act.put, List.setIfInBounds_toArray, List.set_cons_zero, List.set_cons_succ, List.getElem_toArray, List.getElem_cons_succ, List.getElem_cons_zero])
          clear own27 hg27 hat27 hlt27 hO27
          refine wpAnyH_ready (rs := [5]) (by kernel_rfl) (by simp) ?_
          refine AllReadyH.cons rfl (fun K hK => ?_) (AllReadyH.nil)
          · go_simp
            obtain ⟨A28, c28, hs28, hf28⟩ := O27.flat HT.out
            rw [show (ivs z n ++ [(lo, hi)]).length = n + 1 from by rw [List.length_append, ivs_len]; rfl] at hs28
            obtain ⟨rfl, rfl⟩ : some ⟨g27, 0, none⟩ = A28 ∧ cap27 = c28 := by injection hs28 with h1 h2 h3; exact ⟨h1, h3⟩
            have CM28 := most_list (c := cap27) hf28 (by rw [List.length_append, ivs_len]; simp; omega)
            rw [show (ivs z n ++ [(lo, hi)]).length = n + 1 from by rw [List.length_append, ivs_len]; rfl] at CM28
            clear hs28 hf28
            (go_at_call 10; refine CM28.mono ?_; rintro e W28 ⟨a', b', m', rfl, hm', hb28⟩)
            have HS28 := most_snoc HM.out hm'
            have hml28 : m' ≤ n + 1 := by have := most_le hm'; rwa [List.length_append, ivs_len] at this
            have G28 := G27.call hb28
            have N28 := N27.below hb28 N27.lt
            (try dsimp only)
            refine hK.out _ _ ?_ (fun hHeld => ?_)
            · exact G28.held
            clear hK K
            (try simp only [Act.put, List.setIfInBounds_toArray, List.set_cons_zero, List.set_cons_succ, List.getElem_toArray, List.getElem_cons_succ, List.getElem_cons_zero])
            clear hb28 hm' CM28 O27
            refine wpAnyH_take (i := 6) (v := ?_) rfl (by kernel_rfl) (by kernel_rfl) (by kernel_rfl) (fun _ _ _ h => h) (Or.inl ⟨by rfl, ?_⟩) (by assumption) ?_
            rotate_left
            · intro w' hSw; (try dsimp only at hSw); go_simp; (try with_reducible rfl)
            (try simp only [Act.put, List.setIfInBounds_toArray, List.set_cons_zero, List.set_cons_succ, List.getElem_toArray, List.getElem_cons_succ, List.getElem_cons_zero])
            refine wpAnyH_take (i := 7) (v := ?_) rfl (by kernel_rfl) (by kernel_rfl) (by kernel_rfl) (fun _ _ _ h => h) (Or.inl ⟨by rfl, ?_⟩) (by assumption) ?_
            rotate_left
            · intro w' hSw; (try dsimp only at hSw); go_simp; (try with_reducible rfl)
            (try simp only [Act.put, List.setIfInBounds_toArray, List.set_cons_zero, List.set_cons_succ, List.getElem_toArray, List.getElem_cons_succ, List.getElem_cons_zero])
            refine wpAnyH_take (i := 8) (v := ?_) rfl (by kernel_rfl) (by kernel_rfl) (by kernel_rfl) (fun _ _ _ h => h) (Or.inl ⟨by rfl, ?_⟩) (by assumption) ?_
            rotate_left
            · intro w' hSw; (try dsimp only at hSw); go_simp; (try with_reducible rfl)
            (try simp only [Act.put, List.setIfInBounds_toArray, List.set_cons_zero, List.set_cons_succ, List.getElem_toArray, List.getElem_cons_succ, List.getElem_cons_zero])
            obtain ⟨n0, n1, nf0, nf1, nl⟩ := N28
            refine wpAnyH_ready (rs := [10]) (by kernel_rfl) (by simp) ?_
            refine AllReadyH.cons rfl (fun K hK => ?_) (AllReadyH.nil)
            go_simp
            (try dsimp only)
            refine hK.out _ _ ?_ (fun hHeld => ?_)
            · exact ⟨((G28.box.other (p := ⟨W15.heap.size, 0, none⟩) (by simp; omega) _).other (p := ⟨W15.heap.size, 1, none⟩) (by simp; omega) _).c0, ((G28.box.other (p := ⟨W15.heap.size, 0, none⟩) (by simp; omega) _).other (p := ⟨W15.heap.size, 1, none⟩) (by simp; omega) _).c1⟩
            clear hK K
            (try simp only [Act.put, List.setIfInBounds_toArray, List.set_cons_zero, List.set_cons_succ, List.getElem_toArray, List.getElem_cons_succ, List.getElem_cons_zero])
            refine wpAnyH_take (i := 11) (v := ?_) rfl (by kernel_rfl) (by kernel_rfl) (by kernel_rfl) (fun _ _ _ h => h) (Or.inl ⟨by rfl, ?_⟩) (by assumption) ?_
            rotate_left
            · intro w' hSw; (try dsimp only at hSw); go_simp; (try with_reducible rfl)
            (try simp only [Act.put, List.setIfInBounds_toArray, List.set_cons_zero, List.set_cons_succ, List.getElem_toArray, List.getElem_cons_succ, List.getElem_cons_zero])
            refine wpAnyH_done (by kernel_rfl) ?_ _
            have hb9 : w.heap.size ≤ W15.heap.size := zb25
            obtain ⟨y0, y1, f0, f1, l3⟩ := G28.box
            have HBn := G28.hb
            have zn := HBn.size
            have hcase : ((m' = m ∧ lo ≤ hi) ∨ (m' = m ∧ hi < lo)) ∨ (m' = m + 1 ∧ lo ≤ hi) := by have h1 := HS28.1; have h2 := HS28.2; simp only at h2; omega
            have hm3 : m' ≤ 201 := by omega
            clear HS28 hml28 HM HT CO n0 n1 nf0 nf1 G28
            rcases hcase with (⟨rfl, hc⟩ | ⟨rfl, hc⟩) | ⟨rfl, hc⟩
            · go_wp2_with (go_at_call 14; refine (known7 _).mono ?_; rintro e w5 ⟨rfl, hb5⟩; obtain ⟨hc5, hf5⟩ := bcell hb5; have hz5 := hb5.size; (try simp only [World.size_alloc, World.size_setCell, World.heap_drewN] at hb5 hc5 hf5 hz5); (try have ha05 : w.heap.size < w5.heap.size := by omega); (try have ha15 : w.heap.size + 1 < w5.heap.size := by omega); (try have ha25 : w.heap.size + 2 < w5.heap.size := by omega); (try have hal5 : w.heap.size ≤ w5.heap.size := by omega); (try have ham5 : w.heap.size < w5.heap.size + 2 := by omega))
              go_ret
              go_light
              exact ⟨rfl, by (repeat' (first | (with_reducible exact Below.refl _ _) | (with_reducible assumption) | (with_reducible refine Below.trans ?_ (Below.mono (by with_reducible assumption) ?_)) | (with_reducible refine Below.alloc ?_ ?_ _) | (with_reducible refine Below.setCell ?_ ?_ _) | (with_reducible refine below_drewN ?_ _) | (with_reducible refine Below.drew ?_) | go_size))⟩
            · have tf : decide (lo ≤ hi) = false := by simp; omega
              go_wp2_with (go_at_call 14; refine (known7 _).mono ?_; rintro e w5 ⟨rfl, hb5⟩; obtain ⟨hc5, hf5⟩ := bcell hb5; have hz5 := hb5.size; (try simp only [World.size_alloc, World.size_setCell, World.heap_drewN] at hb5 hc5 hf5 hz5); (try have ha05 : w.heap.size < w5.heap.size := by omega); (try have ha15 : w.heap.size + 1 < w5.heap.size := by omega); (try have ha25 : w.heap.size + 2 < w5.heap.size := by omega); (try have hal5 : w.heap.size ≤ w5.heap.size := by omega); (try have ham5 : w.heap.size < w5.heap.size + 2 := by omega))
              go_ret
              go_light
              exact ⟨rfl, by (repeat' (first | (with_reducible exact Below.refl _ _) | (with_reducible assumption) | (with_reducible refine Below.trans ?_ (Below.mono (by with_reducible assumption) ?_)) | (with_reducible refine Below.alloc ?_ ?_ _) | (with_reducible refine Below.setCell ?_ ?_ _) | (with_reducible refine below_drewN ?_ _) | (with_reducible refine Below.drew ?_) | go_size))⟩
            · have tf : (((m + 1 : Nat) : Int) == (m : Int)) = false := by simp; try omega
              have tf2 : ((m : Int) + 1 == (m : Int)) = false := by simp; try omega
              go_wp2_with (go_at_call 14; refine (known7 _).mono ?_; rintro e w5 ⟨rfl, hb5⟩; obtain ⟨hc5, hf5⟩ := bcell hb5; have hz5 := hb5.size; (try simp only [World.size_alloc, World.size_setCell, World.heap_drewN] at hb5 hc5 hf5 hz5); (try have ha05 : w.heap.size < w5.heap.size := by omega); (try have ha15 : w.heap.size + 1 < w5.heap.size := by omega); (try have ha25 : w.heap.size + 2 < w5.heap.size := by omega); (try have hal5 : w.heap.size ≤ w5.heap.size := by omega); (try have ham5 : w.heap.size < w5.heap.size + 2 := by omega))
              go_ret
              go_light
              exact ⟨rfl, by (repeat' (first | (with_reducible exact Below.refl _ _) | (with_reducible assumption) | (with_reducible refine Below.trans ?_ (Below.mono (by with_reducible assumption) ?_)) | (with_reducible refine Below.alloc ?_ ?_ _) | (with_reducible refine Below.setCell ?_ ?_ _) | (with_reducible refine below_drewN ?_ _) | (with_reducible refine Below.drew ?_) | go_size))⟩
  · go_simp
    (try dsimp only)
    refine hK.out _ _ ?_ (fun hHeld => ?_)
    · exact (G0.alloc (.cells #[.int .i64 0, .int .i64 0] 25)).held
    clear hK K
    (try simp only [Act.put, List.setIfInBounds_toArray, List.set_cons_zero, List.set_cons_succ, List.getElem_toArray, List.getElem_cons_succ, List.getElem_cons_zero])
    have G29 := G0.alloc (.cells #[.int .i64 0, .int .i64 0] 25)
    have N29 := Ints2.new W0 0 0 25
    have q29 : w.heap.size ≠ W0.heap.size := by have := G0.size; omega
    have zb29 : w.heap.size ≤ W0.heap.size := by have := G0.size; omega
    generalize hW29 : W0.alloc (.cells #[.int .i64 0, .int .i64 0] 25) = W29 at *
    clear hW29
    refine wpAnyH_ready (rs := [1, 3]) (by kernel_rfl) (by simp) ?_
    refine AllReadyH.cons rfl (fun K hK => ?_) (AllReadyH.cons rfl (fun K hK => ?_) (AllReadyH.nil))
    · go_simp
      (go_at_call 9; refine (CO.out W29 G29.hb).mono ?_; rintro e W30 ⟨v30, rfl, hO30, hb30⟩)
      have G30 := G29.call hb30
      have O30 := hO30.mono G29.size
      have N30 := N29.below hb30 N29.lt
      have nv30 : v30.ownBlock ≠ some W0.heap.size := fun e => by have := (World.ownsRow.lt hO30 _ e).1; have := N29.lt; omega
      (try dsimp only)
      refine hK.out _ _ ?_ (fun hHeld => ?_)
      · exact G30.held
      clear hK K
      (try simp only [Act.put, List.setIfInBounds_toArray, List.set_cons_zero, List.set_cons_succ, List.getElem_toArray, List.getElem_cons_succ, List.getElem_cons_zero])
      clear hO30 hb30
      refine wpAnyH_ready (rs := [3]) (by kernel_rfl) (by simp) ?_
      refine AllReadyH.cons rfl (fun K hK => ?_) (AllReadyH.nil)
      · go_simp
        (try dsimp only)
        refine hK.out _ _ ?_ (fun hHeld => ?_)
        · exact (G30.alloc (.cells #[.int .i64 lo, .int .i64 hi] 25)).held
        clear hK K
        (try simp only [Act.put, List.setIfInBounds_toArray, List.set_cons_zero, List.set_cons_succ, List.getElem_toArray, List.getElem_cons_succ, List.getElem_cons_zero])
        have G31 := G30.alloc (.cells #[.int .i64 lo, .int .i64 hi] 25)
        have O31 := POwn.alloc O30 (.cells #[.int .i64 lo, .int .i64 hi] 25)
        have N31 := N30.alloc (.cells #[.int .i64 lo, .int .i64 hi] 25)
        have P31 := PN.new W30 lo hi 25
        generalize hW31 : W30.alloc (.cells #[.int .i64 lo, .int .i64 hi] 25) = W31 at *
        clear hW31
        refine wpAnyH_ready (rs := [4]) (by kernel_rfl) (by simp) ?_
        refine AllReadyH.cons rfl (fun K hK => ?_) (AllReadyH.nil)
        · rw [if_pos (by rfl)]
          have hO32 : W31.ownsRow (w.heap.size + 1) 25 2 v30 n (cellsOf (zl (ivs z n)) (n * 2)) := by
            have := O31
            unfold POwn at this
            rwa [ivs_len] at this
          refine wp_append_lies _ _ _ _ (by rfl) (w.heap.size + 1) 25 i0 _ 2 16 Try.underlying22 hi0 hz0 hz1 hz2 rfl (by decide) v30 n _ (by rfl) hO32 ⟨W30.heap.size, 0, none⟩ 1 1 [.int .i64 lo, .int .i64 hi] (by rfl) (by rfl) P31.news (by simp [Value.oneCell']) (by omega) (by unfold maxLen; omega) (by omega) G31.size _ rfl ?_
          intro g32 cap32 W32 own32 hg32 hat32 hlt32
          have G32 := G31.grown O31 hg32
          have O32 : POwn (w.heap.size + 1) W32 (.slice (some ⟨g32, 0, none⟩) (n + 1) cap32) (ivs z n ++ [(lo, hi)]) := POwn.snoc (i := (lo, hi)) (by rw [ivs_len]; exact own32)
          have N32 := N31.grown hg32 (fun e => nv30 e.symm)
          (try dsimp only)
          refine hK.out _ _ ?_ (fun hHeld => ?_)
          · exact G32.held
          clear hK K
          (try simp only [Act.put, List.setIfInBounds_toArray, List.set_cons_zero, List.set_cons_succ, List.getElem_toArray, List.getElem_cons_succ, List.getElem_cons_zero])
          clear own32 hg32 hat32 hlt32 hO32
          refine wpAnyH_ready (rs := [5]) (by kernel_rfl) (by simp) ?_
          refine AllReadyH.cons rfl (fun K hK => ?_) (AllReadyH.nil)
          · go_simp
            obtain ⟨A33, c33, hs33, hf33⟩ := O32.flat HT.out
            rw [show (ivs z n ++ [(lo, hi)]).length = n + 1 from by rw [List.length_append, ivs_len]; rfl] at hs33
            obtain ⟨rfl, rfl⟩ : some ⟨g32, 0, none⟩ = A33 ∧ cap32 = c33 := by injection hs33 with h1 h2 h3; exact ⟨h1, h3⟩
            have CM33 := most_list (c := cap32) hf33 (by rw [List.length_append, ivs_len]; simp; omega)
            rw [show (ivs z n ++ [(lo, hi)]).length = n + 1 from by rw [List.length_append, ivs_len]; rfl] at CM33
            clear hs33 hf33
            (go_at_call 10; refine CM33.mono ?_; rintro e W33 ⟨a', b', m', rfl, hm', hb33⟩)
            have HS33 := most_snoc HM.out hm'
            have hml33 : m' ≤ n + 1 := by have := most_le hm'; rwa [List.length_append, ivs_len] at this
            have G33 := G32.call hb33
            have N33 := N32.below hb33 N32.lt
            (try dsimp only)
            refine hK.out _ _ ?_ (fun hHeld => ?_)
            · exact G33.held
            clear hK K
            (try simp only [Act.put, List.setIfInBounds_toArray, List.set_cons_zero, List.set_cons_succ, List.getElem_toArray, List.getElem_cons_succ, List.getElem_cons_zero])
            clear hb33 hm' CM33 O32
            refine wpAnyH_take (i := 6) (v := ?_) rfl (by kernel_rfl) (by kernel_rfl) (by kernel_rfl) (fun _ _ _ h => h) (Or.inl ⟨by rfl, ?_⟩) (by assumption) ?_
            rotate_left
            · intro w' hSw; (try dsimp only at hSw); go_simp; (try with_reducible rfl)
            (try simp only [Act.put, List.setIfInBounds_toArray, List.set_cons_zero, List.set_cons_succ, List.getElem_toArray, List.getElem_cons_succ, List.getElem_cons_zero])
            refine wpAnyH_take (i := 7) (v := ?_) rfl (by kernel_rfl) (by kernel_rfl) (by kernel_rfl) (fun _ _ _ h => h) (Or.inl ⟨by rfl, ?_⟩) (by assumption) ?_
            rotate_left
            · intro w' hSw; (try dsimp only at hSw); go_simp; (try with_reducible rfl)
            (try simp only [Act.put, List.setIfInBounds_toArray, List.set_cons_zero, List.set_cons_succ, List.getElem_toArray, List.getElem_cons_succ, List.getElem_cons_zero])
            refine wpAnyH_take (i := 8) (v := ?_) rfl (by kernel_rfl) (by kernel_rfl) (by kernel_rfl) (fun _ _ _ h => h) (Or.inl ⟨by rfl, ?_⟩) (by assumption) ?_
            rotate_left
            · intro w' hSw; (try dsimp only at hSw); go_simp; (try with_reducible rfl)
            (try simp only [Act.put, List.setIfInBounds_toArray, List.set_cons_zero, List.set_cons_succ, List.getElem_toArray, List.getElem_cons_succ, List.getElem_cons_zero])
            obtain ⟨n0, n1, nf0, nf1, nl⟩ := N33
            refine wpAnyH_ready (rs := [10]) (by kernel_rfl) (by simp) ?_
            refine AllReadyH.cons rfl (fun K hK => ?_) (AllReadyH.nil)
            go_simp
            (try dsimp only)
            refine hK.out _ _ ?_ (fun hHeld => ?_)
            · exact ⟨((G33.box.other (p := ⟨W0.heap.size, 0, none⟩) (by simp; omega) _).other (p := ⟨W0.heap.size, 1, none⟩) (by simp; omega) _).c0, ((G33.box.other (p := ⟨W0.heap.size, 0, none⟩) (by simp; omega) _).other (p := ⟨W0.heap.size, 1, none⟩) (by simp; omega) _).c1⟩
            clear hK K
            (try simp only [Act.put, List.setIfInBounds_toArray, List.set_cons_zero, List.set_cons_succ, List.getElem_toArray, List.getElem_cons_succ, List.getElem_cons_zero])
            refine wpAnyH_take (i := 11) (v := ?_) rfl (by kernel_rfl) (by kernel_rfl) (by kernel_rfl) (fun _ _ _ h => h) (Or.inl ⟨by rfl, ?_⟩) (by assumption) ?_
            rotate_left
            · intro w' hSw; (try dsimp only at hSw); go_simp; (try with_reducible rfl)
            (try simp only [Act.put, List.setIfInBounds_toArray, List.set_cons_zero, List.set_cons_succ, List.getElem_toArray, List.getElem_cons_succ, List.getElem_cons_zero])
            refine wpAnyH_done (by kernel_rfl) ?_ _
            have hb9 : w.heap.size ≤ W0.heap.size := zb29
            obtain ⟨y0, y1, f0, f1, l3⟩ := G33.box
            have HBn := G33.hb
            have zn := HBn.size
            have hcase : ((m' = m ∧ lo ≤ hi) ∨ (m' = m ∧ hi < lo)) ∨ (m' = m + 1 ∧ lo ≤ hi) := by have h1 := HS33.1; have h2 := HS33.2; simp only at h2; omega
            have hm3 : m' ≤ 201 := by omega
            clear HS33 hml33 HM HT CO n0 n1 nf0 nf1 G33
            rcases hcase with (⟨rfl, hc⟩ | ⟨rfl, hc⟩) | ⟨rfl, hc⟩
            · go_wp2_with (go_at_call 14; refine (known7 _).mono ?_; rintro e w5 ⟨rfl, hb5⟩; obtain ⟨hc5, hf5⟩ := bcell hb5; have hz5 := hb5.size; (try simp only [World.size_alloc, World.size_setCell, World.heap_drewN] at hb5 hc5 hf5 hz5); (try have ha05 : w.heap.size < w5.heap.size := by omega); (try have ha15 : w.heap.size + 1 < w5.heap.size := by omega); (try have ha25 : w.heap.size + 2 < w5.heap.size := by omega); (try have hal5 : w.heap.size ≤ w5.heap.size := by omega); (try have ham5 : w.heap.size < w5.heap.size + 2 := by omega))
              go_ret
              go_light
              exact ⟨rfl, by (repeat' (first | (with_reducible exact Below.refl _ _) | (with_reducible assumption) | (with_reducible refine Below.trans ?_ (Below.mono (by with_reducible assumption) ?_)) | (with_reducible refine Below.alloc ?_ ?_ _) | (with_reducible refine Below.setCell ?_ ?_ _) | (with_reducible refine below_drewN ?_ _) | (with_reducible refine Below.drew ?_) | go_size))⟩
            · have tf : decide (lo ≤ hi) = false := by simp; omega
              go_wp2_with (go_at_call 14; refine (known7 _).mono ?_; rintro e w5 ⟨rfl, hb5⟩; obtain ⟨hc5, hf5⟩ := bcell hb5; have hz5 := hb5.size; (try simp only [World.size_alloc, World.size_setCell, World.heap_drewN] at hb5 hc5 hf5 hz5); (try have ha05 : w.heap.size < w5.heap.size := by omega); (try have ha15 : w.heap.size + 1 < w5.heap.size := by omega); (try have ha25 : w.heap.size + 2 < w5.heap.size := by omega); (try have hal5 : w.heap.size ≤ w5.heap.size := by omega); (try have ham5 : w.heap.size < w5.heap.size + 2 := by omega))
              go_ret
              go_light
              exact ⟨rfl, by (repeat' (first | (with_reducible exact Below.refl _ _) | (with_reducible assumption) | (with_reducible refine Below.trans ?_ (Below.mono (by with_reducible assumption) ?_)) | (with_reducible refine Below.alloc ?_ ?_ _) | (with_reducible refine Below.setCell ?_ ?_ _) | (with_reducible refine below_drewN ?_ _) | (with_reducible refine Below.drew ?_) | go_size))⟩
            · have tf : (((m + 1 : Nat) : Int) == (m : Int)) = false := by simp; try omega
              have tf2 : ((m : Int) + 1 == (m : Int)) = false := by simp; try omega
              go_wp2_with (go_at_call 14; refine (known7 _).mono ?_; rintro e w5 ⟨rfl, hb5⟩; obtain ⟨hc5, hf5⟩ := bcell hb5; have hz5 := hb5.size; (try simp only [World.size_alloc, World.size_setCell, World.heap_drewN] at hb5 hc5 hf5 hz5); (try have ha05 : w.heap.size < w5.heap.size := by omega); (try have ha15 : w.heap.size + 1 < w5.heap.size := by omega); (try have ha25 : w.heap.size + 2 < w5.heap.size := by omega); (try have hal5 : w.heap.size ≤ w5.heap.size := by omega); (try have ham5 : w.heap.size < w5.heap.size + 2 := by omega))
              go_ret
              go_light
              exact ⟨rfl, by (repeat' (first | (with_reducible exact Below.refl _ _) | (with_reducible assumption) | (with_reducible refine Below.trans ?_ (Below.mono (by with_reducible assumption) ?_)) | (with_reducible refine Below.alloc ?_ ?_ _) | (with_reducible refine Below.setCell ?_ ?_ _) | (with_reducible refine below_drewN ?_ _) | (with_reducible refine Below.drew ?_) | go_size))⟩
    · go_simp
      (try dsimp only)
      refine hK.out _ _ ?_ (fun hHeld => ?_)
      · exact (G29.alloc (.cells #[.int .i64 lo, .int .i64 hi] 25)).held
      clear hK K
      (try simp only [Act.put, List.setIfInBounds_toArray, List.set_cons_zero, List.set_cons_succ, List.getElem_toArray, List.getElem_cons_succ, List.getElem_cons_zero])
      have G34 := G29.alloc (.cells #[.int .i64 lo, .int .i64 hi] 25)
      have N34 := N29.alloc (.cells #[.int .i64 lo, .int .i64 hi] 25)
      have P34 := PN.new W29 lo hi 25
      generalize hW34 : W29.alloc (.cells #[.int .i64 lo, .int .i64 hi] 25) = W34 at *
      clear hW34
      refine wpAnyH_ready (rs := [1]) (by kernel_rfl) (by simp) ?_
      refine AllReadyH.cons rfl (fun K hK => ?_) (AllReadyH.nil)
      · go_simp
        (go_at_call 9; refine (CO.out W34 G34.hb).mono ?_; rintro e W35 ⟨v35, rfl, hO35, hb35⟩)
        have G35 := G34.call hb35
        have O35 := hO35.mono G34.size
        have P35 := P34.call hb35
        have N35 := N34.below hb35 N34.lt
        have nv35 : v35.ownBlock ≠ some W0.heap.size := fun e => by have := (World.ownsRow.lt hO35 _ e).1; have := N34.lt; omega
        (try dsimp only)
        refine hK.out _ _ ?_ (fun hHeld => ?_)
        · exact G35.held
        clear hK K
        (try simp only [Act.put, List.setIfInBounds_toArray, List.set_cons_zero, List.set_cons_succ, List.getElem_toArray, List.getElem_cons_succ, List.getElem_cons_zero])
        clear hO35 hb35
        refine wpAnyH_ready (rs := [4]) (by kernel_rfl) (by simp) ?_
        refine AllReadyH.cons rfl (fun K hK => ?_) (AllReadyH.nil)
        · rw [if_pos (by rfl)]
          have hO36 : W35.ownsRow (w.heap.size + 1) 25 2 v35 n (cellsOf (zl (ivs z n)) (n * 2)) := by
            have := O35
            unfold POwn at this
            rwa [ivs_len] at this
          refine wp_append_lies _ _ _ _ (by rfl) (w.heap.size + 1) 25 i0 _ 2 16 Try.underlying22 hi0 hz0 hz1 hz2 rfl (by decide) v35 n _ (by rfl) hO36 ⟨W29.heap.size, 0, none⟩ 1 1 [.int .i64 lo, .int .i64 hi] (by rfl) (by rfl) P35.news (by simp [Value.oneCell']) (by omega) (by unfold maxLen; omega) (by omega) G35.size _ rfl ?_
          intro g36 cap36 W36 own36 hg36 hat36 hlt36
          have G36 := G35.grown O35 hg36
          have O36 : POwn (w.heap.size + 1) W36 (.slice (some ⟨g36, 0, none⟩) (n + 1) cap36) (ivs z n ++ [(lo, hi)]) := POwn.snoc (i := (lo, hi)) (by rw [ivs_len]; exact own36)
          have N36 := N35.grown hg36 (fun e => nv35 e.symm)
          (try dsimp only)
          refine hK.out _ _ ?_ (fun hHeld => ?_)
          · exact G36.held
          clear hK K
          (try simp only [Act.put, List.setIfInBounds_toArray, List.set_cons_zero, List.set_cons_succ, List.getElem_toArray, List.getElem_cons_succ, List.getElem_cons_zero])
          clear own36 hg36 hat36 hlt36 hO36
          refine wpAnyH_ready (rs := [5]) (by kernel_rfl) (by simp) ?_
          refine AllReadyH.cons rfl (fun K hK => ?_) (AllReadyH.nil)
          · go_simp
            obtain ⟨A37, c37, hs37, hf37⟩ := O36.flat HT.out
            rw [show (ivs z n ++ [(lo, hi)]).length = n + 1 from by rw [List.length_append, ivs_len]; rfl] at hs37
            obtain ⟨rfl, rfl⟩ : some ⟨g36, 0, none⟩ = A37 ∧ cap36 = c37 := by injection hs37 with h1 h2 h3; exact ⟨h1, h3⟩
            have CM37 := most_list (c := cap36) hf37 (by rw [List.length_append, ivs_len]; simp; omega)
            rw [show (ivs z n ++ [(lo, hi)]).length = n + 1 from by rw [List.length_append, ivs_len]; rfl] at CM37
            clear hs37 hf37
            (go_at_call 10; refine CM37.mono ?_; rintro e W37 ⟨a', b', m', rfl, hm', hb37⟩)
            have HS37 := most_snoc HM.out hm'
            have hml37 : m' ≤ n + 1 := by have := most_le hm'; rwa [List.length_append, ivs_len] at this
            have G37 := G36.call hb37
            have N37 := N36.below hb37 N36.lt
            (try dsimp only)
            refine hK.out _ _ ?_ (fun hHeld => ?_)
            · exact G37.held
            clear hK K
            (try simp only [Act.put, List.setIfInBounds_toArray, List.set_cons_zero, List.set_cons_succ, List.getElem_toArray, List.getElem_cons_succ, List.getElem_cons_zero])
            clear hb37 hm' CM37 O36
            refine wpAnyH_take (i := 6) (v := ?_) rfl (by kernel_rfl) (by kernel_rfl) (by kernel_rfl) (fun _ _ _ h => h) (Or.inl ⟨by rfl, ?_⟩) (by assumption) ?_
            rotate_left
            · intro w' hSw; (try dsimp only at hSw); go_simp; (try with_reducible rfl)
            (try simp only [Act.put, List.setIfInBounds_toArray, List.set_cons_zero, List.set_cons_succ, List.getElem_toArray, List.getElem_cons_succ, List.getElem_cons_zero])
            refine wpAnyH_take (i := 7) (v := ?_) rfl (by kernel_rfl) (by kernel_rfl) (by kernel_rfl) (fun _ _ _ h => h) (Or.inl ⟨by rfl, ?_⟩) (by assumption) ?_
            rotate_left
            · intro w' hSw; (try dsimp only at hSw); go_simp; (try with_reducible rfl)
            (try simp only [Act.put, List.setIfInBounds_toArray, List.set_cons_zero, List.set_cons_succ, List.getElem_toArray, List.getElem_cons_succ, List.getElem_cons_zero])
            refine wpAnyH_take (i := 8) (v := ?_) rfl (by kernel_rfl) (by kernel_rfl) (by kernel_rfl) (fun _ _ _ h => h) (Or.inl ⟨by rfl, ?_⟩) (by assumption) ?_
            rotate_left
            · intro w' hSw; (try dsimp only at hSw); go_simp; (try with_reducible rfl)
            (try simp only [Act.put, List.setIfInBounds_toArray, List.set_cons_zero, List.set_cons_succ, List.getElem_toArray, List.getElem_cons_succ, List.getElem_cons_zero])
            obtain ⟨n0, n1, nf0, nf1, nl⟩ := N37
            refine wpAnyH_ready (rs := [10]) (by kernel_rfl) (by simp) ?_
            refine AllReadyH.cons rfl (fun K hK => ?_) (AllReadyH.nil)
            go_simp
            (try dsimp only)
            refine hK.out _ _ ?_ (fun hHeld => ?_)
            · exact ⟨((G37.box.other (p := ⟨W0.heap.size, 0, none⟩) (by simp; omega) _).other (p := ⟨W0.heap.size, 1, none⟩) (by simp; omega) _).c0, ((G37.box.other (p := ⟨W0.heap.size, 0, none⟩) (by simp; omega) _).other (p := ⟨W0.heap.size, 1, none⟩) (by simp; omega) _).c1⟩
            clear hK K
            (try simp only [Act.put, List.setIfInBounds_toArray, List.set_cons_zero, List.set_cons_succ, List.getElem_toArray, List.getElem_cons_succ, List.getElem_cons_zero])
            refine wpAnyH_take (i := 11) (v := ?_) rfl (by kernel_rfl) (by kernel_rfl) (by kernel_rfl) (fun _ _ _ h => h) (Or.inl ⟨by rfl, ?_⟩) (by assumption) ?_
            rotate_left
            · intro w' hSw; (try dsimp only at hSw); go_simp; (try with_reducible rfl)
            (try simp only [Act.put, List.setIfInBounds_toArray, List.set_cons_zero, List.set_cons_succ, List.getElem_toArray, List.getElem_cons_succ, List.getElem_cons_zero])
            refine wpAnyH_done (by kernel_rfl) ?_ _
            have hb9 : w.heap.size ≤ W0.heap.size := zb29
            obtain ⟨y0, y1, f0, f1, l3⟩ := G37.box
            have HBn := G37.hb
            have zn := HBn.size
            have hcase : ((m' = m ∧ lo ≤ hi) ∨ (m' = m ∧ hi < lo)) ∨ (m' = m + 1 ∧ lo ≤ hi) := by have h1 := HS37.1; have h2 := HS37.2; simp only at h2; omega
            have hm3 : m' ≤ 201 := by omega
            clear HS37 hml37 HM HT CO n0 n1 nf0 nf1 G37
            rcases hcase with (⟨rfl, hc⟩ | ⟨rfl, hc⟩) | ⟨rfl, hc⟩
            · go_wp2_with (go_at_call 14; refine (known7 _).mono ?_; rintro e w5 ⟨rfl, hb5⟩; obtain ⟨hc5, hf5⟩ := bcell hb5; have hz5 := hb5.size; (try simp only [World.size_alloc, World.size_setCell, World.heap_drewN] at hb5 hc5 hf5 hz5); (try have ha05 : w.heap.size < w5.heap.size := by omega); (try have ha15 : w.heap.size + 1 < w5.heap.size := by omega); (try have ha25 : w.heap.size + 2 < w5.heap.size := by omega); (try have hal5 : w.heap.size ≤ w5.heap.size := by omega); (try have ham5 : w.heap.size < w5.heap.size + 2 := by omega))
              go_ret
              go_light
              exact ⟨rfl, by (repeat' (first | (with_reducible exact Below.refl _ _) | (with_reducible assumption) | (with_reducible refine Below.trans ?_ (Below.mono (by with_reducible assumption) ?_)) | (with_reducible refine Below.alloc ?_ ?_ _) | (with_reducible refine Below.setCell ?_ ?_ _) | (with_reducible refine below_drewN ?_ _) | (with_reducible refine Below.drew ?_) | go_size))⟩
            · have tf : decide (lo ≤ hi) = false := by simp; omega
              go_wp2_with (go_at_call 14; refine (known7 _).mono ?_; rintro e w5 ⟨rfl, hb5⟩; obtain ⟨hc5, hf5⟩ := bcell hb5; have hz5 := hb5.size; (try simp only [World.size_alloc, World.size_setCell, World.heap_drewN] at hb5 hc5 hf5 hz5); (try have ha05 : w.heap.size < w5.heap.size := by omega); (try have ha15 : w.heap.size + 1 < w5.heap.size := by omega); (try have ha25 : w.heap.size + 2 < w5.heap.size := by omega); (try have hal5 : w.heap.size ≤ w5.heap.size := by omega); (try have ham5 : w.heap.size < w5.heap.size + 2 := by omega))
              go_ret
              go_light
              exact ⟨rfl, by (repeat' (first | (with_reducible exact Below.refl _ _) | (with_reducible assumption) | (with_reducible refine Below.trans ?_ (Below.mono (by with_reducible assumption) ?_)) | (with_reducible refine Below.alloc ?_ ?_ _) | (with_reducible refine Below.setCell ?_ ?_ _) | (with_reducible refine below_drewN ?_ _) | (with_reducible refine Below.drew ?_) | go_size))⟩
            · have tf : (((m + 1 : Nat) : Int) == (m : Int)) = false := by simp; try omega
              have tf2 : ((m : Int) + 1 == (m : Int)) = false := by simp; try omega
              go_wp2_with (go_at_call 14; refine (known7 _).mono ?_; rintro e w5 ⟨rfl, hb5⟩; obtain ⟨hc5, hf5⟩ := bcell hb5; have hz5 := hb5.size; (try simp only [World.size_alloc, World.size_setCell, World.heap_drewN] at hb5 hc5 hf5 hz5); (try have ha05 : w.heap.size < w5.heap.size := by omega); (try have ha15 : w.heap.size + 1 < w5.heap.size := by omega); (try have ha25 : w.heap.size + 2 < w5.heap.size := by omega); (try have hal5 : w.heap.size ≤ w5.heap.size := by omega); (try have ham5 : w.heap.size < w5.heap.size + 2 := by omega))
              go_ret
              go_light
              exact ⟨rfl, by (repeat' (first | (with_reducible exact Below.refl _ _) | (with_reducible assumption) | (with_reducible refine Below.trans ?_ (Below.mono (by with_reducible assumption) ?_)) | (with_reducible refine Below.alloc ?_ ?_ _) | (with_reducible refine Below.setCell ?_ ?_ _) | (with_reducible refine below_drewN ?_ _) | (with_reducible refine Below.drew ?_) | go_size))⟩
set_option maxRecDepth 100000 in
theorem agreeGrows_lifted (os : Os) (started : os.Started) (H : Type) (enc : TypeId × Value → H) :
    ReturnsInHanded {} Try.checked os 7 .any (Rows.agreeGrowsSpec.pre6 enc Try.prog Try.f7 Rows.agreeGrowsRow.domain false) (Rows.agreeGrowsSpec.post enc Try.prog Try.f7 false true false false) := by
  refine returnsInHanded_of_change_sized (C := Try.checked) law_own started (by kernel_rfl) Try.func7
    (ChangeSpec.witness6 (enc := enc) (C := Try.checked) false ⟨#[], #[.slice none 0 0, .agg #[.int .i64 0, .int .i64 0]], []⟩ 8 (by kernel_rfl) (by kernel_rfl) (by kernel_rfl) (by kernel_rfl)) ?_
  intro W base args ds gs before hval0 hW hcnd hsz0 _
  have hval : ∀ (j : Nat) t v, Try.f7.params[j]? = some t → args[j]? = some v → Value.okWide Try.prog W .any base t v := hval0
  have hsz : (DataW.weightsEach Try.prog (Try.f7.params.toList ++ Rows.agreeGrowsSpec.plain.varTypes Try.prog) (ds ++ gs)).all (· ≤ reachBytes) = true := hsz0
  have hW' := hW
  obtain ⟨p, q, hA0, hV, rfl, hfz, hnd⟩ := hW
  have hA : DataW.TrodAll enc Try.prog W 0 (fun _ => true) true Try.f7.params.toList args.toList ds p := hA0
  rw [Try.params7] at hA hval hsz
  have hsame : (Rows.agreeGrowsSpec.fn H (ds ++ gs)).results = [.lit (.bool true)] ∧ (Rows.agreeGrowsSpec.fn H (ds ++ gs)).args = ds ∧ (Rows.agreeGrowsSpec.fn H (ds ++ gs)).vars = [] → ∀ W', Below W.heap.size W W' → Rows.agreeGrowsSpec.post enc Try.prog Try.f7 false true false false W args (.bool true) W' :=
    fun h W' hb => law_post (tb := 4) hW' law_laid (by kernel_rfl) rfl Try.underlying4 h.1 h.2.1 rfl h.2.2 hb
  obtain ⟨v0, vs0, d0, ds0, p0, q0, hargs, rfl, rfl, h0, r0⟩ := trodAll_cons hA
  obtain ⟨v1, vs1, d1, ds1, p1, q1, rfl, rfl, rfl, h1, r1⟩ := trodAll_cons r0
  obtain ⟨rfl, rfl, rfl⟩ := trodAll_nil r1
  obtain rfl : args = #[v0, v1] := by cases args; simp_all
  obtain ⟨rfl, rfl⟩ := trodVars_none hV
  have hpost := hsame ⟨rfl, rfl, rfl⟩
  clear hsame hA0 hval0 hsz0
  obtain ⟨A, n, c, z, rfl, hn, hz⟩ := open_flat_slice (m := 2) Try.underlying22 (by kernel_rfl) (by kernel_rfl) (by omega) (hval 0 22 v0 rfl rfl) h0
  have hAn : A = none → n = 0 ∧ c = 0 := fun e => by subst e; exact nil_shape Try.underlying22 h0
  obtain ⟨lo, hi, rfl, wl, wh⟩ := open_iv (hval 1 25 v1 rfl rfl) h1
  have b1 := wf_bd wl
  have b2 := wf_bd wh
  by_cases h : n ≤ 200
  · exact (agreeGrows_in z A n c lo hi W h hAn hz b1 b2).mono fun e W' ⟨he, hb⟩ => ⟨_, he, hpost W' hb⟩
  · exact (agreeGrows_out A n c lo hi W (by omega) hn).mono fun e W' ⟨he, hb⟩ => ⟨_, he, hpost W' hb⟩
theorem agreeGrows_holds : Rows.AgreeGrowsSaid :=
  OpenClaim.holds_of_wide 7 Try.f7 rfl rfl rfl rfl rfl rfl rfl ⟨rfl, rfl, rfl, rfl, rfl⟩ rfl rfl rfl rfl rfl (by kernel_rfl) Try.func7 (by kernel_rfl)
    (of_decide_eq_true (by kernel_rfl)) (by unfold Func.isWrapper; first | (rw [if_pos (by decide +kernel)]; kernel_rfl) | (rw [if_neg (by decide +kernel)]; exact ⟨rfl, rfl⟩))
    (fun os started H enc _ => agreeGrows_lifted os started H enc)
end Go.Proofs.Ytdkcdaknifikeaa
