/- The reference's Encode of a record (written by gen/refenc.py). -/
import Derived.Test.YtdffldlcbihjmaaDoorRecEnc
import Derived.Test.YtdffldlcbihjmaaDoorRefOct
import Derived.BigGuard
import Derived.BigGuardPart
import Derived.BigCall
set_option linter.unusedSimpArgs false
set_option linter.unusedVariables false
namespace Go.Proofs.YtdffldlcbihjmaaDoor
open Go.RowKit

theorem Own8.below {base : Nat} {w w' : World} {v : Value} {l : List Int} (h : Own8 base w v l) (k : Below w.heap.size w w') : Own8 base w' v l := (But.of_below (S := fun _ => False) k).row h (fun _ _ hf => hf)
/-- Two numbers in a block. -/
structure PN (W : World) (b : Nat) (x y : Int) : Prop where
  c0 : W.cell? ⟨b, 0, none⟩ = some (.int .i64 x)
  c1 : W.cell? ⟨b, 1, none⟩ = some (.int .i64 y)
  lt : b < W.heap.size
theorem PN.new (W : World) (x y : Int) (t : TypeId) : PN (W.alloc (.cells #[.int .i64 x, .int .i64 y] t)) W.heap.size x y := by constructor <;> simp
theorem PN.below {W W' : World} {b : Nat} {x y : Int} (h : PN W b x y) (k : Below W.heap.size W W') : PN W' b x y := ⟨(k.cell (p := ⟨b, 0, none⟩) h.lt).trans h.c0, (k.cell (p := ⟨b, 1, none⟩) h.lt).trans h.c1, Nat.lt_of_lt_of_le h.lt k.size⟩
theorem PN.cells {W : World} {b : Nat} {x y : Int} (h : PN W b x y) : ∀ (j : Nat) (q : j < [x, y].length), W.cell? ⟨b, j, none⟩ = some (.int .i64 [x, y][j]) := by
  intro j q
  rcases (show j = 0 ∨ j = 1 from by simp at q; omega) with rfl | rfl
  · exact h.c0
  · exact h.c1
theorem Told8.of {p : List Int} {w w' : World} {e : Ending} (h : Told8 p w w' e) {b : Nat} (hb : b ≤ w.heap.size) : ∃ g cap, e = .returned (.slice (some ⟨g, 0, none⟩) p.length cap) ∧ Own8 b w' (.slice (some ⟨g, 0, none⟩) p.length cap) p := by
  obtain ⟨g, cap, h1, h2⟩ := h
  exact ⟨g, cap, h1, own_base hb h2⟩
theorem Own8.src {base : Nat} {w : World} {g n cap : Nat} {l : List Int} (h : w.ownsRow base 5 1 (.slice (some ⟨g, 0, none⟩) n cap) n (bC l)) : ∀ j u, (bC l)[j]? = some u → w.cell? ((⟨g, 0, none⟩ : Addr).add j) = some u := fun j u hu => by
  have := h.cells (g := g) rfl j u hu
  exact this
set_option maxHeartbeats 2000000 in
theorem ref_enc_no (o s : Int) (key : ByteArray) (ml ct vo : Int) (A : Option Addr) (n c : Nat) (gone : Bool) (tt : Int) (w : World) (h : okN o s key.size ml ct vo n gone tt = false) :
    Calls Tryd.prog 88 #[recV o s key ml ct vo A n c gone tt] w fun e w' => e = .returned (.tuple #[.slice none 0 0, .int .i64 1]) ∧ Below w.heap.size w w' := by
  go_enter Tryd.func88, Tryd.ntmps88
  go_wp2_with (go_at_call 46; refine (ref_is o s key ml ct vo A n c gone tt _).mono ?_; rintro e w1 ⟨rfl, hb1⟩; obtain ⟨hc1, hf1⟩ := bcell hb1; have hz1 := hb1.size; (try simp only [World.size_alloc, World.size_setCell, World.heap_drewN] at hb1 hc1 hf1 hz1); (try have ha01 : w.heap.size < w1.heap.size := by omega); (try have ha11 : w.heap.size + 1 < w1.heap.size := by omega); (try have ha21 : w.heap.size + 2 < w1.heap.size := by omega); (try have hal1 : w.heap.size ≤ w1.heap.size := by omega); (try have ham1 : w.heap.size < w1.heap.size + 2 := by omega))
  go_ret2
  go_light
  exact ⟨rfl, by (repeat' (first | (with_reducible exact Below.refl _ _) | (with_reducible assumption) | (with_reducible refine Below.trans ?_ (Below.mono (by with_reducible assumption) ?_)) | (with_reducible refine Below.alloc ?_ ?_ _) | (with_reducible refine Below.setCell ?_ ?_ _) | (with_reducible refine below_drewN ?_ _) | (with_reducible refine Below.drew ?_) | go_size))⟩
set_option maxRecDepth 100000 in
set_option maxHeartbeats 16000000 in
theorem ref_enc_yes (o s : Int) (key : ByteArray) (ml ct vo : Int) (A : Option Addr) (val : List Int) (c : Nat) (gone : Bool) (tt : Int) (w : World) (h : okN o s key.size ml ct vo val.length gone tt = true)
    (hby : ByL w A val) (hn : A = none → val.length = 0) :
    Calls Tryd.prog 88 #[recV o s key ml ct vo A val.length c gone tt] w fun e w' => ∃ g cap, e = .returned (.tuple #[.slice (some ⟨g, 0, none⟩) (encR ⟨o, s, kL key, ml, ct, vo, val, gone, tt⟩).length cap, .int .i64 0]) ∧ Own8 w.heap.size w' (.slice (some ⟨g, 0, none⟩) (encR ⟨o, s, kL key, ml, ct, vo, val, gone, tt⟩).length cap) (encR ⟨o, s, kL key, ml, ct, vo, val, gone, tt⟩) ∧ Below w.heap.size w w' := by
  obtain ⟨i0, hi0, hz0, hz1, hz2⟩ := info_parts u8_info
  obtain ⟨⟨o0, o1⟩, ⟨s0, s1⟩, ⟨k0, k1⟩, ⟨m0, m1⟩, ⟨c0, c1⟩, n1, t0, t1⟩ := okN_bd h
  have HB0 : Below w.heap.size w (w.alloc (recO o s key ml ct vo A val.length c gone tt)) := by (repeat' (first | (with_reducible exact Below.refl _ _) | (with_reducible assumption) | (with_reducible refine Below.trans ?_ (Below.mono (by with_reducible assumption) ?_)) | (with_reducible refine Below.alloc ?_ ?_ _) | (with_reducible refine Below.setCell ?_ ?_ _) | (with_reducible refine below_drewN ?_ _) | (with_reducible refine Below.drew ?_) | go_size))
  have R0 := Rec9.new w o s key ml ct vo A val.length c gone tt
  have HI := Lib.hid (ref_is o s key ml ct vo A val.length c gone tt (w.alloc (recO o s key ml ct vo A val.length c gone tt)))
  rw [h] at HI
  have HX := Lib.hid (And.intro HB0 (And.intro R0 hby))
  have HZ1 : Hid (∀ x ∈ [o, s], 0 ≤ x ∧ x ≤ 4611686018427387904) := Lib.hid (by intro x hx; simp at hx; omega)
  have HZ2 : Hid (∀ q : Int, 0 ≤ q → q ≤ 1 → ∀ x ∈ [ml, ct, q, tt], 0 ≤ x ∧ x ≤ 4611686018427387904) := Lib.hid (by intro q q0 q1 x hx; simp at hx; omega)
  have hlA := numsE_len [o, s] HZ1.out
  have hlB := bytes_len (kL key) (by rw [kL_len]; omega)
  have hlD := bytes_len val n1
  have HN := Lib.hid n1
  have HK : Hid ((kL key).length ≤ 100000) := Lib.hid (by rw [kL_len]; omega)
  have HLL : Hid ((numsE [o, s]).length ≤ 18 ∧ (encN (kL key).length ++ kL key).length ≤ 1026 ∧ (encN val.length ++ val).length ≤ 1026) := Lib.hid ⟨by simpa using hlA, hlB, hlD⟩
  clear HB0 R0 hby h o0 o1 s0 s1 k0 k1 m0 m1 c0 c1 n1 t0 t1 hlA hlB hlD
  cases gone
  · go_enter Tryd.func88, Tryd.ntmps88
    go_wp2_with fail
    refine HI.out.mono ?_; rintro e w1 ⟨rfl, hb1⟩
    have HB1 := Lib.hid (HX.out.1.trans (hb1.mono HX.out.1.size))
    have R1 := HX.out.2.1.below hb1
    have HY1 := Lib.hid (HX.out.2.2.below HB1.out)
    have l1 : w.heap.size < w1.heap.size := R1.lt
    have HR1 := Lib.hid R1
    obtain ⟨c0, c1, c2, c3, c4, c5, c6, c7, c8, lt⟩ := R1
    clear hb1 HI HX
    go_wp2_with fail
    refine wp_region_held_drew (S := fun w' => w'.cell? ⟨w.heap.size, 0, none⟩ = some (.int .i64 o) ∧ w'.cell? ⟨w.heap.size, 1, none⟩ = some (.int .i64 s) ∧ w'.cell? ⟨w.heap.size, 2, none⟩ = some (.string key)) (by kernel_rfl) ?_ (fun hHeld => ?_)
    · exact ⟨c0, c1, c2⟩
    have B0 : Below w1.heap.size w1 w1.drew := ⟨rfl, rfl, rfl, Nat.le_refl _, fun _ _ => rfl⟩
    clear c0 c1 c2 c3 c4 c5 c6 c7 c8 lt
    generalize w1.drew = W0 at *
    refine wpAnyH_take (i := 0) (v := ?_) rfl (by kernel_rfl) (by kernel_rfl) (by kernel_rfl) (fun _ _ _ h => h) (Or.inl ⟨by rfl, ?_⟩) (by assumption) ?_
    rotate_left
    · intro w' hSw; (try dsimp only at hSw); go_simp; (try with_reducible rfl)
    (try simp only [Act.put, List.setIfInBounds_toArray, List.set_cons_zero, List.set_cons_succ, List.getElem_toArray, List.getElem_cons_succ, List.getElem_cons_zero])
    refine wpAnyH_take (i := 1) (v := ?_) rfl (by kernel_rfl) (by kernel_rfl) (by kernel_rfl) (fun _ _ _ h => h) (Or.inl ⟨by rfl, ?_⟩) (by assumption) ?_
    rotate_left
    · intro w' hSw; (try dsimp only at hSw); go_simp; (try with_reducible rfl)
    (try simp only [Act.put, List.setIfInBounds_toArray, List.set_cons_zero, List.set_cons_succ, List.getElem_toArray, List.getElem_cons_succ, List.getElem_cons_zero])
    refine wpAnyH_take (i := 2) (v := ?_) rfl (by kernel_rfl) (by kernel_rfl) (by kernel_rfl) (fun _ _ _ h => h) (Or.inl ⟨by rfl, ?_⟩) (by assumption) ?_
    rotate_left
    · intro w' hSw; (try dsimp only at hSw); go_simp; (try with_reducible rfl)
    (try simp only [Act.put, List.setIfInBounds_toArray, List.set_cons_zero, List.set_cons_succ, List.getElem_toArray, List.getElem_cons_succ, List.getElem_cons_zero])
    refine wpAnyH_take (i := 3) (v := ?_) rfl (by kernel_rfl) (by kernel_rfl) (by kernel_rfl) (fun _ _ _ h => h) (Or.inl ⟨by rfl, ?_⟩) (by assumption) ?_
    rotate_left
    · intro w' hSw; (try dsimp only at hSw); go_simp; (try with_reducible rfl)
    (try simp only [Act.put, List.setIfInBounds_toArray, List.set_cons_zero, List.set_cons_succ, List.getElem_toArray, List.getElem_cons_succ, List.getElem_cons_zero])
    refine wpAnyH_take (i := 6) (v := ?_) rfl (by kernel_rfl) (by kernel_rfl) (by kernel_rfl) (fun _ _ _ h => h) (Or.inl ⟨by rfl, ?_⟩) (by assumption) ?_
    rotate_left
    · intro w' hSw; (try dsimp only at hSw); go_simp; (try with_reducible rfl)
    (try simp only [Act.put, List.setIfInBounds_toArray, List.set_cons_zero, List.set_cons_succ, List.getElem_toArray, List.getElem_cons_succ, List.getElem_cons_zero])
    refine wpAnyH_take (i := 7) (v := ?_) rfl (by kernel_rfl) (by kernel_rfl) (by kernel_rfl) (fun _ _ _ h => h) (Or.inl ⟨by rfl, ?_⟩) (by assumption) ?_
    rotate_left
    · intro w' hSw; (try dsimp only at hSw); go_simp; (try with_reducible rfl)
    (try simp only [Act.put, List.setIfInBounds_toArray, List.set_cons_zero, List.set_cons_succ, List.getElem_toArray, List.getElem_cons_succ, List.getElem_cons_zero])
    refine wpAnyH_ready (rs := [4, 8]) (by kernel_rfl) (by simp) ?_
    refine AllReadyH.cons rfl (fun K hK => ?_) (AllReadyH.cons rfl (fun K hK => ?_) (AllReadyH.nil))
    · go_simp
      have k1 : Below W0.heap.size W0 (W0.alloc (.cells #[.int .i64 o, .int .i64 s] 3)) := (Below.refl _ _).alloc (Nat.le_refl _) _
      have B1 := B0.trans (k1.mono B0.size)
      (try dsimp only)
      refine hK.out _ _ ?_ (fun hHeld => ?_)
      · exact ⟨(HR1.out.below B1).c0, (HR1.out.below B1).c1, (HR1.out.below B1).c2⟩
      clear hK K
      (try simp only [Act.put, List.setIfInBounds_toArray, List.set_cons_zero, List.set_cons_succ, List.getElem_toArray, List.getElem_cons_succ, List.getElem_cons_zero])
      have PA1 := PN.new W0 o s 3
      generalize hW1 : W0.alloc (.cells #[.int .i64 o, .int .i64 s] 3) = W1 at *
      clear hW1
      refine wpAnyH_ready (rs := [5, 8]) (by kernel_rfl) (by simp) ?_
      refine AllReadyH.cons rfl (fun K hK => ?_) (AllReadyH.cons rfl (fun K hK => ?_) (AllReadyH.nil))
      · go_simp
        have C2 := ref_nums W0.heap.size 2 [o, s] W1 PA1.lt (by simp) PA1.cells HZ1.out (by simp) (by have := HLL.out.1; omega)
        refine C2.mono ?_; rintro e W2 ⟨ht2, k2⟩
        obtain ⟨gA2, cA2, rfl, OA2⟩ := ht2.of B1.size
        have B2 := B1.trans (k2.mono B1.size)
        (try dsimp only)
        refine hK.out _ _ ?_ (fun hHeld => ?_)
        · exact ⟨(HR1.out.below B2).c0, (HR1.out.below B2).c1, (HR1.out.below B2).c2⟩
        clear hK K
        (try simp only [Act.put, List.setIfInBounds_toArray, List.set_cons_zero, List.set_cons_succ, List.getElem_toArray, List.getElem_cons_succ, List.getElem_cons_zero])
        clear C2 PA1
        refine wpAnyH_ready (rs := [8]) (by kernel_rfl) (by simp) ?_
        refine AllReadyH.cons rfl (fun K hK => ?_) (AllReadyH.nil)
        · have cv3 := Lib.run_convert_string_bytes (P := Tryd.prog) W2 9 28 5 key Tryd.underlying9 Tryd.underlying28 Tryd.underlying5
          have BB3 := bytesWorld_by W2 5 key
          have k3 := bytesWorld_below W2 5 key
          generalize grownCap W2 key.size 0 5 = cp3 at *
          generalize Lib.bytesWorld W2 5 key = W3 at *
          go_simp
          have B3 := B2.trans (k3.mono B2.size)
          (try dsimp only)
          refine hK.out _ _ ?_ (fun hHeld => ?_)
          · exact ⟨(HR1.out.below B3).c0, (HR1.out.below B3).c1, (HR1.out.below B3).c2⟩
          clear hK K
          (try simp only [Act.put, List.setIfInBounds_toArray, List.set_cons_zero, List.set_cons_succ, List.getElem_toArray, List.getElem_cons_succ, List.getElem_cons_zero])
          have OA3 := Own8.below OA2 k3
          clear cv3
          refine wpAnyH_ready (rs := [9]) (by kernel_rfl) (by simp) ?_
          refine AllReadyH.cons rfl (fun K hK => ?_) (AllReadyH.nil)
          · go_simp
            have C4 := ref_bytes cp3 (some ⟨W2.heap.size, 0, none⟩) (kL key) W3 BB3 (fun h => by cases h) HK.out
            rw [show (Value.slice (some ⟨W2.heap.size, 0, none⟩) (kL key).length cp3) = Value.slice (some ⟨W2.heap.size, 0, none⟩) key.size cp3 from by rw [kL_len]] at C4
            refine C4.mono ?_; rintro e W4 ⟨ht4, k4⟩
            obtain ⟨gB4, cB4, rfl, OB4⟩ := ht4.of B3.size
            have B4 := B3.trans (k4.mono B3.size)
            have OA4 := Own8.below OA3 k4
            (try dsimp only)
            refine hK.out _ _ ?_ (fun hHeld => ?_)
            · exact ⟨(HR1.out.below B4).c0, (HR1.out.below B4).c1, (HR1.out.below B4).c2⟩
            clear hK K
            (try simp only [Act.put, List.setIfInBounds_toArray, List.set_cons_zero, List.set_cons_succ, List.getElem_toArray, List.getElem_cons_succ, List.getElem_cons_zero])
            clear C4 BB3
            refine wpAnyH_ready (rs := [10]) (by kernel_rfl) (by simp) ?_
            refine AllReadyH.cons rfl (fun K hK => ?_) (AllReadyH.nil)
            rw [if_pos (by rfl)]
            have hA5 := OA4
            have hsB5 := Own8.src OB4
            have hL5 := HLL.out
            have hB05 := encN_len0 (kL key).length
            have hB15 : 0 < (encN (kL key).length ++ kL key).length := by rw [List.length_append]; omega
            refine wp_append_lies _ _ _ _ (by rfl) w1.heap.size 5 i0 _ 1 1 Tryd.underlying28 hi0 hz0 hz1 hz2 rfl (by decide) (.slice (some ⟨gA2, 0, none⟩) (numsE [o, s]).length cA2) (numsE [o, s]).length (bC (numsE [o, s])) (by rfl) hA5 ⟨gB4, 0, none⟩ (encN (kL key).length ++ kL key).length cB4 (bC (encN (kL key).length ++ kL key)) (by rfl) (by rw [bC_len]; omega) hsB5 (bC_one _) hB15 (by unfold maxLen; omega) (by omega) B4.size _ rfl ?_
            intro g5 cap5 W5 own5 hg5 hat5 hlt5
            have G5 : G8 w1 W5 (.slice (some ⟨g5, 0, none⟩) ((numsE [o, s]).length + (encN (kL key).length ++ kL key).length) cap5) ((numsE [o, s]) ++ (encN (kL key).length ++ kL key)) := G8.app (r := (encN (kL key).length ++ kL key)) (G8.mk hA5 B4) (Below.refl _ _) rfl own5 hg5
            have B5 := G5.hb
            generalize hN5 : (numsE [o, s]).length + (encN (kL key).length ++ kL key).length = NL at *
            have HNL := Lib.hid hN5
            clear hN5
            (try dsimp only)
            refine hK.out _ _ ?_ (fun hHeld => ?_)
            · exact ⟨(HR1.out.below B5).c0, (HR1.out.below B5).c1, (HR1.out.below B5).c2⟩
            clear hK K
            (try simp only [Act.put, List.setIfInBounds_toArray, List.set_cons_zero, List.set_cons_succ, List.getElem_toArray, List.getElem_cons_succ, List.getElem_cons_zero])
            clear hA5 hsB5 hB05 own5 hg5 hat5 hlt5 OA4 OB4
            refine wpAnyH_take (i := 11) (v := ?_) rfl (by kernel_rfl) (by kernel_rfl) (by kernel_rfl) (fun _ _ _ h => h) (Or.inl ⟨by rfl, ?_⟩) (by assumption) ?_
            rotate_left
            · intro w' hSw; (try dsimp only at hSw); go_simp; (try with_reducible rfl)
            (try simp only [Act.put, List.setIfInBounds_toArray, List.set_cons_zero, List.set_cons_succ, List.getElem_toArray, List.getElem_cons_succ, List.getElem_cons_zero])
            refine wpAnyH_done (by kernel_rfl) ?_ _
            have HG := Lib.hid G5
            have hR := HR1.out.below B5
            obtain ⟨c0, c1, c2, c3, c4, c5, c6, c7, c8, lt⟩ := hR
            have HC := Lib.hid (ref_nums W5.heap.size 4 [ml, ct, 0, tt] (W5.alloc (.cells #[.int .i64 ml, .int .i64 ct, .int .i64 0, .int .i64 tt] 3)) (by simp) (by simp) (by intro j q; rcases (show j = 0 ∨ j = 1 ∨ j = 2 ∨ j = 3 from by simp at q; omega) with rfl | rfl | rfl | rfl <;> simp [go_sem]) (HZ2.out 0 (by omega) (by omega)) (by simp) (by have := numsE_len [ml, ct, 0, tt] (HZ2.out 0 (by omega) (by omega)); simp at this ⊢; omega))
            have HLC : Hid ((numsE [ml, ct, 0, tt]).length ≤ 36) := Lib.hid (by simpa using numsE_len [ml, ct, 0, tt] (HZ2.out 0 (by omega) (by omega)))
            have HXN : Hid (((numsE [o, s]) ++ (encN (kL key).length ++ kL key)).length = NL) := Lib.hid (List.length_append.trans HNL.out)
            clear G5 hB15
            generalize hX : (numsE [o, s]) ++ (encN (kL key).length ++ kL key) = X at *
            have HX1 : Hid (X.length ≤ 1044) := Lib.hid (by rw [← hX, List.length_append]; have := HLL.out; omega)
            have HXE := Lib.hid hX
            clear hX hL5
            go_wp2_with fail
            refine HC.out.mono ?_; rintro e w3 ⟨ht3, k3⟩
            obtain ⟨g3, q3, rfl, own3⟩ := ht3.of (show w1.heap.size ≤ _ from by have := HG.out.hb.size; simp; omega)
            have k30 : Below W5.heap.size W5 w3 := Below.trans ((Below.refl _ _).alloc (Nat.le_refl _) _) (k3.mono (by simp))
            have HG3 := Lib.hid (HG.out.below k30)
            have hX3 : w3.ownsRow w1.heap.size 5 1 (.slice (some ⟨g5, 0, none⟩) NL cap5) NL (bC X) := by have q : World.ownsRow _ _ _ _ _ X.length (bC X) := HG3.out.row; rw [HXN.out] at q; exact q
            have hs3 := Own8.src own3
            have hb3 := HG3.out.hb.size
            have h30 : 0 < (numsE [ml, ct, 0, tt]).length := by show 0 < (encN ml.toNat ++ numsE [ct, 0, tt]).length; have := encN_len0 ml.toNat; rw [List.length_append]; omega
            have hll3 := HLC.out
            have hxl : NL ≤ 1044 := by have := HX1.out; rwa [HXN.out] at this
            clear HC HG k3 k30 own3 c0 c1 c2 c3 c4 c5 c6 c7 c8 lt
            generalize hD : numsE [ml, ct, 0, tt] = D at *
            have HDE := Lib.hid hD
            clear hD
            go_wp2_with (at_builtin; refine wpList_append_lies _ rfl (.tmp 23) (.tmp 37) _ rfl w1.heap.size 5 i0 _ 1 1 Tryd.underlying28 hi0 hz0 hz1 hz2 rfl (by decide) (.slice (some ⟨g5, 0, none⟩) NL cap5) NL (bC X) rfl hX3 ⟨g3, 0, none⟩ D.length q3 (bC D) rfl (by rw [bC_len]; omega) hs3 (bC_one _) h30 (by unfold maxLen; omega) (by omega) hb3 _ rfl ?_; intro g4 cap4 w4 hown4 hg4 hat4 hlt4; have G4 := G8.app (r := D) HG3.out (Below.refl _ _) (by rw [HXN.out]) hown4 hg4; have HG4 := Lib.hid G4; have hR4 := HR1.out.below G4.hb; have HC4 := Lib.hid (ref_bytes c A val w4 (HY1.out.below G4.hb) hn (by have := HN.out; omega)); obtain ⟨c0, c1, c2, c3, c4, c5, c6, c7, c8, lt⟩ := hR4; clear hown4 hg4 hat4 hlt4 G4)
            refine HC4.out.mono ?_; rintro e w5 ⟨ht5, k5⟩
            obtain ⟨g5, q5, rfl, own5⟩ := ht5.of (show w1.heap.size ≤ _ from HG4.out.hb.size)
            have HG5 := Lib.hid (HG4.out.below k5)
            have hX5 : w5.ownsRow w1.heap.size 5 1 (.slice (some ⟨g4, 0, none⟩) (NL + D.length) cap4) (NL + D.length) (bC (X ++ D)) := by have q : World.ownsRow _ _ _ _ _ (X ++ D).length (bC (X ++ D)) := HG5.out.row; rw [List.length_append, HXN.out] at q; exact q
            have hs5 := Own8.src own5
            have hb5 := HG5.out.hb.size
            have h50 : 0 < (encN val.length ++ val).length := by have := encN_len0 val.length; rw [List.length_append]; omega
            have hll5 := HLL.out.2.2
            clear HC4 HG4 k5 own5 c0 c1 c2 c3 c4 c5 c6 c7 c8 lt hs3 hX3 HG3
            generalize hEE : encN val.length ++ val = EE at *
            have HEE := Lib.hid hEE
            clear hEE ht5 ht3
            go_wp2_with (at_builtin; refine wpList_append_lies _ rfl (.tmp 39) (.tmp 43) _ rfl w1.heap.size 5 i0 _ 1 1 Tryd.underlying28 hi0 hz0 hz1 hz2 rfl (by decide) (.slice (some ⟨g4, 0, none⟩) (NL + D.length) cap4) (NL + D.length) (bC (X ++ D)) rfl hX5 ⟨g5, 0, none⟩ EE.length q5 (bC (EE)) rfl (by rw [bC_len]; omega) hs5 (bC_one _) h50 (by unfold maxLen; omega) (by omega) hb5 _ rfl ?_; intro g6 cap6 w6 hown6 hg6 hat6 hlt6)
            have G6 := G8.app (r := EE) HG5.out (Below.refl _ _) (by rw [List.length_append, HXN.out]) hown6 hg6
            have hE : X ++ D ++ EE = encR ⟨o, s, kL key, ml, ct, vo, val, false, tt⟩ := by rw [← HXE.out, ← HDE.out, ← HEE.out]; simp [numsE, encR, encT, goneN]
            have hEl : NL + D.length + EE.length = (encR ⟨o, s, kL key, ml, ct, vo, val, false, tt⟩).length := by rw [← hE, List.length_append, List.length_append, HXN.out]
            rw [hE] at G6
            rw [hEl] at G6 ⊢
            have HF := Lib.hid (And.intro (own_base (Nat.le_of_lt l1) G6.row) (HB1.out.trans (G6.hb.mono (Nat.le_of_lt l1))))
            clear G6 hown6 hg6 hat6 hlt6 hE hEl
            go_ret2
            exact ⟨g6, cap6, rfl, HF.out.1, HF.out.2⟩
      · have cv6 := Lib.run_convert_string_bytes (P := Tryd.prog) W1 9 28 5 key Tryd.underlying9 Tryd.underlying28 Tryd.underlying5
        have BB6 := bytesWorld_by W1 5 key
        have k6 := bytesWorld_below W1 5 key
        generalize grownCap W1 key.size 0 5 = cp6 at *
        generalize Lib.bytesWorld W1 5 key = W6 at *
        go_simp
        have B6 := B1.trans (k6.mono B1.size)
        (try dsimp only)
        refine hK.out _ _ ?_ (fun hHeld => ?_)
        · exact ⟨(HR1.out.below B6).c0, (HR1.out.below B6).c1, (HR1.out.below B6).c2⟩
        clear hK K
        (try simp only [Act.put, List.setIfInBounds_toArray, List.set_cons_zero, List.set_cons_succ, List.getElem_toArray, List.getElem_cons_succ, List.getElem_cons_zero])
        have PA6 := PA1.below k6
        clear cv6
        refine wpAnyH_ready (rs := [5]) (by kernel_rfl) (by simp) ?_
        refine AllReadyH.cons rfl (fun K hK => ?_) (AllReadyH.nil)
        · go_simp
          have C7 := ref_nums W0.heap.size 2 [o, s] W6 PA6.lt (by simp) PA6.cells HZ1.out (by simp) (by have := HLL.out.1; omega)
          refine C7.mono ?_; rintro e W7 ⟨ht7, k7⟩
          obtain ⟨gA7, cA7, rfl, OA7⟩ := ht7.of B6.size
          have B7 := B6.trans (k7.mono B6.size)
          have BB7 := BB6.below k7
          (try dsimp only)
          refine hK.out _ _ ?_ (fun hHeld => ?_)
          · exact ⟨(HR1.out.below B7).c0, (HR1.out.below B7).c1, (HR1.out.below B7).c2⟩
          clear hK K
          (try simp only [Act.put, List.setIfInBounds_toArray, List.set_cons_zero, List.set_cons_succ, List.getElem_toArray, List.getElem_cons_succ, List.getElem_cons_zero])
          clear C7 PA6
          refine wpAnyH_ready (rs := [9]) (by kernel_rfl) (by simp) ?_
          refine AllReadyH.cons rfl (fun K hK => ?_) (AllReadyH.nil)
          · go_simp
            have C8 := ref_bytes cp6 (some ⟨W1.heap.size, 0, none⟩) (kL key) W7 BB7 (fun h => by cases h) HK.out
            rw [show (Value.slice (some ⟨W1.heap.size, 0, none⟩) (kL key).length cp6) = Value.slice (some ⟨W1.heap.size, 0, none⟩) key.size cp6 from by rw [kL_len]] at C8
            refine C8.mono ?_; rintro e W8 ⟨ht8, k8⟩
            obtain ⟨gB8, cB8, rfl, OB8⟩ := ht8.of B7.size
            have B8 := B7.trans (k8.mono B7.size)
            have OA8 := Own8.below OA7 k8
            (try dsimp only)
            refine hK.out _ _ ?_ (fun hHeld => ?_)
            · exact ⟨(HR1.out.below B8).c0, (HR1.out.below B8).c1, (HR1.out.below B8).c2⟩
            clear hK K
            (try simp only [Act.put, List.setIfInBounds_toArray, List.set_cons_zero, List.set_cons_succ, List.getElem_toArray, List.getElem_cons_succ, List.getElem_cons_zero])
            clear C8 BB7
            refine wpAnyH_ready (rs := [10]) (by kernel_rfl) (by simp) ?_
            refine AllReadyH.cons rfl (fun K hK => ?_) (AllReadyH.nil)
            rw [if_pos (by rfl)]
            have hA9 := OA8
            have hsB9 := Own8.src OB8
            have hL9 := HLL.out
            have hB09 := encN_len0 (kL key).length
            have hB19 : 0 < (encN (kL key).length ++ kL key).length := by rw [List.length_append]; omega
            refine wp_append_lies _ _ _ _ (by rfl) w1.heap.size 5 i0 _ 1 1 Tryd.underlying28 hi0 hz0 hz1 hz2 rfl (by decide) (.slice (some ⟨gA7, 0, none⟩) (numsE [o, s]).length cA7) (numsE [o, s]).length (bC (numsE [o, s])) (by rfl) hA9 ⟨gB8, 0, none⟩ (encN (kL key).length ++ kL key).length cB8 (bC (encN (kL key).length ++ kL key)) (by rfl) (by rw [bC_len]; omega) hsB9 (bC_one _) hB19 (by unfold maxLen; omega) (by omega) B8.size _ rfl ?_
            intro g9 cap9 W9 own9 hg9 hat9 hlt9
            have G9 : G8 w1 W9 (.slice (some ⟨g9, 0, none⟩) ((numsE [o, s]).length + (encN (kL key).length ++ kL key).length) cap9) ((numsE [o, s]) ++ (encN (kL key).length ++ kL key)) := G8.app (r := (encN (kL key).length ++ kL key)) (G8.mk hA9 B8) (Below.refl _ _) rfl own9 hg9
            have B9 := G9.hb
            generalize hN9 : (numsE [o, s]).length + (encN (kL key).length ++ kL key).length = NL at *
            have HNL := Lib.hid hN9
            clear hN9
            (try dsimp only)
            refine hK.out _ _ ?_ (fun hHeld => ?_)
            · exact ⟨(HR1.out.below B9).c0, (HR1.out.below B9).c1, (HR1.out.below B9).c2⟩
            clear hK K
            (try simp only [Act.put, List.setIfInBounds_toArray, List.set_cons_zero, List.set_cons_succ, List.getElem_toArray, List.getElem_cons_succ, List.getElem_cons_zero])
            clear hA9 hsB9 hB09 own9 hg9 hat9 hlt9 OA8 OB8
            refine wpAnyH_take (i := 11) (v := ?_) rfl (by kernel_rfl) (by kernel_rfl) (by kernel_rfl) (fun _ _ _ h => h) (Or.inl ⟨by rfl, ?_⟩) (by assumption) ?_
            rotate_left
            · intro w' hSw; (try dsimp only at hSw); go_simp; (try with_reducible rfl)
            (try simp only [Act.put, List.setIfInBounds_toArray, List.set_cons_zero, List.set_cons_succ, List.getElem_toArray, List.getElem_cons_succ, List.getElem_cons_zero])
            refine wpAnyH_done (by kernel_rfl) ?_ _
            have HG := Lib.hid G9
            have hR := HR1.out.below B9
            obtain ⟨c0, c1, c2, c3, c4, c5, c6, c7, c8, lt⟩ := hR
            have HC := Lib.hid (ref_nums W9.heap.size 4 [ml, ct, 0, tt] (W9.alloc (.cells #[.int .i64 ml, .int .i64 ct, .int .i64 0, .int .i64 tt] 3)) (by simp) (by simp) (by intro j q; rcases (show j = 0 ∨ j = 1 ∨ j = 2 ∨ j = 3 from by simp at q; omega) with rfl | rfl | rfl | rfl <;> simp [go_sem]) (HZ2.out 0 (by omega) (by omega)) (by simp) (by have := numsE_len [ml, ct, 0, tt] (HZ2.out 0 (by omega) (by omega)); simp at this ⊢; omega))
            have HLC : Hid ((numsE [ml, ct, 0, tt]).length ≤ 36) := Lib.hid (by simpa using numsE_len [ml, ct, 0, tt] (HZ2.out 0 (by omega) (by omega)))
            have HXN : Hid (((numsE [o, s]) ++ (encN (kL key).length ++ kL key)).length = NL) := Lib.hid (List.length_append.trans HNL.out)
            clear G9 hB19
            generalize hX : (numsE [o, s]) ++ (encN (kL key).length ++ kL key) = X at *
            have HX1 : Hid (X.length ≤ 1044) := Lib.hid (by rw [← hX, List.length_append]; have := HLL.out; omega)
            have HXE := Lib.hid hX
            clear hX hL9
            go_wp2_with fail
            refine HC.out.mono ?_; rintro e w3 ⟨ht3, k3⟩
            obtain ⟨g3, q3, rfl, own3⟩ := ht3.of (show w1.heap.size ≤ _ from by have := HG.out.hb.size; simp; omega)
            have k30 : Below W9.heap.size W9 w3 := Below.trans ((Below.refl _ _).alloc (Nat.le_refl _) _) (k3.mono (by simp))
            have HG3 := Lib.hid (HG.out.below k30)
            have hX3 : w3.ownsRow w1.heap.size 5 1 (.slice (some ⟨g9, 0, none⟩) NL cap9) NL (bC X) := by have q : World.ownsRow _ _ _ _ _ X.length (bC X) := HG3.out.row; rw [HXN.out] at q; exact q
            have hs3 := Own8.src own3
            have hb3 := HG3.out.hb.size
            have h30 : 0 < (numsE [ml, ct, 0, tt]).length := by show 0 < (encN ml.toNat ++ numsE [ct, 0, tt]).length; have := encN_len0 ml.toNat; rw [List.length_append]; omega
            have hll3 := HLC.out
            have hxl : NL ≤ 1044 := by have := HX1.out; rwa [HXN.out] at this
            clear HC HG k3 k30 own3 c0 c1 c2 c3 c4 c5 c6 c7 c8 lt
            generalize hD : numsE [ml, ct, 0, tt] = D at *
            have HDE := Lib.hid hD
            clear hD
            go_wp2_with (at_builtin; refine wpList_append_lies _ rfl (.tmp 23) (.tmp 37) _ rfl w1.heap.size 5 i0 _ 1 1 Tryd.underlying28 hi0 hz0 hz1 hz2 rfl (by decide) (.slice (some ⟨g9, 0, none⟩) NL cap9) NL (bC X) rfl hX3 ⟨g3, 0, none⟩ D.length q3 (bC D) rfl (by rw [bC_len]; omega) hs3 (bC_one _) h30 (by unfold maxLen; omega) (by omega) hb3 _ rfl ?_; intro g4 cap4 w4 hown4 hg4 hat4 hlt4; have G4 := G8.app (r := D) HG3.out (Below.refl _ _) (by rw [HXN.out]) hown4 hg4; have HG4 := Lib.hid G4; have hR4 := HR1.out.below G4.hb; have HC4 := Lib.hid (ref_bytes c A val w4 (HY1.out.below G4.hb) hn (by have := HN.out; omega)); obtain ⟨c0, c1, c2, c3, c4, c5, c6, c7, c8, lt⟩ := hR4; clear hown4 hg4 hat4 hlt4 G4)
            refine HC4.out.mono ?_; rintro e w5 ⟨ht5, k5⟩
            obtain ⟨g5, q5, rfl, own5⟩ := ht5.of (show w1.heap.size ≤ _ from HG4.out.hb.size)
            have HG5 := Lib.hid (HG4.out.below k5)
            have hX5 : w5.ownsRow w1.heap.size 5 1 (.slice (some ⟨g4, 0, none⟩) (NL + D.length) cap4) (NL + D.length) (bC (X ++ D)) := by have q : World.ownsRow _ _ _ _ _ (X ++ D).length (bC (X ++ D)) := HG5.out.row; rw [List.length_append, HXN.out] at q; exact q
            have hs5 := Own8.src own5
            have hb5 := HG5.out.hb.size
            have h50 : 0 < (encN val.length ++ val).length := by have := encN_len0 val.length; rw [List.length_append]; omega
            have hll5 := HLL.out.2.2
            clear HC4 HG4 k5 own5 c0 c1 c2 c3 c4 c5 c6 c7 c8 lt hs3 hX3 HG3
            generalize hEE : encN val.length ++ val = EE at *
            have HEE := Lib.hid hEE
            clear hEE ht5 ht3
            go_wp2_with (at_builtin; refine wpList_append_lies _ rfl (.tmp 39) (.tmp 43) _ rfl w1.heap.size 5 i0 _ 1 1 Tryd.underlying28 hi0 hz0 hz1 hz2 rfl (by decide) (.slice (some ⟨g4, 0, none⟩) (NL + D.length) cap4) (NL + D.length) (bC (X ++ D)) rfl hX5 ⟨g5, 0, none⟩ EE.length q5 (bC (EE)) rfl (by rw [bC_len]; omega) hs5 (bC_one _) h50 (by unfold maxLen; omega) (by omega) hb5 _ rfl ?_; intro g6 cap6 w6 hown6 hg6 hat6 hlt6)
            have G6 := G8.app (r := EE) HG5.out (Below.refl _ _) (by rw [List.length_append, HXN.out]) hown6 hg6
            have hE : X ++ D ++ EE = encR ⟨o, s, kL key, ml, ct, vo, val, false, tt⟩ := by rw [← HXE.out, ← HDE.out, ← HEE.out]; simp [numsE, encR, encT, goneN]
            have hEl : NL + D.length + EE.length = (encR ⟨o, s, kL key, ml, ct, vo, val, false, tt⟩).length := by rw [← hE, List.length_append, List.length_append, HXN.out]
            rw [hE] at G6
            rw [hEl] at G6 ⊢
            have HF := Lib.hid (And.intro (own_base (Nat.le_of_lt l1) G6.row) (HB1.out.trans (G6.hb.mono (Nat.le_of_lt l1))))
            clear G6 hown6 hg6 hat6 hlt6 hE hEl
            go_ret2
            exact ⟨g6, cap6, rfl, HF.out.1, HF.out.2⟩
    · have cv10 := Lib.run_convert_string_bytes (P := Tryd.prog) W0 9 28 5 key Tryd.underlying9 Tryd.underlying28 Tryd.underlying5
      have BB10 := bytesWorld_by W0 5 key
      have k10 := bytesWorld_below W0 5 key
      generalize grownCap W0 key.size 0 5 = cp10 at *
      generalize Lib.bytesWorld W0 5 key = W10 at *
      go_simp
      have B10 := B0.trans (k10.mono B0.size)
      (try dsimp only)
      refine hK.out _ _ ?_ (fun hHeld => ?_)
      · exact ⟨(HR1.out.below B10).c0, (HR1.out.below B10).c1, (HR1.out.below B10).c2⟩
      clear hK K
      (try simp only [Act.put, List.setIfInBounds_toArray, List.set_cons_zero, List.set_cons_succ, List.getElem_toArray, List.getElem_cons_succ, List.getElem_cons_zero])
      clear cv10
      refine wpAnyH_ready (rs := [4]) (by kernel_rfl) (by simp) ?_
      refine AllReadyH.cons rfl (fun K hK => ?_) (AllReadyH.nil)
      · go_simp
        have k11 : Below W10.heap.size W10 (W10.alloc (.cells #[.int .i64 o, .int .i64 s] 3)) := (Below.refl _ _).alloc (Nat.le_refl _) _
        have B11 := B10.trans (k11.mono B10.size)
        (try dsimp only)
        refine hK.out _ _ ?_ (fun hHeld => ?_)
        · exact ⟨(HR1.out.below B11).c0, (HR1.out.below B11).c1, (HR1.out.below B11).c2⟩
        clear hK K
        (try simp only [Act.put, List.setIfInBounds_toArray, List.set_cons_zero, List.set_cons_succ, List.getElem_toArray, List.getElem_cons_succ, List.getElem_cons_zero])
        have BB11 := BB10.below k11
        have PA11 := PN.new W10 o s 3
        generalize hW11 : W10.alloc (.cells #[.int .i64 o, .int .i64 s] 3) = W11 at *
        clear hW11
        refine wpAnyH_ready (rs := [5]) (by kernel_rfl) (by simp) ?_
        refine AllReadyH.cons rfl (fun K hK => ?_) (AllReadyH.nil)
        · go_simp
          have C12 := ref_nums W10.heap.size 2 [o, s] W11 PA11.lt (by simp) PA11.cells HZ1.out (by simp) (by have := HLL.out.1; omega)
          refine C12.mono ?_; rintro e W12 ⟨ht12, k12⟩
          obtain ⟨gA12, cA12, rfl, OA12⟩ := ht12.of B11.size
          have B12 := B11.trans (k12.mono B11.size)
          have BB12 := BB11.below k12
          (try dsimp only)
          refine hK.out _ _ ?_ (fun hHeld => ?_)
          · exact ⟨(HR1.out.below B12).c0, (HR1.out.below B12).c1, (HR1.out.below B12).c2⟩
          clear hK K
          (try simp only [Act.put, List.setIfInBounds_toArray, List.set_cons_zero, List.set_cons_succ, List.getElem_toArray, List.getElem_cons_succ, List.getElem_cons_zero])
          clear C12 PA11
          refine wpAnyH_ready (rs := [9]) (by kernel_rfl) (by simp) ?_
          refine AllReadyH.cons rfl (fun K hK => ?_) (AllReadyH.nil)
          · go_simp
            have C13 := ref_bytes cp10 (some ⟨W0.heap.size, 0, none⟩) (kL key) W12 BB12 (fun h => by cases h) HK.out
            rw [show (Value.slice (some ⟨W0.heap.size, 0, none⟩) (kL key).length cp10) = Value.slice (some ⟨W0.heap.size, 0, none⟩) key.size cp10 from by rw [kL_len]] at C13
            refine C13.mono ?_; rintro e W13 ⟨ht13, k13⟩
            obtain ⟨gB13, cB13, rfl, OB13⟩ := ht13.of B12.size
            have B13 := B12.trans (k13.mono B12.size)
            have OA13 := Own8.below OA12 k13
            (try dsimp only)
            refine hK.out _ _ ?_ (fun hHeld => ?_)
            · exact ⟨(HR1.out.below B13).c0, (HR1.out.below B13).c1, (HR1.out.below B13).c2⟩
            clear hK K
            (try simp only [Act.put, List.setIfInBounds_toArray, List.set_cons_zero, List.set_cons_succ, List.getElem_toArray, List.getElem_cons_succ, List.getElem_cons_zero])
            clear C13 BB12
            refine wpAnyH_ready (rs := [10]) (by kernel_rfl) (by simp) ?_
            refine AllReadyH.cons rfl (fun K hK => ?_) (AllReadyH.nil)
            rw [if_pos (by rfl)]
            have hA14 := OA13
            have hsB14 := Own8.src OB13
            have hL14 := HLL.out
            have hB014 := encN_len0 (kL key).length
            have hB114 : 0 < (encN (kL key).length ++ kL key).length := by rw [List.length_append]; omega
            refine wp_append_lies _ _ _ _ (by rfl) w1.heap.size 5 i0 _ 1 1 Tryd.underlying28 hi0 hz0 hz1 hz2 rfl (by decide) (.slice (some ⟨gA12, 0, none⟩) (numsE [o, s]).length cA12) (numsE [o, s]).length (bC (numsE [o, s])) (by rfl) hA14 ⟨gB13, 0, none⟩ (encN (kL key).length ++ kL key).length cB13 (bC (encN (kL key).length ++ kL key)) (by rfl) (by rw [bC_len]; omega) hsB14 (bC_one _) hB114 (by unfold maxLen; omega) (by omega) B13.size _ rfl ?_
            intro g14 cap14 W14 own14 hg14 hat14 hlt14
            have G14 : G8 w1 W14 (.slice (some ⟨g14, 0, none⟩) ((numsE [o, s]).length + (encN (kL key).length ++ kL key).length) cap14) ((numsE [o, s]) ++ (encN (kL key).length ++ kL key)) := G8.app (r := (encN (kL key).length ++ kL key)) (G8.mk hA14 B13) (Below.refl _ _) rfl own14 hg14
            have B14 := G14.hb
            generalize hN14 : (numsE [o, s]).length + (encN (kL key).length ++ kL key).length = NL at *
            have HNL := Lib.hid hN14
            clear hN14
            (try dsimp only)
            refine hK.out _ _ ?_ (fun hHeld => ?_)
            · exact ⟨(HR1.out.below B14).c0, (HR1.out.below B14).c1, (HR1.out.below B14).c2⟩
            clear hK K
            (try simp only [Act.put, List.setIfInBounds_toArray, List.set_cons_zero, List.set_cons_succ, List.getElem_toArray, List.getElem_cons_succ, List.getElem_cons_zero])
            clear hA14 hsB14 hB014 own14 hg14 hat14 hlt14 OA13 OB13
            refine wpAnyH_take (i := 11) (v := ?_) rfl (by kernel_rfl) (by kernel_rfl) (by kernel_rfl) (fun _ _ _ h => h) (Or.inl ⟨by rfl, ?_⟩) (by assumption) ?_
            rotate_left
            · intro w' hSw; (try dsimp only at hSw); go_simp; (try with_reducible rfl)
            (try simp only [Act.put, List.setIfInBounds_toArray, List.set_cons_zero, List.set_cons_succ, List.getElem_toArray, List.getElem_cons_succ, List.getElem_cons_zero])
            refine wpAnyH_done (by kernel_rfl) ?_ _
            have HG := Lib.hid G14
            have hR := HR1.out.below B14
            obtain ⟨c0, c1, c2, c3, c4, c5, c6, c7, c8, lt⟩ := hR
            have HC := Lib.hid (ref_nums W14.heap.size 4 [ml, ct, 0, tt] (W14.alloc (.cells #[.int .i64 ml, .int .i64 ct, .int .i64 0, .int .i64 tt] 3)) (by simp) (by simp) (by intro j q; rcases (show j = 0 ∨ j = 1 ∨ j = 2 ∨ j = 3 from by simp at q; omega) with rfl | rfl | rfl | rfl <;> simp [go_sem]) (HZ2.out 0 (by omega) (by omega)) (by simp) (by have := numsE_len [ml, ct, 0, tt] (HZ2.out 0 (by omega) (by omega)); simp at this ⊢; omega))
            have HLC : Hid ((numsE [ml, ct, 0, tt]).length ≤ 36) := Lib.hid (by simpa using numsE_len [ml, ct, 0, tt] (HZ2.out 0 (by omega) (by omega)))
            have HXN : Hid (((numsE [o, s]) ++ (encN (kL key).length ++ kL key)).length = NL) := Lib.hid (List.length_append.trans HNL.out)
            clear G14 hB114
            generalize hX : (numsE [o, s]) ++ (encN (kL key).length ++ kL key) = X at *
            have HX1 : Hid (X.length ≤ 1044) := Lib.hid (by rw [← hX, List.length_append]; have := HLL.out; omega)
            have HXE := Lib.hid hX
            clear hX hL14
            go_wp2_with fail
            refine HC.out.mono ?_; rintro e w3 ⟨ht3, k3⟩
            obtain ⟨g3, q3, rfl, own3⟩ := ht3.of (show w1.heap.size ≤ _ from by have := HG.out.hb.size; simp; omega)
            have k30 : Below W14.heap.size W14 w3 := Below.trans ((Below.refl _ _).alloc (Nat.le_refl _) _) (k3.mono (by simp))
            have HG3 := Lib.hid (HG.out.below k30)
            have hX3 : w3.ownsRow w1.heap.size 5 1 (.slice (some ⟨g14, 0, none⟩) NL cap14) NL (bC X) := by have q : World.ownsRow _ _ _ _ _ X.length (bC X) := HG3.out.row; rw [HXN.out] at q; exact q
            have hs3 := Own8.src own3
            have hb3 := HG3.out.hb.size
            have h30 : 0 < (numsE [ml, ct, 0, tt]).length := by show 0 < (encN ml.toNat ++ numsE [ct, 0, tt]).length; have := encN_len0 ml.toNat; rw [List.length_append]; omega
            have hll3 := HLC.out
            have hxl : NL ≤ 1044 := by have := HX1.out; rwa [HXN.out] at this
            clear HC HG k3 k30 own3 c0 c1 c2 c3 c4 c5 c6 c7 c8 lt
            generalize hD : numsE [ml, ct, 0, tt] = D at *
            have HDE := Lib.hid hD
            clear hD
            go_wp2_with (at_builtin; refine wpList_append_lies _ rfl (.tmp 23) (.tmp 37) _ rfl w1.heap.size 5 i0 _ 1 1 Tryd.underlying28 hi0 hz0 hz1 hz2 rfl (by decide) (.slice (some ⟨g14, 0, none⟩) NL cap14) NL (bC X) rfl hX3 ⟨g3, 0, none⟩ D.length q3 (bC D) rfl (by rw [bC_len]; omega) hs3 (bC_one _) h30 (by unfold maxLen; omega) (by omega) hb3 _ rfl ?_; intro g4 cap4 w4 hown4 hg4 hat4 hlt4; have G4 := G8.app (r := D) HG3.out (Below.refl _ _) (by rw [HXN.out]) hown4 hg4; have HG4 := Lib.hid G4; have hR4 := HR1.out.below G4.hb; have HC4 := Lib.hid (ref_bytes c A val w4 (HY1.out.below G4.hb) hn (by have := HN.out; omega)); obtain ⟨c0, c1, c2, c3, c4, c5, c6, c7, c8, lt⟩ := hR4; clear hown4 hg4 hat4 hlt4 G4)
            refine HC4.out.mono ?_; rintro e w5 ⟨ht5, k5⟩
            obtain ⟨g5, q5, rfl, own5⟩ := ht5.of (show w1.heap.size ≤ _ from HG4.out.hb.size)
            have HG5 := Lib.hid (HG4.out.below k5)
            have hX5 : w5.ownsRow w1.heap.size 5 1 (.slice (some ⟨g4, 0, none⟩) (NL + D.length) cap4) (NL + D.length) (bC (X ++ D)) := by have q : World.ownsRow _ _ _ _ _ (X ++ D).length (bC (X ++ D)) := HG5.out.row; rw [List.length_append, HXN.out] at q; exact q
            have hs5 := Own8.src own5
            have hb5 := HG5.out.hb.size
            have h50 : 0 < (encN val.length ++ val).length := by have := encN_len0 val.length; rw [List.length_append]; omega
            have hll5 := HLL.out.2.2
            clear HC4 HG4 k5 own5 c0 c1 c2 c3 c4 c5 c6 c7 c8 lt hs3 hX3 HG3
            generalize hEE : encN val.length ++ val = EE at *
            have HEE := Lib.hid hEE
            clear hEE ht5 ht3
            go_wp2_with (at_builtin; refine wpList_append_lies _ rfl (.tmp 39) (.tmp 43) _ rfl w1.heap.size 5 i0 _ 1 1 Tryd.underlying28 hi0 hz0 hz1 hz2 rfl (by decide) (.slice (some ⟨g4, 0, none⟩) (NL + D.length) cap4) (NL + D.length) (bC (X ++ D)) rfl hX5 ⟨g5, 0, none⟩ EE.length q5 (bC (EE)) rfl (by rw [bC_len]; omega) hs5 (bC_one _) h50 (by unfold maxLen; omega) (by omega) hb5 _ rfl ?_; intro g6 cap6 w6 hown6 hg6 hat6 hlt6)
            have G6 := G8.app (r := EE) HG5.out (Below.refl _ _) (by rw [List.length_append, HXN.out]) hown6 hg6
            have hE : X ++ D ++ EE = encR ⟨o, s, kL key, ml, ct, vo, val, false, tt⟩ := by rw [← HXE.out, ← HDE.out, ← HEE.out]; simp [numsE, encR, encT, goneN]
            have hEl : NL + D.length + EE.length = (encR ⟨o, s, kL key, ml, ct, vo, val, false, tt⟩).length := by rw [← hE, List.length_append, List.length_append, HXN.out]
            rw [hE] at G6
            rw [hEl] at G6 ⊢
            have HF := Lib.hid (And.intro (own_base (Nat.le_of_lt l1) G6.row) (HB1.out.trans (G6.hb.mono (Nat.le_of_lt l1))))
            clear G6 hown6 hg6 hat6 hlt6 hE hEl
            go_ret2
            exact ⟨g6, cap6, rfl, HF.out.1, HF.out.2⟩
  · go_enter Tryd.func88, Tryd.ntmps88
    go_wp2_with fail
    refine HI.out.mono ?_; rintro e w1 ⟨rfl, hb1⟩
    have HB1 := Lib.hid (HX.out.1.trans (hb1.mono HX.out.1.size))
    have R1 := HX.out.2.1.below hb1
    have HY1 := Lib.hid (HX.out.2.2.below HB1.out)
    have l1 : w.heap.size < w1.heap.size := R1.lt
    have HR1 := Lib.hid R1
    obtain ⟨c0, c1, c2, c3, c4, c5, c6, c7, c8, lt⟩ := R1
    clear hb1 HI HX
    go_wp2_with fail
    refine wp_region_held_drew (S := fun w' => w'.cell? ⟨w.heap.size, 0, none⟩ = some (.int .i64 o) ∧ w'.cell? ⟨w.heap.size, 1, none⟩ = some (.int .i64 s) ∧ w'.cell? ⟨w.heap.size, 2, none⟩ = some (.string key)) (by kernel_rfl) ?_ (fun hHeld => ?_)
    · exact ⟨c0, c1, c2⟩
    have B0 : Below w1.heap.size w1 w1.drew := ⟨rfl, rfl, rfl, Nat.le_refl _, fun _ _ => rfl⟩
    clear c0 c1 c2 c3 c4 c5 c6 c7 c8 lt
    generalize w1.drew = W0 at *
    refine wpAnyH_take (i := 0) (v := ?_) rfl (by kernel_rfl) (by kernel_rfl) (by kernel_rfl) (fun _ _ _ h => h) (Or.inl ⟨by rfl, ?_⟩) (by assumption) ?_
    rotate_left
    · intro w' hSw; (try dsimp only at hSw); go_simp; (try with_reducible rfl)
    (try simp only [Act.put, List.setIfInBounds_toArray, List.set_cons_zero, List.set_cons_succ, List.getElem_toArray, List.getElem_cons_succ, List.getElem_cons_zero])
    refine wpAnyH_take (i := 1) (v := ?_) rfl (by kernel_rfl) (by kernel_rfl) (by kernel_rfl) (fun _ _ _ h => h) (Or.inl ⟨by rfl, ?_⟩) (by assumption) ?_
    rotate_left
    · intro w' hSw; (try dsimp only at hSw); go_simp; (try with_reducible rfl)
    (try simp only [Act.put, List.setIfInBounds_toArray, List.set_cons_zero, List.set_cons_succ, List.getElem_toArray, List.getElem_cons_succ, List.getElem_cons_zero])
    refine wpAnyH_take (i := 2) (v := ?_) rfl (by kernel_rfl) (by kernel_rfl) (by kernel_rfl) (fun _ _ _ h => h) (Or.inl ⟨by rfl, ?_⟩) (by assumption) ?_
    rotate_left
    · intro w' hSw; (try dsimp only at hSw); go_simp; (try with_reducible rfl)
    (try simp only [Act.put, List.setIfInBounds_toArray, List.set_cons_zero, List.set_cons_succ, List.getElem_toArray, List.getElem_cons_succ, List.getElem_cons_zero])
    refine wpAnyH_take (i := 3) (v := ?_) rfl (by kernel_rfl) (by kernel_rfl) (by kernel_rfl) (fun _ _ _ h => h) (Or.inl ⟨by rfl, ?_⟩) (by assumption) ?_
    rotate_left
    · intro w' hSw; (try dsimp only at hSw); go_simp; (try with_reducible rfl)
    (try simp only [Act.put, List.setIfInBounds_toArray, List.set_cons_zero, List.set_cons_succ, List.getElem_toArray, List.getElem_cons_succ, List.getElem_cons_zero])
    refine wpAnyH_take (i := 6) (v := ?_) rfl (by kernel_rfl) (by kernel_rfl) (by kernel_rfl) (fun _ _ _ h => h) (Or.inl ⟨by rfl, ?_⟩) (by assumption) ?_
    rotate_left
    · intro w' hSw; (try dsimp only at hSw); go_simp; (try with_reducible rfl)
    (try simp only [Act.put, List.setIfInBounds_toArray, List.set_cons_zero, List.set_cons_succ, List.getElem_toArray, List.getElem_cons_succ, List.getElem_cons_zero])
    refine wpAnyH_take (i := 7) (v := ?_) rfl (by kernel_rfl) (by kernel_rfl) (by kernel_rfl) (fun _ _ _ h => h) (Or.inl ⟨by rfl, ?_⟩) (by assumption) ?_
    rotate_left
    · intro w' hSw; (try dsimp only at hSw); go_simp; (try with_reducible rfl)
    (try simp only [Act.put, List.setIfInBounds_toArray, List.set_cons_zero, List.set_cons_succ, List.getElem_toArray, List.getElem_cons_succ, List.getElem_cons_zero])
    refine wpAnyH_ready (rs := [4, 8]) (by kernel_rfl) (by simp) ?_
    refine AllReadyH.cons rfl (fun K hK => ?_) (AllReadyH.cons rfl (fun K hK => ?_) (AllReadyH.nil))
    · go_simp
      have k1 : Below W0.heap.size W0 (W0.alloc (.cells #[.int .i64 o, .int .i64 s] 3)) := (Below.refl _ _).alloc (Nat.le_refl _) _
      have B1 := B0.trans (k1.mono B0.size)
      (try dsimp only)
      refine hK.out _ _ ?_ (fun hHeld => ?_)
      · exact ⟨(HR1.out.below B1).c0, (HR1.out.below B1).c1, (HR1.out.below B1).c2⟩
      clear hK K
      (try simp only [Act.put, List.setIfInBounds_toArray, List.set_cons_zero, List.set_cons_succ, List.getElem_toArray, List.getElem_cons_succ, List.getElem_cons_zero])
      have PA1 := PN.new W0 o s 3
      generalize hW1 : W0.alloc (.cells #[.int .i64 o, .int .i64 s] 3) = W1 at *
      clear hW1
      refine wpAnyH_ready (rs := [5, 8]) (by kernel_rfl) (by simp) ?_
      refine AllReadyH.cons rfl (fun K hK => ?_) (AllReadyH.cons rfl (fun K hK => ?_) (AllReadyH.nil))
      · go_simp
        have C2 := ref_nums W0.heap.size 2 [o, s] W1 PA1.lt (by simp) PA1.cells HZ1.out (by simp) (by have := HLL.out.1; omega)
        refine C2.mono ?_; rintro e W2 ⟨ht2, k2⟩
        obtain ⟨gA2, cA2, rfl, OA2⟩ := ht2.of B1.size
        have B2 := B1.trans (k2.mono B1.size)
        (try dsimp only)
        refine hK.out _ _ ?_ (fun hHeld => ?_)
        · exact ⟨(HR1.out.below B2).c0, (HR1.out.below B2).c1, (HR1.out.below B2).c2⟩
        clear hK K
        (try simp only [Act.put, List.setIfInBounds_toArray, List.set_cons_zero, List.set_cons_succ, List.getElem_toArray, List.getElem_cons_succ, List.getElem_cons_zero])
        clear C2 PA1
        refine wpAnyH_ready (rs := [8]) (by kernel_rfl) (by simp) ?_
        refine AllReadyH.cons rfl (fun K hK => ?_) (AllReadyH.nil)
        · have cv3 := Lib.run_convert_string_bytes (P := Tryd.prog) W2 9 28 5 key Tryd.underlying9 Tryd.underlying28 Tryd.underlying5
          have BB3 := bytesWorld_by W2 5 key
          have k3 := bytesWorld_below W2 5 key
          generalize grownCap W2 key.size 0 5 = cp3 at *
          generalize Lib.bytesWorld W2 5 key = W3 at *
          go_simp
          have B3 := B2.trans (k3.mono B2.size)
          (try dsimp only)
          refine hK.out _ _ ?_ (fun hHeld => ?_)
          · exact ⟨(HR1.out.below B3).c0, (HR1.out.below B3).c1, (HR1.out.below B3).c2⟩
          clear hK K
          (try simp only [Act.put, List.setIfInBounds_toArray, List.set_cons_zero, List.set_cons_succ, List.getElem_toArray, List.getElem_cons_succ, List.getElem_cons_zero])
          have OA3 := Own8.below OA2 k3
          clear cv3
          refine wpAnyH_ready (rs := [9]) (by kernel_rfl) (by simp) ?_
          refine AllReadyH.cons rfl (fun K hK => ?_) (AllReadyH.nil)
          · go_simp
            have C4 := ref_bytes cp3 (some ⟨W2.heap.size, 0, none⟩) (kL key) W3 BB3 (fun h => by cases h) HK.out
            rw [show (Value.slice (some ⟨W2.heap.size, 0, none⟩) (kL key).length cp3) = Value.slice (some ⟨W2.heap.size, 0, none⟩) key.size cp3 from by rw [kL_len]] at C4
            refine C4.mono ?_; rintro e W4 ⟨ht4, k4⟩
            obtain ⟨gB4, cB4, rfl, OB4⟩ := ht4.of B3.size
            have B4 := B3.trans (k4.mono B3.size)
            have OA4 := Own8.below OA3 k4
            (try dsimp only)
            refine hK.out _ _ ?_ (fun hHeld => ?_)
            · exact ⟨(HR1.out.below B4).c0, (HR1.out.below B4).c1, (HR1.out.below B4).c2⟩
            clear hK K
            (try simp only [Act.put, List.setIfInBounds_toArray, List.set_cons_zero, List.set_cons_succ, List.getElem_toArray, List.getElem_cons_succ, List.getElem_cons_zero])
            clear C4 BB3
            refine wpAnyH_ready (rs := [10]) (by kernel_rfl) (by simp) ?_
            refine AllReadyH.cons rfl (fun K hK => ?_) (AllReadyH.nil)
            rw [if_pos (by rfl)]
            have hA5 := OA4
            have hsB5 := Own8.src OB4
            have hL5 := HLL.out
            have hB05 := encN_len0 (kL key).length
            have hB15 : 0 < (encN (kL key).length ++ kL key).length := by rw [List.length_append]; omega
            refine wp_append_lies _ _ _ _ (by rfl) w1.heap.size 5 i0 _ 1 1 Tryd.underlying28 hi0 hz0 hz1 hz2 rfl (by decide) (.slice (some ⟨gA2, 0, none⟩) (numsE [o, s]).length cA2) (numsE [o, s]).length (bC (numsE [o, s])) (by rfl) hA5 ⟨gB4, 0, none⟩ (encN (kL key).length ++ kL key).length cB4 (bC (encN (kL key).length ++ kL key)) (by rfl) (by rw [bC_len]; omega) hsB5 (bC_one _) hB15 (by unfold maxLen; omega) (by omega) B4.size _ rfl ?_
            intro g5 cap5 W5 own5 hg5 hat5 hlt5
            have G5 : G8 w1 W5 (.slice (some ⟨g5, 0, none⟩) ((numsE [o, s]).length + (encN (kL key).length ++ kL key).length) cap5) ((numsE [o, s]) ++ (encN (kL key).length ++ kL key)) := G8.app (r := (encN (kL key).length ++ kL key)) (G8.mk hA5 B4) (Below.refl _ _) rfl own5 hg5
            have B5 := G5.hb
            generalize hN5 : (numsE [o, s]).length + (encN (kL key).length ++ kL key).length = NL at *
            have HNL := Lib.hid hN5
            clear hN5
            (try dsimp only)
            refine hK.out _ _ ?_ (fun hHeld => ?_)
            · exact ⟨(HR1.out.below B5).c0, (HR1.out.below B5).c1, (HR1.out.below B5).c2⟩
            clear hK K
            (try simp only [Act.put, List.setIfInBounds_toArray, List.set_cons_zero, List.set_cons_succ, List.getElem_toArray, List.getElem_cons_succ, List.getElem_cons_zero])
            clear hA5 hsB5 hB05 own5 hg5 hat5 hlt5 OA4 OB4
            refine wpAnyH_take (i := 11) (v := ?_) rfl (by kernel_rfl) (by kernel_rfl) (by kernel_rfl) (fun _ _ _ h => h) (Or.inl ⟨by rfl, ?_⟩) (by assumption) ?_
            rotate_left
            · intro w' hSw; (try dsimp only at hSw); go_simp; (try with_reducible rfl)
            (try simp only [Act.put, List.setIfInBounds_toArray, List.set_cons_zero, List.set_cons_succ, List.getElem_toArray, List.getElem_cons_succ, List.getElem_cons_zero])
            refine wpAnyH_done (by kernel_rfl) ?_ _
            have HG := Lib.hid G5
            have hR := HR1.out.below B5
            obtain ⟨c0, c1, c2, c3, c4, c5, c6, c7, c8, lt⟩ := hR
            have HC := Lib.hid (ref_nums W5.heap.size 4 [ml, ct, 1, tt] (W5.alloc (.cells #[.int .i64 ml, .int .i64 ct, .int .i64 1, .int .i64 tt] 3)) (by simp) (by simp) (by intro j q; rcases (show j = 0 ∨ j = 1 ∨ j = 2 ∨ j = 3 from by simp at q; omega) with rfl | rfl | rfl | rfl <;> simp [go_sem]) (HZ2.out 1 (by omega) (by omega)) (by simp) (by have := numsE_len [ml, ct, 1, tt] (HZ2.out 1 (by omega) (by omega)); simp at this ⊢; omega))
            have HLC : Hid ((numsE [ml, ct, 1, tt]).length ≤ 36) := Lib.hid (by simpa using numsE_len [ml, ct, 1, tt] (HZ2.out 1 (by omega) (by omega)))
            have HXN : Hid (((numsE [o, s]) ++ (encN (kL key).length ++ kL key)).length = NL) := Lib.hid (List.length_append.trans HNL.out)
            clear G5 hB15
            generalize hX : (numsE [o, s]) ++ (encN (kL key).length ++ kL key) = X at *
            have HX1 : Hid (X.length ≤ 1044) := Lib.hid (by rw [← hX, List.length_append]; have := HLL.out; omega)
            have HXE := Lib.hid hX
            clear hX hL5
            go_wp2_with fail
            refine HC.out.mono ?_; rintro e w3 ⟨ht3, k3⟩
            obtain ⟨g3, q3, rfl, own3⟩ := ht3.of (show w1.heap.size ≤ _ from by have := HG.out.hb.size; simp; omega)
            have k30 : Below W5.heap.size W5 w3 := Below.trans ((Below.refl _ _).alloc (Nat.le_refl _) _) (k3.mono (by simp))
            have HG3 := Lib.hid (HG.out.below k30)
            have hX3 : w3.ownsRow w1.heap.size 5 1 (.slice (some ⟨g5, 0, none⟩) NL cap5) NL (bC X) := by have q : World.ownsRow _ _ _ _ _ X.length (bC X) := HG3.out.row; rw [HXN.out] at q; exact q
            have hs3 := Own8.src own3
            have hb3 := HG3.out.hb.size
            have h30 : 0 < (numsE [ml, ct, 1, tt]).length := by show 0 < (encN ml.toNat ++ numsE [ct, 1, tt]).length; have := encN_len0 ml.toNat; rw [List.length_append]; omega
            have hll3 := HLC.out
            have hxl : NL ≤ 1044 := by have := HX1.out; rwa [HXN.out] at this
            clear HC HG k3 k30 own3 c0 c1 c2 c3 c4 c5 c6 c7 c8 lt
            generalize hD : numsE [ml, ct, 1, tt] = D at *
            have HDE := Lib.hid hD
            clear hD
            go_wp2_with (at_builtin; refine wpList_append_lies _ rfl (.tmp 23) (.tmp 37) _ rfl w1.heap.size 5 i0 _ 1 1 Tryd.underlying28 hi0 hz0 hz1 hz2 rfl (by decide) (.slice (some ⟨g5, 0, none⟩) NL cap5) NL (bC X) rfl hX3 ⟨g3, 0, none⟩ D.length q3 (bC D) rfl (by rw [bC_len]; omega) hs3 (bC_one _) h30 (by unfold maxLen; omega) (by omega) hb3 _ rfl ?_; intro g4 cap4 w4 hown4 hg4 hat4 hlt4; have G4 := G8.app (r := D) HG3.out (Below.refl _ _) (by rw [HXN.out]) hown4 hg4; have HG4 := Lib.hid G4; have hR4 := HR1.out.below G4.hb; have HC4 := Lib.hid (ref_bytes c A val w4 (HY1.out.below G4.hb) hn (by have := HN.out; omega)); obtain ⟨c0, c1, c2, c3, c4, c5, c6, c7, c8, lt⟩ := hR4; clear hown4 hg4 hat4 hlt4 G4)
            refine HC4.out.mono ?_; rintro e w5 ⟨ht5, k5⟩
            obtain ⟨g5, q5, rfl, own5⟩ := ht5.of (show w1.heap.size ≤ _ from HG4.out.hb.size)
            have HG5 := Lib.hid (HG4.out.below k5)
            have hX5 : w5.ownsRow w1.heap.size 5 1 (.slice (some ⟨g4, 0, none⟩) (NL + D.length) cap4) (NL + D.length) (bC (X ++ D)) := by have q : World.ownsRow _ _ _ _ _ (X ++ D).length (bC (X ++ D)) := HG5.out.row; rw [List.length_append, HXN.out] at q; exact q
            have hs5 := Own8.src own5
            have hb5 := HG5.out.hb.size
            have h50 : 0 < (encN val.length ++ val).length := by have := encN_len0 val.length; rw [List.length_append]; omega
            have hll5 := HLL.out.2.2
            clear HC4 HG4 k5 own5 c0 c1 c2 c3 c4 c5 c6 c7 c8 lt hs3 hX3 HG3
            generalize hEE : encN val.length ++ val = EE at *
            have HEE := Lib.hid hEE
            clear hEE ht5 ht3
            go_wp2_with (at_builtin; refine wpList_append_lies _ rfl (.tmp 39) (.tmp 43) _ rfl w1.heap.size 5 i0 _ 1 1 Tryd.underlying28 hi0 hz0 hz1 hz2 rfl (by decide) (.slice (some ⟨g4, 0, none⟩) (NL + D.length) cap4) (NL + D.length) (bC (X ++ D)) rfl hX5 ⟨g5, 0, none⟩ EE.length q5 (bC (EE)) rfl (by rw [bC_len]; omega) hs5 (bC_one _) h50 (by unfold maxLen; omega) (by omega) hb5 _ rfl ?_; intro g6 cap6 w6 hown6 hg6 hat6 hlt6)
            have G6 := G8.app (r := EE) HG5.out (Below.refl _ _) (by rw [List.length_append, HXN.out]) hown6 hg6
            have hE : X ++ D ++ EE = encR ⟨o, s, kL key, ml, ct, vo, val, true, tt⟩ := by rw [← HXE.out, ← HDE.out, ← HEE.out]; simp [numsE, encR, encT, goneN]
            have hEl : NL + D.length + EE.length = (encR ⟨o, s, kL key, ml, ct, vo, val, true, tt⟩).length := by rw [← hE, List.length_append, List.length_append, HXN.out]
            rw [hE] at G6
            rw [hEl] at G6 ⊢
            have HF := Lib.hid (And.intro (own_base (Nat.le_of_lt l1) G6.row) (HB1.out.trans (G6.hb.mono (Nat.le_of_lt l1))))
            clear G6 hown6 hg6 hat6 hlt6 hE hEl
            go_ret2
            exact ⟨g6, cap6, rfl, HF.out.1, HF.out.2⟩
      · have cv6 := Lib.run_convert_string_bytes (P := Tryd.prog) W1 9 28 5 key Tryd.underlying9 Tryd.underlying28 Tryd.underlying5
        have BB6 := bytesWorld_by W1 5 key
        have k6 := bytesWorld_below W1 5 key
        generalize grownCap W1 key.size 0 5 = cp6 at *
        generalize Lib.bytesWorld W1 5 key = W6 at *
        go_simp
        have B6 := B1.trans (k6.mono B1.size)
        (try dsimp only)
        refine hK.out _ _ ?_ (fun hHeld => ?_)
        · exact ⟨(HR1.out.below B6).c0, (HR1.out.below B6).c1, (HR1.out.below B6).c2⟩
        clear hK K
        (try simp only [Act.put, List.setIfInBounds_toArray, List.set_cons_zero, List.set_cons_succ, List.getElem_toArray, List.getElem_cons_succ, List.getElem_cons_zero])
        have PA6 := PA1.below k6
        clear cv6
        refine wpAnyH_ready (rs := [5]) (by kernel_rfl) (by simp) ?_
        refine AllReadyH.cons rfl (fun K hK => ?_) (AllReadyH.nil)
        · go_simp
          have C7 := ref_nums W0.heap.size 2 [o, s] W6 PA6.lt (by simp) PA6.cells HZ1.out (by simp) (by have := HLL.out.1; omega)
          refine C7.mono ?_; rintro e W7 ⟨ht7, k7⟩
          obtain ⟨gA7, cA7, rfl, OA7⟩ := ht7.of B6.size
          have B7 := B6.trans (k7.mono B6.size)
          have BB7 := BB6.below k7
          (try dsimp only)
          refine hK.out _ _ ?_ (fun hHeld => ?_)
          · exact ⟨(HR1.out.below B7).c0, (HR1.out.below B7).c1, (HR1.out.below B7).c2⟩
          clear hK K
          (try simp only [Act.put, List.setIfInBounds_toArray, List.set_cons_zero, List.set_cons_succ, List.getElem_toArray, List.getElem_cons_succ, List.getElem_cons_zero])
          clear C7 PA6
          refine wpAnyH_ready (rs := [9]) (by kernel_rfl) (by simp) ?_
          refine AllReadyH.cons rfl (fun K hK => ?_) (AllReadyH.nil)
          · go_simp
            have C8 := ref_bytes cp6 (some ⟨W1.heap.size, 0, none⟩) (kL key) W7 BB7 (fun h => by cases h) HK.out
            rw [show (Value.slice (some ⟨W1.heap.size, 0, none⟩) (kL key).length cp6) = Value.slice (some ⟨W1.heap.size, 0, none⟩) key.size cp6 from by rw [kL_len]] at C8
            refine C8.mono ?_; rintro e W8 ⟨ht8, k8⟩
            obtain ⟨gB8, cB8, rfl, OB8⟩ := ht8.of B7.size
            have B8 := B7.trans (k8.mono B7.size)
            have OA8 := Own8.below OA7 k8
            (try dsimp only)
            refine hK.out _ _ ?_ (fun hHeld => ?_)
            · exact ⟨(HR1.out.below B8).c0, (HR1.out.below B8).c1, (HR1.out.below B8).c2⟩
            clear hK K
            (try simp only [Act.put, List.setIfInBounds_toArray, List.set_cons_zero, List.set_cons_succ, List.getElem_toArray, List.getElem_cons_succ, List.getElem_cons_zero])
            clear C8 BB7
            refine wpAnyH_ready (rs := [10]) (by kernel_rfl) (by simp) ?_
            refine AllReadyH.cons rfl (fun K hK => ?_) (AllReadyH.nil)
            rw [if_pos (by rfl)]
            have hA9 := OA8
            have hsB9 := Own8.src OB8
            have hL9 := HLL.out
            have hB09 := encN_len0 (kL key).length
            have hB19 : 0 < (encN (kL key).length ++ kL key).length := by rw [List.length_append]; omega
            refine wp_append_lies _ _ _ _ (by rfl) w1.heap.size 5 i0 _ 1 1 Tryd.underlying28 hi0 hz0 hz1 hz2 rfl (by decide) (.slice (some ⟨gA7, 0, none⟩) (numsE [o, s]).length cA7) (numsE [o, s]).length (bC (numsE [o, s])) (by rfl) hA9 ⟨gB8, 0, none⟩ (encN (kL key).length ++ kL key).length cB8 (bC (encN (kL key).length ++ kL key)) (by rfl) (by rw [bC_len]; omega) hsB9 (bC_one _) hB19 (by unfold maxLen; omega) (by omega) B8.size _ rfl ?_
            intro g9 cap9 W9 own9 hg9 hat9 hlt9
            have G9 : G8 w1 W9 (.slice (some ⟨g9, 0, none⟩) ((numsE [o, s]).length + (encN (kL key).length ++ kL key).length) cap9) ((numsE [o, s]) ++ (encN (kL key).length ++ kL key)) := G8.app (r := (encN (kL key).length ++ kL key)) (G8.mk hA9 B8) (Below.refl _ _) rfl own9 hg9
            have B9 := G9.hb
            generalize hN9 : (numsE [o, s]).length + (encN (kL key).length ++ kL key).length = NL at *
            have HNL := Lib.hid hN9
            clear hN9
            (try dsimp only)
            refine hK.out _ _ ?_ (fun hHeld => ?_)
            · exact ⟨(HR1.out.below B9).c0, (HR1.out.below B9).c1, (HR1.out.below B9).c2⟩
            clear hK K
            (try simp only [Act.put, List.setIfInBounds_toArray, List.set_cons_zero, List.set_cons_succ, List.getElem_toArray, List.getElem_cons_succ, List.getElem_cons_zero])
            clear hA9 hsB9 hB09 own9 hg9 hat9 hlt9 OA8 OB8
            refine wpAnyH_take (i := 11) (v := ?_) rfl (by kernel_rfl) (by kernel_rfl) (by kernel_rfl) (fun _ _ _ h => h) (Or.inl ⟨by rfl, ?_⟩) (by assumption) ?_
            rotate_left
            · intro w' hSw; (try dsimp only at hSw); go_simp; (try with_reducible rfl)
            (try simp only [Act.put, List.setIfInBounds_toArray, List.set_cons_zero, List.set_cons_succ, List.getElem_toArray, List.getElem_cons_succ, List.getElem_cons_zero])
            refine wpAnyH_done (by kernel_rfl) ?_ _
            have HG := Lib.hid G9
            have hR := HR1.out.below B9
            obtain ⟨c0, c1, c2, c3, c4, c5, c6, c7, c8, lt⟩ := hR
            have HC := Lib.hid (ref_nums W9.heap.size 4 [ml, ct, 1, tt] (W9.alloc (.cells #[.int .i64 ml, .int .i64 ct, .int .i64 1, .int .i64 tt] 3)) (by simp) (by simp) (by intro j q; rcases (show j = 0 ∨ j = 1 ∨ j = 2 ∨ j = 3 from by simp at q; omega) with rfl | rfl | rfl | rfl <;> simp [go_sem]) (HZ2.out 1 (by omega) (by omega)) (by simp) (by have := numsE_len [ml, ct, 1, tt] (HZ2.out 1 (by omega) (by omega)); simp at this ⊢; omega))
            have HLC : Hid ((numsE [ml, ct, 1, tt]).length ≤ 36) := Lib.hid (by simpa using numsE_len [ml, ct, 1, tt] (HZ2.out 1 (by omega) (by omega)))
            have HXN : Hid (((numsE [o, s]) ++ (encN (kL key).length ++ kL key)).length = NL) := Lib.hid (List.length_append.trans HNL.out)
            clear G9 hB19
            generalize hX : (numsE [o, s]) ++ (encN (kL key).length ++ kL key) = X at *
            have HX1 : Hid (X.length ≤ 1044) := Lib.hid (by rw [← hX, List.length_append]; have := HLL.out; omega)
            have HXE := Lib.hid hX
            clear hX hL9
            go_wp2_with fail
            refine HC.out.mono ?_; rintro e w3 ⟨ht3, k3⟩
            obtain ⟨g3, q3, rfl, own3⟩ := ht3.of (show w1.heap.size ≤ _ from by have := HG.out.hb.size; simp; omega)
            have k30 : Below W9.heap.size W9 w3 := Below.trans ((Below.refl _ _).alloc (Nat.le_refl _) _) (k3.mono (by simp))
            have HG3 := Lib.hid (HG.out.below k30)
            have hX3 : w3.ownsRow w1.heap.size 5 1 (.slice (some ⟨g9, 0, none⟩) NL cap9) NL (bC X) := by have q : World.ownsRow _ _ _ _ _ X.length (bC X) := HG3.out.row; rw [HXN.out] at q; exact q
            have hs3 := Own8.src own3
            have hb3 := HG3.out.hb.size
            have h30 : 0 < (numsE [ml, ct, 1, tt]).length := by show 0 < (encN ml.toNat ++ numsE [ct, 1, tt]).length; have := encN_len0 ml.toNat; rw [List.length_append]; omega
            have hll3 := HLC.out
            have hxl : NL ≤ 1044 := by have := HX1.out; rwa [HXN.out] at this
            clear HC HG k3 k30 own3 c0 c1 c2 c3 c4 c5 c6 c7 c8 lt
            generalize hD : numsE [ml, ct, 1, tt] = D at *
            have HDE := Lib.hid hD
            clear hD
            go_wp2_with (at_builtin; refine wpList_append_lies _ rfl (.tmp 23) (.tmp 37) _ rfl w1.heap.size 5 i0 _ 1 1 Tryd.underlying28 hi0 hz0 hz1 hz2 rfl (by decide) (.slice (some ⟨g9, 0, none⟩) NL cap9) NL (bC X) rfl hX3 ⟨g3, 0, none⟩ D.length q3 (bC D) rfl (by rw [bC_len]; omega) hs3 (bC_one _) h30 (by unfold maxLen; omega) (by omega) hb3 _ rfl ?_; intro g4 cap4 w4 hown4 hg4 hat4 hlt4; have G4 := G8.app (r := D) HG3.out (Below.refl _ _) (by rw [HXN.out]) hown4 hg4; have HG4 := Lib.hid G4; have hR4 := HR1.out.below G4.hb; have HC4 := Lib.hid (ref_bytes c A val w4 (HY1.out.below G4.hb) hn (by have := HN.out; omega)); obtain ⟨c0, c1, c2, c3, c4, c5, c6, c7, c8, lt⟩ := hR4; clear hown4 hg4 hat4 hlt4 G4)
            refine HC4.out.mono ?_; rintro e w5 ⟨ht5, k5⟩
            obtain ⟨g5, q5, rfl, own5⟩ := ht5.of (show w1.heap.size ≤ _ from HG4.out.hb.size)
            have HG5 := Lib.hid (HG4.out.below k5)
            have hX5 : w5.ownsRow w1.heap.size 5 1 (.slice (some ⟨g4, 0, none⟩) (NL + D.length) cap4) (NL + D.length) (bC (X ++ D)) := by have q : World.ownsRow _ _ _ _ _ (X ++ D).length (bC (X ++ D)) := HG5.out.row; rw [List.length_append, HXN.out] at q; exact q
            have hs5 := Own8.src own5
            have hb5 := HG5.out.hb.size
            have h50 : 0 < (encN val.length ++ val).length := by have := encN_len0 val.length; rw [List.length_append]; omega
            have hll5 := HLL.out.2.2
            clear HC4 HG4 k5 own5 c0 c1 c2 c3 c4 c5 c6 c7 c8 lt hs3 hX3 HG3
            generalize hEE : encN val.length ++ val = EE at *
            have HEE := Lib.hid hEE
            clear hEE ht5 ht3
            go_wp2_with (at_builtin; refine wpList_append_lies _ rfl (.tmp 39) (.tmp 43) _ rfl w1.heap.size 5 i0 _ 1 1 Tryd.underlying28 hi0 hz0 hz1 hz2 rfl (by decide) (.slice (some ⟨g4, 0, none⟩) (NL + D.length) cap4) (NL + D.length) (bC (X ++ D)) rfl hX5 ⟨g5, 0, none⟩ EE.length q5 (bC (EE)) rfl (by rw [bC_len]; omega) hs5 (bC_one _) h50 (by unfold maxLen; omega) (by omega) hb5 _ rfl ?_; intro g6 cap6 w6 hown6 hg6 hat6 hlt6)
            have G6 := G8.app (r := EE) HG5.out (Below.refl _ _) (by rw [List.length_append, HXN.out]) hown6 hg6
            have hE : X ++ D ++ EE = encR ⟨o, s, kL key, ml, ct, vo, val, true, tt⟩ := by rw [← HXE.out, ← HDE.out, ← HEE.out]; simp [numsE, encR, encT, goneN]
            have hEl : NL + D.length + EE.length = (encR ⟨o, s, kL key, ml, ct, vo, val, true, tt⟩).length := by rw [← hE, List.length_append, List.length_append, HXN.out]
            rw [hE] at G6
            rw [hEl] at G6 ⊢
            have HF := Lib.hid (And.intro (own_base (Nat.le_of_lt l1) G6.row) (HB1.out.trans (G6.hb.mono (Nat.le_of_lt l1))))
            clear G6 hown6 hg6 hat6 hlt6 hE hEl
            go_ret2
            exact ⟨g6, cap6, rfl, HF.out.1, HF.out.2⟩
    · have cv10 := Lib.run_convert_string_bytes (P := Tryd.prog) W0 9 28 5 key Tryd.underlying9 Tryd.underlying28 Tryd.underlying5
      have BB10 := bytesWorld_by W0 5 key
      have k10 := bytesWorld_below W0 5 key
      generalize grownCap W0 key.size 0 5 = cp10 at *
      generalize Lib.bytesWorld W0 5 key = W10 at *
      go_simp
      have B10 := B0.trans (k10.mono B0.size)
      (try dsimp only)
      refine hK.out _ _ ?_ (fun hHeld => ?_)
      · exact ⟨(HR1.out.below B10).c0, (HR1.out.below B10).c1, (HR1.out.below B10).c2⟩
      clear hK K
      (try simp only [Act.put, List.setIfInBounds_toArray, List.set_cons_zero, List.set_cons_succ, List.getElem_toArray, List.getElem_cons_succ, List.getElem_cons_zero])
      clear cv10
      refine wpAnyH_ready (rs := [4]) (by kernel_rfl) (by simp) ?_
      refine AllReadyH.cons rfl (fun K hK => ?_) (AllReadyH.nil)
      · go_simp
        have k11 : Below W10.heap.size W10 (W10.alloc (.cells #[.int .i64 o, .int .i64 s] 3)) := (Below.refl _ _).alloc (Nat.le_refl _) _
        have B11 := B10.trans (k11.mono B10.size)
        (try dsimp only)
        refine hK.out _ _ ?_ (fun hHeld => ?_)
        · exact ⟨(HR1.out.below B11).c0, (HR1.out.below B11).c1, (HR1.out.below B11).c2⟩
        clear hK K
        (try simp only [Act.put, List.setIfInBounds_toArray, List.set_cons_zero, List.set_cons_succ, List.getElem_toArray, List.getElem_cons_succ, List.getElem_cons_zero])
        have BB11 := BB10.below k11
        have PA11 := PN.new W10 o s 3
        generalize hW11 : W10.alloc (.cells #[.int .i64 o, .int .i64 s] 3) = W11 at *
        clear hW11
        refine wpAnyH_ready (rs := [5]) (by kernel_rfl) (by simp) ?_
        refine AllReadyH.cons rfl (fun K hK => ?_) (AllReadyH.nil)
        · go_simp
          have C12 := ref_nums W10.heap.size 2 [o, s] W11 PA11.lt (by simp) PA11.cells HZ1.out (by simp) (by have := HLL.out.1; omega)
          refine C12.mono ?_; rintro e W12 ⟨ht12, k12⟩
          obtain ⟨gA12, cA12, rfl, OA12⟩ := ht12.of B11.size
          have B12 := B11.trans (k12.mono B11.size)
          have BB12 := BB11.below k12
          (try dsimp only)
          refine hK.out _ _ ?_ (fun hHeld => ?_)
          · exact ⟨(HR1.out.below B12).c0, (HR1.out.below B12).c1, (HR1.out.below B12).c2⟩
          clear hK K
          (try simp only [Act.put, List.setIfInBounds_toArray, List.set_cons_zero, List.set_cons_succ, List.getElem_toArray, List.getElem_cons_succ, List.getElem_cons_zero])
          clear C12 PA11
          refine wpAnyH_ready (rs := [9]) (by kernel_rfl) (by simp) ?_
          refine AllReadyH.cons rfl (fun K hK => ?_) (AllReadyH.nil)
          · go_simp
            have C13 := ref_bytes cp10 (some ⟨W0.heap.size, 0, none⟩) (kL key) W12 BB12 (fun h => by cases h) HK.out
            rw [show (Value.slice (some ⟨W0.heap.size, 0, none⟩) (kL key).length cp10) = Value.slice (some ⟨W0.heap.size, 0, none⟩) key.size cp10 from by rw [kL_len]] at C13
            refine C13.mono ?_; rintro e W13 ⟨ht13, k13⟩
            obtain ⟨gB13, cB13, rfl, OB13⟩ := ht13.of B12.size
            have B13 := B12.trans (k13.mono B12.size)
            have OA13 := Own8.below OA12 k13
            (try dsimp only)
            refine hK.out _ _ ?_ (fun hHeld => ?_)
            · exact ⟨(HR1.out.below B13).c0, (HR1.out.below B13).c1, (HR1.out.below B13).c2⟩
            clear hK K
            (try simp only [Act.put, List.setIfInBounds_toArray, List.set_cons_zero, List.set_cons_succ, List.getElem_toArray, List.getElem_cons_succ, List.getElem_cons_zero])
            clear C13 BB12
            refine wpAnyH_ready (rs := [10]) (by kernel_rfl) (by simp) ?_
            refine AllReadyH.cons rfl (fun K hK => ?_) (AllReadyH.nil)
            rw [if_pos (by rfl)]
            have hA14 := OA13
            have hsB14 := Own8.src OB13
            have hL14 := HLL.out
            have hB014 := encN_len0 (kL key).length
            have hB114 : 0 < (encN (kL key).length ++ kL key).length := by rw [List.length_append]; omega
            refine wp_append_lies _ _ _ _ (by rfl) w1.heap.size 5 i0 _ 1 1 Tryd.underlying28 hi0 hz0 hz1 hz2 rfl (by decide) (.slice (some ⟨gA12, 0, none⟩) (numsE [o, s]).length cA12) (numsE [o, s]).length (bC (numsE [o, s])) (by rfl) hA14 ⟨gB13, 0, none⟩ (encN (kL key).length ++ kL key).length cB13 (bC (encN (kL key).length ++ kL key)) (by rfl) (by rw [bC_len]; omega) hsB14 (bC_one _) hB114 (by unfold maxLen; omega) (by omega) B13.size _ rfl ?_
            intro g14 cap14 W14 own14 hg14 hat14 hlt14
            have G14 : G8 w1 W14 (.slice (some ⟨g14, 0, none⟩) ((numsE [o, s]).length + (encN (kL key).length ++ kL key).length) cap14) ((numsE [o, s]) ++ (encN (kL key).length ++ kL key)) := G8.app (r := (encN (kL key).length ++ kL key)) (G8.mk hA14 B13) (Below.refl _ _) rfl own14 hg14
            have B14 := G14.hb
            generalize hN14 : (numsE [o, s]).length + (encN (kL key).length ++ kL key).length = NL at *
            have HNL := Lib.hid hN14
            clear hN14
            (try dsimp only)
            refine hK.out _ _ ?_ (fun hHeld => ?_)
            · exact ⟨(HR1.out.below B14).c0, (HR1.out.below B14).c1, (HR1.out.below B14).c2⟩
            clear hK K
            (try simp only [Act.put, List.setIfInBounds_toArray, List.set_cons_zero, List.set_cons_succ, List.getElem_toArray, List.getElem_cons_succ, List.getElem_cons_zero])
            clear hA14 hsB14 hB014 own14 hg14 hat14 hlt14 OA13 OB13
            refine wpAnyH_take (i := 11) (v := ?_) rfl (by kernel_rfl) (by kernel_rfl) (by kernel_rfl) (fun _ _ _ h => h) (Or.inl ⟨by rfl, ?_⟩) (by assumption) ?_
            rotate_left
            · intro w' hSw; (try dsimp only at hSw); go_simp; (try with_reducible rfl)
            (try simp only [Act.put, List.setIfInBounds_toArray, List.set_cons_zero, List.set_cons_succ, List.getElem_toArray, List.getElem_cons_succ, List.getElem_cons_zero])
            refine wpAnyH_done (by kernel_rfl) ?_ _
            have HG := Lib.hid G14
            have hR := HR1.out.below B14
            obtain ⟨c0, c1, c2, c3, c4, c5, c6, c7, c8, lt⟩ := hR
            have HC := Lib.hid (ref_nums W14.heap.size 4 [ml, ct, 1, tt] (W14.alloc (.cells #[.int .i64 ml, .int .i64 ct, .int .i64 1, .int .i64 tt] 3)) (by simp) (by simp) (by intro j q; rcases (show j = 0 ∨ j = 1 ∨ j = 2 ∨ j = 3 from by simp at q; omega) with rfl | rfl | rfl | rfl <;> simp [go_sem]) (HZ2.out 1 (by omega) (by omega)) (by simp) (by have := numsE_len [ml, ct, 1, tt] (HZ2.out 1 (by omega) (by omega)); simp at this ⊢; omega))
            have HLC : Hid ((numsE [ml, ct, 1, tt]).length ≤ 36) := Lib.hid (by simpa using numsE_len [ml, ct, 1, tt] (HZ2.out 1 (by omega) (by omega)))
            have HXN : Hid (((numsE [o, s]) ++ (encN (kL key).length ++ kL key)).length = NL) := Lib.hid (List.length_append.trans HNL.out)
            clear G14 hB114
            generalize hX : (numsE [o, s]) ++ (encN (kL key).length ++ kL key) = X at *
            have HX1 : Hid (X.length ≤ 1044) := Lib.hid (by rw [← hX, List.length_append]; have := HLL.out; omega)
            have HXE := Lib.hid hX
            clear hX hL14
            go_wp2_with fail
            refine HC.out.mono ?_; rintro e w3 ⟨ht3, k3⟩
            obtain ⟨g3, q3, rfl, own3⟩ := ht3.of (show w1.heap.size ≤ _ from by have := HG.out.hb.size; simp; omega)
            have k30 : Below W14.heap.size W14 w3 := Below.trans ((Below.refl _ _).alloc (Nat.le_refl _) _) (k3.mono (by simp))
            have HG3 := Lib.hid (HG.out.below k30)
            have hX3 : w3.ownsRow w1.heap.size 5 1 (.slice (some ⟨g14, 0, none⟩) NL cap14) NL (bC X) := by have q : World.ownsRow _ _ _ _ _ X.length (bC X) := HG3.out.row; rw [HXN.out] at q; exact q
            have hs3 := Own8.src own3
            have hb3 := HG3.out.hb.size
            have h30 : 0 < (numsE [ml, ct, 1, tt]).length := by show 0 < (encN ml.toNat ++ numsE [ct, 1, tt]).length; have := encN_len0 ml.toNat; rw [List.length_append]; omega
            have hll3 := HLC.out
            have hxl : NL ≤ 1044 := by have := HX1.out; rwa [HXN.out] at this
            clear HC HG k3 k30 own3 c0 c1 c2 c3 c4 c5 c6 c7 c8 lt
            generalize hD : numsE [ml, ct, 1, tt] = D at *
            have HDE := Lib.hid hD
            clear hD
            go_wp2_with (at_builtin; refine wpList_append_lies _ rfl (.tmp 23) (.tmp 37) _ rfl w1.heap.size 5 i0 _ 1 1 Tryd.underlying28 hi0 hz0 hz1 hz2 rfl (by decide) (.slice (some ⟨g14, 0, none⟩) NL cap14) NL (bC X) rfl hX3 ⟨g3, 0, none⟩ D.length q3 (bC D) rfl (by rw [bC_len]; omega) hs3 (bC_one _) h30 (by unfold maxLen; omega) (by omega) hb3 _ rfl ?_; intro g4 cap4 w4 hown4 hg4 hat4 hlt4; have G4 := G8.app (r := D) HG3.out (Below.refl _ _) (by rw [HXN.out]) hown4 hg4; have HG4 := Lib.hid G4; have hR4 := HR1.out.below G4.hb; have HC4 := Lib.hid (ref_bytes c A val w4 (HY1.out.below G4.hb) hn (by have := HN.out; omega)); obtain ⟨c0, c1, c2, c3, c4, c5, c6, c7, c8, lt⟩ := hR4; clear hown4 hg4 hat4 hlt4 G4)
            refine HC4.out.mono ?_; rintro e w5 ⟨ht5, k5⟩
            obtain ⟨g5, q5, rfl, own5⟩ := ht5.of (show w1.heap.size ≤ _ from HG4.out.hb.size)
            have HG5 := Lib.hid (HG4.out.below k5)
            have hX5 : w5.ownsRow w1.heap.size 5 1 (.slice (some ⟨g4, 0, none⟩) (NL + D.length) cap4) (NL + D.length) (bC (X ++ D)) := by have q : World.ownsRow _ _ _ _ _ (X ++ D).length (bC (X ++ D)) := HG5.out.row; rw [List.length_append, HXN.out] at q; exact q
            have hs5 := Own8.src own5
            have hb5 := HG5.out.hb.size
            have h50 : 0 < (encN val.length ++ val).length := by have := encN_len0 val.length; rw [List.length_append]; omega
            have hll5 := HLL.out.2.2
            clear HC4 HG4 k5 own5 c0 c1 c2 c3 c4 c5 c6 c7 c8 lt hs3 hX3 HG3
            generalize hEE : encN val.length ++ val = EE at *
            have HEE := Lib.hid hEE
            clear hEE ht5 ht3
            go_wp2_with (at_builtin; refine wpList_append_lies _ rfl (.tmp 39) (.tmp 43) _ rfl w1.heap.size 5 i0 _ 1 1 Tryd.underlying28 hi0 hz0 hz1 hz2 rfl (by decide) (.slice (some ⟨g4, 0, none⟩) (NL + D.length) cap4) (NL + D.length) (bC (X ++ D)) rfl hX5 ⟨g5, 0, none⟩ EE.length q5 (bC (EE)) rfl (by rw [bC_len]; omega) hs5 (bC_one _) h50 (by unfold maxLen; omega) (by omega) hb5 _ rfl ?_; intro g6 cap6 w6 hown6 hg6 hat6 hlt6)
            have G6 := G8.app (r := EE) HG5.out (Below.refl _ _) (by rw [List.length_append, HXN.out]) hown6 hg6
            have hE : X ++ D ++ EE = encR ⟨o, s, kL key, ml, ct, vo, val, true, tt⟩ := by rw [← HXE.out, ← HDE.out, ← HEE.out]; simp [numsE, encR, encT, goneN]
            have hEl : NL + D.length + EE.length = (encR ⟨o, s, kL key, ml, ct, vo, val, true, tt⟩).length := by rw [← hE, List.length_append, List.length_append, HXN.out]
            rw [hE] at G6
            rw [hEl] at G6 ⊢
            have HF := Lib.hid (And.intro (own_base (Nat.le_of_lt l1) G6.row) (HB1.out.trans (G6.hb.mono (Nat.le_of_lt l1))))
            clear G6 hown6 hg6 hat6 hlt6 hE hEl
            go_ret2
            exact ⟨g6, cap6, rfl, HF.out.1, HF.out.2⟩
end Go.Proofs.YtdffldlcbihjmaaDoor
