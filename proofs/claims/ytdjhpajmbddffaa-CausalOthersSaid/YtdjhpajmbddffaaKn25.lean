/- Stage 25: known. -/
import Derived.Test.YtdjhpajmbddffaaCk25B
import Derived.Lib.SlBytesConst
set_option linter.unusedSimpArgs false
set_option linter.unusedVariables false
namespace Go.Proofs.Ytdjhpajmbddffaa
open Go.RowKit

/-- Three events in a row. -/
theorem row3 {w : World} {B : Nat} {e e1 e2 : Ev} (hb : B < w.heap.size) (h : w.rangeAt B 0 (e.cs ++ (e1.cs ++ e2.cs))) : RowE w B 0 [e, e1, e2] := by
  refine ⟨hb, fun k x hk j u hu => ?_⟩
  have hj : j < x.cs.length := (List.getElem?_eq_some_iff.1 hu).1
  rcases k with _ | _ | _ | k
  · cases hk
    have := h j u (by rw [List.getElem?_append_left hj]; exact hu)
    simpa using this
  · cases hk
    have hl : e.cs.length = 18 := rfl
    have := h (18 + j) u (by rw [List.getElem?_append_right (by omega), hl, Nat.add_sub_cancel_left, List.getElem?_append_left hj]; exact hu)
    rw [show 0 + (18 + j) = 0 + (0 + 1) * 18 + j by omega] at this
    exact this
  · cases hk
    have hl : e.cs.length = 18 := rfl
    have hl1 : e1.cs.length = 18 := rfl
    have := h (36 + j) u (by rw [List.getElem?_append_right (by omega), hl, List.getElem?_append_right (by omega), hl1, show 36 + j - 18 - 18 = j by omega]; exact hu)
    rw [show 0 + (36 + j) = 0 + (0 + 1 + 1) * 18 + j by omega] at this
    exact this
  · simp at hk
theorem only_setCellsK (b : Nat) (w : World) : ∀ (vs : List Value) (o : Nat) (w' : World), Only b w w' → Only b w (w'.setCells b o vs)
  | [], _, _, h => h
  | v :: r, o, w', h => by
    rw [World.setCells]
    exact only_setCellsK b w r (o + 1) _ (h.setB _)
theorem there_part {w : World} {b n : Nat} (h : w.there b 0 n) (o m : Nat) (hm : o + m ≤ n) : w.there b o m := fun j hj => by
  have := h (o + j) (by omega)
  rwa [Nat.zero_add] at this
theorem row3_upd {w : World} {B : Nat} {e e1 e2 e3 : Ev} (h : w.rangeAt B 0 (e.cs ++ (e1.cs ++ e2.cs))) (ht : w.there B 47 7) (he : e3.cs = e2.cs.take 11 ++ e3.an_) : (w.setCells B 47 e3.an_).rangeAt B 0 (e.cs ++ (e1.cs ++ e3.cs)) := by
  have h1 : w.rangeAt B 0 ((e.cs ++ (e1.cs ++ e2.cs)).take 47) := range_part h 0 47
  have hl : ((e.cs ++ (e1.cs ++ e2.cs)).take 47).length = 47 := rfl
  have h2 := World.rangeAt_setCells_apart h1 B 47 e3.an_ (.inr (.inl (by rw [hl]; omega)))
  have h3 := World.rangeAt_setCells_same w B 47 e3.an_ ht
  have he2 : e.cs ++ (e1.cs ++ e3.cs) = (e.cs ++ (e1.cs ++ e2.cs)).take 47 ++ e3.an_ := by
    rw [he, ← List.append_assoc, ← List.append_assoc]
    rfl
  rw [he2]
  intro j u hu
  by_cases hj : j < 47
  · rw [List.getElem?_append_left (by rw [hl]; exact hj)] at hu
    exact h2 j u hu
  · rw [List.getElem?_append_right (by rw [hl]; omega), hl] at hu
    have := h3 (j - 47) u hu
    rw [show 47 + (j - 47) = 0 + j by omega] at this
    exact this
theorem cell97 (w : World) : (World.alloc w (.cells #[.int .u8 97] 5 (1, 2))).cell? ⟨w.heap.size, 0, none⟩ = some (.int .u8 97) := by
  have := World.news_of_block (cs := #[.int .u8 97]) (t := 5) (fr := (1, 2)) (heap_alloc_new w (.cells #[.int .u8 97] 5 (1, 2))) 0 _ rfl
  rw [Addr.add_mid] at this
  exact this
abbrev kev0 (b : Nat) : Ev := ⟨0, 1, 0, 0, 0, 0, 0, 0, ⟨#[107]⟩, ⟨#[]⟩, some ⟨b, 0, none⟩, 1, 1, 0, 0, 5, 0, false, none, 0, 0, none, 0, 0⟩
abbrev kev1 : Ev := ⟨0, 3, 0, 0, 0, 0, 0, 0, ⟨#[]⟩, ⟨#[]⟩, none, 0, 0, 0, 0, 6, 0, false, none, 0, 0, none, 0, 0⟩
abbrev kev2 : Ev := ⟨0, 4, 0, 0, 0, 0, 0, 0, ⟨#[107]⟩, ⟨#[]⟩, none, 0, 0, 0, 0, 0, 0, false, none, 0, 0, none, 0, 0⟩
abbrev kev3 (b : Nat) : Ev := ⟨0, 4, 0, 0, 0, 0, 0, 0, ⟨#[107]⟩, ⟨#[]⟩, none, 0, 0, 0, 0, 0, 0, true, some ⟨b, 0, none⟩, 1, 1, none, 0, 0⟩
theorem by_one {W : World} {b : Nat} (h : W.cell? ⟨b, 0, none⟩ = some (.int .u8 97)) (hb : b < W.heap.size) : ByL W (some ⟨b, 0, none⟩) [97] := fun _ => ⟨b, 0, rfl, hb, fun j u hu => by
  rcases j with _ | j
  · cases hu; exact h
  · simp [bC] at hu⟩
set_option maxRecDepth 100000 in
set_option maxHeartbeats 16000000 in
theorem known25 (w : World) : Calls Try.prog 11 #[] w fun e w' => e = .returned (.bool true) ∧ Below w.heap.size w w' := by
  have hcv := fun W : World => Go.Lib.run_convert_bytes_const (P := Try.prog) W 33 5 #[.int .u8 97] 1 1 Try.underlying33 Try.underlying5
  simp only [List.size_toArray, List.length_cons, List.length_nil, Nat.zero_add, Nat.reduceAdd] at hcv
  go_enter Try.func11, Try.ntmps11
  go_upto_region 2 with fail
  generalize hV0 : (World.alloc w (.cells #[.int .u8 97] 5 (1, 2))) = V0
  have k0 : Below w.heap.size w V0 := by rw [← hV0]; exact (Below.refl _ _).alloc (Nat.le_refl _) _
  have ba : V0.cell? ⟨w.heap.size, 0, none⟩ = some (.int .u8 97) := by rw [← hV0]; exact cell97 w
  have z0 : V0.heap.size = w.heap.size + 1 := by rw [← hV0]; simp
  clear hV0
  generalize hV1 : (World.alloc V0 (.cells _ 47)) = V1
  have rg : V1.rangeAt V0.heap.size 0 ((kev0 w.heap.size).cs ++ (kev1.cs ++ kev2.cs)) := by rw [← hV1]; exact range_new V0 ((kev0 w.heap.size).cs ++ (kev1.cs ++ kev2.cs)) _
  have th : V1.there V0.heap.size 0 54 := by rw [← hV1]; exact there_new V0 _ _
  have k1 : Below V0.heap.size V0 V1 := by rw [← hV1]; exact (Below.refl _ _).alloc (Nat.le_refl _) _
  have lb : V0.heap.size < V1.heap.size := by rw [← hV1]; simp
  clear hV1
  rw [← z0]
  have la : w.heap.size < V0.heap.size := by omega
  have HB1 := Lib.hid (k0.trans (k1.mono k0.size))
  replace ba := (k1.cell (p := ⟨w.heap.size, 0, none⟩) la).trans ba
  have la1 := Nat.lt_of_lt_of_le la k1.size
  have LE := Lib.hid k0.size
  have LA := Lib.hid la
  clear z0 k0 k1 la
  generalize V0.heap.size = B at *
  have HC1 := Lib.hid (check_kn_no B 3 (kev0 w.heap.size) kev1 kev2 V1 (row3 lb rg) rfl rfl rfl (by_one ba la1) (fun h => by cases h) rfl rfl rfl rfl rfl rfl rfl rfl rfl rfl rfl rfl rfl rfl rfl rfl rfl rfl rfl rfl rfl rfl rfl)
  go_upto_region 3 with (go_at_call 12; refine HC1.out.mono ?_; rintro e3 V2 ⟨rfl, k2⟩; replace rg := range_below rg k2 lb; replace th := there_below th k2 lb; replace ba := (k2.cell (p := ⟨w.heap.size, 0, none⟩) la1).trans ba; replace lb := Nat.lt_of_lt_of_le lb k2.size; replace la1 := Nat.lt_of_lt_of_le la1 k2.size; have HB2 := Lib.hid (HB1.out.trans (k2.mono HB1.out.size)); clear k2 HC1)
  refine wp_region_lit ?_
  refine wpList_plain rfl (fun KK hKK => ?_)
  go_simp
  refine hKK _ _ ?_
  refine wpList_plain rfl (fun KK hKK => ?_)
  go_simp
  refine hKK _ _ ?_
  refine wpList_plain rfl (fun KK hKK => ?_)
  go_simp
  refine hKK _ _ ?_
  refine wpList_plain rfl (fun KK hKK => ?_)
  go_simp
  refine hKK _ _ ?_
  refine wpList_plain rfl (fun KK hKK => ?_)
  go_simp
  refine hKK _ _ ?_
  refine wpList_plain rfl (fun KK hKK => ?_)
  go_simp
  refine hKK _ _ ?_
  generalize hV3 : (World.alloc V2 (.cells #[.int .u8 97] 5 (1, 2))) = V3
  have k3 : Below V2.heap.size V2 V3 := by rw [← hV3]; exact (Below.refl _ _).alloc (Nat.le_refl _) _
  have bc : V3.cell? ⟨V2.heap.size, 0, none⟩ = some (.int .u8 97) := by rw [← hV3]; exact cell97 V2
  have lc : V2.heap.size < V3.heap.size := by rw [← hV3]; simp
  clear hV3
  replace rg := range_below rg k3 lb
  replace th := there_below th k3 lb
  replace ba := (k3.cell (p := ⟨w.heap.size, 0, none⟩) la1).trans ba
  have hne : B ≠ V2.heap.size := Nat.ne_of_lt lb
  have hna : w.heap.size ≠ B := Nat.ne_of_lt LA.out
  replace lb := Nat.lt_of_lt_of_le lb k3.size
  replace la1 := Nat.lt_of_lt_of_le la1 k3.size
  have HB3 := Lib.hid (HB2.out.trans (k3.mono HB2.out.size))
  clear k3
  generalize V2.heap.size = C at *
  refine wpList_store_mid rfl 45 (.tmp 29) (.tmp 27) rfl B 47 (kev3 C).an_.toArray rfl rfl (there_part th 47 7 (by omega)) an_info (Ev.an_one _) ?_
  refine wpList_nil ?_
  generalize hV4 : (World.setCells V3 B 47 _) = V4
  have O4 : Only B V3 V4 := by rw [← hV4]; exact only_setCellsK B V3 _ _ _ (Only.refl _ _)
  have rg4 : V4.rangeAt B 0 ((kev0 w.heap.size).cs ++ (kev1.cs ++ (kev3 C).cs)) := by rw [← hV4]; exact row3_upd rg (there_part th 47 7 (by omega)) rfl
  have HB4 : Hid (Below w.heap.size w V4) := Lib.hid (by rw [← hV4]; exact below_setCells _ _ LE.out _ _ _ _ HB3.out)
  clear hV4
  replace ba := (O4.cell w.heap.size 0 la1 hna).trans ba
  replace bc := (O4.cell C 0 lc (Ne.symm hne)).trans bc
  replace lb := Nat.lt_of_lt_of_le lb O4.size
  replace la1 := Nat.lt_of_lt_of_le la1 O4.size
  replace lc := Nat.lt_of_lt_of_le lc O4.size
  clear O4 rg th
  have HC4 := Lib.hid (check_kn_yes B 3 (kev0 w.heap.size) kev1 (kev3 C) (some ⟨C, 0, none⟩) 1 V4 (row3 lb rg4) rfl rfl rfl (by_one ba la1) (fun h => by cases h) rfl rfl rfl rfl rfl rfl rfl rfl rfl rfl rfl rfl rfl rfl rfl rfl rfl rfl rfl rfl rfl rfl rfl (by_one bc lc))
  have HW4 : Hid (∀ W, Below V4.heap.size V4 W → Calls Try.prog 7 #[.slice (some ⟨B, 0, none⟩) 3 3] W fun e' w' => (∃ g cap A' c', e' = .returned (.slice (some ⟨g, 0, none⟩) 1 cap) ∧ W1 W.heap.size w' (kev0 w.heap.size) [97] g A' c') ∧ Below W.heap.size W w') := Lib.hid (fun W k => writes_one B 0 3 [kev0 w.heap.size, kev1, kev3 C] (kev0 w.heap.size) [97] W (RowE.below (row3 lb rg4) k) (by simp) rfl rfl rfl rfl ((by_one ba la1).below k) (fun h => by cases h) (by simp) (by
    intro k x hk0 hx
    rcases k with _ | _ | _ | k
    · omega
    · cases hx; rfl
    · cases hx; rfl
    · simp at hx))
  clear ba bc lb la1 lc rg4 hne hna hcv
  go_wp2_with first | (go_at_call 12; refine HC4.out.mono ?_; rintro e5 V5 ⟨rfl, k5⟩; have HB5 := Lib.hid (HB4.out.trans (k5.mono HB4.out.size)); have HK5 := Lib.hid k5; clear k5) | (go_at_call 7; refine (HW4.out _ HK5.out).mono ?_; rintro e6 V6 ⟨⟨g, cap, A', c', rfl, _⟩, k6⟩; have HB6 := Lib.hid (HB5.out.trans (k6.mono HB5.out.size)); clear k6)
  go_ret
  exact ⟨rfl, HB6.out⟩
end Go.Proofs.Ytdjhpajmbddffaa
