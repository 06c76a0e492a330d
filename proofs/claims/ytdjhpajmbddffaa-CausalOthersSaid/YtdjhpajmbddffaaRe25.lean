/- Stage 25: read of any key (written by gen/re25.py). -/
import Derived.Test.YtdjhpajmbddffaaInO25
import Derived.Test.YtdjhpajmbddffaaMs25
import Derived.Test.YtdjhpajmbddffaaEq25
set_option linter.unusedSimpArgs false
set_option linter.unusedVariables false
namespace Go.Proofs.Ytdjhpajmbddffaa
open Go.RowKit

theorem newest_all (A : Option Addr) (c : Nat) (L : List Wq) (key : ByteArray) (tm tc : Int) (w : World) (h : RdW w A L) (hl : L.length ≤ 1000) :
    Calls Try.prog 36 #[.slice A L.length c, .string key, .agg #[.int .i64 tm, .int .i64 tc]] w fun e w' => (∃ v Vl, e = .returned (.tuple #[v, .bool (newP (L.map Wq.m) key tm tc).2]) ∧ Vw w.heap.size w' v Vl ∧ Vl.map Vq.p = (newP (L.map Wq.m) key tm tc).1) ∧ Below w.heap.size w w' := by
  rcases Nat.eq_zero_or_pos L.length with h0 | h0
  · obtain rfl : L = [] := List.length_eq_zero_iff.1 h0
    exact newest_nil A c key tm tc w
  · obtain ⟨g, o, rfl, _⟩ := h.row h0
    exact newest_any g o c L key tm tc w ins_ok h hl h0
theorem newP_len (L : List Wm) (key : ByteArray) (tm tc : Int) : (newP L key tm tc).1.length ≤ L.length + 1 := by
  have h := nsN_vs L key tm tc L.length
  unfold newP
  split
  · exact Nat.le_succ_of_le h
  · split
    · exact Nat.le_succ_of_le h
    · split
      · show (_ :: _ : List (List Int)).length ≤ _
        simp
        omega
      · exact Nat.le_succ_of_le h
theorem own_w {B B' : Nat} {w : World} {v : Value} {L : List Vq} (h : Vw B w v L) (hb : B' ≤ B) : Vw B' w v L :=
  ⟨own_rebase h.row (fun g hg => Nat.le_trans hb (World.ownsRow.lt h.row g hg).1), fun x hx => ⟨(h.at_ x hx).1, (h.at_ x hx).2.1, fun ad ha => ⟨Nat.le_trans hb ((h.at_ x hx).2.2 ad ha).1, ((h.at_ x hx).2.2 ad ha).2⟩⟩⟩
theorem read_fn (A A' : Option Addr) (c c' : Nat) (p p' : List Int) (nb : Nat) (w : World) (h : w.cell? ⟨nb, 0, none⟩ = some (.slice A' p'.length c')) (hA : ByL w A p) (hA' : ByL w A' p') (hp : isBy p) (hp' : isBy p') :
    Calls Try.prog 38 #[.slice A p.length c, .pointer (some ⟨nb, 0, none⟩)] w fun e w' => e = .returned (.bool (decide (p = p'))) ∧ w = w' := by
  have HE := Lib.hid (bytes_eq A p c A' p' c' w hA hA' hp hp')
  clear hA hA' hp hp'
  obtain ⟨b, hb⟩ : ∃ b, decide (p = p') = b := ⟨_, rfl⟩
  rw [hb] at HE ⊢
  clear hb
  go_enter Try.func38, Try.ntmps38
  go_wp2_with (go_at_call 39; refine HE.out.mono ?_; rintro e1 w1 ⟨rfl, rfl⟩)
  go_ret
  exact ⟨rfl, rfl⟩
theorem Vw.cell {B : Nat} {w : World} {A : Option Addr} {c : Nat} {L : List Vq} (h : Vw B w (.slice A L.length c) L) {k : Nat} {x : Vq} (hk : L[k]? = some x) : ∃ g, A = some ⟨g, 0, none⟩ ∧ w.cell? ⟨g, k, none⟩ = some (.slice x.A x.p.length x.c) := by
  have hkl := (List.getElem?_eq_some_iff.1 hk).1
  have hr := h.row
  obtain ⟨g, cap, he, _, _, hg⟩ := row_shape hr (by omega)
  injection he with e1 _ _
  subst e1
  exact ⟨g, rfl, row_cell hr (by rw [List.getElem?_map, hk]; rfl)⟩
set_option maxRecDepth 100000 in
set_option maxHeartbeats 4000000 in
theorem index_any (B : Nat) (A A' : Option Addr) (c c' : Nat) (L : List Vq) (p : List Int) (nb : Nat) (w : World) (hv : Vw B w (.slice A L.length c) L) (hl : L.length ≤ 1001) (h : w.cell? ⟨nb, 0, none⟩ = some (.slice A' p.length c')) (hA' : ByL w A' p) (hp : isBy p) (hb : ∀ x ∈ L, isBy x.p) :
    Calls Try.prog 51 #[.slice A L.length c, .func (.func 38) #[] #[.pointer (some ⟨nb, 0, none⟩)]] w fun e w' => (∃ z : Int, e = .returned (.int .i64 z) ∧ decide (0 ≤ z) = L.any (fun x => decide (x.p = p))) ∧ w = w' := by
  have HX := Lib.hid (fun (x : Vq) (hx : x ∈ L) => read_fn x.A A' x.c c' x.p p nb w h (hv.at_ x hx).1 hA' (hb x hx) hp)
  have HV := Lib.hid hv
  clear h hA' hp hb hv
  go_enter Try.func51, Try.ntmps51
  go_wp2_with fail
  go_loopw [8] (fun i wr => ∃ k : Nat, k ≤ L.length ∧ i = .int .i64 (k : Int) ∧ w = wr ∧ ∀ j x, j < k → L[j]? = some x → ¬ x.p = p) (fun i _ => L.length - (intOf i).toNat)
  case atStart => exact ⟨0, by omega, by simp, rfl, fun j x h => by omega⟩
  case round =>
    obtain ⟨k, hk, rfl, hww, hno⟩ := hrel
    subst hww
    have wk : IntKind.i64.wrap ((k : Int) + 1) = (k : Int) + 1 := IntWalk.i64_in _ (by omega)
    have HNO := Lib.hid hno
    clear hno
    by_cases h1 : k < L.length
    · have t1 : decide ((k : Int) < (L.length : Int)) = true := by simpa using h1
      have hki : (k : Int) < (L.length : Int) := by omega
      obtain ⟨x, hx⟩ : ∃ x, L[k]? = some x := ⟨_, List.getElem?_eq_getElem h1⟩
      obtain ⟨g, rfl, c0⟩ := HV.out.cell hx
      have HXX := Lib.hid (HX.out x (List.mem_of_getElem? hx))
      have H1 := Lib.hid h1
      have HXK := Lib.hid hx
      clear hx h1 hk
      by_cases he : x.p = p
      · as_aux_lemma =>
        rw [decide_eq_true he] at HXX
        have HANY : Hid (L.any (fun x => decide (x.p = p)) = true) := Lib.hid (List.any_eq_true.2 ⟨x, List.mem_of_getElem? HXK.out, by simpa using he⟩)
        clear he
        go_wp2_with fail
        refine HXX.out.mono ?_; rintro e1 w1 ⟨rfl, rfl⟩
        go_wp2_with fail
        go_ret
        exact ⟨⟨k, rfl, by rw [HANY.out]; simp⟩, rfl⟩
      · as_aux_lemma =>
        rw [decide_eq_false he] at HXX
        have HNX : Hid (∀ j y, j < k + 1 → L[j]? = some y → ¬ y.p = p) := Lib.hid (fun j y hj hy => by
          rcases Nat.lt_or_ge j k with q | q
          · exact HNO.out j y q hy
          · obtain rfl : j = k := by omega
            rw [HXK.out] at hy
            injection hy with hy
            rw [← hy]
            exact he)
        clear he
        go_wp2_with fail
        refine HXX.out.mono ?_; rintro e1 w1 ⟨rfl, rfl⟩
        go_wp2_with fail
        go_roundw
        case rel => exact ⟨k + 1, by have := H1.out; omega, by simp, by first | rfl | trivial, HNX.out⟩
        all_goals ((try simp only [intOf]); have := H1.out; omega)
    · as_aux_lemma =>
      obtain rfl : k = L.length := by omega
      have t1 : decide ((L.length : Int) < (L.length : Int)) = false := by simp
      have HANY : Hid (L.any (fun x => decide (x.p = p)) = false) := Lib.hid (by
        rw [Bool.eq_false_iff]
        intro q
        obtain ⟨x, hx, hxp⟩ := List.any_eq_true.1 q
        obtain ⟨j, hj, rfl⟩ := List.getElem_of_mem hx
        exact HNO.out j _ hj (List.getElem?_eq_getElem hj) (by simpa using hxp))
      clear h1 hk
      go_wp2_with fail
      go_ret
      exact ⟨⟨-1, rfl, by rw [HANY.out]; decide⟩, rfl⟩
theorem contains_any (B : Nat) (A A' : Option Addr) (c c' : Nat) (L : List Vq) (p : List Int) (nb : Nat) (w : World) (hv : Vw B w (.slice A L.length c) L) (hl : L.length ≤ 1001) (h : w.cell? ⟨nb, 0, none⟩ = some (.slice A' p.length c')) (hA' : ByL w A' p) (hp : isBy p) (hb : ∀ x ∈ L, isBy x.p) :
    Calls Try.prog 37 #[.slice A L.length c, .func (.func 38) #[] #[.pointer (some ⟨nb, 0, none⟩)]] w fun e w' => e = .returned (.bool (L.any (fun x => decide (x.p = p)))) ∧ w = w' := by
  have HX := Lib.hid (index_any B A A' c c' L p nb w hv hl h hA' hp hb)
  clear h hA' hp hb hv
  obtain ⟨b, hb⟩ : ∃ b, L.any (fun x => decide (x.p = p)) = b := ⟨_, rfl⟩
  rw [hb] at HX ⊢
  clear hb
  go_enter Try.func37, Try.ntmps37
  go_wp2_with fail
  refine HX.out.mono ?_; rintro e1 w1 ⟨⟨z, rfl, hz⟩, rfl⟩
  go_wp2_with fail
  go_ret
  exact ⟨by rw [← hz]; rfl, rfl⟩
/-- What read tells. -/
def readP (M : List Wm) (key : ByteArray) (tm tc : Int) (fd : Bool) (p : List Int) : Bool := if fd = true then (newP M key tm tc).1.any (fun q => decide (q = p)) else (newP M key tm tc).2
/-- A map of all writes by their keys. -/
def MapOk (w : World) (l : List En) (ws : List Wm) : Prop := ∀ s, ∃ A c L, lkE s l = .slice A L.length c ∧ RdW w A L ∧ L.map Wq.m = ws.filter (fun m => decide (m.key = s)) ∧ L.length ≤ 1000
theorem MapOk.below {w w' : World} {l : List En} {ws : List Wm} (h : MapOk w l ws) (k : Below w.heap.size w w') : MapOk w' l ws := fun s => by
  obtain ⟨A, c, L, h1, h2, h3⟩ := h s
  exact ⟨A, c, L, h1, h2.below k, h3⟩
set_option maxRecDepth 100000 in
set_option maxHeartbeats 8000000 in
theorem read_any (kb r mc : Nat) (l : List En) (ws : List Wm) (key : ByteArray) (tm tc : Int) (fd : Bool) (A' : Option Addr) (c' : Nat) (p : List Int) (w : World) (hk : w.cell? ⟨kb, 1, none⟩ = some (.map (some r))) (hlt : kb < w.heap.size) (hm : w.heap[r]? = some (.map (l.map En.e).toArray mc)) (hM : MapOk w l ws)
    (hA : ByL w A' p) (hp : isBy p) :
    Calls Try.prog 21 #[.pointer (some ⟨kb, 0, none⟩), .string key, .agg #[.int .i64 tm, .int .i64 tc], .bool fd, .slice A' p.length c'] w fun e w' => e = .returned (.bool (readP (ws.filter (fun m => decide (m.key = key))) key tm tc fd p)) ∧ Below w.heap.size w w' := by
  obtain ⟨A, c, L, hlk, hrd, hLm, hL⟩ := hM key
  have HRD := Lib.hid hrd
  have HLM := Lib.hid hLm
  have HA := Lib.hid hA
  have HP := Lib.hid hp
  have HLT := Lib.hid hlt
  have HLK := Lib.hid (fun (W : World) (h : W.heap[r]? = some (.map (l.map En.e).toArray mc)) => (look_any W r mc key l h).trans (by rw [hlk]))
  clear hrd hLm hA hp hM hlk
  go_enter Try.func21, Try.ntmps21
  go_upto_region 1 with fail
  obtain ⟨V0, hV0⟩ : ∃ V0, ((w.alloc (.cells #[.int .i64 tm, .int .i64 tc] 32)).alloc (.cells #[.slice A' p.length c'] 33)) = V0 := ⟨_, rfl⟩
  have k0 : Below w.heap.size w V0 := by rw [← hV0]; exact ((Below.refl _ _).alloc (Nat.le_refl _) _).alloc (by simp) _
  have l1 : w.heap.size + 1 < V0.heap.size := by rw [← hV0]; simp
  have hst : V0.rangeAt w.heap.size 0 [.int .i64 tm, .int .i64 tc] := by
    rw [← hV0]
    exact World.rangeAt_alloc (range_new w [.int .i64 tm, .int .i64 tc] 32) _
  have d0 : V0.cell? ⟨w.heap.size + 1, 0, none⟩ = some (.slice A' p.length c') := by rw [← hV0]; simp
  replace hk := (k0.cell (p := ⟨kb, 1, none⟩) HLT.out).trans hk
  replace hm := map_but (S := fun _ => False) hm (But.of_below k0) (fun h => h)
  rw [hV0]
  have HK0 := Lib.hid k0
  have hlk0 := Nat.lt_of_lt_of_le HLT.out k0.size
  clear hV0 k0 hlt
  refine wp_region_held_drew (S := fun w' => w'.cell? ⟨kb, 1, none⟩ = some (.map (some r)) ∧ w'.heap[r]? = some (.map (l.map En.e).toArray mc) ∧ w'.rangeAt w.heap.size 0 [.int .i64 tm, .int .i64 tc]) (by kernel_rfl) ?_ (fun hHeld => ?_)
  · exact ⟨hk, hm, hst⟩
  have k1 : Below V0.heap.size V0 V0.drew := (Below.refl _ _).drew
  obtain ⟨V1, hV1⟩ : ∃ V1, V0.drew = V1 := ⟨_, rfl⟩
  rw [hV1] at k1 hHeld ⊢
  clear hV1
  replace hk := (k1.cell (p := ⟨kb, 1, none⟩) hlk0).trans hk
  replace hm := map_but (S := fun _ => False) hm (But.of_below k1) (fun h => h)
  replace hst := range_below hst k1 (Nat.lt_of_succ_lt l1)
  replace d0 := (k1.cell (p := ⟨w.heap.size + 1, 0, none⟩) l1).trans d0
  replace hlk0 := Nat.lt_of_lt_of_le hlk0 k1.size
  replace l1 := Nat.lt_of_lt_of_le l1 k1.size
  have HK1 := Lib.hid (HK0.out.trans (k1.mono HK0.out.size))
  clear k1
  have HN := Lib.hid (newest_all A c L key tm tc V1 (HRD.out.below HK1.out) hL)
  refine tk9 0 ?_
  refine tk9 1 ?_
  refine tk9 2 ?_
  refine tk9 3 ?_
  refine tk9 4 ?_
  refine tk9 5 (hy := look_y (by rfl) 62 (.tmp 17) (.tmp 18) false rfl (.map (some r)) (.string key) (.slice A L.length c) rfl rfl (fun w' hw => HLK.out w' hw.2.1)) ?_
  refine tk9 6 ?_
  refine tk9 7 (hy := yieldsIf_load_mid (by rfl) 32 (.tmp 7) rfl w.heap.size 0 rfl [.int .i64 tm, .int .i64 tc] _ (fun w' hw => hw.2.2) Try.underlying32 rfl stp_size) ?_
  refine wpAnyH_ready (rs := [8]) (by kernel_rfl) (by simp) ?_
  refine AllReadyH.cons rfl (fun K hK => ?_) (AllReadyH.nil)
  go_simp
  (go_at_call 36; refine HN.out.mono ?_; rintro e2 V2 ⟨⟨v2, Vl, rfl, hw2, hv2⟩, k2⟩)
  replace hk := (k2.cell (p := ⟨kb, 1, none⟩) hlk0).trans hk
  replace hm := map_but (S := fun _ => False) hm (But.of_below k2) (fun h => h)
  replace hst := range_below hst k2 (Nat.lt_of_succ_lt l1)
  replace d0 := (k2.cell (p := ⟨w.heap.size + 1, 0, none⟩) l1).trans d0
  have HK2 := Lib.hid (HK1.out.trans (k2.mono HK1.out.size))
  have HW2 := Lib.hid hw2
  have HV2 := Lib.hid hv2
  clear k2 hw2 hv2 HN
  (try dsimp only)
  refine hK.out _ _ ?_ (fun hHeld => ?_)
  · exact ⟨hk, hm, hst⟩
  clear hK K
  (try simp only [Act.put, List.setIfInBounds_toArray, List.set_cons_zero, List.set_cons_succ, List.getElem_toArray, List.getElem_cons_succ, List.getElem_cons_zero])
  refine tk9 9 ?_
  refine tk9 10 ?_
  refine tk9 11 ?_
  refine tk9 12 ?_
  refine tk9 13 ?_
  refine wpAnyH_done (by kernel_rfl) ?_ _
  clear hHeld hk hm hst hlk0 l1
  cases fd
  · as_aux_lemma =>
    have HRP : Hid (readP (ws.filter (fun m => decide (m.key = key))) key tm tc false p = (newP (L.map Wq.m) key tm tc).2) := Lib.hid (by unfold readP; rw [if_neg (by simp), HLM.out])
    go_wp2_with fail
    go_ret
    exact ⟨by rw [HRP.out]; rfl, HK2.out⟩
  · as_aux_lemma =>
    obtain ⟨Av, cv, rfl⟩ := row_shapeW HW2.out.row
    have HRP : Hid (readP (ws.filter (fun m => decide (m.key = key))) key tm tc true p = Vl.any (fun x => decide (x.p = p))) := Lib.hid (by
      unfold readP
      rw [if_pos rfl, ← HLM.out, ← HV2.out, List.any_map]
      rfl)
    have HCT := Lib.hid (contains_any w.heap.size Av A' cv c' Vl p (w.heap.size + 1) V2 (own_w HW2.out HK1.out.size) (by
      have h1 := congrArg List.length HV2.out
      rw [List.length_map] at h1
      have h2 := newP_len (L.map Wq.m) key tm tc
      rw [List.length_map] at h2
      omega) d0 (HA.out.below HK2.out) HP.out (fun x hx => by
      have h1 : x.p ∈ (newP (L.map Wq.m) key tm tc).1 := by rw [← HV2.out]; exact List.mem_map.2 ⟨x, hx, rfl⟩
      obtain ⟨m, hm, hmp⟩ := newP_mem h1
      obtain ⟨y, hy, rfl⟩ := List.mem_map.1 hm
      rw [← hmp]
      exact HRD.out.isb y hy))
    clear d0
    go_wp2_with fail
    refine HCT.out.mono ?_; rintro e4 w4 ⟨rfl, rfl⟩
    go_wp2_with fail
    go_ret
    exact ⟨by rw [HRP.out]; rfl, HK2.out⟩
end Go.Proofs.Ytdjhpajmbddffaa
