/- Stage 17: WireApart: the card. (for every two words) -/
import Derived.Test.YtlgnjjjbajfjaaaDoorCard17
import Derived.Test.YtlgnjjjbajfjaaaDoorApart17
set_option linter.unusedSimpArgs false
set_option linter.unusedVariables false
namespace Go.Proofs.YtlgnjjjbajfjaaaDoor
open Go.ChangeShapes Go.WideShapes Go.ChangeAt Go.RowKit Go.Joins

set_option maxRecDepth 100000 in
theorem wireApart_contract (H : Type) (enc : TypeId × Value → H) (W : World) (base : Nat) (args : Array Value) (ds gs : List (DataW H)) (before : List MemPlace)
    (hval0 : ∀ (j : Nat) t v, Tryd.f7.params[j]? = some t → args[j]? = some v → Value.okWide Tryd.prog W .any base t v)
    (hW : DataW.Whole enc Tryd.prog Tryd.f7.params.toList Rows.wireApartSpec.vars false W args.toList ds gs before)
    (hsz0 : (DataW.weightsEach Tryd.prog (Tryd.f7.params.toList ++ (OpenSpec.ofChange Rows.wireApartSpec).bare.plain.varTypes Tryd.prog) (ds ++ gs)).all (· ≤ reachBytes) = true) (hL : laidMetH Tryd.prog Rows.wireApartRow.laid W) (hS : W.ShapedOpen Tryd.prog) :
    Calls Tryd.prog 7 args W fun e W' => ∃ v, e = .returned v ∧ Rows.wireApartSpec.post enc Tryd.prog Tryd.f7 false true false false W args v W' := by
  have hval : ∀ (j : Nat) t v, Tryd.f7.params[j]? = some t → args[j]? = some v → Value.okWide Tryd.prog W .any base t v := hval0
  have hsz := hsz0
  have hW' := hW
  obtain ⟨p, q, hA0, hV, rfl, hfz, hnd⟩ := hW
  have hA : DataW.TrodAll enc Tryd.prog W 0 (fun _ => true) true Tryd.f7.params.toList args.toList ds p := hA0
  rw [Tryd.params7] at hA hval hsz
  have hsame : (Rows.wireApartSpec.fn H (ds ++ gs)).results = [.lit (.bool true)] ∧ (Rows.wireApartSpec.fn H (ds ++ gs)).args = ds ∧ (Rows.wireApartSpec.fn H (ds ++ gs)).vars = [] → ∀ W', Below W.heap.size W W' → Rows.wireApartSpec.post enc Tryd.prog Tryd.f7 false true false false W args (.bool true) W' :=
    fun h W' hb => law_post (tb := 4) hW' law_laid (by kernel_rfl) rfl Tryd.underlying4 h.1 h.2.1 rfl h.2.2 hb
  obtain ⟨v0, vs0, d0, ds0, p0, q0, hargs, rfl, rfl, h0, r0⟩ := trodAll_cons hA
  obtain ⟨v1, vs1, d1, ds1, p1, q1, rfl, rfl, rfl, h1, r1⟩ := trodAll_cons r0
  obtain ⟨rfl, rfl, rfl⟩ := trodAll_nil r1
  obtain rfl : args = #[v0, v1] := by cases args; simp_all
  obtain ⟨rfl, rfl⟩ := trodVars_none hV
  have hpost := hsame ⟨rfl, rfl, rfl⟩
  clear hsame hA0 hval0 hsz0
  obtain ⟨k, o, s, m1, c1, m2, c2, L, A, c, rfl, hmx, hrow, hin, hz⟩ := open_word (hval 0 26 v0 rfl rfl) h0
  obtain ⟨k', o', s', m1', c1', m2', c2', L', A', c', rfl, hmx', hrow', hin', hz'⟩ := open_word (hval 1 26 v1 rfl rfl) h1
  have hk := hz reachBytes (sized_each (j := 0) hsz rfl rfl)
  have hk' := hz' reachBytes (sized_each (j := 1) hsz rfl rfl)
  unfold reachBytes at hk hk'
  have ht : Nib W := nib_of_laid hL
  have hs : ∀ m ∈ L, m.r.val.length ≤ 281474976710656 ∧ m.r.key.length ≤ 281474976710656 := fun m hm => ⟨by have := (hk m hm).1; omega, by have := (hk m hm).2; omega⟩
  have hs' : ∀ m ∈ L', m.r.val.length ≤ 281474976710656 ∧ m.r.key.length ≤ 281474976710656 := fun m hm => ⟨by have := (hk' m hm).1; omega, by have := (hk' m hm).2; omega⟩
  have hkb : ∀ m ∈ L, isBy m.r.key ∧ isBy m.r.val := fun m hm => ⟨(hin m hm).key, (hin m hm).val⟩
  have hkb' : ∀ m ∈ L', isBy m.r.key ∧ isBy m.r.val := fun m hm => ⟨(hin' m hm).key, (hin' m hm).val⟩
  have hat : ∀ m ∈ L, m.At (fun _ => True) W := fun m hm => (hin m hm).at_
  have hat' : ∀ m ∈ L', m.At (fun _ => True) W := fun m hm => (hin' m hm).at_
  cases hA : okW (wdOf k o s m1 c1 m2 c2 L)
  · cases hB : okW (wdOf k' o' s' m1' c1' m2' c2' L')
    · exact (apart_nn k o s m1 c1 m2 c2 k' o' s' m1' c1' m2' c2' A A' c c' L L' W ht hrow hrow' hat hat' hkb hkb' hs hs' hmx hmx' hA hB).mono fun e W' ⟨he, hb⟩ => ⟨_, he, hpost W' hb⟩
    · exact (apart_ny k o s m1 c1 m2 c2 k' o' s' m1' c1' m2' c2' A A' c c' L L' W ht hrow hrow' hat hat' hkb hkb' hs hs' hmx hmx' hA hB).mono fun e W' ⟨he, hb⟩ => ⟨_, he, hpost W' hb⟩
  · cases hB : okW (wdOf k' o' s' m1' c1' m2' c2' L')
    · exact (apart_yn k o s m1 c1 m2 c2 k' o' s' m1' c1' m2' c2' A A' c c' L L' W ht hrow hrow' hat hat' hkb hkb' hs hs' hmx hmx' hA hB).mono fun e W' ⟨he, hb⟩ => ⟨_, he, hpost W' hb⟩
    · exact (apart_yy k o s m1 c1 m2 c2 k' o' s' m1' c1' m2' c2' A A' c c' L L' W ht hrow hrow' hat hat' hkb hkb' hs hs' hmx hmx' hA hB).mono fun e W' ⟨he, hb⟩ => ⟨_, he, hpost W' hb⟩
theorem wireApart_reads (os : Os) {H : Type} (enc : TypeId × Value → H) : (DataW.whole enc Tryd.prog ((layW1 os).forCall (fun _ _ => 0) ⟨#[], #[wdV 0 0 0 0 0 0 0 (.slice none 0 0), wdV 0 0 0 0 0 0 0 (.slice none 0 0)], []⟩).memory Tryd.f7.params.toList Rows.wireApartSpec.vars false #[wdV 0 0 0 0 0 0 0 (.slice none 0 0), wdV 0 0 0 0 0 0 0 (.slice none 0 0)].toList 8).isSome = true := by kernel_rfl
theorem wireApart_met (os : Os) : laidMet Tryd.prog Rows.wireApartRow.laid ((layW1 os).forCall (fun _ _ => 0) ⟨#[], #[wdV 0 0 0 0 0 0 0 (.slice none 0 0), wdV 0 0 0 0 0 0 0 (.slice none 0 0)], []⟩).memory := laidMet_of_run' 8 (by kernel_rfl) (by kernel_rfl)
set_option maxRecDepth 100000 in
theorem wireApart_lifted (os : Os) (started : os.Started) (H : Type) (enc : TypeId × Value → H) (F : Stop.Interp) :
    ReturnsInHanded {} Tryd.checked os 7 .any ((OpenSpec.ofChange Rows.wireApartSpec).preRow enc Tryd.prog Tryd.f7 Rows.wireApartRow.domain false Rows.wireApartRow.laid) (((OpenSpec.ofChange Rows.wireApartSpec).at F).post enc Tryd.prog Tryd.f7 false true false false) := by
  obtain ⟨x, hx⟩ := Option.isSome_iff_exists.1 (wireApart_reads os enc)
  refine returnsInHanded_of_row (C := Tryd.checked) (s := OpenSpec.ofChange Rows.wireApartSpec) law_own started (by kernel_rfl) Tryd.func7
    (witness_row_at (enc := enc) (C := Tryd.checked) false (layW1 os) #[wdV 0 0 0 0 0 0 0 (.slice none 0 0), wdV 0 0 0 0 0 0 0 (.slice none 0 0)] rfl (by kernel_rfl) (by kernel_rfl) (by kernel_rfl)
      (OpenSpec.preRow_of_cond 8 hx (by rfl) (fun k hk => by cases hk) (by kernel_rfl) (wireApart_met os))) ?_
  intro W base args ds gs before hval hW _ _ hsz hL hS _
  exact wireApart_contract H enc W base args ds gs before hval hW hsz hL hS
theorem wireApart_said : Rows.WireApartSaid :=
  OpenClaim.holds_of_cond 7 Tryd.f7 rfl rfl rfl rfl rfl rfl rfl ⟨rfl, rfl, rfl, rfl, rfl⟩ rfl rfl rfl rfl rfl (by kernel_rfl) Tryd.func7 (by kernel_rfl)
    (of_decide_eq_true (by kernel_rfl)) (by unfold Func.isWrapper; first | (rw [if_pos (by decide +kernel)]; kernel_rfl) | (rw [if_neg (by decide +kernel)]; exact ⟨rfl, rfl⟩))
    (fun os started H enc _ F => by rw [OpenClaim.pre_eq_preRow]; exact wireApart_lifted os started H enc F)
theorem wireApart_holds : Rows.WireApartCardSaid :=
  Claim7.holds_tied_plain_at .later [] _ _ _ _ wireApart_said (fun _ h => by cases h) (by kernel_rfl) (fun _ h => by cases h) wireApart_row_tie rfl ⟨rfl, rfl⟩ (by kernel_rfl) rfl (plain_of (f0 := 7) (fn0 := Tryd.f7) (by kernel_rfl) Tryd.func7 (by kernel_rfl) (by kernel_rfl)) (by kernel_rfl)
end Go.Proofs.YtlgnjjjbajfjaaaDoor
