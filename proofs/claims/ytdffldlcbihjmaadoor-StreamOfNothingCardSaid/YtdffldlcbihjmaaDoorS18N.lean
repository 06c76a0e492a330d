/- Stage 18: StreamOfNothing: a nil side does nothing. (for every number and record) -/
import Derived.Test.YtdffldlcbihjmaaDoorSmE
import Derived.Test.YtdffldlcbihjmaaDoorCard17
set_option linter.unusedSimpArgs false
set_option linter.unusedVariables false
namespace Go.Proofs.YtdffldlcbihjmaaDoor
open Go.RowKit Go.Sort

set_option maxRecDepth 100000 in
set_option maxHeartbeats 4000000 in
theorem nothing_any (n : Int) (m : Mr) (w : World) (hs : m.r.val.length ≤ 281474976710656 ∧ m.r.key.length ≤ 281474976710656) :
    Calls Tryd.prog 8 #[.int .i64 n, m.v] w fun e w' => e = .returned (.bool true) ∧ Below w.heap.size w w' := by
  obtain ⟨⟨o, s, key, ml, ct, vo, val, gone, tt⟩, A, c⟩ := m
  have HH : Hid (∀ (W : World) (g : Nat) (cs : Array Value), W.heap.size = g → cs.toList = rowM [Mr.mk ⟨o, s, key, ml, ct, vo, val, gone, tt⟩ A c] → Calls Tryd.prog 23 #[.slice (some ⟨g, 0, none⟩) 1 1] (W.alloc (.cells cs 89)) fun e w' => (∃ b, e = .returned (.bool b)) ∧ Below W.heap.size W w') := Lib.hid (fun W g cs hg hcs => by
    subst hg
    have X := XB.new W cs 89
    rw [hcs] at X
    exact (law_heavy18 _ _ _ (rowAt_xb (n := 1) (c := 1) X rfl) (by simpa using hs) (by simp [maxLen])).mono fun e w' ⟨⟨b, he, _⟩, q, hq⟩ => ⟨⟨b, he⟩, by rw [hq]; exact below_drewN ((Below.refl _ _).alloc (Nat.le_refl _) _) q⟩)
  have X0 := Lib.hid (XB.new w #[.int .i64 o, .int .i64 s, .string (strB key), .int .i64 ml, .int .i64 ct, .int .i64 vo, .slice A val.length c, .bool gone, .int .i64 tt] 89)
  have HB0 : Hid (Below w.heap.size w (w.alloc (recO o s (strB key) ml ct vo A val.length c gone tt))) := Lib.hid (by (repeat' (first | (with_reducible exact Below.refl _ _) | (with_reducible assumption) | (with_reducible refine Below.trans ?_ (Below.mono (by with_reducible assumption) ?_)) | (with_reducible refine Below.alloc ?_ ?_ _) | (with_reducible refine Below.setCell ?_ ?_ _) | (with_reducible refine below_drewN ?_ _) | (with_reducible refine Below.drew ?_) | go_size)))
  clear hs
  go_enter Tryd.func8, Tryd.ntmps8
  go_wp2_with fail
  refine (HH.out (w.alloc (recO o s (strB key) ml ct vo A val.length c gone tt)) (w.heap.size + 1) _ (by simp) rfl).mono ?_; rintro e w1 ⟨⟨b, rfl⟩, k1⟩
  have HX1 := Lib.hid (X0.out.below k1)
  have HB1 := Lib.hid (HB0.out.trans (k1.mono HB0.out.size))
  clear k1 HH X0 HB0
  cases b
  rotate_left
  · go_wp2
    go_ret
    exact ⟨rfl, HB1.out⟩
  go_wp2_with fail
  refine (nil_need n _).mono ?_; rintro e w2 ⟨rfl, rfl⟩
  have X1 := HX1.out
  have x0 := X1.c 0 _ rfl
  have x1 := X1.c 1 _ rfl
  have x2 := X1.c 2 _ rfl
  have x3 := X1.c 3 _ rfl
  have x4 := X1.c 4 _ rfl
  have x5 := X1.c 5 _ rfl
  have x6 := X1.c 6 _ rfl
  have x7 := X1.c 7 _ rfl
  have x8 := X1.c 8 _ rfl
  have xl := X1.lt
  clear X1
  go_wp2_with fail
  refine (nil_send _ _ ⟨_, _, _, rfl⟩).mono ?_; rintro e w3 ⟨rfl, rfl⟩
  go_wp2_with fail
  refine (nil_tick _).mono ?_; rintro e w4 ⟨rfl, k4⟩
  have k4' : Below w1.heap.size w1 w4 := ((Below.refl _ _).alloc (Nat.le_refl _) _).trans (k4.mono (by simp))
  have HB4 := Lib.hid (HB1.out.trans (k4'.mono HB1.out.size))
  have X4 := HX1.out.below k4'
  clear x0 x1 x2 x3 x4 x5 x6 x7 x8 xl k4 k4' HB1 HX1
  have x0 := X4.c 0 _ rfl
  have x1 := X4.c 1 _ rfl
  have x2 := X4.c 2 _ rfl
  have x3 := X4.c 3 _ rfl
  have x4 := X4.c 4 _ rfl
  have x5 := X4.c 5 _ rfl
  have x6 := X4.c 6 _ rfl
  have x7 := X4.c 7 _ rfl
  have x8 := X4.c 8 _ rfl
  have xl := X4.lt
  clear X4
  go_wp2_with fail
  refine (nil_ack n _).mono ?_; rintro e w5 ⟨rfl, rfl⟩
  go_wp2_with fail
  refine (nil_acked _).mono ?_; rintro e w6 ⟨rfl, rfl⟩
  go_wp2_with fail
  refine (nil_take _ _ ⟨_, _, _, rfl⟩).mono ?_; rintro e w7 ⟨rfl, rfl⟩
  go_wp2_with fail
  refine (nil_done n _).mono ?_; rintro e w8 ⟨rfl, rfl⟩
  go_wp2_with fail
  refine (nil_applied _).mono ?_; rintro e w9 ⟨rfl, rfl⟩
  go_wp2_with fail
  refine (known18 _).mono ?_; rintro e w10 ⟨rfl, k10⟩
  have HB10 := Lib.hid (HB4.out.trans ((((Below.refl w4.heap.size w4).alloc (Nat.le_refl _) _).trans (k10.mono (by simp))).mono HB4.out.size))
  go_wp2
  go_ret
  exact ⟨rfl, HB10.out⟩
end Go.Proofs.YtdffldlcbihjmaaDoor
namespace Go.Proofs.YtdffldlcbihjmaaDoor
open Go.ChangeShapes Go.WideShapes Go.ChangeAt Go.RowKit Go.Joins Go.Deep
set_option maxRecDepth 100000 in
theorem streamOfNothing_contract (H : Type) (enc : TypeId × Value → H) (W : World) (base : Nat) (args : Array Value) (ds gs : List (DataW H)) (before : List MemPlace)
    (hval0 : ∀ (j : Nat) t v, Tryd.f8.params[j]? = some t → args[j]? = some v → Value.okWide Tryd.prog W .any base t v)
    (hW : DataW.Whole enc Tryd.prog Tryd.f8.params.toList Rows.streamOfNothingSpec.vars false W args.toList ds gs before)
    (hsz0 : (DataW.weightsEach Tryd.prog (Tryd.f8.params.toList ++ (OpenSpec.ofChange Rows.streamOfNothingSpec).bare.plain.varTypes Tryd.prog) (ds ++ gs)).all (· ≤ reachBytes) = true) (hL : laidMetH Tryd.prog Rows.streamOfNothingRow.laid W) (hS : W.ShapedOpen Tryd.prog) :
    Calls Tryd.prog 8 args W fun e W' => ∃ v, e = .returned v ∧ Rows.streamOfNothingSpec.post enc Tryd.prog Tryd.f8 false true false false W args v W' := by
  have hval : ∀ (j : Nat) t v, Tryd.f8.params[j]? = some t → args[j]? = some v → Value.okWide Tryd.prog W .any base t v := hval0
  have hsz := hsz0
  have hW' := hW
  obtain ⟨p, q, hA0, hV, rfl, hfz, hnd⟩ := hW
  have hA : DataW.TrodAll enc Tryd.prog W 0 (fun _ => true) true Tryd.f8.params.toList args.toList ds p := hA0
  rw [Tryd.params8] at hA hval hsz
  have hsame : (Rows.streamOfNothingSpec.fn H (ds ++ gs)).results = [.lit (.bool true)] ∧ (Rows.streamOfNothingSpec.fn H (ds ++ gs)).args = ds ∧ (Rows.streamOfNothingSpec.fn H (ds ++ gs)).vars = [] → ∀ W', Below W.heap.size W W' → Rows.streamOfNothingSpec.post enc Tryd.prog Tryd.f8 false true false false W args (.bool true) W' :=
    fun h W' hb => law_post (tb := 4) hW' law_laid (by kernel_rfl) rfl Tryd.underlying4 h.1 h.2.1 rfl h.2.2 hb
  obtain ⟨v0, vs0, d0, ds0, p0, q0, hargs, rfl, rfl, h0, r0⟩ := trodAll_cons hA
  obtain ⟨v1, vs1, d1, ds1, p1, q1, rfl, rfl, rfl, h1, r1⟩ := trodAll_cons r0
  obtain ⟨rfl, rfl, rfl⟩ := trodAll_nil r1
  obtain rfl : args = #[v0, v1] := by cases args; simp_all
  obtain ⟨rfl, rfl⟩ := trodVars_none hV
  have hpost := hsame ⟨rfl, rfl, rfl⟩
  clear hsame hA0 hval0 hsz0
  obtain ⟨n, rfl, rfl, rfl, wfn⟩ := open_int Tryd.underlying3 (hval 0 3 v0 rfl rfl) h0
  obtain ⟨o, s, key, ml, ct, vo, A, l, c, gone, tt, rfl, _, _, _, _, _, hz⟩ := open_record (hval 1 89 v1 rfl rfl) h1
  have hk := hz reachBytes (sized_each (j := 1) hsz rfl rfl)
  unfold reachBytes at hk
  have he : recV o s key ml ct vo A l.length c gone tt = (Mr.mk ⟨o, s, kL key, ml, ct, vo, l, gone, tt⟩ A c).v := by
    show _ = recV o s (strB (kL key)) ml ct vo A l.length c gone tt
    rw [str_kL]
  rw [he] at hpost ⊢
  exact (nothing_any n _ W ⟨by show l.length ≤ _; omega, by show (kL key).length ≤ _; rw [kL_len]; omega⟩).mono fun e W' ⟨he, hb⟩ => ⟨_, he, hpost W' hb⟩
theorem streamOfNothing_reads (os : Os) {H : Type} (enc : TypeId × Value → H) : (DataW.whole enc Tryd.prog ((layW1 os).forCall (fun _ _ => 0) ⟨#[], #[.int .i64 0, recV 0 0 ⟨#[]⟩ 0 0 0 none 0 0 false 0], []⟩).memory Tryd.f8.params.toList Rows.streamOfNothingSpec.vars false #[.int .i64 0, recV 0 0 ⟨#[]⟩ 0 0 0 none 0 0 false 0].toList 8).isSome = true := by kernel_rfl
theorem streamOfNothing_met (os : Os) : laidMet Tryd.prog Rows.streamOfNothingRow.laid ((layW1 os).forCall (fun _ _ => 0) ⟨#[], #[.int .i64 0, recV 0 0 ⟨#[]⟩ 0 0 0 none 0 0 false 0], []⟩).memory := laidMet_of_run' 8 (by kernel_rfl) (by kernel_rfl)
set_option maxRecDepth 100000 in
theorem streamOfNothing_lifted (os : Os) (started : os.Started) (H : Type) (enc : TypeId × Value → H) (F : Stop.Interp) :
    ReturnsInHanded {} Tryd.checked os 8 .any ((OpenSpec.ofChange Rows.streamOfNothingSpec).preRow enc Tryd.prog Tryd.f8 Rows.streamOfNothingRow.domain false Rows.streamOfNothingRow.laid) (((OpenSpec.ofChange Rows.streamOfNothingSpec).at F).post enc Tryd.prog Tryd.f8 false true false false) := by
  obtain ⟨x, hx⟩ := Option.isSome_iff_exists.1 (streamOfNothing_reads os enc)
  refine returnsInHanded_of_row (C := Tryd.checked) (s := OpenSpec.ofChange Rows.streamOfNothingSpec) law_own started (by kernel_rfl) Tryd.func8
    (witness_row_at (enc := enc) (C := Tryd.checked) false (layW1 os) #[.int .i64 0, recV 0 0 ⟨#[]⟩ 0 0 0 none 0 0 false 0] rfl (by kernel_rfl) (by kernel_rfl) (by kernel_rfl)
      (OpenSpec.preRow_of_cond 8 hx (by rfl) (fun k hk => by cases hk) (by kernel_rfl) (streamOfNothing_met os))) ?_
  intro W base args ds gs before hval hW _ _ hsz hL hS _
  exact streamOfNothing_contract H enc W base args ds gs before hval hW hsz hL hS
theorem streamOfNothing_said : Rows.StreamOfNothingSaid :=
  OpenClaim.holds_of_cond 8 Tryd.f8 rfl rfl rfl rfl rfl rfl rfl ⟨rfl, rfl, rfl, rfl, rfl⟩ rfl rfl rfl rfl rfl (by kernel_rfl) Tryd.func8 (by kernel_rfl)
    (of_decide_eq_true (by kernel_rfl)) (by unfold Func.isWrapper; first | (rw [if_pos (by decide +kernel)]; kernel_rfl) | (rw [if_neg (by decide +kernel)]; exact ⟨rfl, rfl⟩))
    (fun os started H enc _ F => by rw [OpenClaim.pre_eq_preRow]; exact streamOfNothing_lifted os started H enc F)
theorem streamOfNothing_holds : Rows.StreamOfNothingCardSaid :=
  Claim7.holds_tied_plain_at .later [] _ _ _ _ streamOfNothing_said (fun _ h => by cases h) (by kernel_rfl) (fun _ h => by cases h) streamOfNothing_row_tie rfl ⟨rfl, rfl⟩ (by kernel_rfl) rfl (plain_of (f0 := 8) (fn0 := Tryd.f8) (by kernel_rfl) Tryd.func8 (by kernel_rfl) (by kernel_rfl)) (by kernel_rfl)
end Go.Proofs.YtdffldlcbihjmaaDoor
