/- Stage 6: PacketEncodes. -/
import Derived.Test.YtfllemmmgmdliaaPkDec
import Derived.Test.YtfllemmmgmdliaaPkRef
set_option linter.unusedSimpArgs false
set_option linter.unusedVariables false
namespace Go.Proofs.Ytfllemmmgmdliaa
open Go.ChangeShapes Go.WideShapes Go.ChangeAt Go.RowKit Go.Joins

theorem num4 {x : Int} (h0 : 0 ≤ x) (h1 : x < 4294967296) (f : Nat → Int) (e : ∀ j, j < 4 → f j = x / 256 ^ (3 - j) % 256) : numK f 4 = x := by
  have e0 := e 0 (by omega)
  have e1 := e 1 (by omega)
  have e2 := e 2 (by omega)
  have e3 := e 3 (by omega)
  simp only [show (256 : Int) ^ (3 - 0) = 16777216 from rfl, show (256 : Int) ^ (3 - 1) = 65536 from rfl, show (256 : Int) ^ (3 - 2) = 256 from rfl, show (256 : Int) ^ (3 - 3) = 1 from rfl] at e0 e1 e2 e3
  show (((0 * 256 + f 0) * 256 + f 1) * 256 + f 2) * 256 + f 3 = x
  omega
theorem num8 {x : Int} (h0 : 0 ≤ x) (h1 : x < 18446744073709551616) (f : Nat → Int) (e : ∀ j, j < 8 → f j = x / 256 ^ (7 - j) % 256) : numK f 8 = x := by
  have e0 := e 0 (by omega)
  have e1 := e 1 (by omega)
  have e2 := e 2 (by omega)
  have e3 := e 3 (by omega)
  have e4 := e 4 (by omega)
  have e5 := e 5 (by omega)
  have e6 := e 6 (by omega)
  have e7 := e 7 (by omega)
  simp only [show (256 : Int) ^ (7 - 0) = 72057594037927936 from rfl, show (256 : Int) ^ (7 - 1) = 281474976710656 from rfl, show (256 : Int) ^ (7 - 2) = 1099511627776 from rfl, show (256 : Int) ^ (7 - 3) = 4294967296 from rfl,
    show (256 : Int) ^ (7 - 4) = 16777216 from rfl, show (256 : Int) ^ (7 - 5) = 65536 from rfl, show (256 : Int) ^ (7 - 6) = 256 from rfl, show (256 : Int) ^ (7 - 7) = 1 from rfl] at e0 e1 e2 e3 e4 e5 e6 e7
  show (((((((0 * 256 + f 0) * 256 + f 1) * 256 + f 2) * 256 + f 3) * 256 + f 4) * 256 + f 5) * 256 + f 6) * 256 + f 7 = x
  omega
/-- What was laid is taken. -/
theorem dec_enc {l m s d r o v t : Int} (h : isP l m s d r = true) (o0 : 0 ≤ o ∧ o < 18446744073709551616) (v0 : 0 ≤ v ∧ v < 18446744073709551616) (t0 : 0 ≤ t ∧ t < 18446744073709551616) :
    dL (encF l m s d r o v t) = l ∧ dM (encF l m s d r o v t) = m ∧ encF l m s d r o v t 1 = s ∧ dD (encF l m s d r o v t) = d ∧ dR (encF l m s d r o v t) = r ∧ dO (encF l m s d r o v t) = o ∧ dV (encF l m s d r o v t) = v ∧ dT (encF l m s d r o v t) = t := by
  have b := isP_bd h
  have e0 : encF l m s d r o v t 0 = l * 64 + 32 + m := rfl
  refine ⟨by unfold dL; omega, by unfold dM; omega, rfl, ?_, ?_, ?_, ?_, ?_⟩
  · exact num4 (by omega) (by omega) _ (fun j hj => by
      rcases (show j = 0 ∨ j = 1 ∨ j = 2 ∨ j = 3 from by omega) with rfl | rfl | rfl | rfl <;> rfl)
  · exact num4 (by omega) (by omega) _ (fun j hj => by
      rcases (show j = 0 ∨ j = 1 ∨ j = 2 ∨ j = 3 from by omega) with rfl | rfl | rfl | rfl <;> rfl)
  all_goals
    exact num8 (by omega) (by omega) _ (fun j hj => by
      rcases (show j = 0 ∨ j = 1 ∨ j = 2 ∨ j = 3 ∨ j = 4 ∨ j = 5 ∨ j = 6 ∨ j = 7 from by omega) with rfl | rfl | rfl | rfl | rfl | rfl | rfl | rfl <;> rfl)
theorem eqB_refl (n : Nat) (f : Nat → Int) : eqB n f n f = true := by simp [eqB, (eqK_iff f f n).2 (fun _ _ => rfl)]
theorem decOk_enc {l m s d r o v t : Int} (h : isP l m s d r = true) (o0 : 0 ≤ o ∧ o < 18446744073709551616) (v0 : 0 ≤ v ∧ v < 18446744073709551616) (t0 : 0 ≤ t ∧ t < 18446744073709551616) : decOk (encF l m s d r o v t) = true := by
  obtain ⟨e1, e2, e3, e4, e5, e6, e7, e8⟩ := dec_enc h o0 v0 t0
  unfold decOk
  rw [e1, e2, e3, e4, e5, e6, e7, e8, h, eqB_refl]
  rfl
set_option maxRecDepth 100000 in
set_option maxHeartbeats 4000000 in
theorem encodes_no (l m s d r o v t : Int) (w : World) (h : isP l m s d r = false) : Calls Try.prog 3 #[pkV l m s d r o v t] w fun e w' => e = .returned (.bool true) ∧ Below w.heap.size w w' := by
  have HB0 : Hid (Below w.heap.size w (w.alloc (pkO l m s d r o v t))) := Lib.hid (by (repeat' (first | (with_reducible exact Below.refl _ _) | (with_reducible assumption) | (with_reducible refine Below.trans ?_ (Below.mono (by with_reducible assumption) ?_)) | (with_reducible refine Below.alloc ?_ ?_ _) | (with_reducible refine Below.setCell ?_ ?_ _) | (with_reducible refine below_drewN ?_ _) | (with_reducible refine Below.drew ?_) | go_size)))
  have X0 := Lib.hid (Box8.new w l m s d r o v t)
  have C1 := Lib.hid (fun w => pk_enc_no l m s d r o v t w h)
  have C2 := Lib.hid (fun w => ref6_enc_no l m s d r o v t w h)
  have CS := Lib.hid (fun w => same6 none 0 0 (fun _ => 0) none 0 0 (fun _ => 0) w (by omega) (by omega) (BytesAt.zero _ _ _) (BytesAt.zero _ _ _))
  rw [show eqB 0 (fun _ => 0) 0 (fun _ => 0) = true from eqB_refl 0 _] at CS
  clear h
  go_enter Try.func3, Try.ntmps3
  go_wp2_with fail
  refine (C1.out _).mono ?_; rintro e w1 ⟨rfl, hb1⟩
  have X1 := X0.out.below hb1 (by simp)
  have HB1 := HB0.out.trans (hb1.mono HB0.out.size)
  obtain ⟨c0, c1, c2, c3, c4, c5, c6, c7, _⟩ := X1
  clear hb1 X0 C1
  go_wp2_with fail
  refine (C2.out _).mono ?_; rintro e w2 ⟨rfl, hb2⟩
  have HB2 := HB1.trans (hb2.mono HB1.size)
  clear hb2 c0 c1 c2 c3 c4 c5 c6 c7 C2
  go_wp2_with fail
  refine (CS.out _).mono ?_; rintro e w3 ⟨rfl, nq, rfl⟩
  have HB3 := below_drewN HB2 nq
  have z3 := HB3.size
  generalize w2.drewN nq = w3 at *
  clear CS
  go_wp2_with (go_at_call 10; refine (known6 _).mono ?_; rintro e w9 ⟨rfl, hb9⟩; obtain ⟨hc9, hf9⟩ := bcell hb9; have hz9 := hb9.size; (try simp only [World.size_alloc, World.size_setCell, World.heap_drewN] at hb9 hc9 hf9 hz9); (try have ha09 : w.heap.size < w9.heap.size := by omega); (try have ha19 : w.heap.size + 1 < w9.heap.size := by omega); (try have ha29 : w.heap.size + 2 < w9.heap.size := by omega); (try have hal9 : w.heap.size ≤ w9.heap.size := by omega); (try have ham9 : w.heap.size < w9.heap.size + 2 := by omega))
  go_ret
  go_light
  exact ⟨rfl, by (repeat' (first | (with_reducible exact Below.refl _ _) | (with_reducible assumption) | (with_reducible refine Below.trans ?_ (Below.mono (by with_reducible assumption) ?_)) | (with_reducible refine Below.alloc ?_ ?_ _) | (with_reducible refine Below.setCell ?_ ?_ _) | (with_reducible refine below_drewN ?_ _) | (with_reducible refine Below.drew ?_) | go_size))⟩
set_option maxRecDepth 100000 in
set_option maxHeartbeats 4000000 in
theorem encodes_yes (l m s d r o v t : Int) (w : World) (h : isP l m s d r = true) (o0 : 0 ≤ o ∧ o < 18446744073709551616) (v0 : 0 ≤ v ∧ v < 18446744073709551616) (t0 : 0 ≤ t ∧ t < 18446744073709551616) :
    Calls Try.prog 3 #[pkV l m s d r o v t] w fun e w' => e = .returned (.bool true) ∧ Below w.heap.size w w' := by
  have HB0 : Hid (Below w.heap.size w (w.alloc (pkO l m s d r o v t))) := Lib.hid (by (repeat' (first | (with_reducible exact Below.refl _ _) | (with_reducible assumption) | (with_reducible refine Below.trans ?_ (Below.mono (by with_reducible assumption) ?_)) | (with_reducible refine Below.alloc ?_ ?_ _) | (with_reducible refine Below.setCell ?_ ?_ _) | (with_reducible refine below_drewN ?_ _) | (with_reducible refine Below.drew ?_) | go_size)))
  have X0 := Lib.hid (Box8.new w l m s d r o v t)
  have C1 := Lib.hid (fun w => pk_enc_yes l m s d r o v t w h o0.1 o0.2 v0.1 v0.2 t0.1 t0.2)
  have C2 := Lib.hid (fun w => ref6_enc_yes l m s d r o v t w h o0.1 o0.2 v0.1 v0.2 t0.1 t0.2)
  have HD := Lib.hid (dec_enc h o0 v0 t0)
  have HK := Lib.hid (decOk_enc h o0 v0 t0)
  have HEB := Lib.hid (encF_byte l m s d r o v t h)
  clear h o0 v0 t0
  go_enter Try.func3, Try.ntmps3
  go_wp2_with fail
  refine (C1.out _).mono ?_; rintro e w1 ⟨g, rfl, hg, hU, hb1⟩
  have X1 := X0.out.below hb1 (by simp)
  have HB1 := HB0.out.trans (hb1.mono HB0.out.size)
  have HX1 := Lib.hid X1
  have HU := Lib.hid hU
  obtain ⟨c0, c1, c2, c3, c4, c5, c6, c7, _⟩ := X1
  clear hb1 X0 C1 hU hg
  go_wp2_with fail
  refine (C2.out _).mono ?_; rintro e w2 ⟨u, rfl, hO, hb2⟩
  have HB2 := HB1.trans (hb2.mono HB1.size)
  have X2 := HX1.out.below hb2 HX1.out.lt
  have U2 := HU.out.below hb2 HU.out.lt
  obtain ⟨A, c, rfl, hBy⟩ := hO.bytes
  have CS := Lib.hid (same6 (some ⟨g, 0, none⟩) 48 48 (encF l m s d r o v t) A 48 c (encF l m s d r o v t) w2 (by omega) (by omega) U2.bytes hBy)
  rw [eqB_refl] at CS
  have HX2 := Lib.hid X2
  have HU2 := Lib.hid U2
  clear hb2 c0 c1 c2 c3 c4 c5 c6 c7 C2 hO hBy HX1 HU X2 U2
  go_wp2_with fail
  refine CS.out.mono ?_; rintro e w3 ⟨rfl, nq, rfl⟩
  have HB3 := below_drewN HB2 nq
  have HX3 := Lib.hid (HX2.out.drewN nq)
  have HU3 := Lib.hid (HU2.out.drewN nq)
  generalize w2.drewN nq = w3 at *
  have CD := Lib.hid (pk_dec g 0 48 (encF l m s d r o v t) w3 HU3.out.lt (fun j hj => by rw [Nat.zero_add]; exact HU3.out.c j hj) HEB.out (by omega))
  clear CS HX2 HU2 HU3 HB2
  go_wp2_with fail
  refine CD.out.mono ?_; rintro e w4 ⟨he, _, hb4⟩
  have he' := he HK.out
  obtain ⟨e1, e2, e3, e4, e5, e6, e7, e8⟩ := HD.out
  rw [e1, e2, e3, e4, e5, e6, e7, e8] at he'
  subst he'
  have X4 := (HX3.out.below hb4 HX3.out.lt).alloc (pkO l m s d r o v t)
  have HB4 := HB3.trans (hb4.mono HB3.size)
  have z4 := HB4.size
  have X5 := Box8.new w4 l m s d r o v t
  obtain ⟨c0, c1, c2, c3, c4, c5, c6, c7, _⟩ := X4
  obtain ⟨d0, d1, d2, d3, d4, d5, d6, d7, _⟩ := X5
  clear he hb4 e1 e2 e3 e4 e5 e6 e7 e8 HD HK HEB CD HX3
  go_wp2_with (go_at_call 10; refine (known6 _).mono ?_; rintro e w9 ⟨rfl, hb9⟩; obtain ⟨hc9, hf9⟩ := bcell hb9; have hz9 := hb9.size; (try simp only [World.size_alloc, World.size_setCell, World.heap_drewN] at hb9 hc9 hf9 hz9); (try have ha09 : w.heap.size < w9.heap.size := by omega); (try have ha19 : w.heap.size + 1 < w9.heap.size := by omega); (try have ha29 : w.heap.size + 2 < w9.heap.size := by omega); (try have hal9 : w.heap.size ≤ w9.heap.size := by omega); (try have ham9 : w.heap.size < w9.heap.size + 2 := by omega))
  go_ret
  go_light
  exact ⟨rfl, by (repeat' (first | (with_reducible exact Below.refl _ _) | (with_reducible assumption) | (with_reducible refine Below.trans ?_ (Below.mono (by with_reducible assumption) ?_)) | (with_reducible refine Below.alloc ?_ ?_ _) | (with_reducible refine Below.setCell ?_ ?_ _) | (with_reducible refine below_drewN ?_ _) | (with_reducible refine Below.drew ?_) | go_size))⟩
set_option maxRecDepth 100000 in
theorem packetEncodes_lifted (os : Os) (started : os.Started) (H : Type) (enc : TypeId × Value → H) :
    ReturnsInHanded {} Try.checked os 3 .any (Rows.packetEncodesSpec.pre6 enc Try.prog Try.f3 Rows.packetEncodesRow.domain false) (Rows.packetEncodesSpec.post enc Try.prog Try.f3 false true false false) := by
  refine returnsInHanded_of_change_sized (C := Try.checked) law_own started (by kernel_rfl) Try.func3
    (ChangeSpec.witness6 (enc := enc) (C := Try.checked) false ⟨#[], #[pkV 0 0 0 0 0 0 0 0], []⟩ 8 (by kernel_rfl) (by kernel_rfl) (by kernel_rfl) (by kernel_rfl)) ?_
  intro W base args ds gs before hval0 hW hcnd hsz0 _
  have hval : ∀ (j : Nat) t v, Try.f3.params[j]? = some t → args[j]? = some v → Value.okWide Try.prog W .any base t v := hval0
  have hsz : (DataW.weightsEach Try.prog (Try.f3.params.toList ++ Rows.packetEncodesSpec.plain.varTypes Try.prog) (ds ++ gs)).all (· ≤ reachBytes) = true := hsz0
  have hW' := hW
  obtain ⟨p, q, hA0, hV, rfl, hfz, hnd⟩ := hW
  have hA : DataW.TrodAll enc Try.prog W 0 (fun _ => true) true Try.f3.params.toList args.toList ds p := hA0
  rw [Try.params3] at hA hval hsz
  have hsame : (Rows.packetEncodesSpec.fn H (ds ++ gs)).results = [.lit (.bool true)] ∧ (Rows.packetEncodesSpec.fn H (ds ++ gs)).args = ds ∧ (Rows.packetEncodesSpec.fn H (ds ++ gs)).vars = [] → ∀ W', Below W.heap.size W W' → Rows.packetEncodesSpec.post enc Try.prog Try.f3 false true false false W args (.bool true) W' :=
    fun h W' hb => law_post (tb := 4) hW' law_laid (by kernel_rfl) rfl Try.underlying4 h.1 h.2.1 rfl h.2.2 hb
  obtain ⟨v0, vs0, d0, ds0, p0, q0, hargs, rfl, rfl, h0, r0⟩ := trodAll_cons hA
  obtain ⟨rfl, rfl, rfl⟩ := trodAll_nil r0
  obtain rfl : args = #[v0] := by cases args; simp_all
  obtain ⟨rfl, rfl⟩ := trodVars_none hV
  have hpost := hsame ⟨rfl, rfl, rfl⟩
  clear hsame hA0 hval0 hsz0
  obtain ⟨l, m, s, d, r, o, v, t, rfl, o0, v0, t0⟩ := open_packet (hval 0 24 v0 rfl rfl) h0
  cases h : isP l m s d r
  · exact (encodes_no l m s d r o v t W h).mono fun e W' ⟨he, hb⟩ => ⟨_, he, hpost W' hb⟩
  · exact (encodes_yes l m s d r o v t W h o0 v0 t0).mono fun e W' ⟨he, hb⟩ => ⟨_, he, hpost W' hb⟩
theorem packetEncodes_holds : Rows.PacketEncodesSaid :=
  OpenClaim.holds_of_wide 3 Try.f3 rfl rfl rfl rfl rfl rfl rfl ⟨rfl, rfl, rfl, rfl, rfl⟩ rfl rfl rfl rfl rfl (by kernel_rfl) Try.func3 (by kernel_rfl)
    (of_decide_eq_true (by kernel_rfl)) (by unfold Func.isWrapper; first | (rw [if_pos (by decide +kernel)]; kernel_rfl) | (rw [if_neg (by decide +kernel)]; exact ⟨rfl, rfl⟩))
    (fun os started H enc _ => packetEncodes_lifted os started H enc)
end Go.Proofs.Ytfllemmmgmdliaa
