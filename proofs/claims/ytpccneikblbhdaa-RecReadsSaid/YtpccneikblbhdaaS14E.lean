/- Stage 14: RecDecodes (written by gen/s14e.py). -/
import Derived.Test.YtpccneikblbhdaaS14D
import Derived.Test.YtpccneikblbhdaaStands14
import Derived.Test.YtpccneikblbhdaaArgRec
import Derived.Test.YtpccneikblbhdaaRefDec
import Derived.BigGuard
import Derived.BigGuardPart
import Derived.BigCall
set_option linter.unusedSimpArgs false
set_option linter.unusedVariables false
namespace Go.Proofs.Ytpccneikblbhdaa
open Go.ChangeShapes Go.WideShapes Go.ChangeAt Go.RowKit Go.Joins Go.Deep

/-- What Decode tells of l, read or not. -/
def decV (l : List Int) : Rc := (decR l).getD ⟨0, 0, [], 0, 0, 0, [], false, 0⟩
def decC (l : List Int) : Int := if (decR l).isSome then 0 else 3
def Dres (r : Rc) (k : Int) (w w' : World) (e : Ending) : Prop := ∃ A c, e = .returned (.tuple #[recV r.o r.s (strB r.key) r.ml r.ct r.vo A r.val.length c r.gone r.tt, .int .i64 k]) ∧ ByL w' A r.val ∧ (A = none → r.val.length = 0) ∧ (∀ ad, A = some ad → w.heap.size ≤ ad.block)
theorem DecRes.any {l : List Int} {w w' : World} {e : Ending} (h : DecRes l w w' e) : Dres (decV l) (decC l) w w' e := by
  rcases h with ⟨h, he⟩ | ⟨r, A, c, h, he, hy, hn, ha⟩
  · unfold decV decC
    rw [h]
    exact ⟨none, 0, he, ByL.nil _ _, fun _ => rfl, fun ad had => by cases had⟩
  · unfold decV decC
    rw [h]
    exact ⟨A, c, he, hy, hn, ha⟩
theorem decV_by {l : List Int} (h : isBy l) : isBy (decV l).key ∧ isBy (decV l).val := by
  unfold decV decR
  split
  · exact pR_by (s := some l) (fun bs e => by injection e with e; exact e ▸ h)
  · exact ⟨isBy_nil, isBy_nil⟩
theorem recDecodes_heavy (A : Option Addr) (p : List Int) (c : Nat) (w : World) (hby : ByL w A p) (hb : isBy p) (hn : A = none → p.length = 0 ∧ c = 0) (hc : p.length ≤ c) (hcm : c ≤ maxLen) (hh : 6000 < p.length) :
    Calls Try.prog 4 #[.slice A p.length c] w fun e w' => e = .returned (.bool true) ∧ Below w.heap.size w w' := by
  have d1 : decide ((6000 : Int) < (p.length : Int)) = true := by simp; omega
  go_enter Try.func4, Try.ntmps4
  go_wp2
  go_ret
  exact ⟨rfl, Below.refl _ _⟩
set_option maxRecDepth 100000 in
set_option maxHeartbeats 16000000 in
theorem recDecodes_light (A : Option Addr) (p : List Int) (c : Nat) (w : World) (hby : ByL w A p) (hb : isBy p) (hn : A = none → p.length = 0 ∧ c = 0) (hc : p.length ≤ c) (hcm : c ≤ maxLen) (hh : ¬ 6000 < p.length) (hRef : ∀ (A : Option Addr) (l : List Int) (c : Nat) (w : World), ByL w A l → isBy l → (A = none → l.length = 0 ∧ c = 0) → l.length ≤ 100000 → l.length ≤ c → c ≤ maxLen → Calls Try.prog 21 #[.slice A l.length c] w fun e w' => DecRes l w w' e ∧ Below w.heap.size w w') :
    Calls Try.prog 4 #[.slice A p.length c] w fun e w' => e = .returned (.bool true) ∧ Below w.heap.size w w' := by
  have d1 : decide ((6000 : Int) < (p.length : Int)) = false := by simp; omega
  have hpl : p.length ≤ 6000 := by omega
  have HRO := Lib.hid (roomy14 A p c w hby (fun e => (hn e).1) (by omega))
  have HA := Lib.hid (And.intro hby (And.intro hb (And.intro hn (And.intro hc hcm))))
  have HREF : Hid (∀ W, Below w.heap.size w W → Calls Try.prog 21 #[.slice A p.length c] W fun e w' => Dres (decV p) (decC p) W w' e ∧ Below W.heap.size W w') := Lib.hid (fun W k => (hRef A p c W (hby.below k) hb hn (by omega) hc hcm).mono fun e w' h => ⟨h.1.any, h.2⟩)
  have hvb := decV_by hb
  clear hby hb hn hc hcm hRef hh
  go_enter Try.func4, Try.ntmps4
  go_wp2_with fail
  refine HRO.out.mono ?_; rintro e U1 ⟨⟨g, cap, rfl, hr1, hr2, hrown⟩, k1⟩
  have HRP : Hid (U1.ownsRow w.heap.size 5 1 (.slice (some ⟨g, 0, none⟩) p.length cap) p.length (bC p)) := Lib.hid (own_first hrown rfl)
  have HYX : Hid (ByL U1 (some ⟨g, 0, none⟩) p) := Lib.hid (by
    obtain ⟨A1, c1, e1, y1, _, _⟩ := Own8.bytes HRP.out
    obtain ⟨rfl, rfl⟩ : some ⟨g, 0, none⟩ = A1 ∧ cap = c1 := by injection e1 with q1 q2 q3; exact ⟨q1, q3⟩
    exact y1)
  have HRN := Lib.hid hrown
  have HB1 := Lib.hid k1
  have hri : (p.length : Int) ≤ (cap : Int) := by omega
  have hri1 : (p.length : Int) + 1 ≤ (cap : Int) := by omega
  have hgl : g < U1.heap.size := (World.ownsRow.lt hrown g rfl).2
  clear hrown k1 HRO
  have HD1 := Lib.hid (rec_dec (some ⟨g, 0, none⟩) p cap U1 HYX.out HA.out.2.1 (fun e => by cases e) (by omega) rec_is)
  go_wp2_with fail
  refine HD1.out.mono ?_; rintro e U2 ⟨he, k2⟩
  have he := he.any
  generalize decC p = k at *
  generalize decV p = r at *
  obtain ⟨o, s, key, ml, ct, vo, val, gn, tt⟩ := r
  obtain ⟨A1, c1, rfl, y1, n1, f1⟩ := he
  simp only at hvb y1 n1 f1
  have HB2 := Lib.hid (HB1.out.trans (k2.mono HB1.out.size))
  have HG2 : Hid (U2.ownsRow w.heap.size 5 1 (.slice (some ⟨g, 0, none⟩) (p.length + 2) cap) (p.length + 2) (bC (p ++ [171, 171]))) := Lib.hid ((But.of_below (S := fun _ => False) k2).row HRN.out (fun _ _ hf => hf))
  have HY2 := Lib.hid (And.intro y1 (And.intro n1 f1))
  have HVB := Lib.hid hvb
  have z2 := k2.size
  have B2a : Below w.heap.size w (U2.alloc (recO o s (strB key) ml ct vo A1 val.length c1 gn tt)) := HB2.out.alloc HB2.out.size _
  have HD2 := Lib.hid (HREF.out _ B2a)
  have HB2a := Lib.hid B2a
  clear HD1 k2 y1 n1 f1 hvb B2a HREF HRN HRP HYX HB1
  go_wp2_with fail
  refine HD2.out.mono ?_; rintro e U3 ⟨he, k3⟩
  obtain ⟨A2, c2, rfl, y2, n2, f2⟩ := he
  simp only at y2 n2 f2
  have Xa3 : XB (U3.alloc (recO o s (strB key) ml ct vo A2 val.length c2 gn tt)) U2.heap.size [.int .i64 o, .int .i64 s, .string (strB key), .int .i64 ml, .int .i64 ct, .int .i64 vo, .slice A1 val.length c1, .bool gn, .int .i64 tt] := ((XB.new U2 _ _).below k3).below ((Below.refl _ _).alloc (Nat.le_refl _) _)
  have Xb3 : XB (U3.alloc (recO o s (strB key) ml ct vo A2 val.length c2 gn tt)) U3.heap.size [.int .i64 o, .int .i64 s, .string (strB key), .int .i64 ml, .int .i64 ct, .int .i64 vo, .slice A2 val.length c2, .bool gn, .int .i64 tt] := XB.new U3 _ _
  have kk : Below U2.heap.size U2 (U3.alloc (recO o s (strB key) ml ct vo A2 val.length c2 gn tt)) := (((Below.refl _ _).alloc (Nat.le_refl _) (recO o s (strB key) ml ct vo A1 val.length c1 gn tt)).trans (k3.mono (by show _ ≤ (U2.alloc _).heap.size; rw [World.size_alloc]; omega))).alloc (by have := k3.size; rw [World.size_alloc] at this; omega) _
  have B3 := HB2.out.trans (kk.mono HB2.out.size)
  have ya := HY2.out.1.below kk
  have yb := y2.alloc (recO o s (strB key) ml ct vo A2 val.length c2 gn tt)
  have HG3 := Lib.hid ((But.of_below (S := fun _ => False) kk).row HG2.out (fun _ _ hf => hf))
  have HFb : Hid (∀ ad, A2 = some ad → U1.heap.size ≤ ad.block) := Lib.hid (fun ad had => by have := f2 ad had; simp at this; omega)
  have HNb := Lib.hid n2
  have z3 : U2.heap.size < U3.heap.size := by have := k3.size; simp at this; omega
  have HBa3 := Lib.hid (HA.out.1.below B3)
  clear k3 kk y2 n2 f2 HD2 HB2 HB2a HG2
  have hsame : ∀ (o s : Int) (K : ByteArray) (ml ct vo : Int) (p : List Int) (g : Bool) (tt : Int), sameRB o s K ml ct vo p g tt o s K ml ct vo p g tt = true := fun _ _ _ _ _ _ _ _ _ => by simp [sameRB, sameVB]
  have HS1 := Lib.hid (ref_same o s (strB key) ml ct vo val gn tt A1 c1 o s (strB key) ml ct vo val gn tt A2 c2 _ ya HVB.out.2 HY2.out.2.1 yb HVB.out.2 HNb.out)
  rw [hsame] at HS1
  have HX3 := Lib.hid (And.intro Xa3 Xb3)
  have HYY3 := Lib.hid (And.intro ya yb)
  have HB3 := Lib.hid B3
  clear ya yb B3
  have a0 := Xa3.c 0 _ rfl
  have b0 := Xb3.c 0 _ rfl
  have a1 := Xa3.c 1 _ rfl
  have b1 := Xb3.c 1 _ rfl
  have a2 := Xa3.c 2 _ rfl
  have b2 := Xb3.c 2 _ rfl
  have a3 := Xa3.c 3 _ rfl
  have b3 := Xb3.c 3 _ rfl
  have a4 := Xa3.c 4 _ rfl
  have b4 := Xb3.c 4 _ rfl
  have a5 := Xa3.c 5 _ rfl
  have b5 := Xb3.c 5 _ rfl
  have a6 := Xa3.c 6 _ rfl
  have b6 := Xb3.c 6 _ rfl
  have a7 := Xa3.c 7 _ rfl
  have b7 := Xb3.c 7 _ rfl
  have a8 := Xa3.c 8 _ rfl
  have b8 := Xb3.c 8 _ rfl
  have la := Xa3.lt
  have lb := Xb3.lt
  clear Xa3 Xb3
  go_wp2_with fail
  refine HS1.out.mono ?_; rintro e U4 ⟨rfl, k4⟩
  clear la lb a0 b0 a1 b1 a2 b2 a3 b3 a4 b4 a5 b5 a6 b6 a7 b7 a8 b8
  have HX4 := Lib.hid (And.intro (HX3.out.1.below k4) (HX3.out.2.below k4))
  have HYY4 := Lib.hid (And.intro (HYY3.out.1.below k4) (HYY3.out.2.below k4))
  have HB4 := Lib.hid (HB3.out.trans (k4.mono HB3.out.size))
  have HG4 := Lib.hid ((But.of_below (S := fun _ => False) k4).row HG3.out (fun _ _ hf => hf))
  have HST : Hid (ByL U4 (some ⟨g, 0, none⟩) (p ++ [171])) := Lib.hid (by
    have q := own_first (l := p ++ [171]) (r := [171]) (n := p.length + 1) (by rw [List.append_assoc]; exact HG4.out) (by simp)
    have e : (p ++ [171]).length = p.length + 1 := by simp
    rw [← e] at q
    obtain ⟨A5, c5, e5, y5, _, _⟩ := Own8.bytes q
    obtain ⟨rfl, rfl⟩ : some (⟨g, 0, none⟩ : Addr) = A5 ∧ cap = c5 := by injection e5 with q1 q2 q3; exact ⟨q1, q3⟩
    exact y5)
  have HSD := Lib.hid (stands14 g cap A p c U4 (by omega) (by omega) HST.out (HBa3.out.below k4))
  clear k4 HX3 HYY3 HB3 HG3 HST HBa3 HS1
  go_wp2_with fail
  refine HSD.out.mono ?_; rintro e U5 ⟨rfl, nq, rfl⟩
  clear HSD
  have q6 := own_first (l := p ++ [171]) (r := [171]) (n := p.length + 1) (by rw [List.append_assoc]; exact HG4.out) (by simp)
  have HSP := Lib.hid (spoil14 g (p.length + 1) cap w.heap.size (bC (p ++ [171])) (U4.drewN nq) q6 (HB4.out.size) (by omega))
  clear q6
  go_wp2_with fail
  refine HSP.out.mono ?_; rintro e U6 ⟨rfl, k6⟩
  have hx1 : U2.heap.size ≠ g := by omega
  have hx2 : U3.heap.size ≠ g := by omega
  have k6' : But (fun i => i = g) U4 U6 := (But.of_below (S := fun i => i = g) (drewN_below U4 nq)).trans k6 (fun _ _ hf => hf)
  have Xa6 := HX4.out.1.but k6' hx1
  have Xb6 := HX4.out.2.but k6' hx2
  have ya := HYY4.out.1.but k6' (fun _ ad had e => by have := HY2.out.2.2 ad had; omega)
  have yb := HYY4.out.2.but k6' (fun _ ad had e => by have := HFb.out ad had; omega)
  have hgw : w.heap.size ≤ g := (World.ownsRow.lt HG4.out g rfl).1
  have HB6 := Lib.hid (HB4.out.trans (k6'.below (fun i hi => by subst hi; exact hgw) HB4.out.size))
  have HS2 := Lib.hid (ref_same o s (strB key) ml ct vo val gn tt A1 c1 o s (strB key) ml ct vo val gn tt A2 c2 U6 ya HVB.out.2 HY2.out.2.1 yb HVB.out.2 HNb.out)
  rw [hsame] at HS2
  have a0 := Xa6.c 0 _ rfl
  have b0 := Xb6.c 0 _ rfl
  have a1 := Xa6.c 1 _ rfl
  have b1 := Xb6.c 1 _ rfl
  have a2 := Xa6.c 2 _ rfl
  have b2 := Xb6.c 2 _ rfl
  have a3 := Xa6.c 3 _ rfl
  have b3 := Xb6.c 3 _ rfl
  have a4 := Xa6.c 4 _ rfl
  have b4 := Xb6.c 4 _ rfl
  have a5 := Xa6.c 5 _ rfl
  have b5 := Xb6.c 5 _ rfl
  have a6 := Xa6.c 6 _ rfl
  have b6 := Xb6.c 6 _ rfl
  have a7 := Xa6.c 7 _ rfl
  have b7 := Xb6.c 7 _ rfl
  have a8 := Xa6.c 8 _ rfl
  have b8 := Xb6.c 8 _ rfl
  have la := Xa6.lt
  have lb := Xb6.lt
  clear Xa6 Xb6 ya yb k6 k6' HSP HX4 HYY4 HB4 HG4 HY2 HFb HA HVB HNb
  go_wp2_with (first | (go_at_call 20; refine HS2.out.mono ?_; rintro e U7 ⟨rfl, k7⟩; have HB7 := Lib.hid (HB6.out.trans (k7.mono HB6.out.size))) | (go_at_call 18; refine (known14 U7).mono ?_; rintro e U8 ⟨rfl, k8⟩; have HB8 := Lib.hid (HB7.out.trans (k8.mono HB7.out.size))))
  go_ret
  exact ⟨rfl, HB8.out⟩
theorem open_bytes_arg {H : Type} {enc : TypeId × Value → H} {w : World} {r : Reach} {b0 base : Nat} {sp : Nat → Bool} {v : Value} {d : DataW H} {p : List MemPlace} (hv : Value.okWide Try.prog w r b0 24 v) (h : DataW.Trod enc Try.prog w base sp true 24 v d p) :
    ∃ (A : Option Addr) (l : List Int) (c : Nat), v = .slice A l.length c ∧ l.length ≤ c ∧ c ≤ maxLen ∧ ByL w A l ∧ isBy l ∧ (A = none → l.length = 0 ∧ c = 0) := by
  obtain ⟨a0, len, cap, rfl⟩ := okWide_slice Try.underlying24 hv
  obtain ⟨fuel, hf⟩ := h
  obtain ⟨A, l, c, hcs, h1, h2, h3, h4, h5, _⟩ := open_bytes hf
  have hc0 : a0 = none → cap = 0 := fun e => by
    rcases open_ints Try.underlying24 Try.underlying5 u8_cells' hf with ⟨hx, _⟩ | ⟨a, len', cap', zs, hx, _⟩
    · simp [Value.cells] at hx
      exact hx.2.2
    · simp [Value.cells] at hx
      rw [e] at hx
      cases hx.1
  simp [Value.cells] at hcs
  obtain ⟨rfl, rfl, rfl⟩ := hcs
  exact ⟨a0, l, cap, rfl, h1, h2, h3, h4, fun e => ⟨h5 e, hc0 e⟩⟩
theorem recDecodes_any (A : Option Addr) (p : List Int) (c : Nat) (w : World) (hby : ByL w A p) (hb : isBy p) (hn : A = none → p.length = 0 ∧ c = 0) (hc : p.length ≤ c) (hcm : c ≤ maxLen) :
    Calls Try.prog 4 #[.slice A p.length c] w fun e w' => e = .returned (.bool true) ∧ Below w.heap.size w w' := by
  by_cases hh : 6000 < p.length
  · exact recDecodes_heavy A p c w hby hb hn hc hcm hh
  · exact recDecodes_light A p c w hby hb hn hc hcm hh (fun A l c w h1 h2 h3 h4 h5 h6 => ref_dec A l c w h1 h2 h3 h4 h5 h6 ref_is)
set_option maxRecDepth 100000 in
theorem recDecodes_lifted (os : Os) (started : os.Started) (H : Type) (enc : TypeId × Value → H) :
    ReturnsInHanded {} Try.checked os 4 .any (Rows.recDecodesSpec.pre6 enc Try.prog Try.f4 Rows.recDecodesRow.domain false) (Rows.recDecodesSpec.post enc Try.prog Try.f4 false true false false) := by
  refine returnsInHanded_of_change_sized (C := Try.checked) law_own started (by kernel_rfl) Try.func4
    (ChangeSpec.witness6 (enc := enc) (C := Try.checked) false ⟨#[], #[.slice none 0 0], []⟩ 8 (by kernel_rfl) (by kernel_rfl) (by kernel_rfl) (by kernel_rfl)) ?_
  intro W base args ds gs before hval0 hW hcnd hsz0 _
  have hval : ∀ (j : Nat) t v, Try.f4.params[j]? = some t → args[j]? = some v → Value.okWide Try.prog W .any base t v := hval0
  have hsz : (DataW.weightsEach Try.prog (Try.f4.params.toList ++ Rows.recDecodesSpec.plain.varTypes Try.prog) (ds ++ gs)).all (· ≤ reachBytes) = true := hsz0
  have hW' := hW
  obtain ⟨p, q, hA0, hV, rfl, hfz, hnd⟩ := hW
  have hA : DataW.TrodAll enc Try.prog W 0 (fun _ => true) true Try.f4.params.toList args.toList ds p := hA0
  rw [Try.params4] at hA hval hsz
  have hsame : (Rows.recDecodesSpec.fn H (ds ++ gs)).results = [.lit (.bool true)] ∧ (Rows.recDecodesSpec.fn H (ds ++ gs)).args = ds ∧ (Rows.recDecodesSpec.fn H (ds ++ gs)).vars = [] → ∀ W', Below W.heap.size W W' → Rows.recDecodesSpec.post enc Try.prog Try.f4 false true false false W args (.bool true) W' :=
    fun h W' hb => law_post (tb := 4) hW' law_laid (by kernel_rfl) rfl Try.underlying4 h.1 h.2.1 rfl h.2.2 hb
  obtain ⟨v0, vs0, d0, ds0, p0, q0, hargs, rfl, rfl, h0, r0⟩ := trodAll_cons hA
  obtain ⟨rfl, rfl, rfl⟩ := trodAll_nil r0
  obtain rfl : args = #[v0] := by cases args; simp_all
  obtain ⟨rfl, rfl⟩ := trodVars_none hV
  have hpost := hsame ⟨rfl, rfl, rfl⟩
  clear hsame hA0 hval0 hsz0
  obtain ⟨A, p, c, rfl, hc, hcm, hby, hb, hn⟩ := open_bytes_arg (hval 0 24 v0 rfl rfl) h0
  exact (recDecodes_any A p c W hby hb hn hc hcm).mono fun e W' ⟨he, hb⟩ => ⟨_, he, hpost W' hb⟩
theorem recDecodes_holds : Rows.RecDecodesSaid :=
  OpenClaim.holds_of_wide 4 Try.f4 rfl rfl rfl rfl rfl rfl rfl ⟨rfl, rfl, rfl, rfl, rfl⟩ rfl rfl rfl rfl rfl (by kernel_rfl) Try.func4 (by kernel_rfl)
    (of_decide_eq_true (by kernel_rfl)) (by unfold Func.isWrapper; first | (rw [if_pos (by decide +kernel)]; kernel_rfl) | (rw [if_neg (by decide +kernel)]; exact ⟨rfl, rfl⟩))
    (fun os started H enc _ => recDecodes_lifted os started H enc)
end Go.Proofs.Ytpccneikblbhdaa
