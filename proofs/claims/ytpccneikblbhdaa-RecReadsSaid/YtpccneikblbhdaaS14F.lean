/- Stage 14: RecReads. -/
import Derived.Test.YtpccneikblbhdaaS14E
import Derived.Test.YtpccneikblbhdaaRecRdL
import Derived.Test.YtpccneikblbhdaaRefRdL
import Derived.Test.YtpccneikblbhdaaRecords
set_option linter.unusedSimpArgs false
set_option linter.unusedVariables false
namespace Go.Proofs.Ytpccneikblbhdaa
open Go.ChangeShapes Go.WideShapes Go.ChangeAt Go.RowKit Go.Joins

/-- What is told of a list, in one shape. -/
def ListAny (rs : List Rc) (k : Int) (base : Nat) (w' : World) (e : Ending) : Prop := ∃ (L : List Mr) (v : Value), L.map Mr.r = rs ∧ e = .returned (.tuple #[v, .int .i64 k]) ∧ RowAt w' v L ∧ (∀ m ∈ L, m.At (fun _ => True) w')
def rdV (l : List Int) : List Rc := (rdL l).getD []
def rdC (l : List Int) : Int := if (rdL l).isSome then 0 else 3
theorem ListRes.any {l : List Int} {w w' : World} {e : Ending} (h : ListRes l w w' e) : ListAny (rdV l) (rdC l) w.heap.size w' e := by
  rcases h with ⟨h, he⟩ | ⟨L, v, h, he, hr, hl, ha⟩
  · refine ⟨[], .slice none 0 0, by simp [rdV, h], by simp [rdC, h, he], ⟨none, 0, rfl, fun h => absurd h (by simp)⟩, fun m hm => by cases hm⟩
  · refine ⟨L, v, by simp [rdV, h], by simp [rdC, h, he], RowAt.of hr, fun m hm => (ha m hm).mono (fun _ _ _ => trivial)⟩
theorem listR_by : ∀ (n : Nat) (s : RSt) (acc : List Rc) (rs : List Rc) (t : RSt), stBy s → (∀ r ∈ acc, isBy r.key ∧ isBy r.val) → acc.length ≤ 100000 - n → n ≤ 100000 → listR n s acc = some (rs, t) → (∀ r ∈ rs, isBy r.key ∧ isBy r.val) ∧ rs.length ≤ 100000
  | 0, s, acc, rs, t, _, ha, hl, _, h => by
    rw [listR] at h
    injection h with h
    injection h with h1 _
    subst h1
    exact ⟨ha, by omega⟩
  | n + 1, s, acc, rs, t, hs, ha, hl, hn, h => by
    cases hd : decR (rBytes s).1 with
    | none => rw [listR_none hd] at h; cases h
    | some r =>
      rw [listR_some hd] at h
      have hb := rBytes_by hs
      refine listR_by n (rBytes s).2 (acc ++ [r]) rs t hb.1 (fun x hx => ?_) (by rw [List.length_append]; simp; omega) (by omega) h
      rcases List.mem_append.1 hx with q | q
      · exact ha x q
      · rw [List.mem_singleton.1 q]
        exact decR_by hb.2 hd
theorem rdV_by {l : List Int} (h : isBy l) : (∀ r ∈ rdV l, isBy r.key ∧ isBy r.val) ∧ (rdV l).length ≤ 100000 := by
  unfold rdV rdL
  split
  · exact ⟨fun r hr => by simp at hr, by simp⟩
  · rename_i hn
    split
    · rename_i rs heq
      have hs : stBy (some l) := fun bs e => by injection e with e; exact e ▸ h
      exact listR_by _ _ [] rs _ (rNum_by hs) (fun r hr => by cases hr) (by simp) (by omega) heq
    · exact ⟨fun r hr => by simp at hr, by simp⟩
theorem recReads_heavy (A : Option Addr) (p : List Int) (c : Nat) (w : World) (hc : p.length ≤ c) (hcm : c ≤ maxLen) (hh : 6000 < p.length) :
    Calls Try.prog 6 #[.slice A p.length c] w fun e w' => e = .returned (.bool true) ∧ Below w.heap.size w w' := by
  have d1 : decide ((6000 : Int) < (p.length : Int)) = true := by simp; omega
  go_enter Try.func6, Try.ntmps6
  go_wp2
  go_ret
  exact ⟨rfl, Below.refl _ _⟩
set_option maxRecDepth 100000 in
set_option maxHeartbeats 4000000 in
theorem recReads_light (A : Option Addr) (p : List Int) (c : Nat) (w : World) (hby : ByL w A p) (hb : isBy p) (hn : A = none → p.length = 0 ∧ c = 0) (hc : p.length ≤ c) (hcm : c ≤ maxLen) (hh : ¬ 6000 < p.length) :
    Calls Try.prog 6 #[.slice A p.length c] w fun e w' => e = .returned (.bool true) ∧ Below w.heap.size w w' := by
  have d1 : decide ((6000 : Int) < (p.length : Int)) = false := by simp; omega
  have H1 : Hid (Calls Try.prog 25 #[.slice A p.length c] w fun e w' => ListAny (rdV p) (rdC p) w.heap.size w' e ∧ Below w.heap.size w w') := Lib.hid ((rec_rdl A p c w hby hb (fun e => (hn e).1) (by omega) (fun A l c w h1 h2 h3 h4 => rec_dec A l c w h1 h2 h3 h4 rec_is)).mono fun e w' h => ⟨h.1.any, h.2⟩)
  have H2 : Hid (∀ W, Below w.heap.size w W → Calls Try.prog 27 #[.slice A p.length c] W fun e w' => ListAny (rdV p) (rdC p) W.heap.size w' e ∧ Below W.heap.size W w') := Lib.hid (fun W k => (ref_rdl A p c W (hby.below k) hb hn (by omega) hc hcm (fun A l c w h1 h2 h3 h4 h5 h6 => ref_dec A l c w h1 h2 h3 h4 h5 h6 ref_is)).mono fun e w' h => ⟨h.1.any, h.2⟩)
  have HV := Lib.hid (rdV_by hb)
  clear hby hb hn hc hcm hh
  generalize rdV p = rs at *
  generalize rdC p = kk at *
  go_enter Try.func6, Try.ntmps6
  go_wp2_with fail
  refine H1.out.mono ?_; rintro e U1 ⟨⟨L, v, hL, rfl, hrow, hat⟩, k1⟩
  have HB1 := Lib.hid k1
  have HL := Lib.hid (And.intro hL (And.intro hrow hat))
  have H2' := Lib.hid (H2.out U1 k1)
  clear k1 hL hrow hat H1 H2
  go_wp2_with fail
  refine H2'.out.mono ?_; rintro e U2 ⟨⟨L', v', hL', rfl, hrow', hat'⟩, k2⟩
  have HB2 := Lib.hid (HB1.out.trans (k2.mono HB1.out.size))
  have HR := Lib.hid (law_records v v' L L' U2 (HL.out.2.1.below k2) hrow' (fun m hm => (HL.out.2.2 m hm).below k2) hat' (fun m hm => (HV.out.1 m.r (by rw [← HL.out.1]; exact List.mem_map_of_mem hm)).2) (by rw [HL.out.1, hL']) (by have := HV.out.2; rw [← HL.out.1, List.length_map] at this; exact this))
  clear k2 hL' hrow' hat' H2' HL HB1 HV
  go_wp2_with (first | (go_at_call 26; refine HR.out.mono ?_; rintro e U3 ⟨rfl, k3⟩; have HB3 := Lib.hid (HB2.out.trans (k3.mono HB2.out.size))) | (go_at_call 18; refine (known14 _).mono ?_; rintro e U4 ⟨rfl, k4⟩; have HB4 := Lib.hid (HB3.out.trans (k4.mono HB3.out.size))))
  go_ret
  exact ⟨rfl, HB4.out⟩
theorem recReads_any (A : Option Addr) (p : List Int) (c : Nat) (w : World) (hby : ByL w A p) (hb : isBy p) (hn : A = none → p.length = 0 ∧ c = 0) (hc : p.length ≤ c) (hcm : c ≤ maxLen) :
    Calls Try.prog 6 #[.slice A p.length c] w fun e w' => e = .returned (.bool true) ∧ Below w.heap.size w w' := by
  by_cases hh : 6000 < p.length
  · exact recReads_heavy A p c w hc hcm hh
  · exact recReads_light A p c w hby hb hn hc hcm hh
set_option maxRecDepth 100000 in
theorem recReads_lifted (os : Os) (started : os.Started) (H : Type) (enc : TypeId × Value → H) :
    ReturnsInHanded {} Try.checked os 6 .any (Rows.recReadsSpec.pre6 enc Try.prog Try.f6 Rows.recReadsRow.domain false) (Rows.recReadsSpec.post enc Try.prog Try.f6 false true false false) := by
  refine returnsInHanded_of_change_sized (C := Try.checked) law_own started (by kernel_rfl) Try.func6
    (ChangeSpec.witness6 (enc := enc) (C := Try.checked) false ⟨#[], #[.slice none 0 0], []⟩ 8 (by kernel_rfl) (by kernel_rfl) (by kernel_rfl) (by kernel_rfl)) ?_
  intro W base args ds gs before hval0 hW hcnd hsz0 _
  have hval : ∀ (j : Nat) t v, Try.f6.params[j]? = some t → args[j]? = some v → Value.okWide Try.prog W .any base t v := hval0
  have hsz : (DataW.weightsEach Try.prog (Try.f6.params.toList ++ Rows.recReadsSpec.plain.varTypes Try.prog) (ds ++ gs)).all (· ≤ reachBytes) = true := hsz0
  have hW' := hW
  obtain ⟨p, q, hA0, hV, rfl, hfz, hnd⟩ := hW
  have hA : DataW.TrodAll enc Try.prog W 0 (fun _ => true) true Try.f6.params.toList args.toList ds p := hA0
  rw [Try.params6] at hA hval hsz
  have hsame : (Rows.recReadsSpec.fn H (ds ++ gs)).results = [.lit (.bool true)] ∧ (Rows.recReadsSpec.fn H (ds ++ gs)).args = ds ∧ (Rows.recReadsSpec.fn H (ds ++ gs)).vars = [] → ∀ W', Below W.heap.size W W' → Rows.recReadsSpec.post enc Try.prog Try.f6 false true false false W args (.bool true) W' :=
    fun h W' hb => law_post (tb := 4) hW' law_laid (by kernel_rfl) rfl Try.underlying4 h.1 h.2.1 rfl h.2.2 hb
  obtain ⟨v0, vs0, d0, ds0, p0, q0, hargs, rfl, rfl, h0, r0⟩ := trodAll_cons hA
  obtain ⟨rfl, rfl, rfl⟩ := trodAll_nil r0
  obtain rfl : args = #[v0] := by cases args; simp_all
  obtain ⟨rfl, rfl⟩ := trodVars_none hV
  have hpost := hsame ⟨rfl, rfl, rfl⟩
  clear hsame hA0 hval0 hsz0
  obtain ⟨A, p, c, rfl, hc, hcm, hby, hb, hn⟩ := open_bytes_arg (hval 0 24 v0 rfl rfl) h0
  exact (recReads_any A p c W hby hb hn hc hcm).mono fun e W' ⟨he, hb⟩ => ⟨_, he, hpost W' hb⟩
theorem recReads_holds : Rows.RecReadsSaid :=
  OpenClaim.holds_of_wide 6 Try.f6 rfl rfl rfl rfl rfl rfl rfl ⟨rfl, rfl, rfl, rfl, rfl⟩ rfl rfl rfl rfl rfl (by kernel_rfl) Try.func6 (by kernel_rfl)
    (of_decide_eq_true (by kernel_rfl)) (by unfold Func.isWrapper; first | (rw [if_pos (by decide +kernel)]; kernel_rfl) | (rw [if_neg (by decide +kernel)]; exact ⟨rfl, rfl⟩))
    (fun os started H enc _ => recReads_lifted os started H enc)
end Go.Proofs.Ytpccneikblbhdaa
