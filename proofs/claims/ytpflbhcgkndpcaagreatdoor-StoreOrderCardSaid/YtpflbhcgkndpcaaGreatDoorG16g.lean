/- Stage 16: store.copied of the one record (written by gen/cp16.py). -/
import Derived.Test.YtpflbhcgkndpcaaGreatDoorG16f
import Derived.Test.YtpflbhcgkndpcaaGreatDoorMp16
import Derived.Test.YtpflbhcgkndpcaaGreatDoorG16n
import Derived.Test.YtpflbhcgkndpcaaGreatDoorChClone
/- Stage 16: layVersion of the first version (written by gen/lv16.py). -/
set_option linter.unusedSimpArgs false
set_option linter.unusedVariables false
namespace Go.Proofs.YtpflbhcgkndpcaaGreatDoor
open Go.RowKit

/-- The one version, and its cells. -/
def vs1 : Vs := ⟨5, 0, 0, [97], false, 0⟩
def vc1 (A : Option Addr) (c : Nat) : List Value := [.int .i64 5, .int .i64 0, .int .i64 0, .slice A 1 c, .bool false, .int .i64 0]
theorem of_none (w : World) : Calls Tryz.prog 111 #[.slice none 0 0] w fun e w' => e = .returned (.tuple #[.pointer (some ⟨w.heap.size, 0, none⟩), .int .i64 0]) ∧ w' = w.alloc (.cells #[.slice none 0 0] 198) := by
  go_enter Tryz.func111, Tryz.ntmps111
  go_wp2_with fail
  refine wp_loop_rounds 1 ?_
  rw [rounds_succ]
  go_wp2_with fail
  go_ret2
  exact ⟨rfl, rfl⟩
theorem bs_none (n : ByteArray) (w : World) : Calls Tryz.prog 35 #[.slice none 0 0, .string n] w fun e w' => e = .returned (.tuple #[.int .i64 0, .bool false]) ∧ Below w.heap.size w w' := by
  go_enter Tryz.func35, Tryz.ntmps35
  go_wp2_with fail
  refine wp_loop_rounds 1 ?_
  rw [rounds_succ]
  go_wp2_with fail
  go_ret2
  exact ⟨rfl, Below.refl _ _⟩
theorem vs1_ok : vs1.ok = true := by decide
theorem stand_nil {Q : Vs → Prop} : StandV [] Q 0 := by
  constructor <;> simp
theorem has_nil {v : Vs} : HasV [] v 0 false := ⟨(fun e => by cases e), (fun _ x hx => by cases hx)⟩
/-- Behind the first version. -/
def LvOk (s l d m : Nat) (w w' : World) : Prop := ∃ (vb ch : Nat) (v' : Value) (A' : Option Addr) (c' kg kc : Nat) (Q : Nat → Prop), Ch Q w' ch v' [⟨vs1, A', c'⟩] ∧ (∀ i, Q i → w.heap.size ≤ i) ∧ Bk w' vb [ptr ch, .int .i64 1] ∧ w'.heap[m]? = some (.map #[⟨.string ⟨#[107]⟩, ptr vb, 0⟩] 1) ∧ Bk w' s ((stE d (ptr l) 1 m).set 6 (.slice (some ⟨kg, 0, none⟩) 1 kc)) ∧ w.heap.size ≤ vb
theorem ver_size : (Tryz.prog.info? 44).map (·.size) = some 6 := by kernel_rfl
set_option maxRecDepth 100000 in
set_option maxHeartbeats 8000000 in
theorem layv_first (s l d m : Nat) (A : Option Addr) (c : Nat) (w : World) (hs : Bk w s (stE d (ptr l) 1 m)) (hm : w.heap[m]? = some (.map #[] 0)) (hp : ByL w A [97]) (hsm : s ≠ m) (hpm : ∀ ad, A = some ad → ¬ ad.block = m) (hps : ∀ ad, A = some ad → ¬ ad.block = s) : Calls Tryz.prog 61 #[.pointer (some ⟨s, 0, none⟩), .string ⟨#[107]⟩, .agg (vc1 A c).toArray] w fun e w' => e = .returned (.bool true) ∧ LvOk s l d m w w' ∧ But (fun i => i = s ∨ i = m) w w' := by
  have HS := Lib.hid hs
  have HM := Lib.hid hm
  have HP := Lib.hid hp
  have HSM := Lib.hid hsm
  have HPM := Lib.hid hpm
  have HPS := Lib.hid hps
  clear hs hm hp hsm hpm hps
  go_enter Tryz.func61, Tryz.ntmps61
  go_upto_region 1 with fail
  obtain ⟨V1, hV⟩ : ∃ V, w.alloc (.cells (vc1 A c).toArray 44) = V := ⟨_, rfl⟩
  have k : Below w.heap.size w V1 := by rw [← hV]; exact (Below.refl _ _).alloc (Nat.le_refl _) _
  have rx : V1.rangeAt w.heap.size 0 (vc1 A c) := by rw [← hV]; exact range16 _ _ _
  have lx : w.heap.size < V1.heap.size := by rw [← hV]; simp
  rw [hV]
  clear hV
  have HS1 := Lib.hid (HS.out.below k)
  have HM1 := Lib.hid (map_but (S := fun _ => False) HM.out (But.of_below k) (fun q => q))
  have HP1 := Lib.hid (HP.out.below k)
  have HU1 := Lib.hid (But.of_below (S := fun i => i = s ∨ i = m) k)
  have HRX1 := Lib.hid (And.intro rx lx)
  have HLT : Hid (s < w.heap.size ∧ m < w.heap.size) := Lib.hid ⟨HS.out.lt, (Array.getElem?_eq_some_iff.1 HM.out).1⟩
  clear k rx lx HS HM HP
  generalize hbx : w.heap.size = bx at *
  have HBX := Lib.hid hbx
  clear hbx
  refine wp_region_lit ?_
  have c7 := HS1.out.block (i := 7) rfl
  refine wpList_plain rfl (fun KK hKK => ?_)
  go_simp
  refine hKK _ _ ?_
  refine wpList_plain rfl (fun KK hKK => ?_)
  go_simp
  refine hKK _ _ ?_
  refine wpList_plain rfl (fun KK hKK => ?_)
  go_simp
  refine hKK _ _ ?_
  refine wpList_plain rfl (fun KK hKK => ?_)
  go_simp
  refine hKK _ _ ?_
  refine wpList_plain rfl (fun KK hKK => ?_)
  go_simp
  refine hKK _ _ ?_
  clear c7
  refine wpList_look rfl 87 (.tmp 15) (.tmp 16) false rfl (.map (some m)) (.string ⟨#[107]⟩) (.pointer none) rfl rfl (look_none V1 m 0 ⟨#[107]⟩ HM1.out) ?_
  refine wpList_plain rfl (fun KK hKK => ?_)
  go_simp
  refine hKK _ _ ?_
  refine wpList_nil ?_
  go_upto_region 6 with (go_at_call 111; refine (of_none V1).mono ?_; rintro e1 V2 ⟨rfl, rfl⟩)
  obtain ⟨V2, hV⟩ : ∃ V, V1.alloc (.cells #[.slice none 0 0] 198) = V := ⟨_, rfl⟩
  have k : Below V1.heap.size V1 V2 := by rw [← hV]; exact (Below.refl _ _).alloc (Nat.le_refl _) _
  have bc : Bk V2 V1.heap.size [.slice none 0 0] := by rw [← hV]; exact Bk.new V1 #[.slice none 0 0] 198
  rw [hV]
  clear hV
  have HS2 := Lib.hid (HS1.out.below k)
  have HM2 := Lib.hid (map_but (S := fun _ => False) HM1.out (But.of_below k) (fun q => q))
  have HP2 := Lib.hid (HP1.out.below k)
  have HU2 := Lib.hid (HU1.out.next k)
  have HRX2 := Lib.hid (And.intro (rng_below HRX1.out.1 k HRX1.out.2) (Nat.lt_of_lt_of_le HRX1.out.2 k.size))
  have HC2 := Lib.hid bc
  have HCL : Hid (bx < V1.heap.size) := Lib.hid HRX1.out.2
  clear k bc HS1 HM1 HP1 HU1 HRX1
  generalize V1.heap.size = ch at *
  go_upto_region 7 with fail
  obtain ⟨V3, hV⟩ : ∃ V, V2.alloc (.cells #[.pointer (some ⟨ch, 0, none⟩), .int .i64 0] 101) = V := ⟨_, rfl⟩
  have k : Below V2.heap.size V2 V3 := by rw [← hV]; exact (Below.refl _ _).alloc (Nat.le_refl _) _
  have bv : Bk V3 V2.heap.size [ptr ch, .int .i64 0] := by rw [← hV]; exact Bk.new V2 #[ptr ch, .int .i64 0] 101
  rw [hV]
  clear hV
  have HS3 := Lib.hid (HS2.out.below k)
  have HM3 := Lib.hid (map_but (S := fun _ => False) HM2.out (But.of_below k) (fun q => q))
  have HP3 := Lib.hid (HP2.out.below k)
  have HU3 := Lib.hid (HU2.out.next k)
  have HRX3 := Lib.hid (And.intro (rng_below HRX2.out.1 k HRX2.out.2) (Nat.lt_of_lt_of_le HRX2.out.2 k.size))
  have HC3 := Lib.hid (HC2.out.below k)
  have HV3 := Lib.hid bv
  have HVL : Hid (ch < V2.heap.size) := Lib.hid HC2.out.lt
  clear k bv HS2 HM2 HP2 HU2 HRX2 HC2
  generalize V2.heap.size = vb at *
  refine wp_region_lit ?_
  have c7 := HS3.out.block (i := 7) rfl
  refine wpList_plain rfl (fun KK hKK => ?_)
  go_simp
  refine hKK _ _ ?_
  refine wpList_plain rfl (fun KK hKK => ?_)
  go_simp
  refine hKK _ _ ?_
  refine wpList_plain rfl (fun KK hKK => ?_)
  go_simp
  refine hKK _ _ ?_
  refine wpList_plain rfl (fun KK hKK => ?_)
  go_simp
  refine hKK _ _ ?_
  refine wpList_plain rfl (fun KK hKK => ?_)
  go_simp
  refine hKK _ _ ?_
  refine wpList_plain rfl (fun KK hKK => ?_)
  go_simp
  refine hKK _ _ ?_
  clear c7
  refine wpList_plain rfl (fun KK hKK => ?_)
  refine wp_upd 87 (.tmp 32) (.tmp 33) (.tmp 34) rfl (.map (some m)) (.string ⟨#[107]⟩) (.pointer (some ⟨vb, 0, none⟩)) rfl rfl rfl (upd_none V3 m 0 ⟨#[107]⟩ _ HM3.out) ?_
  refine hKK _ _ ?_
  refine wpList_nil ?_
  obtain ⟨V4, hV⟩ : ∃ V, setMap V3 m (.map #[⟨.string ⟨#[107]⟩, .pointer (some ⟨vb, 0, none⟩), 0⟩] (0 + 1)) = V := ⟨_, rfl⟩
  have k : But (fun i => i = m) V3 V4 := by rw [← hV]; exact setMap_but _ _ _
  have hm4 : V4.heap[m]? = some (.map #[⟨.string ⟨#[107]⟩, .pointer (some ⟨vb, 0, none⟩), 0⟩] 1) := by rw [← hV]; exact setMap_at _ (Array.getElem?_eq_some_iff.1 HM3.out).1
  rw [hV]
  clear hV
  have HS4 := Lib.hid (HS3.out.but k HSM.out)
  have HM4 := Lib.hid hm4
  have HP4 := Lib.hid (HP3.out.off16 k (fun ad e q => HPM.out ad e q))
  have HU4 := Lib.hid (HU3.out.trans k (fun i _ e => Or.inr e))
  have HRX4 := Lib.hid (And.intro (show V4.rangeAt bx 0 (vc1 A c) from fun j u hu => (k.cell bx _ HRX3.out.2 (by have := HLT.out; have := HBX.out; omega)).trans (HRX3.out.1 j u hu)) (Nat.lt_of_lt_of_le HRX3.out.2 k.size))
  have HC4 := Lib.hid (HC3.out.but k (by have := HLT.out; have := HCL.out; omega))
  have HV4 := Lib.hid (HV3.out.but k (by have := HLT.out; have := HCL.out; have := HVL.out; omega))
  clear k hm4 HS3 HM3 HP3 HU3 HRX3 HC3 HV3
  have c6 := HS4.out.block (i := 6) rfl
  go_upto_region 9 with (go_at_call 35; refine (bs_none _ V4).mono ?_; rintro e2 V5 ⟨rfl, k⟩)
  clear c6
  have HS5 := Lib.hid (HS4.out.below k)
  have HM5 := Lib.hid (map_but (S := fun _ => False) HM4.out (But.of_below k) (fun q => q))
  have HP5 := Lib.hid (HP4.out.below k)
  have HU5 := Lib.hid (HU4.out.next k)
  have HRX5 := Lib.hid (And.intro (rng_below HRX4.out.1 k HRX4.out.2) (Nat.lt_of_lt_of_le HRX4.out.2 k.size))
  have HC5 := Lib.hid (HC4.out.below k)
  have HV5 := Lib.hid (HV4.out.below k)
  clear k HS4 HM4 HP4 HU4 HRX4 HC4 HV4
  refine wp_region_lit ?_
  have c6 := HS5.out.block (i := 6) rfl
  refine wpList_plain rfl (fun KK hKK => ?_)
  go_simp
  refine hKK _ _ ?_
  refine wpList_plain rfl (fun KK hKK => ?_)
  go_simp
  refine hKK _ _ ?_
  refine wpList_plain rfl (fun KK hKK => ?_)
  go_simp
  refine hKK _ _ ?_
  refine wpList_plain rfl (fun KK hKK => ?_)
  go_simp
  refine hKK _ _ ?_
  refine wpList_plain rfl (fun KK hKK => ?_)
  go_simp
  refine hKK _ _ ?_
  refine wpList_plain rfl (fun KK hKK => ?_)
  go_simp
  refine hKK _ _ ?_
  refine wpList_plain rfl (fun KK hKK => ?_)
  go_simp
  refine hKK _ _ ?_
  refine wpList_plain rfl (fun KK hKK => ?_)
  go_simp
  refine hKK _ _ ?_
  clear c6
  obtain ⟨V6, hV⟩ : ∃ V, V5.alloc (.cells #[.string ⟨#[107]⟩] 9) = V := ⟨_, rfl⟩
  have k : Below V5.heap.size V5 V6 := by rw [← hV]; exact (Below.refl _ _).alloc (Nat.le_refl _) _
  have bk : V6.cell? ⟨V5.heap.size, 0, none⟩ = some (.string ⟨#[107]⟩) := by rw [← hV]; exact (Bk.new V5 #[.string ⟨#[107]⟩] 9).block (i := 0) rfl
  rw [hV]
  clear hV
  refine wpList_plain rfl (fun KK hKK => ?_)
  go_simp
  (go_at_call 112; refine (str_ins (.string ⟨#[107]⟩) rfl V5.heap.size V6 bk).mono ?_; rintro e3 V7 ⟨⟨kg, kc, rfl, _, _⟩, k2⟩)
  have kk := k.trans (k2.mono k.size)
  clear k k2 bk
  have HS7 := Lib.hid (HS5.out.below kk)
  have HM7 := Lib.hid (map_but (S := fun _ => False) HM5.out (But.of_below kk) (fun q => q))
  have HP7 := Lib.hid (HP5.out.below kk)
  have HU7 := Lib.hid (HU5.out.next kk)
  have HRX7 := Lib.hid (And.intro (rng_below HRX5.out.1 kk HRX5.out.2) (Nat.lt_of_lt_of_le HRX5.out.2 kk.size))
  have HC7 := Lib.hid (HC5.out.below kk)
  have HV7 := Lib.hid (HV5.out.below kk)
  clear kk HS5 HM5 HP5 HU5 HRX5 HC5 HV5
  refine hKK _ _ ?_
  refine wpList_plain rfl (fun KK hKK => ?_)
  go_simp
  refine hKK _ _ ?_
  refine wpList_plain rfl (fun KK hKK => ?_)
  go_simp
  refine hKK _ _ ?_
  have c6 := HS7.out.block (i := 6) rfl
  have f6 := HS7.out.fz 6
  refine wpList_plain rfl (fun KK hKK => ?_)
  go_simp
  refine hKK _ _ ?_
  clear c6 f6
  refine wpList_nil ?_
  obtain ⟨V8, hV⟩ : ∃ V, V7.setCell ⟨s, 6, none⟩ (.slice (some ⟨kg, 0, none⟩) 1 kc) = V := ⟨_, rfl⟩
  have k : But (fun i => i = s) V7 V8 := by rw [← hV]; exact (But.refl (fun i => i = s) V7).setCell (p := ⟨s, 6, none⟩) (fun _ => rfl) _
  have HS8 : Hid (Bk V8 s ((stE d (ptr l) 1 m).set 6 (.slice (some ⟨kg, 0, none⟩) 1 kc))) := Lib.hid (by rw [← hV]; exact HS7.out.set 6 (by simp [stE]) _)
  rw [hV]
  clear hV
  have HM8 := Lib.hid (map_but HM7.out k (fun e => HSM.out e.symm))
  have HP8 := Lib.hid (HP7.out.off16 k (fun ad e q => HPS.out ad e q))
  have HU8 := Lib.hid (HU7.out.trans k (fun i _ e => Or.inl e))
  have HRX8 := Lib.hid (And.intro (show V8.rangeAt bx 0 (vc1 A c) from fun j u hu => (k.cell bx _ HRX7.out.2 (by have := HLT.out; have := HBX.out; omega)).trans (HRX7.out.1 j u hu)) (Nat.lt_of_lt_of_le HRX7.out.2 k.size))
  have HC8 := Lib.hid (HC7.out.but k (by have := HLT.out; have := HCL.out; omega))
  have HV8 := Lib.hid (HV7.out.but k (by have := HLT.out; have := HCL.out; have := HVL.out; omega))
  clear k HS7 HM7 HP7 HU7 HRX7 HC7 HV7
  go_upto_region 10 with fail
  refine wp_region_held_drew (S := fun w' => w'.cell? ⟨vb, 0, none⟩ = some (.pointer (some ⟨ch, 0, none⟩)) ∧ w'.rangeAt bx 0 (vc1 A c)) (by kernel_rfl) ?_ (fun hHeld => ?_)
  · exact ⟨HV8.out.block (i := 0) rfl, HRX8.out.1⟩
  have k : Below V8.heap.size V8 V8.drew := (Below.refl _ _).drew
  obtain ⟨V9, hV9⟩ : ∃ V, V8.drew = V := ⟨_, rfl⟩
  rw [hV9] at k hHeld ⊢
  clear hV9
  have HS9 := Lib.hid (HS8.out.below k)
  have HM9 := Lib.hid (map_but (S := fun _ => False) HM8.out (But.of_below k) (fun q => q))
  have HP9 := Lib.hid (HP8.out.below k)
  have HU9 := Lib.hid (HU8.out.next k)
  have HRX9 := Lib.hid (And.intro (rng_below HRX8.out.1 k HRX8.out.2) (Nat.lt_of_lt_of_le HRX8.out.2 k.size))
  have HC9 := Lib.hid (HC8.out.below k)
  have HV9 := Lib.hid (HV8.out.below k)
  clear k HS8 HM8 HP8 HU8 HRX8 HC8 HV8
  refine tk9 0 ?_
  refine tk9 1 ?_
  refine tk9 2 ?_
  refine tk9 3 ?_
  refine tk9 4 (hy := yieldsIf_load_mid (by rfl) 44 (.tmp 5) rfl bx 0 rfl (vc1 A c) _ (fun w' hw => hw.2) Tryz.underlying44 rfl ver_size) ?_
  refine wpAnyH_ready (rs := [5]) (by kernel_rfl) (by simp) ?_
  refine AllReadyH.cons rfl (fun K hK => ?_) (AllReadyH.nil)
  have HVL9 : Hid (vb < V9.heap.size) := Lib.hid HV9.out.lt
  have hCh : Ch (fun i => i = ch) V9 ch (.slice none 0 0) [] := ⟨HC9.out.block (i := 0) rfl, HC9.out.fz 0, HC9.out.lt, World.ownsRow_nil _ _ _ _, (fun e => by cases e), rfl, (fun i hi => by cases hi), (fun x hx => by cases hx)⟩
  have HPT := Lib.hid (ch_put_ok (fun i => i = ch) ch (.slice none 0 0) [] ⟨vs1, A, c⟩ 0 V9 hCh (Nat.zero_le _) vs1_ok stand_nil has_nil HP9.out (fun e => by obtain ⟨B, O, q, _⟩ := HP9.out (by decide); exact absurd (e.symm.trans q) (by simp)) (fun b hb => by rw [List.mem_singleton.1 hb]; omega) (show (1 : Nat) ≤ 100000 by omega))
  clear hCh
  go_simp
  (go_at_call 113; refine HPT.out.mono ?_; rintro e4 V10 ⟨rfl, v', A', c', hch, k⟩)
  have hft : ∀ i, FootC ch (.slice none 0 0) i → i = ch := fun i hi => by rcases hi with e | e; exact e; cases e
  have k' := k.mono (T := fun i => i = ch) (fun i _ e => hft i e)
  have HS10 := Lib.hid (HS9.out.but k' (by have := HLT.out; have := HCL.out; have := HBX.out; omega))
  have HM10 := Lib.hid (map_but HM9.out k' (by have := HLT.out; have := HCL.out; have := HBX.out; omega))
  have HU10 := Lib.hid (HU9.out.trans k' (fun i hi e => by have := HCL.out; have := HBX.out; omega))
  have HRX10 := Lib.hid (show V10.rangeAt bx 0 (vc1 A c) from fun j u hu => (k'.cell bx _ HRX9.out.2 (by have := HCL.out; omega)).trans (HRX9.out.1 j u hu))
  have HV10 := Lib.hid (HV9.out.but k' (by have := HVL.out; omega))
  have HC10 := Lib.hid hch
  clear k k' hch hft HS9 HM9 HP9 HU9 HRX9 HC9 HV9 HPT
  (try dsimp only)
  refine hK.out _ _ ?_ (fun hHeld => ?_)
  · exact ⟨HV10.out.block (i := 0) rfl, HRX10.out⟩
  clear hK K
  (try simp only [Act.put, List.setIfInBounds_toArray, List.set_cons_zero, List.set_cons_succ, List.getElem_toArray, List.getElem_cons_succ, List.getElem_cons_zero])
  refine tk9 6 ?_
  refine wpAnyH_done (by kernel_rfl) ?_ _
  clear hHeld
  have v1 := HV10.out.block (i := 1) rfl
  have g1 := HV10.out.fz 1
  go_wp2_with fail
  go_ret
  have kf : But (fun i => i = vb) V10 (V10.setCell ⟨vb, 1, none⟩ (.int .i64 1)) := (But.refl (fun i => i = vb) V10).setCell (p := ⟨vb, 1, none⟩) (fun _ => rfl) _
  exact ⟨rfl, ⟨vb, ch, v', A', c', kg, kc, _, HC10.out.but kf (fun i hi e => by have := HVL.out; have := HVL9.out; rcases hi with q | q <;> omega), (fun i hi => by have := HVL.out; have := HVL9.out; have := HCL.out; have := HBX.out; rcases hi with q | q <;> omega), HV10.out.set 1 (by simp) (.int .i64 1), map_but HM10.out kf (by have := HLT.out; have := HCL.out; have := HVL.out; omega), HS10.out.but kf (by have := HLT.out; have := HCL.out; have := HVL.out; omega), by have := HCL.out; have := HVL.out; have := HBX.out; omega⟩, HU10.out.trans kf (fun i hi e => by have := HCL.out; have := HVL.out; have := HBX.out; omega)⟩
end Go.Proofs.YtpflbhcgkndpcaaGreatDoor

/- Stage 16: store.copied of the one record (written by gen/cp16.py). -/
namespace Go.Proofs.YtpflbhcgkndpcaaGreatDoor
open Go.RowKit

theorem bk_there {W : World} {b : Nat} {vs : List Value} (h : Bk W b vs) : W.there b 0 vs.length := fun j hj => ⟨by
  rw [Nat.zero_add, h.c j vs[j] (List.getElem?_eq_getElem hj)]
  rfl, h.fz _⟩
theorem bk_sets : ∀ (vs us : List Value) (o : Nat) (W : World) (b : Nat), Bk W b us → o + vs.length ≤ us.length → Bk (W.setCells b o vs) b (us.take o ++ vs ++ us.drop (o + vs.length))
  | [], us, o, W, b, h, hl => by
    have e : us.take o ++ [] ++ us.drop (o + 0) = us := by simp
    rw [World.setCells]
    simpa using h
  | v :: r, us, o, W, b, h, hl => by
    rw [World.setCells]
    have h1 := h.set o (by simp at hl; omega) v
    have h2 := bk_sets r (us.set o v) (o + 1) _ b h1 (by simp at hl ⊢; omega)
    have e : (us.set o v).take (o + 1) ++ r ++ (us.set o v).drop (o + 1 + r.length) = us.take o ++ (v :: r) ++ us.drop (o + (v :: r).length) := by
      have hlt : o < us.length := by simp at hl; omega
      rw [List.take_set, List.drop_set_of_lt (by omega), List.length_cons, show o + 1 + r.length = o + (r.length + 1) from by omega]
      have : (us.take (o + 1)).set o v = us.take o ++ [v] := by
        rw [List.take_add_one, List.getElem?_eq_getElem hlt, List.set_append_right _ _ (by simp; omega)]
        simp [Nat.min_eq_left (Nat.le_of_lt hlt)]
      rw [this]
      simp
    rw [e] at h2
    exact h2
set_option maxRecDepth 100000 in
set_option maxHeartbeats 4000000 in
theorem copied_one (A : Option Addr) (c : Nat) (w : World) (hp : ByL w A [97]) : Calls Tryz.prog 51 #[.agg (rc1 A c).toArray] w fun e w' => (∃ A2 c2, e = .returned (.agg (rc1 A2 c2).toArray)) ∧ Below w.heap.size w w' := by
  have HP := Lib.hid hp
  clear hp
  go_enter Tryz.func51, Tryz.ntmps51
  go_upto_region 1 with fail
  obtain ⟨V0, hV⟩ : ∃ V, ((w.alloc (.cells (rc1 A c).toArray 46)).alloc (.cells #[.int .i64 0, .int .i64 0, .string ⟨#[]⟩, .int .i64 0, .int .i64 0, .int .i64 0, .slice none 0 0, .bool false, .int .i64 0] 46)) = V := ⟨_, rfl⟩
  have k : Below w.heap.size w V0 := by rw [← hV]; exact ((Below.refl _ _).alloc (Nat.le_refl _) _).alloc (by simp) _
  have b1 : Bk V0 w.heap.size (rc1 A c) := by
    rw [← hV]
    exact (Bk.new w (rc1 A c).toArray 46).below ((Below.refl _ _).alloc (Nat.le_refl _) _)
  have b2 : Bk V0 (w.heap.size + 1) (#[.int .i64 0, .int .i64 0, .string ⟨#[]⟩, .int .i64 0, .int .i64 0, .int .i64 0, .slice none 0 0, .bool false, .int .i64 0] : Array Value).toList := by
    rw [← hV]
    have := Bk.new (w.alloc (.cells (rc1 A c).toArray 46)) #[.int .i64 0, .int .i64 0, .string ⟨#[]⟩, .int .i64 0, .int .i64 0, .int .i64 0, .slice none 0 0, .bool false, .int .i64 0] 46
    rw [World.size_alloc] at this
    exact this
  rw [hV]
  clear hV
  have HP0 := Lib.hid (HP.out.below k)
  have HB0 := Lib.hid k
  have H1 := Lib.hid b1
  have H2 := Lib.hid b2
  clear k b1 b2 HP
  generalize hr1 : w.heap.size = r1 at *
  generalize hr2 : r1 + 1 = r2 at *
  have HR : Hid (w.heap.size = r1 ∧ r1 < r2) := Lib.hid ⟨hr1, by omega⟩
  clear hr1 hr2
  refine wp_region_lit ?_
  refine wpList_plain rfl (fun KK hKK => ?_)
  go_simp
  refine hKK _ _ ?_
  refine wpList_plain rfl (fun KK hKK => ?_)
  go_simp
  refine hKK _ _ ?_
  have c6 := H1.out.block (i := 6) rfl
  refine wpList_plain rfl (fun KK hKK => ?_)
  go_simp
  refine hKK _ _ ?_
  clear c6
  refine wpList_plain rfl (fun KK hKK => ?_)
  go_simp
  (go_at_call 96; refine (bytes_clone A [97] c V0 HP0.out (fun e => by obtain ⟨B, O, q, _⟩ := HP0.out (by decide); exact absurd (e.symm.trans q) (by simp)) (by simp)).mono ?_; rintro e1 V1 ⟨v, rfl, ho, k⟩)
  obtain ⟨A2, c2, rfl, _⟩ := own8_shape ho
  clear ho
  have H1' := Lib.hid (H1.out.below k)
  have H2' := Lib.hid (H2.out.below k)
  have HB1 := Lib.hid (HB0.out.trans (k.mono (HR.out.1 ▸ HB0.out.size)))
  clear k H1 H2 HB0 HP0
  refine hKK _ _ ?_
  refine wpList_plain rfl (fun KK hKK => ?_)
  go_simp
  refine hKK _ _ ?_
  refine wpList_plain rfl (fun KK hKK => ?_)
  go_simp
  refine hKK _ _ ?_
  have c6 := H1'.out.block (i := 6) rfl
  have f6 := H1'.out.fz 6
  refine wpList_plain rfl (fun KK hKK => ?_)
  go_simp
  refine hKK _ _ ?_
  clear c6 f6
  refine wpList_nil ?_
  obtain ⟨V2, hV⟩ : ∃ V, V1.setCell ⟨r1, 6, none⟩ (.slice A2 1 c2) = V := ⟨_, rfl⟩
  have G1 : Hid (Bk V2 r1 (rc1 A2 c2)) := Lib.hid (by rw [← hV]; exact H1'.out.set 6 (by simp [rc1]) _)
  have G2 := Lib.hid (show Bk V2 r2 (#[.int .i64 0, .int .i64 0, .string ⟨#[]⟩, .int .i64 0, .int .i64 0, .int .i64 0, .slice none 0 0, .bool false, .int .i64 0] : Array Value).toList by rw [← hV]; exact H2'.out.other (p := ⟨r1, 6, none⟩) (by show r1 ≠ r2; have := HR.out; omega) _)
  have GB : Hid (Below r1 w V2) := Lib.hid (by rw [← hV]; exact HB1.out.setCell (p := ⟨r1, 6, none⟩) (Nat.le_refl _) _)
  (first | rw [hV] | (rw [show V1.setCell ⟨r1, 6, none⟩ (.slice A2 ([97] : List Int).length c2) = V2 from hV]))
  clear hV H1' H2' HB1
  go_upto_region 2 with fail
  refine wp_region_lit ?_
  refine wpList_load_mid rfl 46 (.tmp 1) rfl r1 0 (by first | rfl | simp) (rc1 A2 c2) _ (fun j u hu => by rw [Nat.zero_add]; exact G1.out.c j u hu) Tryz.underlying46 rfl rec_size ?_
  refine wpList_plain rfl (fun KK hKK => ?_)
  refine wp_store_mid 46 (.tmp 2) (.tmp 9) rfl r2 0 (rc1 A2 c2).toArray rfl rfl (by have := bk_there G2.out; exact this) rec_size (by simp [rc1, Value.oneCell']) ?_
  refine hKK _ _ ?_
  refine wpList_nil ?_
  have E2 := bk_sets (rc1 A2 c2) _ 0 _ _ G2.out (by simp [rc1])
  have EB := Lib.hid (below_sets r1 r2 (by have := HR.out; omega) w (rc1 A2 c2) 0 _ GB.out)
  rw [show (rc1 A2 c2).toArray.toList = rc1 A2 c2 from rfl]
  generalize V2.setCells r2 0 (rc1 A2 c2) = V3 at *
  have E2' : Bk V3 r2 (rc1 A2 c2) := E2
  have q0 := E2'.block (i := 0) rfl
  have q1 := E2'.block (i := 1) rfl
  have q2 := E2'.block (i := 2) rfl
  have q3 := E2'.block (i := 3) rfl
  have q4 := E2'.block (i := 4) rfl
  have q5 := E2'.block (i := 5) rfl
  have q6 := E2'.block (i := 6) rfl
  have q7 := E2'.block (i := 7) rfl
  have q8 := E2'.block (i := 8) rfl
  clear E2 E2'
  go_wp2_with fail
  refine bodyPost_ret (v := .agg (rc1 A2 c2).toArray) (by simp [results, Tryz.results51, go_sem, q0, q1, q2, q3, q4, q5, q6, q7, q8, rc1]) rfl ⟨⟨A2, c2, rfl⟩, by rw [HR.out.1]; exact EB.out⟩
end Go.Proofs.YtpflbhcgkndpcaaGreatDoor

