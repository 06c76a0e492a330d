/- Stage 16: StoreOrder: the claim. -/
import Derived.Test.YtpflbhcgkndpcaaGreatDoorG16y
import Derived.Test.YtpflbhcgkndpcaaGreatDoorG16y
import Derived.Test.YtpflbhcgkndpcaaGreatDoorG16h
import Derived.Test.YtpflbhcgkndpcaaGreatDoorG16y
import Derived.Test.YtpflbhcgkndpcaaGreatDoorG16x
import Derived.Test.YtpflbhcgkndpcaaGreatDoorLaw
import Derived.Test.YtpflbhcgkndpcaaGreatDoorOctMem
import Derived.Test.YtpflbhcgkndpcaaGreatDoorCards
import Derived.Test.YtpflbhcgkndpcaaGreatDoorTie
import Derived.Deep.DeepHandedRow
import Derived.Lib.LaidTab
import Derived.Test.YtpflbhcgkndpcaaGreatDoorS16OF
/- Stage 16: StoreOrder: the law's walk (written by gen/s16o.py). -/
set_option linter.unusedSimpArgs false
set_option linter.unusedVariables false
namespace Go.Proofs.YtpflbhcgkndpcaaGreatDoor
open Go.RowKit

theorem order_code {L : List Rc} (h64 : L.length ≤ 64) (hok : L.all okR = true) (hb : chkA 0 0 Ap.zero L = false) : chkC 0 0 Ap.zero L = 12 := by
  unfold chkC
  rw [if_neg (by omega), if_pos hok, if_neg (by rw [hb]; simp)]
theorem all_set {L : List Rc} {k : Nat} {r : Rc} (h : L.all okR = true) (hr : okR r = true) : (L.set k r).all okR = true := by
  rw [List.all_eq_true] at h ⊢
  intro x hx
  rcases List.mem_or_eq_of_mem_set hx with q | q
  · exact h x q
  · rw [q]; exact hr
theorem map_set (L : List Mr) (k : Nat) (m : Mr) : (L.set k m).map Mr.r = (L.map Mr.r).set k m.r := by rw [List.map_set]
theorem ky_set {L : List Mr} {k : Nat} {m : Mr} (h : ∀ x ∈ L, isBy x.r.key) (hm : isBy m.r.key) : ∀ x ∈ L.set k m, isBy x.r.key := fun x hx => by
  rcases List.mem_or_eq_of_mem_set hx with q | q
  · exact h x q
  · rw [q]; exact hm
theorem apz_at (d : Nat) (lg : Value) (en : Int) (m : Nat) : ∀ j u, (apV Ap.zero)[j]? = some u → (stE d lg en m)[10 + j]? = some u := fun j u hu => by
  have hj : j < 15 := (List.getElem?_eq_some_iff.1 hu).1
  rw [← hu]
  match j, hj with
  | 0, _ => rfl
  | 1, _ => rfl
  | 2, _ => rfl
  | 3, _ => rfl
  | 4, _ => rfl
  | 5, _ => rfl
  | 6, _ => rfl
  | 7, _ => rfl
  | 8, _ => rfl
  | 9, _ => rfl
  | 10, _ => rfl
  | 11, _ => rfl
  | 12, _ => rfl
  | 13, _ => rfl
  | 14, _ => rfl
theorem apz_rs (d : Nat) (lg : Value) : ∀ j u, (apV Ap.zero)[j]? = some u → (rsE d lg)[8 + j]? = some u := fun j u hu => by
  have hj : j < 15 := (List.getElem?_eq_some_iff.1 hu).1
  rw [← hu]
  match j, hj with
  | 0, _ => rfl
  | 1, _ => rfl
  | 2, _ => rfl
  | 3, _ => rfl
  | 4, _ => rfl
  | 5, _ => rfl
  | 6, _ => rfl
  | 7, _ => rfl
  | 8, _ => rfl
  | 9, _ => rfl
  | 10, _ => rfl
  | 11, _ => rfl
  | 12, _ => rfl
  | 13, _ => rfl
  | 14, _ => rfl
theorem apz_b : ApB Ap.zero 0 := fun i => by
  show (0 : Int) ≤ 0 ∧ (0 : Int) ≤ _ ∧ (0 : Int) ≤ 0 ∧ (0 : Int) ≤ _ ∧ (0 : Int) ≤ 0 ∧ (0 : Int) ≤ _
  omega
set_option maxRecDepth 100000 in
set_option maxHeartbeats 16000000 in
theorem law_order (A : Option Addr) (c : Nat) (L : List RwA) (at_ way : Int) (w : World) (ht : Nib w) (hr : RowG RwA.cs w A L) (hin : ∀ x ∈ L, RwIn w x) (hl : L.length ≤ 9223372036854775807) :
    Calls Tryz.prog 3 #[.slice A L.length c, .int .i64 at_, .int .i64 way] w fun e w' => e = .returned (.bool true) ∧ Below w.heap.size w w' := by
  have hni : (L.length : Int) ≤ 9223372036854775807 := by omega
  have HT := Lib.hid ht
  have HR := Lib.hid hr
  have HIN := Lib.hid hin
  clear ht hr hin
  have k0 : Below w.heap.size w (w.alloc (.cells (actV A L.length c).toArray 28)) := (Below.refl _ _).alloc (Nat.le_refl _) _
  have HHV := Lib.hid (heavy_any w.heap.size 1 A c L _ (Bk.new w (actV A L.length c).toArray 28) (HR.out.below k0) hl)
  have HK0 := Lib.hid k0
  clear k0
  go_enter Tryz.func3, Tryz.ntmps3
  go_upto_region 1 with fail
  refine wp_region_lit ?_
  refine wpList_plain rfl (fun KK hKK => ?_)
  go_simp
  refine hKK _ _ ?_
  refine wpList_plain rfl (fun KK hKK => ?_)
  go_simp
  refine hKK _ _ ?_
  refine wpList_plain rfl (fun KK hKK => ?_)
  go_simp
  refine hKK _ _ ?_
  obtain ⟨V0, hV⟩ : ∃ V, w.alloc (.cells (actV A L.length c).toArray 28) = V := ⟨_, rfl⟩
  rw [hV] at HHV HK0
  rw [show w.alloc (.cells #[.int .i64 0, .int .i64 0, .int .u8 0, .int .i64 0, .int .i64 0, .slice A L.length c, .slice none 0 0] 28) = V0 from hV]
  clear hV
  refine wpList_plain rfl (fun KK hKK => ?_)
  go_simp
  (go_at_call 5; refine HHV.out.mono ?_; rintro e1 V1 ⟨⟨q, rfl⟩, k1⟩)
  have HB1 : Hid (Below w.heap.size w V1) := Lib.hid (HK0.out.trans (k1.mono HK0.out.size))
  have HT1 := Lib.hid (HT.out.below HB1.out)
  clear k1 HK0 HHV
  refine hKK _ _ ?_
  refine wpList_plain rfl (fun KK hKK => ?_)
  go_simp
  refine hKK _ _ ?_
  cases q
  · by_cases h64 : 64 < L.length
    · have t1 : decide ((64 : Int) < (L.length : Int)) = true := by simp; omega
      clear h64
      go_wp2_with (go_at_call 6; refine (known16 V1 HT1.out).mono ?_; rintro ek Vk ⟨rfl, kk⟩)
      go_ret
      exact ⟨rfl, HB1.out.trans (kk.mono HB1.out.size)⟩
    have t1 : decide ((64 : Int) < (L.length : Int)) = false := by simp; omega
    have h64' : L.length ≤ 64 := by omega
    clear h64
    by_cases h0 : L.length = 0
    · have t2 : ((L.length : Int) == 0) = true := by simp only [beq_iff_eq]; omega
      clear h0
      go_wp2_with (go_at_call 6; refine (known16 V1 HT1.out).mono ?_; rintro ek Vk ⟨rfl, kk⟩)
      go_ret
      exact ⟨rfl, HB1.out.trans (kk.mono HB1.out.size)⟩
    have t2 : ((L.length : Int) == 0) = false := by simp only [beq_eq_false_iff_ne, ne_eq]; omega
    have hlp : 0 < L.length := by omega
    clear h0
    have HST := Lib.hid (start_none V1)
    go_upto_region 4 with (go_at_call 7; refine HST.out.mono ?_; rintro e2 V2 ⟨⟨p, d, s, l, m, xx, rd, rfl, hst⟩, kk⟩)
    have HB2 := Lib.hid (HB1.out.trans (kk.mono HB1.out.size))
    have H2 := Lib.hid hst
    clear kk hst HST HB1 HT1
    have p1 := H2.out.bp.block (i := 1) rfl
    unfold ptr at p1
    go_upto_region 6 with fail
    clear p1
    have p3 := H2.out.bp.block (i := 3) rfl
    unfold ptr at p3
    obtain ⟨lg, hbx⟩ := H2.out.bx
    have HNX := Lib.hid (next_any xx (rsE rd lg) Ap.zero A c L V2 hbx (apz_rs _ _) apz_b (HR.out.below HB2.out) (by omega))
    clear hbx
    go_upto_region 8 with (go_at_call 8; refine HNX.out.mono ?_; rintro e3 V3 ⟨⟨v, rfl, hrow⟩, kk⟩)
    obtain ⟨g, cap, rfl, hnc, hcm, hgl⟩ := row_shape hrow hlp
    have HGN : Hid (p < g ∧ s < g ∧ V2.heap.size ≤ g ∧ w.heap.size ≤ g ∧ V2.heap.size ≤ V3.heap.size) := Lib.hid (by have a1 := (World.ownsRow.lt hrow g rfl).1; have a2 := H2.out.bp.lt; have a3 := H2.out.bs.lt; have a4 := HB2.out.size; have a5 := kk.size; omega)
    have HBK := Lib.hid (bk_of_row hrow hgl)
    have HRO := Lib.hid hrow
    have HP3 := Lib.hid (H2.out.bp.below kk)
    have HS3 := Lib.hid (H2.out.bs.below kk)
    have HB3 := Lib.hid (HB2.out.trans (kk.mono HB2.out.size))
    have HKY : Hid (∀ q ∈ nxA Ap.zero L, isBy q.r.key) := Lib.hid (fun q hq => (nxA_at Ap.zero L HIN.out q hq).2)
    have HLM := Lib.hid (nxA_len Ap.zero L)
    have HSQ := Lib.hid (nxA_sq Ap.zero L)
    clear hrow kk p3 HNX HB2 H2
    generalize nxA Ap.zero L = Ms at *
    go_loopw [10] (fun i wr => ∃ (k : Nat), k ≤ L.length ∧ i = .int .i64 k ∧ Below V3.heap.size V3 wr ∧ ((Ms.map Mr.r).take k).all okR = true) (fun i _ => L.length - (intOf i).toNat)
    case atStart => exact ⟨0, Nat.zero_le _, rfl, Below.refl _ _, rfl⟩
    case round =>
      obtain ⟨k, hk, rfl, hB, hall⟩ := hrel
      by_cases hlt : k < L.length
      · have lk : (k : Int) < (L.length : Int) := by omega
        have hi1 : ((k : Int).toNat) = k := by simp
        have hkM : k < Ms.length := by have := HLM.out; omega
        have hx : Ms[k]? = some Ms[k] := List.getElem?_eq_getElem hkM
        have htk : (Ms.map Mr.r).take (k + 1) = (Ms.map Mr.r).take k ++ [Ms[k].r] := by rw [List.take_succ_eq_append_getElem (by simpa using hkM)]; simp
        generalize Ms[k] = x at *
        have HRG : Hid (wr.rangeAt g (k * 9) x.cs) := Lib.hid (fun j u hu => (HBK.out.below hB).c (k * 9 + j) u ((rowM_at hx j (by have := (List.getElem?_eq_some_iff.1 hu).1; simpa [Mr.cs] using this)).trans hu))
        have HBR := Lib.hid (HB3.out.trans (hB.mono HB3.out.size))
        have HK := Lib.hid (And.intro hB (And.intro hall htk))
        clear hx htk hB hall hkM
        go_upto_region 10 with fail
        refine wp_region_lit ?_
        refine wpList_plain rfl (fun KK hKK => ?_)
        go_simp
        refine hKK _ _ ?_
        refine wpList_plain rfl (fun KK hKK => ?_)
        go_simp
        refine hKK _ _ ?_
        refine wpList_plain rfl (fun KK hKK => ?_)
        go_simp
        refine hKK _ _ ?_
        refine wpList_load_mid rfl 46 (.tmp 59) rfl g (k * 9) (by first | rfl | simp) x.cs _ HRG.out Tryz.underlying46 rfl rec_size ?_
        clear HRG
        refine wpList_plain rfl (fun KK hKK => ?_)
        go_simp
        (go_at_call 9; refine (ref_is x.r.o x.r.s (strB x.r.key) x.r.ml x.r.ct x.r.vo x.A x.r.val.length x.c x.r.gone x.r.tt wr).mono ?_; rintro e4 V4 ⟨rfl, k4⟩)
        have HB4 := Lib.hid (HBR.out.trans (k4.mono HBR.out.size))
        have HK4 := Lib.hid (HK.out.1.trans (k4.mono HK.out.1.size))
        have HT4 := Lib.hid (HT.out.below HB4.out)
        clear k4 HBR
        have hok : okN x.r.o x.r.s (strB x.r.key).size x.r.ml x.r.ct x.r.vo x.r.val.length x.r.gone x.r.tt = okR x.r := by rw [okR_n, strB_size]
        rw [hok]
        clear hok
        cases hok : okR x.r
        · clear hok
          refine hKK _ _ ?_
          refine wpList_plain rfl (fun KK hKK => ?_)
          go_simp
          refine hKK _ _ ?_
          refine wpList_nil ?_
          go_wp2_with (go_at_call 6; refine (known16 V4 HT4.out).mono ?_; rintro ek Vk ⟨rfl, kk⟩)
          go_ret
          exact ⟨rfl, HB4.out.trans (kk.mono HB4.out.size)⟩
        · have HOK := Lib.hid hok
          clear hok
          refine hKK _ _ ?_
          refine wpList_plain rfl (fun KK hKK => ?_)
          go_simp
          refine hKK _ _ ?_
          refine wpList_nil ?_
          go_wp2_with fail
          go_roundw
          case rel => exact ⟨k + 1, by omega, by go_num, HK4.out, by rw [HK.out.2.2, List.all_append, HK.out.2.1]; simp [HOK.out]⟩
          case measure => simp [intOf]; omega
      · obtain rfl : k = L.length := by omega
        have HALL : Hid ((Ms.map Mr.r).all okR = true) := Lib.hid (by rw [List.take_of_length_le (by have := HLM.out; simp; omega)] at hall; exact hall)
        have HP4 := Lib.hid (HP3.out.below hB)
        have HS4 := Lib.hid (HS3.out.below hB)
        have HB4 := Lib.hid (HB3.out.trans (hB.mono HB3.out.size))
        have HBK4 := Lib.hid (HBK.out.below hB)
        have HRO4 := Lib.hid ((But.of_below (S := fun _ => False) hB).row HRO.out (fun _ _ hf => hf))
        have HGW : Hid (V2.heap.size ≤ wr.heap.size) := Lib.hid (by have := HGN.out; have := hB.size; omega)
        clear hB hall hlt hk HBK HRO HP3 HS3 HB3
        generalize wr = V4 at *
        have b1 := bits_and_le at_ 65535 (by omega)
        obtain ⟨k, hkk⟩ : ∃ k : Nat, (bits BinOp.and IntKind.i64 at_ 65535).tmod (L.length : Int) = (k : Int) := ⟨_, (Int.toNat_of_nonneg (Int.tmod_nonneg _ b1.1)).symm⟩
        have hkl : k < L.length := by have := Int.tmod_lt_of_pos (bits BinOp.and IntKind.i64 at_ 65535) (show 0 < (L.length : Int) by omega); omega
        have lk : (k : Int) < (L.length : Int) := by omega
        have hi1 : ((k : Int).toNat) = k := by simp
        clear b1
        have hkM : k < Ms.length := by have := HLM.out; omega
        have hx : Ms[k]? = some Ms[k] := List.getElem?_eq_getElem hkM
        generalize Ms[k] = x at *
        have HX := Lib.hid hx
        clear hx hkM
        have HOX := Lib.hid ((ok_iff _).1 (List.all_eq_true.1 HALL.out x.r (List.mem_map_of_mem (List.mem_of_getElem? HX.out))))
        have HSL : Hid (1 ≤ x.r.s ∧ x.r.s ≤ 64) := Lib.hid ⟨HOX.out.s0, by have := sq_le Ap.zero (Ms.map Mr.r) HSQ.out 0 (fun i => Int.le_refl _) k x.r (by simp [HX.out]); omega⟩
        have b3 : 0 ≤ bits BinOp.and IntKind.i64 way 3 ∧ bits BinOp.and IntKind.i64 way 3 ≤ 3 := bits_and_le way 3 (by omega)
        obtain hw | hw | hw | hw : bits BinOp.and IntKind.i64 way 3 = 0 ∨ bits BinOp.and IntKind.i64 way 3 = 1 ∨ bits BinOp.and IntKind.i64 way 3 = 2 ∨ bits BinOp.and IntKind.i64 way 3 = 3 := by omega
        · clear b3
          have r1 := HBK4.out.block (i := k * 9 + 1) (u := .int .i64 x.r.s) ((rowM_at HX.out 1 (by omega)).trans rfl)
          have f1 := HBK4.out.fz (k * 9 + 1)
          have hsle := HSL.out
          have hws : IntKind.i64.wrap (x.r.s + 1) = x.r.s + 1 := IntWalk.i64_in _ (by omega)
          go_upto_region 23 with fail
          clear r1 f1 hws
          obtain ⟨V5, hV⟩ : ∃ V, V4.setCell ⟨g, k * 9 + 1, none⟩ (.int .i64 (x.r.s + 1)) = V := ⟨_, rfl⟩
          have k5 : But (fun i => i = g) V4 V5 := by rw [← hV]; exact (But.refl (fun i => i = g) V4).setCell (p := ⟨g, k * 9 + 1, none⟩) (fun _ => rfl) _
          have b5 : Bk V5 g (rowM (Ms.set k { x with r := { x.r with s := x.r.s + 1 } })) := by rw [← hV, ← rowM_set Ms k 1 x { x with r := { x.r with s := x.r.s + 1 } } (.int .i64 (x.r.s + 1)) HX.out (by omega) rfl]; exact HBK4.out.set _ (by rw [rowM_len]; have := HLM.out; omega) _
          rw [hV]
          clear hV
          have HP5 := Lib.hid (HP4.out.but k5 (by have := HGN.out; omega))
          have HS5 := Lib.hid (HS4.out.but k5 (by have := HGN.out; omega))
          have HB5 := Lib.hid (HB4.out.trans (k5.below (fun i hi => by subst hi; have := HGN.out; omega) HB4.out.size))
          have HT5 := Lib.hid (HT.out.below HB5.out)
          have HLE : Hid ((Ms.set k { x with r := { x.r with s := x.r.s + 1 } }).length = L.length) := Lib.hid (by rw [List.length_set]; exact HLM.out)
          have HCODE : Hid (chkC 0 0 Ap.zero ((Ms.set k { x with r := { x.r with s := x.r.s + 1 } }).map Mr.r) = 12) := Lib.hid (order_code (by rw [List.length_map, HLE.out]; exact h64') (by rw [map_set]; exact all_set HALL.out (by obtain ⟨a1, a2, a3, a4, a5, a6, a7, a8, a9, a10, a11, a12, a13, a14, a15⟩ := HOX.out; exact (ok_iff _).2 ⟨a1, a2, a3, a4, a5, a6, a7, by show 1 ≤ x.r.s + 1; omega, by show x.r.s + 1 ≤ _; omega, a10, a11, a12, a13, a14, a15⟩)) (by rw [map_set]; exact bad_set 0 0 Ap.zero (Ms.map Mr.r) k x.r _ HSQ.out (by simp [HX.out]) rfl (Or.inl (by show x.r.s + 1 ≠ x.r.s; omega))))
          have HRA := Lib.hid (row_of_bk (cap := cap) b5 HLE.out)
          have HKY3 : Hid (∀ q ∈ Ms.set k { x with r := { x.r with s := x.r.s + 1 } }, isBy q.r.key) := Lib.hid (ky_set HKY.out (HKY.out x (List.mem_of_getElem? HX.out)))
          clear k5 b5 HP4 HS4 HB4
          have p1 := HP5.out.block (i := 1) rfl
          unfold ptr at p1
          have HPB := Lib.hid (put_bad s (stE d (ptr l) 0 m) Ap.zero 0 0 _ (Ms.set k { x with r := { x.r with s := x.r.s + 1 } }) V5 HS5.out rfl rfl (apz_at _ _ _ _) (fun i => ⟨Int.le_refl _, by show (0 : Int) ≤ _; omega⟩) rfl HRA.out HKY3.out (by rw [HLE.out]; omega) (by rw [HLE.out]; omega) 12 HCODE.out (by decide))
          go_upto_region 24 with (go_at_call 10; refine HPB.out.mono ?_; rintro e5 V6 ⟨rfl, kk⟩)
          have HP6 := Lib.hid (HP5.out.below kk)
          have HS6 := Lib.hid (HS5.out.below kk)
          have HT6 := Lib.hid (HT5.out.below kk)
          have HB6 := Lib.hid (HB5.out.trans (kk.mono HB5.out.size))
          clear kk p1 HP5 HS5 HT5 HB5 HPB
          have p1 := HP6.out.block (i := 1) rfl
          unfold ptr at p1
          go_upto_region 25 with (go_at_call 11; refine (keys_none s _ V6 HS6.out rfl).mono ?_; rintro e6 V7 ⟨rfl, kk⟩)
          have HP7 := Lib.hid (HP6.out.below kk)
          have HS7 := Lib.hid (HS6.out.below kk)
          have HT7 := Lib.hid (HT6.out.below kk)
          have HB7 := Lib.hid (HB6.out.trans (kk.mono HB6.out.size))
          clear kk p1 HP6 HS6 HT6 HB6
          have p1 := HP7.out.block (i := 1) rfl
          unfold ptr at p1
          go_upto_region 26 with (go_at_call 12; refine (age_is s _ 0 0 V7 HS7.out rfl rfl).mono ?_; rintro e7 V8 ⟨rfl, kk⟩)
          have HT8 := Lib.hid (HT7.out.below kk)
          have HB8 := Lib.hid (HB7.out.trans (kk.mono HB7.out.size))
          clear kk p1 HP7 HS7 HT7 HB7
          go_wp2_with (go_at_call 6; refine (known16 V8 HT8.out).mono ?_; rintro ek Vk ⟨rfl, kk⟩)
          go_ret
          exact ⟨rfl, HB8.out.trans (kk.mono HB8.out.size)⟩
        · clear b3
          go_upto_region 20 with fail
          refine wp_region_lit ?_
          refine wpList_plain rfl (fun KK hKK => ?_)
          go_simp
          refine hKK _ _ ?_
          refine wpList_plain rfl (fun KK hKK => ?_)
          go_simp
          refine hKK _ _ ?_
          refine wpList_plain rfl (fun KK hKK => ?_)
          go_simp
          refine hKK _ _ ?_
          refine wpList_plain rfl (fun KK hKK => ?_)
          go_simp
          refine hKK _ _ ?_
          refine wpList_plain rfl (fun KK hKK => ?_)
          go_simp
          refine hKK _ _ ?_
          refine wpList_plain rfl (fun KK hKK => ?_)
          go_simp
          refine hKK _ _ ?_
          refine wpList_plain rfl (fun KK hKK => ?_)
          refine wp_store_mid 25 (.tmp 101) (.tmp 98) rfl g (k * 9 + 3) #[.int .i64 0, .int .i64 0] rfl rfl (HBK4.out.there (k * 9 + 3) 2 (by rw [rowM_len]; have := HLM.out; omega)) stamp2_size (by simp [Value.oneCell']) ?_
          refine hKK _ _ ?_
          refine wpList_nil ?_
          obtain ⟨V5, hV⟩ : ∃ V, V4.setCells g (k * 9 + 3) [.int .i64 0, .int .i64 0] = V := ⟨_, rfl⟩
          have k5 : But (fun i => i = g) V4 V5 := by rw [← hV]; exact but_sets (S := fun i => i = g) rfl _ _ (But.refl _ _)
          have b5 : Bk V5 g (rowM (Ms.set k { x with r := { x.r with ml := 0, ct := 0 } })) := by
            rw [← hV]
            have e1 := rowM_set Ms k 3 x { x with r := { x.r with ml := 0 } } (.int .i64 0) HX.out (by omega) rfl
            have e2 := rowM_set (Ms.set k { x with r := { x.r with ml := 0 } }) k 4 { x with r := { x.r with ml := 0 } } { x with r := { x.r with ml := 0, ct := 0 } } (.int .i64 0) (by rw [List.getElem?_set_self (by have := HLM.out; omega)]) (by omega) rfl
            rw [List.set_set] at e2
            rw [← e2, ← e1]
            exact (HBK4.out.set (k * 9 + 3) (by rw [rowM_len]; have := HLM.out; omega) (.int .i64 0)).set (k * 9 + 4) (by rw [List.length_set, rowM_len]; have := HLM.out; omega) (.int .i64 0)
          rw [show V4.setCells g (k * 9 + 3) (#[.int .i64 0, .int .i64 0] : Array Value).toList = V5 from hV]
          clear hV
          go_upto_region 23 with fail
          have HP5 := Lib.hid (HP4.out.but k5 (by have := HGN.out; omega))
          have HS5 := Lib.hid (HS4.out.but k5 (by have := HGN.out; omega))
          have HB5 := Lib.hid (HB4.out.trans (k5.below (fun i hi => by subst hi; have := HGN.out; omega) HB4.out.size))
          have HT5 := Lib.hid (HT.out.below HB5.out)
          have HLE : Hid ((Ms.set k { x with r := { x.r with ml := 0, ct := 0 } }).length = L.length) := Lib.hid (by rw [List.length_set]; exact HLM.out)
          have HCODE : Hid (chkC 0 0 Ap.zero ((Ms.set k { x with r := { x.r with ml := 0, ct := 0 } }).map Mr.r) = 12) := Lib.hid (order_code (by rw [List.length_map, HLE.out]; exact h64') (by rw [map_set]; exact all_set HALL.out (by obtain ⟨a1, a2, a3, a4, a5, a6, a7, a8, a9, a10, a11, a12, a13, a14, a15⟩ := HOX.out; exact (ok_iff _).2 ⟨by show (0 : Int) ≤ 0; omega, by show (0 : Int) ≤ _; omega, by show (0 : Int) ≤ 0; omega, by show (0 : Int) ≤ _; omega, a5, a6, a7, a8, a9, a10, a11, a12, a13, a14, a15⟩)) (by rw [map_set]; exact bad_set 0 0 Ap.zero (Ms.map Mr.r) k x.r _ HSQ.out (by simp [HX.out]) rfl (Or.inr (by show ¬ 0 < cmp2 0 0 0 0; decide))))
          have HRA := Lib.hid (row_of_bk (cap := cap) b5 HLE.out)
          have HKY3 : Hid (∀ q ∈ Ms.set k { x with r := { x.r with ml := 0, ct := 0 } }, isBy q.r.key) := Lib.hid (ky_set HKY.out (HKY.out x (List.mem_of_getElem? HX.out)))
          clear k5 b5 HP4 HS4 HB4
          have p1 := HP5.out.block (i := 1) rfl
          unfold ptr at p1
          have HPB := Lib.hid (put_bad s (stE d (ptr l) 0 m) Ap.zero 0 0 _ (Ms.set k { x with r := { x.r with ml := 0, ct := 0 } }) V5 HS5.out rfl rfl (apz_at _ _ _ _) (fun i => ⟨Int.le_refl _, by show (0 : Int) ≤ _; omega⟩) rfl HRA.out HKY3.out (by rw [HLE.out]; omega) (by rw [HLE.out]; omega) 12 HCODE.out (by decide))
          go_upto_region 24 with (go_at_call 10; refine HPB.out.mono ?_; rintro e5 V6 ⟨rfl, kk⟩)
          have HP6 := Lib.hid (HP5.out.below kk)
          have HS6 := Lib.hid (HS5.out.below kk)
          have HT6 := Lib.hid (HT5.out.below kk)
          have HB6 := Lib.hid (HB5.out.trans (kk.mono HB5.out.size))
          clear kk p1 HP5 HS5 HT5 HB5 HPB
          have p1 := HP6.out.block (i := 1) rfl
          unfold ptr at p1
          go_upto_region 25 with (go_at_call 11; refine (keys_none s _ V6 HS6.out rfl).mono ?_; rintro e6 V7 ⟨rfl, kk⟩)
          have HP7 := Lib.hid (HP6.out.below kk)
          have HS7 := Lib.hid (HS6.out.below kk)
          have HT7 := Lib.hid (HT6.out.below kk)
          have HB7 := Lib.hid (HB6.out.trans (kk.mono HB6.out.size))
          clear kk p1 HP6 HS6 HT6 HB6
          have p1 := HP7.out.block (i := 1) rfl
          unfold ptr at p1
          go_upto_region 26 with (go_at_call 12; refine (age_is s _ 0 0 V7 HS7.out rfl rfl).mono ?_; rintro e7 V8 ⟨rfl, kk⟩)
          have HT8 := Lib.hid (HT7.out.below kk)
          have HB8 := Lib.hid (HB7.out.trans (kk.mono HB7.out.size))
          clear kk p1 HP7 HS7 HT7 HB7
          go_wp2_with (go_at_call 6; refine (known16 V8 HT8.out).mono ?_; rintro ek Vk ⟨rfl, kk⟩)
          go_ret
          exact ⟨rfl, HB8.out.trans (kk.mono HB8.out.size)⟩
        · clear b3
          have r1 := HBK4.out.block (i := k * 9 + 1) (u := .int .i64 x.r.s) ((rowM_at HX.out 1 (by omega)).trans rfl)
          have f1 := HBK4.out.fz (k * 9 + 1)
          have hsle := HSL.out
          go_upto_region 23 with fail
          clear r1 f1
          obtain ⟨V5, hV⟩ : ∃ V, V4.setCell ⟨g, k * 9 + 1, none⟩ (.int .i64 1099511627776) = V := ⟨_, rfl⟩
          have k5 : But (fun i => i = g) V4 V5 := by rw [← hV]; exact (But.refl (fun i => i = g) V4).setCell (p := ⟨g, k * 9 + 1, none⟩) (fun _ => rfl) _
          have b5 : Bk V5 g (rowM (Ms.set k { x with r := { x.r with s := 1099511627776 } })) := by rw [← hV, ← rowM_set Ms k 1 x { x with r := { x.r with s := 1099511627776 } } (.int .i64 1099511627776) HX.out (by omega) rfl]; exact HBK4.out.set _ (by rw [rowM_len]; have := HLM.out; omega) _
          rw [hV]
          clear hV
          have HP5 := Lib.hid (HP4.out.but k5 (by have := HGN.out; omega))
          have HS5 := Lib.hid (HS4.out.but k5 (by have := HGN.out; omega))
          have HB5 := Lib.hid (HB4.out.trans (k5.below (fun i hi => by subst hi; have := HGN.out; omega) HB4.out.size))
          have HT5 := Lib.hid (HT.out.below HB5.out)
          have HLE : Hid ((Ms.set k { x with r := { x.r with s := 1099511627776 } }).length = L.length) := Lib.hid (by rw [List.length_set]; exact HLM.out)
          have HCODE : Hid (chkC 0 0 Ap.zero ((Ms.set k { x with r := { x.r with s := 1099511627776 } }).map Mr.r) = 12) := Lib.hid (order_code (by rw [List.length_map, HLE.out]; exact h64') (by rw [map_set]; exact all_set HALL.out (by obtain ⟨a1, a2, a3, a4, a5, a6, a7, a8, a9, a10, a11, a12, a13, a14, a15⟩ := HOX.out; exact (ok_iff _).2 ⟨a1, a2, a3, a4, a5, a6, a7, by show (1 : Int) ≤ 1099511627776; omega, by show (1099511627776 : Int) ≤ _; omega, a10, a11, a12, a13, a14, a15⟩)) (by rw [map_set]; exact bad_set 0 0 Ap.zero (Ms.map Mr.r) k x.r _ HSQ.out (by simp [HX.out]) rfl (Or.inl (by show (1099511627776 : Int) ≠ x.r.s; omega))))
          have HRA := Lib.hid (row_of_bk (cap := cap) b5 HLE.out)
          have HKY3 : Hid (∀ q ∈ Ms.set k { x with r := { x.r with s := 1099511627776 } }, isBy q.r.key) := Lib.hid (ky_set HKY.out (HKY.out x (List.mem_of_getElem? HX.out)))
          clear k5 b5 HP4 HS4 HB4
          have p1 := HP5.out.block (i := 1) rfl
          unfold ptr at p1
          have HPB := Lib.hid (put_bad s (stE d (ptr l) 0 m) Ap.zero 0 0 _ (Ms.set k { x with r := { x.r with s := 1099511627776 } }) V5 HS5.out rfl rfl (apz_at _ _ _ _) (fun i => ⟨Int.le_refl _, by show (0 : Int) ≤ _; omega⟩) rfl HRA.out HKY3.out (by rw [HLE.out]; omega) (by rw [HLE.out]; omega) 12 HCODE.out (by decide))
          go_upto_region 24 with (go_at_call 10; refine HPB.out.mono ?_; rintro e5 V6 ⟨rfl, kk⟩)
          have HP6 := Lib.hid (HP5.out.below kk)
          have HS6 := Lib.hid (HS5.out.below kk)
          have HT6 := Lib.hid (HT5.out.below kk)
          have HB6 := Lib.hid (HB5.out.trans (kk.mono HB5.out.size))
          clear kk p1 HP5 HS5 HT5 HB5 HPB
          have p1 := HP6.out.block (i := 1) rfl
          unfold ptr at p1
          go_upto_region 25 with (go_at_call 11; refine (keys_none s _ V6 HS6.out rfl).mono ?_; rintro e6 V7 ⟨rfl, kk⟩)
          have HP7 := Lib.hid (HP6.out.below kk)
          have HS7 := Lib.hid (HS6.out.below kk)
          have HT7 := Lib.hid (HT6.out.below kk)
          have HB7 := Lib.hid (HB6.out.trans (kk.mono HB6.out.size))
          clear kk p1 HP6 HS6 HT6 HB6
          have p1 := HP7.out.block (i := 1) rfl
          unfold ptr at p1
          go_upto_region 26 with (go_at_call 12; refine (age_is s _ 0 0 V7 HS7.out rfl rfl).mono ?_; rintro e7 V8 ⟨rfl, kk⟩)
          have HT8 := Lib.hid (HT7.out.below kk)
          have HB8 := Lib.hid (HB7.out.trans (kk.mono HB7.out.size))
          clear kk p1 HP7 HS7 HT7 HB7
          go_wp2_with (go_at_call 6; refine (known16 V8 HT8.out).mono ?_; rintro ek Vk ⟨rfl, kk⟩)
          go_ret
          exact ⟨rfl, HB8.out.trans (kk.mono HB8.out.size)⟩
        · clear b3
          have HRG : Hid (V4.rangeAt g (k * 9) x.cs) := Lib.hid (fun j u hu => HBK4.out.c (k * 9 + j) u ((rowM_at HX.out j (by have := (List.getElem?_eq_some_iff.1 hu).1; simpa [Mr.cs] using this)).trans hu))
          go_upto_region 14 with fail
          refine wp_region_lit ?_
          refine wpList_plain rfl (fun KK hKK => ?_)
          go_simp
          refine hKK _ _ ?_
          refine wpList_plain rfl (fun KK hKK => ?_)
          go_simp
          refine hKK _ _ ?_
          refine wpList_plain rfl (fun KK hKK => ?_)
          go_simp
          refine hKK _ _ ?_
          refine wpList_plain rfl (fun KK hKK => ?_)
          go_simp
          refine hKK _ _ ?_
          refine wpList_load_mid rfl 46 (.tmp 74) rfl g (k * 9) (by first | rfl | simp) [.int .i64 x.r.o, .int .i64 x.r.s, .string (strB x.r.key), .int .i64 x.r.ml, .int .i64 x.r.ct, .int .i64 x.r.vo, .slice x.A x.r.val.length x.c, .bool x.r.gone, .int .i64 x.r.tt] _ HRG.out Tryz.underlying46 rfl rec_size ?_
          refine wpList_plain rfl (fun KK hKK => ?_)
          go_simp
          refine hKK _ _ ?_
          obtain ⟨VB, hV⟩ : ∃ V, V4.alloc (.cells #[.int .i64 x.r.o, .int .i64 x.r.s, .string (strB x.r.key), .int .i64 x.r.ml, .int .i64 x.r.ct, .int .i64 x.r.vo, .slice x.A x.r.val.length x.c, .bool x.r.gone, .int .i64 x.r.tt] 46) = V := ⟨_, rfl⟩
          have kb : Below V4.heap.size V4 VB := by rw [← hV]; exact (Below.refl _ _).alloc (Nat.le_refl _) _
          have bb : Bk VB V4.heap.size x.cs := by rw [← hV]; exact Bk.new V4 #[.int .i64 x.r.o, .int .i64 x.r.s, .string (strB x.r.key), .int .i64 x.r.ml, .int .i64 x.r.ct, .int .i64 x.r.vo, .slice x.A x.r.val.length x.c, .bool x.r.gone, .int .i64 x.r.tt] 46
          rw [hV]
          clear hV
          have HKB := Lib.hid kb
          have HBB := Lib.hid bb
          clear kb bb HRG
          refine wpList_plain rfl (fun KK hKK => ?_)
          refine app_rec (.tmp 71) (.tmp 76) rfl V2.heap.size (.slice (some ⟨g, 0, none⟩) L.length cap) Ms L.length HLM.out rfl ((But.of_below (S := fun _ => False) HKB.out).row HRO4.out (fun _ _ hf => hf)) ⟨V4.heap.size, 0, none⟩ 1 x rfl HBB.out.news (by omega) (by have := HKB.out.size; have := HGW.out; omega) (fun gg cap2 V5 q1 q2 q3 => ?_)
          have k5 : But (fun i => i = g) V4 V5 := (But.of_below (S := fun i => i = g) HKB.out).trans q2 (fun i _ hi => (show g = i from by simpa [Value.ownBlock] using hi).symm)
          have HLE : Hid ((Ms ++ [x]).length = L.length + 1) := Lib.hid (by rw [List.length_append, HLM.out]; rfl)
          have HRA := Lib.hid (RowAt.of (L := Ms ++ [x]) (by rw [HLE.out]; exact q1))
          clear q1 q2 q3
          refine hKK _ _ ?_
          refine wpList_plain rfl (fun KK hKK => ?_)
          go_simp
          refine hKK _ _ ?_
          refine wpList_nil ?_
          have HP5 := Lib.hid (HP4.out.but k5 (by have := HGN.out; omega))
          have HS5 := Lib.hid (HS4.out.but k5 (by have := HGN.out; omega))
          have HB5 := Lib.hid (HB4.out.trans (k5.below (fun i hi => by subst hi; have := HGN.out; omega) HB4.out.size))
          have HT5 := Lib.hid (HT.out.below HB5.out)
          clear k5 HP4 HS4 HB4
          have HE3 : Hid (((L.length : Nat) : Int) = ((L.length : Nat) : Int)) := Lib.hid rfl
          by_cases hm : 64 < L.length + 1
          · have t5 : decide ((64 : Int) < (((L.length + 1 : Nat)) : Int)) = true := by simp; omega
            have t6 : decide ((64 : Int) < (L.length : Int) + 1) = true := by simp; omega
            clear hm
            go_wp2_with (go_at_call 6; refine (known16 V5 HT5.out).mono ?_; rintro ek Vk ⟨rfl, kk⟩)
            go_ret
            exact ⟨rfl, HB5.out.trans (kk.mono HB5.out.size)⟩
          · have t5 : decide ((64 : Int) < (((L.length + 1 : Nat)) : Int)) = false := by simp; omega
            have t6 : decide ((64 : Int) < (L.length : Int) + 1) = false := by simp; omega
            have HCODE : Hid (chkC 0 0 Ap.zero ((Ms ++ [x]).map Mr.r) = 12) := Lib.hid (order_code (by rw [List.length_map, HLE.out]; omega) (by rw [List.map_append, List.all_append, HALL.out]; simp [(ok_iff _).2 HOX.out]) (by rw [List.map_append]; exact bad_more 0 0 Ap.zero (Ms.map Mr.r) k x.r HSQ.out (by simp [HX.out])))
            have HKY3 : Hid (∀ q ∈ Ms ++ [x], isBy q.r.key) := Lib.hid (fun q hq => by
              rcases List.mem_append.1 hq with hq | hq
              · exact HKY.out q hq
              · rw [List.mem_singleton.1 hq]; exact HKY.out x (List.mem_of_getElem? HX.out))
            clear hm
            go_upto_region 23 with fail
            have p1 := HP5.out.block (i := 1) rfl
            unfold ptr at p1
            have HPB := Lib.hid (put_bad s (stE d (ptr l) 0 m) Ap.zero 0 0 _ (Ms ++ [x]) V5 HS5.out rfl rfl (apz_at _ _ _ _) (fun i => ⟨Int.le_refl _, by show (0 : Int) ≤ _; omega⟩) rfl HRA.out HKY3.out (by rw [HLE.out]; omega) (by rw [HLE.out]; omega) 12 HCODE.out (by decide))
            go_upto_region 24 with (go_at_call 10; refine HPB.out.mono ?_; rintro e5 V6 ⟨rfl, kk⟩)
            have HP6 := Lib.hid (HP5.out.below kk)
            have HS6 := Lib.hid (HS5.out.below kk)
            have HT6 := Lib.hid (HT5.out.below kk)
            have HB6 := Lib.hid (HB5.out.trans (kk.mono HB5.out.size))
            clear kk p1 HP5 HS5 HT5 HB5 HPB
            have p1 := HP6.out.block (i := 1) rfl
            unfold ptr at p1
            go_upto_region 25 with (go_at_call 11; refine (keys_none s _ V6 HS6.out rfl).mono ?_; rintro e6 V7 ⟨rfl, kk⟩)
            have HP7 := Lib.hid (HP6.out.below kk)
            have HS7 := Lib.hid (HS6.out.below kk)
            have HT7 := Lib.hid (HT6.out.below kk)
            have HB7 := Lib.hid (HB6.out.trans (kk.mono HB6.out.size))
            clear kk p1 HP6 HS6 HT6 HB6
            have p1 := HP7.out.block (i := 1) rfl
            unfold ptr at p1
            go_upto_region 26 with (go_at_call 12; refine (age_is s _ 0 0 V7 HS7.out rfl rfl).mono ?_; rintro e7 V8 ⟨rfl, kk⟩)
            have HT8 := Lib.hid (HT7.out.below kk)
            have HB8 := Lib.hid (HB7.out.trans (kk.mono HB7.out.size))
            clear kk p1 HP7 HS7 HT7 HB7
            go_wp2_with (go_at_call 6; refine (known16 V8 HT8.out).mono ?_; rintro ek Vk ⟨rfl, kk⟩)
            go_ret
            exact ⟨rfl, HB8.out.trans (kk.mono HB8.out.size)⟩
  · skip
    go_wp2_with (go_at_call 6; refine (known16 V1 HT1.out).mono ?_; rintro ek Vk ⟨rfl, kk⟩)
    go_ret
    exact ⟨rfl, HB1.out.trans (kk.mono HB1.out.size)⟩
end Go.Proofs.YtpflbhcgkndpcaaGreatDoor

/- Stage 16: an argument that is a row of the law's rows (written by gen/argrw16.py). -/
namespace Go.Proofs.YtpflbhcgkndpcaaGreatDoor
open Go.ChangeShapes Go.WideShapes Go.ChangeAt Go.RowKit Go.Joins Go.Deep

theorem row_cells16 : Tryz.prog.cellsOf 72 = 6 := by kernel_rfl
/-- A row as an argument. -/
structure RwArg (w : World) (x : RwA) : Prop where
  st : RwIn w x
  by_ : isBy x.val
  vm : x.val.length ≤ maxLen
set_option maxRecDepth 100000 in
theorem row16_trod {H : Type} {enc : TypeId × Value → H} {w : World} {base : Nat} {sp : Nat → Bool} (fuel : Nat) (cs : List Value) (x : DataW H × List MemPlace) (hl : cs.length = 6) (hf : DataW.trod enc Tryz.prog w base sp true fuel 72 cs = some x) :
    ∃ a : RwA, cs = a.cs ∧ RwArg w a ∧ (∀ M, (∀ n ∈ x.1.weights Tryz.prog 72, n ≤ M) → True) := by
  match cs, hl with
  | [c0, c1, c2, c3, c4, c5], _ =>
    obtain ⟨xs, n, _, _, _, hlxs, hgxs⟩ := DataW.trod_struct Tryz.underlying72 hf
    have hlxs' : xs.length = 6 := hlxs
    have gxs0 := hgxs 0 _ rfl
    have gxs1 := hgxs 1 _ rfl
    have gxs2 := hgxs 2 _ rfl
    have gxs3 := hgxs 3 _ rfl
    have gxs4 := hgxs 4 _ rfl
    have gxs5 := hgxs 5 _ rfl
    rw [List.getElem?_eq_getElem (by omega)] at gxs0 gxs1 gxs2 gxs3 gxs4 gxs5
    have kxs0 : DataW.trod enc Tryz.prog w base sp true n 3 [c0] = some xs[0] := gxs0
    have kxs1 : DataW.trod enc Tryz.prog w base sp true n 3 [c1] = some xs[1] := gxs1
    have kxs2 : DataW.trod enc Tryz.prog w base sp true n 9 [c2] = some xs[2] := gxs2
    have kxs3 : DataW.trod enc Tryz.prog w base sp true n 42 [c3] = some xs[3] := gxs3
    have kxs4 : DataW.trod enc Tryz.prog w base sp true n 4 [c4] = some xs[4] := gxs4
    have kxs5 : DataW.trod enc Tryz.prog w base sp true n 3 [c5] = some xs[5] := gxs5
    obtain ⟨o, e0, _, _⟩ := DataW.trod_int Tryz.underlying3 kxs0
    obtain ⟨af, e1, _, _⟩ := DataW.trod_int Tryz.underlying3 kxs1
    obtain ⟨key, e2, _⟩ := DataW.trod_string Tryz.underlying9 kxs2
    obtain ⟨A, p, c, e3, hle, hmx, h1, h2, h3, _⟩ := open_bytes kxs3
    obtain ⟨g, e4, _⟩ := DataW.trod_bool Tryz.underlying4 kxs4
    obtain ⟨tt, e5, _, _⟩ := DataW.trod_int Tryz.underlying3 kxs5
    simp only [List.cons.injEq, and_true] at e0 e1 e2 e3 e4 e5
    subst e0 e1 e2 e3 e4 e5
    exact ⟨⟨o, af, key, A, p, c, g, tt⟩, rfl, ⟨⟨h1, h3⟩, h2, by show p.length ≤ maxLen; omega⟩, fun _ _ => trivial⟩
end Go.Proofs.YtpflbhcgkndpcaaGreatDoor

/- Stage 16: cards whose rows list six tables: what their worlds are. -/
namespace Go.Proofs.YtpflbhcgkndpcaaGreatDoor
open Go.ChangeShapes Go.WideShapes Go.ChangeAt Go.RowKit Go.Joins Go.Deep

theorem laidMet_tail {P : Program} {W : World} {a : String × DataW Unit} {rest : List (String × DataW Unit)} (h : laidMet P (a :: rest) W) : laidMet P rest W := by
  obtain ⟨ps, ⟨g', t', cs, fuel, p, q, hg', ht', hvar, hd, hr, hps⟩, hn, hc⟩ := h
  subst hps
  exact ⟨q, hr, (List.nodup_append.1 hn).2.1, fun b off hm => hc b off (List.mem_append_right _ hm)⟩
/-- A datum's cells. -/
def litCells : Nat → DataW Unit → List Value
  | 0, _ => []
  | _ + 1, .lit (.int k n) => [.int k n]
  | f + 1, .agg l => l.flatMap (litCells f)
  | _ + 1, _ => []
/-- A world in which a listed table holds what it is laid with. -/
def layAt (w : World) (g : Nat) (d : DataW Unit) : World := { w with heap := w.heap.modify g fun
  | .cells _ t fr => .cells (litCells 4 d).toArray t fr
  | o => o }
theorem plain_of {lk : Bool} {f0 : Nat} {fn0 : Func} {nm : String} (h1 : Tryz.prog.funcNamed nm = some f0) (h2 : Tryz.prog.funcs[f0]? = some fn0) (h3 : lk = Tryz.prog.looks []) (h4 : (fn0.params.all fun t => !Tryz.prog.wantsStandIn t) = true) (f : FuncId) (fn : Func) (hf : Tryz.pinned.checked.prog.funcNamed nm = some f) (hfn : Tryz.pinned.checked.prog.funcs[f]? = some fn) :
    lk = Tryz.pinned.checked.prog.looks [] ∧ ∀ (j : Nat) t, fn.params[j]? = some t → Tryz.pinned.checked.prog.wantsStandIn t = false := by
  obtain rfl : f = f0 := Option.some.inj ((show Tryz.prog.funcNamed nm = some f from hf).symm.trans h1)
  obtain rfl : fn = fn0 := Option.some.inj ((show Tryz.prog.funcs[f]? = some fn from hfn).symm.trans h2)
  refine ⟨h3, fun j t ht => ?_⟩
  have hm := Array.mem_of_getElem? ht
  have := Array.all_eq_true'.1 h4 t hm
  exact (show Tryz.prog.wantsStandIn t = false by simpa using this)
noncomputable def layW6 (os : Os) : World := layAt (layAt (layAt (layAt (layAt (layAt (World.holding Tryz.prog os ⟨#[], #[], []⟩) 0 Rows.laid_meridian_octet_nibbles) 2 Rows.laid_internal_strconv_uint64pow10) 5 Rows.laid_math_bits_deBruijn32tab) 6 Rows.laid_math_bits_deBruijn64tab) 4 Rows.laid_unicode_utf8_acceptRanges) 3 Rows.laid_unicode_utf8_first
end Go.Proofs.YtpflbhcgkndpcaaGreatDoor

/- Stage 16: StoreOrder: the claim. -/
namespace Go.Proofs.YtpflbhcgkndpcaaGreatDoor
open Go.ChangeShapes Go.WideShapes Go.ChangeAt Go.RowKit Go.Joins Go.Deep

theorem nib_of_laidO {W : World} (h : laidMetH Tryz.prog Rows.storeOrderRow.laid W) : Nib W :=
  Lib.tabIs_of_head (g := 0) (t := 282) (e := 238) (n := 16) (rest := [("unicode/utf8.acceptRanges", Rows.laid_unicode_utf8_acceptRanges), ("unicode/utf8.first", Rows.laid_unicode_utf8_first)]) (by kernel_rfl) (by kernel_rfl) Tryz.underlying282 Tryz.underlying238 (by kernel_rfl) (by kernel_rfl) (laidMet_tail (laidMet_tail (laidMet_tail h)))
set_option maxRecDepth 100000 in
theorem storeOrder_contract (H : Type) (enc : TypeId × Value → H) (W : World) (base : Nat) (args : Array Value) (ds gs : List (DataW H)) (before : List MemPlace)
    (hval0 : ∀ (j : Nat) t v, Tryz.f3.params[j]? = some t → args[j]? = some v → Value.okWide Tryz.prog W .any base t v)
    (hW : DataW.Whole enc Tryz.prog Tryz.f3.params.toList Rows.storeOrderSpec.vars false W args.toList ds gs before)
    (hsz0 : (DataW.weightsEach Tryz.prog (Tryz.f3.params.toList ++ (OpenSpec.ofChange Rows.storeOrderSpec).bare.plain.varTypes Tryz.prog) (ds ++ gs)).all (· ≤ reachBytes) = true) (hL : laidMetH Tryz.prog Rows.storeOrderRow.laid W) (hS : W.ShapedOpen Tryz.prog) :
    Calls Tryz.prog 3 args W fun e W' => ∃ v, e = .returned v ∧ Rows.storeOrderSpec.post enc Tryz.prog Tryz.f3 false true false false W args v W' := by
  have hval : ∀ (j : Nat) t v, Tryz.f3.params[j]? = some t → args[j]? = some v → Value.okWide Tryz.prog W .any base t v := hval0
  have hsz := hsz0
  have hW' := hW
  obtain ⟨p, q, hA0, hV, rfl, hfz, hnd⟩ := hW
  have hA : DataW.TrodAll enc Tryz.prog W 0 (fun _ => true) true Tryz.f3.params.toList args.toList ds p := hA0
  rw [Tryz.params3] at hA hval hsz
  have hsame : (Rows.storeOrderSpec.fn H (ds ++ gs)).results = [.lit (.bool true)] ∧ (Rows.storeOrderSpec.fn H (ds ++ gs)).args = ds ∧ (Rows.storeOrderSpec.fn H (ds ++ gs)).vars = [] → ∀ W', Below W.heap.size W W' → Rows.storeOrderSpec.post enc Tryz.prog Tryz.f3 false true false false W args (.bool true) W' :=
    fun h W' hb => law_post (tb := 4) hW' law_laid (by kernel_rfl) rfl Tryz.underlying4 h.1 h.2.1 rfl h.2.2 hb
  obtain ⟨v0, vs0, d0, ds0, p0, q0, hargs, rfl, rfl, h0, r0⟩ := trodAll_cons hA
  obtain ⟨v1, vs1, d1, ds1, p1, q1, rfl, rfl, rfl, h1, r1⟩ := trodAll_cons r0
  obtain ⟨v2, vs2, d2, ds2, p2, q2, rfl, rfl, rfl, h2, r2⟩ := trodAll_cons r1
  obtain ⟨rfl, rfl, rfl⟩ := trodAll_nil r2
  obtain rfl : args = #[v0, v1, v2] := by cases args; simp_all
  obtain ⟨rfl, rfl⟩ := trodVars_none hV
  have hpost := hsame ⟨rfl, rfl, rfl⟩
  clear hsame hA0 hval0 hsz0
  obtain ⟨L, A, c, rfl, s1, s2, s3, s4, s5, s6⟩ := open_rows RwA.cs 6 (by omega) RwA.len Tryz.underlying22 row_cells16 (RwArg W) (fun _ _ => True) ⟨0, 0, ⟨#[]⟩, none, [], 0, false, 0⟩ row16_trod (hval 0 22 v0 rfl rfl) h0
  obtain ⟨a1, rfl, rfl, rfl, wf1⟩ := open_int Tryz.underlying3 (hval 1 3 v1 rfl rfl) h1
  obtain ⟨a2, rfl, rfl, rfl, wf2⟩ := open_int Tryz.underlying3 (hval 2 3 v2 rfl rfl) h2
  exact (law_order A c L a1 a2 W (nib_of_laidO hL) s3 (fun x hx => (s4 x hx).st) (by have : maxLen = 9223372036854775807 := rfl; omega)).mono fun e W' ⟨he, hb⟩ => ⟨_, he, hpost W' hb⟩
theorem storeOrder_reads (os : Os) {H : Type} (enc : TypeId × Value → H) : (DataW.whole enc Tryz.prog ((layW6 os).forCall (fun _ _ => 0) ⟨#[], #[.slice none 0 0, .int .i64 0, .int .i64 0], []⟩).memory Tryz.f3.params.toList Rows.storeOrderSpec.vars false #[.slice none 0 0, .int .i64 0, .int .i64 0].toList 8).isSome = true := by kernel_rfl
theorem storeOrder_met (os : Os) : laidMet Tryz.prog Rows.storeOrderRow.laid ((layW6 os).forCall (fun _ _ => 0) ⟨#[], #[.slice none 0 0, .int .i64 0, .int .i64 0], []⟩).memory := laidMet_of_run' 8 (by kernel_rfl) (by kernel_rfl)
set_option maxRecDepth 100000 in
theorem storeOrder_lifted (os : Os) (started : os.Started) (H : Type) (enc : TypeId × Value → H) (F : Stop.Interp) :
    ReturnsInHanded {} Tryz.checked os 3 .any ((OpenSpec.ofChange Rows.storeOrderSpec).preRow enc Tryz.prog Tryz.f3 Rows.storeOrderRow.domain false Rows.storeOrderRow.laid) (((OpenSpec.ofChange Rows.storeOrderSpec).at F).post enc Tryz.prog Tryz.f3 false true false false) := by
  obtain ⟨x, hx⟩ := Option.isSome_iff_exists.1 (storeOrder_reads os enc)
  refine returnsInHanded_of_row (C := Tryz.checked) (s := OpenSpec.ofChange Rows.storeOrderSpec) law_own started (by kernel_rfl) Tryz.func3
    (witness_row_at (enc := enc) (C := Tryz.checked) false (layW6 os) #[.slice none 0 0, .int .i64 0, .int .i64 0] rfl (by kernel_rfl) (by kernel_rfl) (by kernel_rfl)
      (OpenSpec.preRow_of_cond 8 hx (by rfl) (fun k hk => by cases hk) (by kernel_rfl) (storeOrder_met os))) ?_
  intro W base args ds gs before hval hW _ _ hsz hL hS _
  exact storeOrder_contract H enc W base args ds gs before hval hW hsz hL hS
theorem storeOrder_said : Rows.StoreOrderSaid :=
  OpenClaim.holds_of_cond 3 Tryz.f3 rfl rfl rfl rfl rfl rfl rfl ⟨rfl, rfl, rfl, rfl, rfl⟩ rfl rfl rfl rfl rfl storeOrder_named Tryz.func3 storeOrder_facts storeOrder_inst storeOrder_wrap
    (fun os started H enc _ F => by rw [OpenClaim.pre_eq_preRow]; exact storeOrder_lifted os started H enc F)
theorem storeOrder_holds : Rows.StoreOrderCardSaid :=
  Claim7.holds_tied_plain_at .later [] _ _ _ _ storeOrder_said (fun _ h => by cases h) (by kernel_rfl) (fun _ h => by cases h) storeOrder_row_tie rfl ⟨rfl, rfl⟩ (by kernel_rfl) rfl (plain_of (f0 := 3) (fn0 := Tryz.f3) (by kernel_rfl) Tryz.func3 (by kernel_rfl) (by kernel_rfl)) (by kernel_rfl)
end Go.Proofs.YtpflbhcgkndpcaaGreatDoor

