/- Stage 16: Put of the one record (written by gen/pt16.py). -/
import Derived.Test.YtpflbhcgkndpcaaGreatDoorLa16
import Derived.Test.YtpflbhcgkndpcaaGreatDoorCk16
import Derived.Test.YtpflbhcgkndpcaaGreatDoorRecList
set_option linter.unusedSimpArgs false
set_option linter.unusedVariables false
namespace Go.Proofs.YtpflbhcgkndpcaaGreatDoor
open Go.RowKit

/-- The one record. -/
def rcR : Rc := ⟨0, 1, [107], 5, 0, 0, [97], false, 0⟩
theorem rcR_ok : okR rcR = true := by decide
theorem ls_one : lsV [rcR] = encN 1 ++ bodyE [rcR] ∧ lsC [rcR] = 0 := ls_yes (by simp) (fun r hr => by rw [List.mem_singleton.1 hr]; exact rcR_ok)
theorem rcR_Ok : rcR.Ok := by constructor <;> decide
theorem ls_bd : 0 < (lsV [rcR]).length ∧ (lsV [rcR]).length ≤ 2000 := by
  rw [ls_one.1, encN_low (by omega), List.length_append]
  have := bodyE_len [rcR] (fun r hr => by rw [List.mem_singleton.1 hr]; exact rcR_Ok)
  simp at this ⊢
  omega
theorem ls_by : isBy (lsV [rcR]) := by
  rw [ls_one.1]
  refine isBy_append (encN_by 1) ?_
  have e : bodyE [rcR] = encN (encR rcR).length ++ encR rcR := by simp [bodyE]
  rw [e]
  exact isBy_append (encN_by _) (encR_by rcR (fun b hb => by rw [List.mem_singleton.1 hb]; omega) (fun b hb => by rw [List.mem_singleton.1 hb]; omega))
set_option maxRecDepth 100000 in
set_option maxHeartbeats 8000000 in
theorem put_one (s l d m g : Nat) (A : Option Addr) (c c1 : Nat) (w : World) (ht : Nib w) (hs : Bk w s (stE d (ptr l) 0 m)) (hl : Bk w l (lgE d)) (hd : Bk w d (dkE 1048576)) (hm : w.heap[m]? = some (.map #[] 0)) (hg : w.rangeAt g 0 (rc1 A c)) (hgl : g < w.heap.size) (hp : ByL w A [97]) (hne : l ≠ d ∧ s ≠ l ∧ s ≠ d ∧ s ≠ m ∧ m ≠ l ∧ m ≠ d ∧ g ≠ s ∧ g ≠ l ∧ g ≠ d) (hA : ∀ ad, A = some ad → ad.block ≠ m ∧ ad.block ≠ s ∧ ad.block ≠ l ∧ ad.block ≠ d) : Calls Tryz.prog 10 #[.pointer (some ⟨s, 0, none⟩), .slice (some ⟨g, 0, none⟩) 1 c1] w fun e w' => e = .returned (.int .i64 0) ∧ LaOk s m w w' ∧ But (fun i => i = l ∨ i = d ∨ i = s ∨ i = m) w w' := by
  have HT := Lib.hid ht
  have HS := Lib.hid hs
  have HL := Lib.hid hl
  have HD := Lib.hid hd
  have HM := Lib.hid hm
  have HG := Lib.hid hg
  have HP := Lib.hid hp
  have HN := Lib.hid hne
  have HA := Lib.hid hA
  have HGL := Lib.hid hgl
  have s26 := hs.block (i := 26) rfl
  clear ht hs hl hd hm hg hgl hp hne hA
  have HCK := Lib.hid (check_one s d (ptr l) 0 m g A c c1 w HS.out HG.out HGL.out)
  go_enter Tryz.func10, Tryz.ntmps10
  go_upto_region 10 with (go_at_call 27; refine HCK.out.mono ?_; rintro e1 V1 ⟨rfl, k⟩)
  clear s26 HCK
  have HT1 := Lib.hid (HT.out.below k)
  have HS1 := Lib.hid (HS.out.below k)
  have HL1 := Lib.hid (HL.out.below k)
  have HD1 := Lib.hid (HD.out.below k)
  have HM1 := Lib.hid (map_but (S := fun _ => False) HM.out (But.of_below k) (fun q => q))
  have HG1 := Lib.hid (And.intro (rng_below HG.out k HGL.out) (Nat.lt_of_lt_of_le HGL.out k.size))
  have HP1 := Lib.hid (HP.out.below k)
  have HB1 := Lib.hid k
  have HMA : Hid (A = none → ([97] : List Int).length = 0) := Lib.hid (fun e => by obtain ⟨B, O, q, _⟩ := HP.out (by decide); exact absurd (e.symm.trans q) (by simp))
  clear k HT HS HL HD HM HG HP
  have HRL := Lib.hid (rec_list (.slice (some ⟨g, 0, none⟩) 1 c1) [⟨rcR, A, c⟩] V1 ⟨_, c1, rfl, fun _ => ⟨g, 0, rfl, HG1.out.2, fun j u hu => HG1.out.1 j u (by rw [← hu]; rfl)⟩⟩ (fun x hx => by rw [List.mem_singleton.1 hx]; exact ⟨HP1.out, HMA.out, fun _ _ _ => trivial⟩) (fun x hx => by rw [List.mem_singleton.1 hx]; exact (fun b hb => by rw [List.mem_singleton.1 hb]; omega)) (by simp))
  go_upto_region 13 with (go_at_call 28; refine HRL.out.mono ?_; rintro e2 V2 ⟨⟨LA, lc, he2, hlb, _, _, _⟩, k⟩; obtain rfl := he2)
  have HLB := Lib.hid hlb
  clear hlb HRL
  have HT2 := Lib.hid (HT1.out.below k)
  have HS2 := Lib.hid (HS1.out.below k)
  have HL2 := Lib.hid (HL1.out.below k)
  have HD2 := Lib.hid (HD1.out.below k)
  have HM2 := Lib.hid (map_but (S := fun _ => False) HM1.out (But.of_below k) (fun q => q))
  have HG2 := Lib.hid (And.intro (rng_below HG1.out.1 k HG1.out.2) (Nat.lt_of_lt_of_le HG1.out.2 k.size))
  have HP2 := Lib.hid (HP1.out.below k)
  have HB2 := Lib.hid (HB1.out.trans (k.mono HB1.out.size))
  clear k HT1 HS1 HL1 HD1 HM1 HG1 HP1 HB1
  have HLS := Lib.hid ls_bd
  have HLY := Lib.hid ls_by
  obtain ⟨bs, hbs⟩ : ∃ bs, lsV [rcR] = bs := ⟨_, rfl⟩
  rw [show List.map Mr.r [(⟨rcR, A, c⟩ : Mr)] = [rcR] from rfl] at HLB
  (try rw [show List.map Mr.r [(⟨rcR, A, c⟩ : Mr)] = [rcR] from rfl])
  rw [hbs] at HLB HLS HLY
  (try rw [hbs])
  clear hbs
  refine wp_region_lit ?_
  refine wpList_plain rfl (fun KK hKK => ?_)
  go_simp
  refine hKK _ _ ?_
  refine wpList_plain rfl (fun KK hKK => ?_)
  go_simp
  refine hKK _ _ ?_
  obtain ⟨V3, hV⟩ : ∃ V, V2.alloc (.cells #[.int .u8 1] 5) = V := ⟨_, rfl⟩
  have k : Below V2.heap.size V2 V3 := by rw [← hV]; exact (Below.refl _ _).alloc (Nat.le_refl _) _
  have b1 : Bk V3 V2.heap.size [.int .u8 1] := by rw [← hV]; exact Bk.new V2 #[.int .u8 1] 5
  rw [hV]
  clear hV
  have HB1' := Lib.hid b1
  have HLB3 := Lib.hid (HLB.out.below k)
  clear b1 HLB
  have HT3 := Lib.hid (HT2.out.below k)
  have HS3 := Lib.hid (HS2.out.below k)
  have HL3 := Lib.hid (HL2.out.below k)
  have HD3 := Lib.hid (HD2.out.below k)
  have HM3 := Lib.hid (map_but (S := fun _ => False) HM2.out (But.of_below k) (fun q => q))
  have HG3 := Lib.hid (And.intro (rng_below HG2.out.1 k HG2.out.2) (Nat.lt_of_lt_of_le HG2.out.2 k.size))
  have HP3 := Lib.hid (HP2.out.below k)
  have HB3 := Lib.hid (HB2.out.trans (k.mono HB2.out.size))
  clear k HT2 HS2 HL2 HD2 HM2 HG2 HP2 HB2
  generalize V2.heap.size = o1 at *
  refine wpList_plain rfl (fun KK hKK => ?_)
  go_simp
  refine hKK _ _ ?_
  refine wpList_plain rfl (fun KK hKK => ?_)
  go_simp
  refine hKK _ _ ?_
  obtain ⟨V4, hV⟩ : ∃ V, V3.alloc (.cells #[.slice (some ⟨o1, 0, none⟩) 1 1, .slice LA bs.length lc] 42) = V := ⟨_, rfl⟩
  have k : Below V3.heap.size V3 V4 := by rw [← hV]; exact (Below.refl _ _).alloc (Nat.le_refl _) _
  have b2 : Bk V4 V3.heap.size [.slice (some ⟨o1, 0, none⟩) 1 1, .slice LA bs.length lc] := by rw [← hV]; exact Bk.new V3 #[.slice (some ⟨o1, 0, none⟩) 1 1, .slice LA bs.length lc] 42
  rw [hV]
  clear hV
  have HB2' := Lib.hid b2
  have HLB4 := Lib.hid (HLB3.out.below k)
  have HB14 := Lib.hid (HB1'.out.below k)
  clear b2 HLB3 HB1'
  have HT4 := Lib.hid (HT3.out.below k)
  have HS4 := Lib.hid (HS3.out.below k)
  have HL4 := Lib.hid (HL3.out.below k)
  have HD4 := Lib.hid (HD3.out.below k)
  have HM4 := Lib.hid (map_but (S := fun _ => False) HM3.out (But.of_below k) (fun q => q))
  have HG4 := Lib.hid (And.intro (rng_below HG3.out.1 k HG3.out.2) (Nat.lt_of_lt_of_le HG3.out.2 k.size))
  have HP4 := Lib.hid (HP3.out.below k)
  have HB4 := Lib.hid (HB3.out.trans (k.mono HB3.out.size))
  clear k HT3 HS3 HL3 HD3 HM3 HG3 HP3 HB3
  have HV34 : Hid (V3.heap.size < V4.heap.size) := Lib.hid HB2'.out.lt
  have HSZ : Hid (l < V4.heap.size ∧ d < V4.heap.size) := Lib.hid ⟨HL4.out.lt, HD4.out.lt⟩
  refine wpList_plain rfl (fun KK hKK => ?_)
  go_simp
  (go_at_call 30; refine (oct_join2 V3.heap.size 2 1 lc (1 + bs.length) (some ⟨o1, 0, none⟩) LA [1] bs V4 HB2'.out.lt (HB2'.out.block (i := 0) rfl) (HB2'.out.block (i := 1) rfl) (fun _ => ⟨o1, 0, rfl, HB14.out.lt, fun j u hu => by rw [Nat.zero_add]; match j, hu with | 0, hu => injection hu with hu; subst hu; exact HB14.out.block (i := 0) rfl⟩) (by simp) HLB4.out HLS.out.1 rfl (by have := HLS.out; omega)).mono ?_; rintro e3 V5 ⟨⟨g2, cap2, rfl, hrow⟩, k⟩)
  have HBY5 := Lib.hid hrow.by_
  have HGE : Hid (V4.heap.size ≤ g2) := Lib.hid hrow.ge.1
  have hlen : 1 + bs.length = ([1] ++ bs : List Int).length := hrow.len.symm
  rw [hlen]
  clear hrow hlen HB2' HLB4 HB14
  have HT5 := Lib.hid (HT4.out.below k)
  have HS5 := Lib.hid (HS4.out.below k)
  have HL5 := Lib.hid (HL4.out.below k)
  have HD5 := Lib.hid (HD4.out.below k)
  have HM5 := Lib.hid (map_but (S := fun _ => False) HM4.out (But.of_below k) (fun q => q))
  have HG5 := Lib.hid (And.intro (rng_below HG4.out.1 k HG4.out.2) (Nat.lt_of_lt_of_le HG4.out.2 k.size))
  have HP5 := Lib.hid (HP4.out.below k)
  have HB5 := Lib.hid (HB4.out.trans (k.mono HB4.out.size))
  clear k HT4 HS4 HL4 HD4 HM4 HG4 HP4 HB4
  refine hKK _ _ ?_
  refine wpList_plain rfl (fun KK hKK => ?_)
  go_simp
  have HSW := Lib.hid (swrite_first s l d m (some ⟨g2, 0, none⟩) ([1] ++ bs) cap2 V5 HT5.out HS5.out HL5.out HD5.out HBY5.out (isBy_append (fun b hb => by rw [List.mem_singleton.1 hb]; omega) HLY.out) (by simp) (by have := HLS.out; simp; omega) ⟨HN.out.1, HN.out.2.1, HN.out.2.2.1⟩ (fun ad e => by injection e with e; subst e; have := HGE.out; have := HSZ.out; show g2 ≠ l ∧ g2 ≠ d; omega))
  (go_at_call 29; refine HSW.out.mono ?_; rintro e4 V6 ⟨rfl, hs6, k⟩)
  have HS6 := Lib.hid hs6
  have HM6 := Lib.hid (map_but HM5.out k (by have := HN.out; omega))
  have HG6 := Lib.hid (And.intro (show V6.rangeAt g 0 (rc1 A c) from fun j u hu => (k.cell g _ HG5.out.2 (by have := HN.out; omega)).trans (HG5.out.1 j u hu)) (Nat.lt_of_lt_of_le HG5.out.2 k.size))
  have HP6 := Lib.hid (HP5.out.off16 k (fun ad e q => by have := HA.out ad e; omega))
  have HU6 := Lib.hid ((But.of_below (S := fun i => i = l ∨ i = d ∨ i = s ∨ i = m) HB5.out).trans k (fun i _ e => by rcases e with e | e | e; exact Or.inl e; exact Or.inr (Or.inl e); exact Or.inr (Or.inr (Or.inl e))))
  have HSZ6 : Hid (w.heap.size ≤ V6.heap.size) := Lib.hid (Nat.le_trans HB5.out.size k.size)
  clear hs6 k HT5 HS5 HL5 HD5 HM5 HG5 HP5 HB5 HSW HBY5
  refine hKK _ _ ?_
  refine wpList_plain rfl (fun KK hKK => ?_)
  go_simp
  refine hKK _ _ ?_
  refine wpList_nil ?_
  have HLA := Lib.hid (lay_first s l d m g A c c1 V6 HS6.out HM6.out HG6.out.1 HG6.out.2 HP6.out (by have := HN.out; omega) (fun ad e q => (HA.out ad e).1 q) (fun ad e q => (HA.out ad e).2.1 q))
  go_wp2_with (go_at_call 31; refine HLA.out.mono ?_; rintro e5 V7 ⟨rfl, hla, k⟩)
  go_ret
  obtain ⟨vb, ch, v', A', c', Q, cs, q1, q2, q3, q4, q5, q6, q7, q8, q9⟩ := hla
  exact ⟨rfl, ⟨vb, ch, v', A', c', Q, cs, q1, (fun i hi => Nat.le_trans HSZ6.out (q2 i hi)), q3, q4, q5, q6, q7, q8, Nat.le_trans HSZ6.out q9⟩, HU6.out.trans k (fun i _ e => by rcases e with e | e; exact Or.inr (Or.inr (Or.inl e)); exact Or.inr (Or.inr (Or.inr e)))⟩
end Go.Proofs.YtpflbhcgkndpcaaGreatDoor
