/- Stage 16: Sync of the one file of a disk (written by gen/ds16.py). -/
import Derived.Test.YtpflbhcgkndpcaaGreatDoorG16c
import Derived.Test.YtpflbhcgkndpcaaGreatDoorOctMem
import Derived.Deep.AppendLies
import Derived.Test.YtpflbhcgkndpcaaGreatDoorCmpL
/- Stage 16: the first Write into an empty disk, and Sync of that file (written by gen/dw16.py). -/
set_option linter.unusedSimpArgs false
set_option linter.unusedVariables false
namespace Go.Proofs.YtpflbhcgkndpcaaGreatDoor
open Go.RowKit

/-- A block whose first cell is known and may be written. -/
structure Bk1 (w : World) (g : Nat) (v : Value) : Prop where
  c : w.cell? ⟨g, 0, none⟩ = some v
  fz : w.frozen? ⟨g, 0, none⟩ = false
  lt : g < w.heap.size
theorem Bk1.but {S : Nat → Prop} {w w' : World} {g : Nat} {v : Value} (h : Bk1 w g v) (k : But S w w') (hs : ¬ S g) : Bk1 w' g v := ⟨(k.cell g 0 h.lt hs).trans h.c, (k.frozen g 0 h.lt hs).trans h.fz, Nat.lt_of_lt_of_le h.lt k.size⟩
theorem Bk1.below {w w' : World} {g : Nat} {v : Value} (h : Bk1 w g v) (k : Below w.heap.size w w') : Bk1 w' g v := h.but (S := fun _ => False) (But.of_below k) (fun q => q)
theorem own_ge16 {w : World} {base n g c : Nat} {e : TypeId} {size : Nat} {xs : List Value} (h : w.ownsRow base e size (.slice (some ⟨g, 0, none⟩) n c) n xs) : base ≤ g := (World.ownsRow.lt h g rfl).1
theorem bk1_own {w : World} {base g c : Nat} {e : TypeId} {v : Value} (h : w.ownsRow base e 1 (.slice (some ⟨g, 0, none⟩) (0 + 1) c) (0 + 1) ([] ++ [v])) : Bk1 w g v := by
  refine ⟨?_, ?_, (World.ownsRow.lt h g rfl).2⟩
  · have := World.ownsRow.cells h (g := g) rfl 0 v rfl
    simpa [Addr.add] using this
  · rcases h.2 with ⟨q, _⟩ | ⟨g', cap, cur, q, hb, hh, h1, h2, h3, h4⟩
    · cases q
    · injection q with q1 q2 q3
      injection q1 with q1
      injection q1 with q1
      subst q1
      simp [World.frozen?, hh]
set_option maxRecDepth 100000 in
theorem fil_info : (Tryz.prog.info? 204).map (fun i => (i.zero, i.size, i.bytes)) = some (some (.pointer none), 1, 8) := by kernel_rfl
theorem fil_ins (v : Value) (hv : v.oneCell' = true) (b : Nat) (w : World) (hb : w.cell? ⟨b, 0, none⟩ = some v) : Calls Tryz.prog 158 #[.slice none 0 0, .int .i64 0, .slice (some ⟨b, 0, none⟩) 1 1] w fun e w' => (∃ g c, e = .returned (.slice (some ⟨g, 0, none⟩) 1 c) ∧ w.heap.size ≤ g ∧ Bk1 w' g v) ∧ Below w.heap.size w w' := by
  obtain ⟨i0, hi0, hz0, hz1, hz2⟩ := info_parts fil_info
  have HB := Lib.hid hb
  clear hb
  go_enter Tryz.func158, Tryz.ntmps158
  go_upto_region 7 with fail
  refine wp_region_lit ?_
  refine wpList_plain rfl (fun KK hKK => ?_)
  go_simp
  refine hKK _ _ ?_
  refine wpList_plain rfl (fun KK hKK => ?_)
  go_simp
  refine hKK _ _ ?_
  refine wpList_append_lies _ rfl (.tmp 23) (.tmp 24) _ rfl w.heap.size 204 i0 _ 1 8 Tryz.underlying127 hi0 hz0 hz1 hz2 rfl (by decide) (.slice none 0 0) 0 [] rfl (World.ownsRow_nil _ _ _ _) ⟨b, 0, none⟩ 1 1 [v] rfl rfl (fun j u hu => by
    match j, hu with
    | 0, hu => cases hu; rw [Addr.add_mid]; exact HB.out) (by intro u hu; rw [List.mem_singleton.1 hu]; exact hv) (by omega) (by unfold maxLen; omega) (by omega) (Nat.le_refl _) _ rfl ?_
  intro g c w1 hown hg hat hlt
  have HO := Lib.hid hown
  have HG := Lib.hid hg
  clear hown hg hat hlt
  refine wpList_plain rfl (fun KK hKK => ?_)
  go_simp
  refine hKK _ _ ?_
  refine wpList_nil ?_
  go_wp2_with fail
  go_ret
  exact ⟨⟨g, c, rfl, own_ge16 HO.out, bk1_own HO.out⟩, (Below.refl _ _).grown HG.out (Nat.le_refl _) (fun i hi => by cases hi)⟩
set_option maxRecDepth 100000 in
theorem str_info : (Tryz.prog.info? 9).map (fun i => (i.zero, i.size, i.bytes)) = some (some (.string ⟨#[]⟩), 1, 16) := by kernel_rfl
theorem str_ins (v : Value) (hv : v.oneCell' = true) (b : Nat) (w : World) (hb : w.cell? ⟨b, 0, none⟩ = some v) : Calls Tryz.prog 112 #[.slice none 0 0, .int .i64 0, .slice (some ⟨b, 0, none⟩) 1 1] w fun e w' => (∃ g c, e = .returned (.slice (some ⟨g, 0, none⟩) 1 c) ∧ w.heap.size ≤ g ∧ Bk1 w' g v) ∧ Below w.heap.size w w' := by
  obtain ⟨i0, hi0, hz0, hz1, hz2⟩ := info_parts str_info
  have HB := Lib.hid hb
  clear hb
  go_enter Tryz.func112, Tryz.ntmps112
  go_upto_region 7 with fail
  refine wp_region_lit ?_
  refine wpList_plain rfl (fun KK hKK => ?_)
  go_simp
  refine hKK _ _ ?_
  refine wpList_plain rfl (fun KK hKK => ?_)
  go_simp
  refine hKK _ _ ?_
  refine wpList_append_lies _ rfl (.tmp 23) (.tmp 24) _ rfl w.heap.size 9 i0 _ 1 16 Tryz.underlying49 hi0 hz0 hz1 hz2 rfl (by decide) (.slice none 0 0) 0 [] rfl (World.ownsRow_nil _ _ _ _) ⟨b, 0, none⟩ 1 1 [v] rfl rfl (fun j u hu => by
    match j, hu with
    | 0, hu => cases hu; rw [Addr.add_mid]; exact HB.out) (by intro u hu; rw [List.mem_singleton.1 hu]; exact hv) (by omega) (by unfold maxLen; omega) (by omega) (Nat.le_refl _) _ rfl ?_
  intro g c w1 hown hg hat hlt
  have HO := Lib.hid hown
  have HG := Lib.hid hg
  clear hown hg hat hlt
  refine wpList_plain rfl (fun KK hKK => ?_)
  go_simp
  refine hKK _ _ ?_
  refine wpList_nil ?_
  go_wp2_with fail
  go_ret
  exact ⟨⟨g, c, rfl, own_ge16 HO.out, bk1_own HO.out⟩, (Below.refl _ _).grown HG.out (Nat.le_refl _) (fun i hi => by cases hi)⟩
theorem ready_ok (d : Nat) (a b : Value) (u : Int) (lf : Value) (n : ByteArray) (g : Nat) (w : World) (hd : Bk w d [a, b, .int .i64 u, .bool false, lf]) (hg : w.cell? ⟨g, 0, none⟩ = some (.string n)) (h1 : 1 ≤ n.size) (h2 : n.size ≤ 64) : Calls Tryz.prog 77 #[.pointer (some ⟨d, 0, none⟩), .slice (some ⟨g, 0, none⟩) 1 1] w fun e w' => e = .returned (.int .i64 0) ∧ w' = w := by
  have c3 := hd.block (i := 3) rfl
  have t1 : decide ((n.size : Int) < 1) = false := by simp; omega
  have t2 : decide (64 < (n.size : Int)) = false := by simp; omega
  clear hd
  go_enter Tryz.func77, Tryz.ntmps77
  go_wp2_with fail
  refine wp_loop_rounds 2 ?_
  rw [rounds_succ]
  go_wp2_with fail
  rw [rounds_succ]
  go_wp2_with fail
  go_ret
  exact ⟨rfl, rfl⟩
theorem done_ok (d : Nat) (a b : Value) (u : Int) (lf : Value) (w : World) (hd : Bk w d [a, b, .int .i64 u, .bool false, lf]) : Calls Tryz.prog 79 #[.pointer (some ⟨d, 0, none⟩)] w fun e w' => e = .returned (.int .i64 0) ∧ w' = w := by
  have c3 := hd.block (i := 3) rfl
  clear hd
  go_enter Tryz.func79, Tryz.ntmps79
  go_wp2_with fail
  go_ret
  exact ⟨rfl, rfl⟩
end Go.Proofs.YtpflbhcgkndpcaaGreatDoor

/- Stage 16: the first Write into an empty disk, and Sync of that file (written by gen/dw16b.py). -/
namespace Go.Proofs.YtpflbhcgkndpcaaGreatDoor
open Go.RowKit

/-- The cells of a disk with one file of so many bytes. -/
def dk1 (fr cap n : Nat) : List Value := [.int .i64 1048576, .slice (some ⟨fr, 0, none⟩) 1 cap, .int .i64 (n : Int), .bool false, .int .i64 0]
theorem ByL.off16 {S : Nat → Prop} {w w' : World} {A : Option Addr} {p : List Int} (h : ByL w A p) (k : But S w w') (hs : ∀ ad, A = some ad → ¬ S ad.block) : ByL w' A p := fun h0 => by
  obtain ⟨B, O, h1, h2, h3⟩ := h h0
  exact ⟨B, O, h1, Nat.lt_of_lt_of_le h2 k.size, fun j u hu => (k.cell B _ h2 (hs _ h1)).trans (h3 j u hu)⟩
set_option maxRecDepth 100000 in
set_option maxHeartbeats 8000000 in
theorem write_first (d : Nat) (n : ByteArray) (A : Option Addr) (p : List Int) (c : Nat) (w : World) (hd : Bk w d (dkE 1048576)) (h1 : 1 ≤ n.size) (h2 : n.size ≤ 64) (hp : ByL w A p) (hp0 : 0 < p.length) (hl : p.length ≤ 1000000) (hbd : ∀ ad, A = some ad → ¬ ad.block = d) : Calls Tryz.prog 109 #[.pointer (some ⟨d, 0, none⟩), .string n, .slice A p.length c] w fun e w' => (∃ fr cap f A' c', e = .returned (.int .i64 0) ∧ Bk w' d (dk1 fr cap p.length) ∧ Bk1 w' fr (ptr f) ∧ Bk w' f [.string n, .slice A' p.length c', .int .i64 0] ∧ w.heap.size ≤ f ∧ f < fr) ∧ But (fun i => i = d) w w' := by
  obtain ⟨i0, hi0, hz0, hz1, hz2⟩ := info_parts u8_info
  obtain ⟨B, O, rfl, hB, hc⟩ := hp hp0
  have HP := Lib.hid hp
  have HD := Lib.hid hd
  have H12 := Lib.hid (And.intro h1 h2)
  have HL := Lib.hid (And.intro hp0 hl)
  have HBD := Lib.hid hbd
  clear hd hp hB hc h1 h2 hp0 hl hbd
  go_enter Tryz.func109, Tryz.ntmps109
  go_upto_region 1 with fail
  refine wp_region_lit ?_
  refine wpList_plain rfl (fun KK hKK => ?_)
  go_simp
  refine hKK _ _ ?_
  refine wpList_plain rfl (fun KK hKK => ?_)
  go_simp
  refine hKK _ _ ?_
  refine wpList_plain rfl (fun KK hKK => ?_)
  go_simp
  refine hKK _ _ ?_
  obtain ⟨V1, hV⟩ : ∃ V, w.alloc (.cells #[.string n] 9) = V := ⟨_, rfl⟩
  have k1 : Below w.heap.size w V1 := by rw [← hV]; exact (Below.refl _ _).alloc (Nat.le_refl _) _
  have n1 : V1.cell? ⟨w.heap.size, 0, none⟩ = some (.string n) := by rw [← hV]; exact (Bk.new w #[.string n] 9).block (i := 0) rfl
  rw [hV]
  clear hV
  have HD1 := Lib.hid (HD.out.below k1)
  have HP1 := Lib.hid (HP.out.below k1)
  have HB1 := Lib.hid k1
  have HN1 := Lib.hid n1
  clear k1 n1
  refine wpList_plain rfl (fun KK hKK => ?_)
  go_simp
  (go_at_call 77; refine (ready_ok d _ _ 0 _ n w.heap.size V1 HD1.out HN1.out H12.out.1 H12.out.2).mono ?_; rintro e1 V2 ⟨rfl, rfl⟩)
  refine hKK _ _ ?_
  refine wpList_plain rfl (fun KK hKK => ?_)
  go_simp
  refine hKK _ _ ?_
  refine wpList_nil ?_
  go_upto_region 5 with (go_at_call 120; refine (find_none d 1048576 n V2 HD1.out).mono ?_; rintro e1 V3 ⟨rfl, rfl⟩)
  have c0 := HD1.out.block (i := 0) rfl
  have c1 := HD1.out.block (i := 1) rfl
  have c2 := HD1.out.block (i := 2) rfl
  have t1 : decide ((1048576 : Int) < (p.length : Int)) = false := by have := HL.out; simp; omega
  go_quiet (fail)
  clear c0 c1 c2 t1
  obtain ⟨V4, hV⟩ : ∃ V, V3.drewN nq = V := ⟨_, rfl⟩
  have k4 : Below V3.heap.size V3 V4 := by rw [← hV]; (repeat' (first | (with_reducible exact Below.refl _ _) | (with_reducible assumption) | (with_reducible refine Below.trans ?_ (Below.mono (by with_reducible assumption) ?_)) | (with_reducible refine Below.alloc ?_ ?_ _) | (with_reducible refine Below.setCell ?_ ?_ _) | (with_reducible refine below_drewN ?_ _) | (with_reducible refine Below.drew ?_) | go_size))
  rw [hV]
  clear hV
  have HD4 := Lib.hid (HD1.out.below k4)
  have HP4 := Lib.hid (HP1.out.below k4)
  have HB4 := Lib.hid (HB1.out.trans (k4.mono HB1.out.size))
  clear k4 HD1 HP1 HB1 HN1
  have c1 := HD4.out.block (i := 1) rfl
  go_upto_region 8 with fail
  clear c1
  refine wp_region_lit ?_
  refine wpList_plain rfl (fun KK hKK => ?_)
  go_simp
  refine hKK _ _ ?_
  refine wpList_plain rfl (fun KK hKK => ?_)
  go_simp
  refine hKK _ _ ?_
  refine wpList_plain rfl (fun KK hKK => ?_)
  go_simp
  refine hKK _ _ ?_
  have c1 := HD4.out.block (i := 1) rfl
  refine wpList_plain rfl (fun KK hKK => ?_)
  go_simp
  refine hKK _ _ ?_
  refine wpList_plain rfl (fun KK hKK => ?_)
  go_simp
  refine hKK _ _ ?_
  refine wpList_plain rfl (fun KK hKK => ?_)
  go_simp
  refine hKK _ _ ?_
  refine wpList_plain rfl (fun KK hKK => ?_)
  go_simp
  refine hKK _ _ ?_
  refine wpList_plain rfl (fun KK hKK => ?_)
  go_simp
  refine hKK _ _ ?_
  refine wpList_plain rfl (fun KK hKK => ?_)
  go_simp
  refine hKK _ _ ?_
  refine wpList_plain rfl (fun KK hKK => ?_)
  go_simp
  refine hKK _ _ ?_
  clear c1
  obtain ⟨V5, hV⟩ : ∃ V, V4.alloc (.cells #[.string n, .slice none 0 0, .int .i64 0] 203) = V := ⟨_, rfl⟩
  have k5 : Below V4.heap.size V4 V5 := by rw [← hV]; exact (Below.refl _ _).alloc (Nat.le_refl _) _
  have b5 : Bk V5 V4.heap.size [.string n, .slice none 0 0, .int .i64 0] := by rw [← hV]; exact Bk.new V4 #[.string n, .slice none 0 0, .int .i64 0] 203
  have z5 : V5.heap.size = V4.heap.size + 1 := by rw [← hV]; simp
  rw [hV]
  clear hV
  obtain ⟨V6, hV⟩ : ∃ V, V5.alloc (.cells #[.pointer (some ⟨V4.heap.size, 0, none⟩)] 204) = V := ⟨_, rfl⟩
  have k6 : Below V5.heap.size V5 V6 := by rw [← hV]; exact (Below.refl _ _).alloc (Nat.le_refl _) _
  have b6 : V6.cell? ⟨V5.heap.size, 0, none⟩ = some (.pointer (some ⟨V4.heap.size, 0, none⟩)) := by rw [← hV]; exact (Bk.new V5 #[.pointer (some ⟨V4.heap.size, 0, none⟩)] 204).block (i := 0) rfl
  (try rw [← z5])
  rw [hV]
  clear hV
  have HD6 := Lib.hid ((HD4.out.below k5).below k6)
  have HP6 := Lib.hid ((HP4.out.below k5).below k6)
  have HB6 := Lib.hid ((HB4.out.trans (k5.mono HB4.out.size)).trans (k6.mono (Nat.le_trans HB4.out.size k5.size)))
  have HF6 := Lib.hid (b5.below k6)
  have HR6 := Lib.hid b6
  have HFL : Hid (w.heap.size ≤ V4.heap.size ∧ d < V4.heap.size ∧ V4.heap.size < V6.heap.size) := Lib.hid ⟨HB4.out.size, HD4.out.lt, by have := k6.size; omega⟩
  clear k5 k6 b5 b6 z5 HD4 HP4 HB4
  generalize V4.heap.size = f at *
  generalize V5.heap.size = rr at *
  refine wpList_plain rfl (fun KK hKK => ?_)
  go_simp
  (go_at_call 158; refine (fil_ins (.pointer (some ⟨f, 0, none⟩)) rfl rr V6 HR6.out).mono ?_; rintro e1 V7 ⟨⟨fr, cap, rfl, hge, hfr⟩, k7⟩)
  have HD7 := Lib.hid (HD6.out.below k7)
  have HP7 := Lib.hid (HP6.out.below k7)
  have HB7 := Lib.hid (HB6.out.trans (k7.mono HB6.out.size))
  have HF7 := Lib.hid (HF6.out.below k7)
  have HFR7 := Lib.hid hfr
  have HLT : Hid (f < fr) := Lib.hid (by have := HFL.out; omega)
  clear k7 hge hfr HD6 HP6 HB6 HF6 HR6
  refine hKK _ _ ?_
  refine wpList_plain rfl (fun KK hKK => ?_)
  go_simp
  refine hKK _ _ ?_
  refine wpList_plain rfl (fun KK hKK => ?_)
  go_simp
  refine hKK _ _ ?_
  have c1 := HD7.out.block (i := 1) rfl
  have f1 := HD7.out.fz 1
  refine wpList_plain rfl (fun KK hKK => ?_)
  go_simp
  refine hKK _ _ ?_
  clear c1 f1
  refine wpList_nil ?_
  obtain ⟨V8, hV⟩ : ∃ V, V7.setCell ⟨d, 1, none⟩ (.slice (some ⟨fr, 0, none⟩) 1 cap) = V := ⟨_, rfl⟩
  have k8 : But (fun i => i = d) V7 V8 := by rw [← hV]; exact (But.refl (fun i => i = d) V7).setCell (p := ⟨d, 1, none⟩) (fun _ => rfl) _
  have HD8 : Hid (Bk V8 d (dk1 fr cap 0)) := Lib.hid (by rw [← hV]; exact HD7.out.set 1 (by simp [dkE]) _)
  rw [hV]
  clear hV
  have HF8 := Lib.hid (HF7.out.but k8 (by have := HFL.out; omega))
  have HFR8 := Lib.hid (HFR7.out.but k8 (by have := HFL.out; have := HLT.out; omega))
  have HU8 : Hid (But (fun i => i = d) w V8) := Lib.hid ((But.of_below (S := fun i => i = d) HB7.out).trans k8 (fun i _ hi => hi))
  have HP8 := Lib.hid (HP.out.off16 HU8.out (HBD.out))
  clear k8 HD7 HP7 HB7 HF7 HFR7
  go_upto_region 9 with fail
  refine wp_region_held_drew (S := fun w' => w'.cell? ⟨d, 1, none⟩ = some (.slice (some ⟨fr, 0, none⟩) 1 cap) ∧ w'.cell? ⟨fr, 0, none⟩ = some (.pointer (some ⟨f, 0, none⟩))) (by kernel_rfl) ?_ (fun hHeld => ?_)
  · exact ⟨HD8.out.block (i := 1) rfl, HFR8.out.c⟩
  have kd : Below V8.heap.size V8 V8.drew := (Below.refl _ _).drew
  obtain ⟨V9, hV9⟩ : ∃ V, V8.drew = V := ⟨_, rfl⟩
  rw [hV9] at kd hHeld ⊢
  clear hV9
  have HD9 := Lib.hid (HD8.out.below kd)
  have HF9 := Lib.hid (HF8.out.below kd)
  have HFR9 := Lib.hid (HFR8.out.below kd)
  have HU9 := Lib.hid (HU8.out.next kd)
  have HP9 := Lib.hid (HP8.out.below kd)
  clear kd HD8 HF8 HFR8 HU8 HP8
  refine tk9 0 ?_
  refine tk9 1 ?_
  refine tk9 2 ?_
  refine tk9 3 ?_
  refine tk9 4 ?_
  refine tk9 5 ?_
  refine tk9 6 ?_
  refine tk9 7 ?_
  refine tk9 8 ?_
  refine tk9 9 ?_
  refine tk9 10 ?_
  refine tk9 11 ?_
  refine tk9 12 ?_
  refine tk9 13 ?_
  refine tk9 14 ?_
  refine tk9 15 ?_
  refine tk9 17 ?_
  refine wpAnyH_ready (rs := [16]) (by kernel_rfl) (by simp) ?_
  refine AllReadyH.cons rfl (fun K hK => ?_) (AllReadyH.nil)
  have q1 := HF9.out.block (i := 1) rfl
  go_simp
  clear q1
  (try dsimp only)
  refine hK.out _ _ ?_ (fun hHeld => ?_)
  · exact ⟨HD9.out.block (i := 1) rfl, HFR9.out.c⟩
  clear hK K
  (try simp only [Act.put, List.setIfInBounds_toArray, List.set_cons_zero, List.set_cons_succ, List.getElem_toArray, List.getElem_cons_succ, List.getElem_cons_zero])
  refine wpAnyH_ready (rs := [18]) (by kernel_rfl) (by simp) ?_
  refine AllReadyH.cons rfl (fun K hK => ?_) (AllReadyH.nil)
  have hsrc := HP9.out.cells
  refine step_append_lies _ rfl (.tmp 78) (.tmp 79) _ rfl V9.heap.size 5 i0 _ 1 1 Tryz.underlying42 hi0 hz0 hz1 hz2 rfl (by decide) (.slice none 0 0) 0 [] rfl (World.ownsRow_nil _ _ _ _) ⟨B, O, none⟩ p.length c (bC p) rfl (by rw [bC_len]; omega) hsrc (bC_one _) HL.out.1 (by unfold maxLen; have := HL.out; omega) (by have := HL.out; omega) (Nat.le_refl _) _ rfl ?_
  intro g cap2 V10 hown hg hat hlt
  rw [Nat.zero_add]
  have k10 : Below V9.heap.size V9 V10 := (Below.refl _ _).grown hg (Nat.le_refl _) (fun i hi => by cases hi)
  clear hsrc hown hg hat hlt
  have HD10 := Lib.hid (HD9.out.below k10)
  have HF10 := Lib.hid (HF9.out.below k10)
  have HFR10 := Lib.hid (HFR9.out.below k10)
  have HU10 := Lib.hid (HU9.out.next k10)
  clear k10 HD9 HF9 HFR9 HU9 HP9
  (try dsimp only)
  refine hK.out _ _ ?_ (fun hHeld => ?_)
  · exact ⟨HD10.out.block (i := 1) rfl, HFR10.out.c⟩
  clear hK K
  (try simp only [Act.put, List.setIfInBounds_toArray, List.set_cons_zero, List.set_cons_succ, List.getElem_toArray, List.getElem_cons_succ, List.getElem_cons_zero])
  refine tk9 19 ?_
  refine tk9 20 ?_
  refine wpAnyH_ready (rs := [21]) (by kernel_rfl) (by simp) ?_
  refine AllReadyH.cons rfl (fun K hK => ?_) (AllReadyH.nil)
  have q1 := HF10.out.block (i := 1) rfl
  have q2 := HF10.out.fz 1
  go_simp
  clear q1 q2
  obtain ⟨V11, hV⟩ : ∃ V, V10.setCell ⟨f, 1, none⟩ (.slice (some ⟨g, 0, none⟩) p.length cap2) = V := ⟨_, rfl⟩
  have HF11 : Hid (Bk V11 f [.string n, .slice (some ⟨g, 0, none⟩) p.length cap2, .int .i64 0]) := Lib.hid (by rw [← hV]; exact HF10.out.set 1 (by simp) _)
  have k11 : But (fun i => i = f) V10 V11 := by rw [← hV]; exact (But.refl (fun i => i = f) V10).setCell (p := ⟨f, 1, none⟩) (fun _ => rfl) _
  rw [hV]
  clear hV
  have HD11 := Lib.hid (HD10.out.but k11 (by have := HFL.out; omega))
  have HFR11 := Lib.hid (HFR10.out.but k11 (by have := HLT.out; omega))
  have HU11 := Lib.hid (HU10.out.trans k11 (fun i hi e => by have := HFL.out; omega))
  clear k11 HD10 HF10 HFR10 HU10
  (try dsimp only)
  refine hK.out _ _ ?_ (fun hHeld => ?_)
  · exact ⟨HD11.out.block (i := 1) rfl, HFR11.out.c⟩
  clear hK K
  (try simp only [Act.put, List.setIfInBounds_toArray, List.set_cons_zero, List.set_cons_succ, List.getElem_toArray, List.getElem_cons_succ, List.getElem_cons_zero])
  refine wpAnyH_done (by kernel_rfl) ?_ _
  clear hHeld
  have c2 := HD11.out.block (i := 2) rfl
  have f2 := HD11.out.fz 2
  have wk : IntKind.i64.wrap ((0 : Int) + (p.length : Int)) = (p.length : Int) := by rw [Int.zero_add]; have := HL.out; exact IntWalk.i64_in _ (by omega)
  have wk2 : IntKind.i64.wrap (p.length : Int) = (p.length : Int) := by have := HL.out; exact IntWalk.i64_in _ (by omega)
  go_upto_region 11 with fail
  clear wk2 c2 f2 wk
  obtain ⟨V12, hV⟩ : ∃ V, V11.setCell ⟨d, 2, none⟩ (.int .i64 (p.length : Int)) = V := ⟨_, rfl⟩
  have HD12 : Hid (Bk V12 d (dk1 fr cap p.length)) := Lib.hid (by rw [← hV]; exact HD11.out.set 2 (by simp [dk1]) _)
  have k12 : But (fun i => i = d) V11 V12 := by rw [← hV]; exact (But.refl (fun i => i = d) V11).setCell (p := ⟨d, 2, none⟩) (fun _ => rfl) _
  rw [hV]
  clear hV
  have HF12 := Lib.hid (HF11.out.but k12 (by have := HFL.out; omega))
  have HFR12 := Lib.hid (HFR11.out.but k12 (by have := HFL.out; have := HLT.out; omega))
  have HU12 := Lib.hid (HU11.out.trans k12 (fun i _ hi => hi))
  clear k12 HD11 HF11 HFR11 HU11
  go_wp2_with (go_at_call 79; refine (done_ok d _ _ _ _ V12 HD12.out).mono ?_; rintro e1 V13 ⟨rfl, rfl⟩)
  go_ret
  exact ⟨⟨fr, cap, f, _, _, rfl, HD12.out, HFR12.out, HF12.out, HFL.out.1, HLT.out⟩, HU12.out⟩
end Go.Proofs.YtpflbhcgkndpcaaGreatDoor

/- Stage 16: Sync of the one file of a disk (written by gen/ds16.py). -/
namespace Go.Proofs.YtpflbhcgkndpcaaGreatDoor
open Go.RowKit

theorem cmp_same (l : List UInt8) : Lib.compareBytes l l = 0 := by
  induction l with
  | nil => rfl
  | cons a t ih => simp [Lib.compareBytes, ih]
theorem cmp_name (f : Nat) (n : ByteArray) (w : World) (h : w.cell? ⟨f, 0, none⟩ = some (.string n)) : Calls Tryz.prog 169 #[.pointer (some ⟨f, 0, none⟩), .string n] w fun e w' => e = .returned (.int .i64 0) ∧ w' = w := by
  have HC := Lib.hid (Any.strings_Compare Tryz.lays106 n n w)
  rw [cmp_same] at HC
  go_enter Tryz.func169, Tryz.ntmps169
  go_wp2_with (go_at_call 170; refine HC.out.mono ?_; rintro e1 w1 ⟨rfl, rfl⟩)
  go_ret
  exact ⟨rfl, rfl⟩
set_option maxRecDepth 100000 in
theorem bsf_one (fr cap f : Nat) (n : ByteArray) (w : World) (h : w.cell? ⟨fr, 0, none⟩ = some (.pointer (some ⟨f, 0, none⟩))) (hf : w.cell? ⟨f, 0, none⟩ = some (.string n)) : Calls Tryz.prog 168 #[.slice (some ⟨fr, 0, none⟩) 1 cap, .string n, (.func (.func 169) #[] #[])] w fun e w' => e = .returned (.tuple #[.int .i64 0, .bool true]) ∧ Below w.heap.size w w' := by
  have HC := Lib.hid (cmp_name f n w hf)
  clear hf
  go_enter Tryz.func168, Tryz.ntmps168
  go_wp2_with fail
  refine wp_loop_rounds 2 ?_
  rw [rounds_succ]
  go_wp2_with (go_at_call 169; refine HC.out.mono ?_; rintro e1 w1 ⟨rfl, rfl⟩)
  rw [rounds_succ]
  go_upto_region 8 with fail
  go_wp2_with (go_at_call 169; refine HC.out.mono ?_; rintro e1 w1 ⟨rfl, rfl⟩)
  go_ret2
  exact ⟨rfl, Below.refl _ _⟩
theorem find_one (d fr cap f n1 : Nat) (n : ByteArray) (w : World) (hd : Bk w d (dk1 fr cap n1)) (h : w.cell? ⟨fr, 0, none⟩ = some (.pointer (some ⟨f, 0, none⟩))) (hf : w.cell? ⟨f, 0, none⟩ = some (.string n)) : Calls Tryz.prog 120 #[.pointer (some ⟨d, 0, none⟩), .string n] w fun e w' => e = .returned (.tuple #[.int .i64 0, .bool true]) ∧ Below w.heap.size w w' := by
  have c1 := hd.block (i := 1) rfl
  have HB := Lib.hid (bsf_one fr cap f n w h hf)
  clear hd h hf
  go_enter Tryz.func120, Tryz.ntmps120
  go_wp2_with (go_at_call 168; refine HB.out.mono ?_; rintro e1 w1 ⟨rfl, k1⟩)
  go_ret2
  exact ⟨rfl, k1⟩
set_option maxRecDepth 100000 in
set_option maxHeartbeats 8000000 in
theorem sync_one (d fr cap f n0 : Nat) (n : ByteArray) (A : Option Addr) (c : Nat) (w : World) (hd : Bk w d (dk1 fr cap n0)) (hr : Bk1 w fr (ptr f)) (hf : Bk w f [.string n, .slice A n0 c, .int .i64 0]) (h1 : 1 ≤ n.size) (h2 : n.size ≤ 64) (hdf : d ≠ f) (hff : f ≠ fr) : Calls Tryz.prog 85 #[.pointer (some ⟨d, 0, none⟩), .string n] w fun e w' => e = .returned (.int .i64 0) ∧ Bk w' f [.string n, .slice A n0 c, .int .i64 (n0 : Int)] ∧ But (fun i => i = f) w w' := by
  have HD := Lib.hid hd
  have HR := Lib.hid hr
  have HF := Lib.hid hf
  have H12 := Lib.hid (And.intro h1 (And.intro h2 (And.intro hdf hff)))
  clear hd hr hf h1 h2 hdf hff
  go_enter Tryz.func85, Tryz.ntmps85
  go_upto_region 1 with fail
  refine wp_region_lit ?_
  refine wpList_plain rfl (fun KK hKK => ?_)
  go_simp
  refine hKK _ _ ?_
  refine wpList_plain rfl (fun KK hKK => ?_)
  go_simp
  refine hKK _ _ ?_
  refine wpList_plain rfl (fun KK hKK => ?_)
  go_simp
  refine hKK _ _ ?_
  obtain ⟨V1, hV⟩ : ∃ V, w.alloc (.cells #[.string n] 9) = V := ⟨_, rfl⟩
  have k1 : Below w.heap.size w V1 := by rw [← hV]; exact (Below.refl _ _).alloc (Nat.le_refl _) _
  have n1 : V1.cell? ⟨w.heap.size, 0, none⟩ = some (.string n) := by rw [← hV]; exact (Bk.new w #[.string n] 9).block (i := 0) rfl
  rw [hV]
  clear hV
  have HD1 := Lib.hid (HD.out.below k1)
  have HR1 := Lib.hid (HR.out.below k1)
  have HF1 := Lib.hid (HF.out.below k1)
  have HB1 := Lib.hid k1
  have HN1 := Lib.hid n1
  clear k1 n1
  refine wpList_plain rfl (fun KK hKK => ?_)
  go_simp
  (go_at_call 77; refine (ready_ok d _ _ _ _ n w.heap.size V1 HD1.out HN1.out H12.out.1 H12.out.2.1).mono ?_; rintro e1 V2 ⟨rfl, rfl⟩)
  refine hKK _ _ ?_
  refine wpList_plain rfl (fun KK hKK => ?_)
  go_simp
  refine hKK _ _ ?_
  refine wpList_nil ?_
  go_upto_region 7 with (go_at_call 120; refine (find_one d fr cap f n0 n V2 HD1.out HR1.out.c (HF1.out.block (i := 0) rfl)).mono ?_; rintro e1 V3 ⟨rfl, k3⟩; have HD3 := Lib.hid (HD1.out.below k3); have HR3 := Lib.hid (HR1.out.below k3); have HF3 := Lib.hid (HF1.out.below k3); have HB3 := Lib.hid (HB1.out.trans (k3.mono HB1.out.size)); clear k3)
  clear HD1 HR1 HF1 HB1 HN1
  refine wp_region_held_drew (S := fun w' => w'.cell? ⟨d, 1, none⟩ = some (.slice (some ⟨fr, 0, none⟩) 1 cap) ∧ w'.cell? ⟨fr, 0, none⟩ = some (.pointer (some ⟨f, 0, none⟩)) ∧ w'.cell? ⟨f, 1, none⟩ = some (.slice A n0 c)) (by kernel_rfl) ?_ (fun hHeld => ?_)
  · exact ⟨HD3.out.block (i := 1) rfl, HR3.out.c, HF3.out.block (i := 1) rfl⟩
  have kd : Below V3.heap.size V3 V3.drew := (Below.refl _ _).drew
  obtain ⟨V4, hV4⟩ : ∃ V, V3.drew = V := ⟨_, rfl⟩
  rw [hV4] at kd hHeld ⊢
  clear hV4
  have HD4 := Lib.hid (HD3.out.below kd)
  have HR4 := Lib.hid (HR3.out.below kd)
  have HF4 := Lib.hid (HF3.out.below kd)
  have HB4 := Lib.hid (HB3.out.trans (kd.mono HB3.out.size))
  clear kd HD3 HR3 HF3 HB3
  refine tk9 0 ?_
  refine tk9 1 ?_
  refine tk9 2 ?_
  refine tk9 3 ?_
  refine tk9 4 ?_
  refine tk9 5 ?_
  refine tk9 6 ?_
  refine tk9 7 ?_
  refine tk9 8 ?_
  refine tk9 9 ?_
  refine tk9 10 ?_
  refine tk9 11 ?_
  refine tk9 12 ?_
  refine tk9 13 ?_
  refine tk9 14 ?_
  refine tk9 15 ?_
  refine tk9 16 ?_
  refine tk9 17 ?_
  refine tk9 18 ?_
  refine tk9 19 ?_
  refine wpAnyH_ready (rs := [20]) (by kernel_rfl) (by simp) ?_
  refine AllReadyH.cons rfl (fun K hK => ?_) (AllReadyH.nil)
  have q1 := HF4.out.block (i := 2) rfl
  have q2 := HF4.out.fz 2
  go_simp
  clear q1 q2
  obtain ⟨V5, hV⟩ : ∃ V, V4.setCell ⟨f, 2, none⟩ (.int .i64 (n0 : Int)) = V := ⟨_, rfl⟩
  have HF5 : Hid (Bk V5 f [.string n, .slice A n0 c, .int .i64 (n0 : Int)]) := Lib.hid (by rw [← hV]; exact HF4.out.set 2 (by simp) _)
  have k5 : But (fun i => i = f) V4 V5 := by rw [← hV]; exact (But.refl (fun i => i = f) V4).setCell (p := ⟨f, 2, none⟩) (fun _ => rfl) _
  rw [hV]
  clear hV
  have HD5 := Lib.hid (HD4.out.but k5 (by have := H12.out; omega))
  have HR5 := Lib.hid (HR4.out.but k5 (by have := H12.out; omega))
  have HU5 := Lib.hid ((But.of_below (S := fun i => i = f) HB4.out).trans k5 (fun i _ hi => hi))
  clear k5 HD4 HR4 HF4 HB4
  (try dsimp only)
  refine hK.out _ _ ?_ (fun hHeld => ?_)
  · exact ⟨HD5.out.block (i := 1) rfl, HR5.out.c, HF5.out.block (i := 1) rfl⟩
  clear hK K
  (try simp only [Act.put, List.setIfInBounds_toArray, List.set_cons_zero, List.set_cons_succ, List.getElem_toArray, List.getElem_cons_succ, List.getElem_cons_zero])
  refine wpAnyH_done (by kernel_rfl) ?_ _
  clear hHeld
  go_wp2_with (go_at_call 79; refine (done_ok d _ _ _ _ V5 HD5.out).mono ?_; rintro e1 V6 ⟨rfl, rfl⟩)
  go_ret
  exact ⟨rfl, HF5.out, HU5.out⟩
end Go.Proofs.YtpflbhcgkndpcaaGreatDoor

