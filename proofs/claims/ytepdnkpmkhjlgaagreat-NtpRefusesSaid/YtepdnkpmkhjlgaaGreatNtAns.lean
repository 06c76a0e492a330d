/- NTP: the law's answer (written by gen/ntans.py). -/
import Derived.Test.YtepdnkpmkhjlgaaGreatM9P
set_option linter.unusedSimpArgs false
set_option linter.unusedVariables false
namespace Go.Proofs.YtepdnkpmkhjlgaaGreat
open Go.RowKit Go.Sort

/-- What a server says, by the way it turns the answer. -/
def ansP (way : Nat) (q s : Int) : Pk :=
  if way = 1 then ⟨3, 4, 1, 0, 0, q, s, s⟩ else if way = 2 then ⟨0, 4, 0, 0, 0, q, s, s⟩ else if way = 3 then ⟨0, 4, 16, 0, 0, q, s, s⟩ else if way = 4 then ⟨0, 4, 1, 0, 0, (q + 1) % 18446744073709551616, s, s⟩
  else if way = 5 then ⟨0, 3, 1, 0, 0, q, s, s⟩ else if way = 6 then ⟨0, 4, 1, 0, 0, q, 0, s⟩ else if way = 7 then ⟨0, 4, 1, 0, 0, q, s, (s - 4294967296) % 18446744073709551616⟩ else ⟨0, 4, 1, 0, 0, q, s, s⟩
theorem ansP_ok (way : Nat) (q s : Int) (hq : 0 ≤ q ∧ q < 18446744073709551616) (hs : 0 ≤ s ∧ s < 18446744073709551616) : (ansP way q s).ok := by
  unfold ansP
  repeat' split
  all_goals exact ⟨by simp, by simp, by simp, by simp, by simp, by simp only; omega, by simp only; omega, by simp only; omega⟩
theorem and7_i (i : Nat) (hi : i < 8) : bits .and .i64 (i : Int) 7 = i := by
  rcases (show i = 0 ∨ i = 1 ∨ i = 2 ∨ i = 3 ∨ i = 4 ∨ i = 5 ∨ i = 6 ∨ i = 7 from by omega) with rfl | rfl | rfl | rfl | rfl | rfl | rfl | rfl <;> decide
theorem W8.mkR9 (w : World) (l m s d r o v t : Int) : W8 (w.alloc (pkR l m s d r o v t)) w.heap.size l m s d r o v t := ⟨Box8.newR w l m s d r o v t, fun j => by simp⟩
set_option maxRecDepth 100000 in
set_option maxHeartbeats 16000000 in
theorem law_answer {w : World} {bp b bc bs : Nat} {A1 : Option Addr} {c1 : Nat} {rb rbc rbs : Nat} {A2 : Option Addr} {c2 : Nat} {ad : Addr} {n c : Nat} {x : Int} {z : Nat → Int} {N : Nat} {m0 m1 m2 : Nat} {K R : Cs} {cnt : Int} {asked when_ : Nat → Int} (h : Pr w bp b bc bs A1 c1 rb rbc rbs A2 c2 ad n c x z N m0 m1 m2 K R cnt asked when_) (i : Nat) (hi : i < 8) (ahead : Int) (way : Nat) (hw : way ≤ 7) (h0 : 0 ≤ when_ i) (h1 : 0 ≤ ahead) (h2 : when_ i + ahead ≤ 9223372036854775806) (ha : 0 ≤ asked i ∧ asked i < 18446744073709551616) :
    Calls Tryz.prog 16 #[.pointer (some ⟨bp, 0, none⟩), .agg #[.int .i64 0, .int .i64 i, .int .i64 0, .int .i64 ahead, .int .i64 0, .int .i64 way, .slice none 0 0]] w fun e w' => (∃ g cap, e = .returned (.slice (some ⟨g, 0, none⟩) 48 cap) ∧ w.heap.size ≤ g ∧ PkAt w' g cap (ansP way (asked i) (stpV z n (when_ i + ahead)))) ∧ Below w.heap.size w w' := by
  have hT := h.P.tb
  have kk : Below w.heap.size w (w.alloc (.cells #[.int .i64 0, .int .i64 i, .int .i64 0, .int .i64 ahead, .int .i64 0, .int .i64 way, .slice none 0 0] 41)) := (Below.refl _ _).alloc (Nat.le_refl _) _
  have HP0 := Lib.hid (h.below kk)
  have HB0 := Lib.hid kk
  have a1 : (w.alloc (.cells #[.int .i64 0, .int .i64 i, .int .i64 0, .int .i64 ahead, .int .i64 0, .int .i64 way, .slice none 0 0] 41)).cell? ⟨w.heap.size, 1, none⟩ = some (.int .i64 i) := by simp
  have a3 : (w.alloc (.cells #[.int .i64 0, .int .i64 i, .int .i64 0, .int .i64 ahead, .int .i64 0, .int .i64 way, .slice none 0 0] 41)).cell? ⟨w.heap.size, 3, none⟩ = some (.int .i64 ahead) := by simp
  have a4 : (w.alloc (.cells #[.int .i64 0, .int .i64 i, .int .i64 0, .int .i64 ahead, .int .i64 0, .int .i64 way, .slice none 0 0] 41)).cell? ⟨w.heap.size, 4, none⟩ = some (.int .i64 0) := by simp
  have a5 : (w.alloc (.cells #[.int .i64 0, .int .i64 i, .int .i64 0, .int .i64 ahead, .int .i64 0, .int .i64 way, .slice none 0 0] 41)).cell? ⟨w.heap.size, 5, none⟩ = some (.int .i64 way) := by simp
  have la : w.heap.size < (w.alloc (.cells #[.int .i64 0, .int .i64 i, .int .i64 0, .int .i64 ahead, .int .i64 0, .int .i64 way, .slice none 0 0] 41)).heap.size := by simp
  have han := and7_i i hi
  have li : (i : Int) < 8 := by omega
  obtain ⟨T, hTT⟩ : ∃ T, when_ i + ahead = T := ⟨_, rfl⟩
  have HA1 := Lib.hid fun (Bk : Nat) (W : World) q0 q1 => ref4_add2 (when_ i) ahead Bk W (by omega) (by omega) q0 q1
  rw [addS_in (a := when_ i) (b := ahead) (by omega) (by omega), hTT] at HA1
  have HA2 := Lib.hid fun (Bk : Nat) (W : World) q0 q1 => ref4_add2 T 0 Bk W (by omega) (by omega) q0 q1
  rw [addS_in (a := T) (b := 0) (by omega) (by omega), Int.add_zero] at HA2
  have hTb : 0 ≤ T ∧ T ≤ 9223372036854775806 := by omega
  rw [hTT]
  have HST := Lib.hid (fun (W : World) (q : FlatAt W (some ad) 2 n z) => law_stamp (some ad) n c x T z W q hT hTb.1 hTb.2)
  have sb := stp_bd hT T
  obtain ⟨s, hs⟩ : ∃ s, stpV z n T = s := ⟨_, rfl⟩
  rw [hs] at HST sb
  rw [hs]
  obtain ⟨q, hq⟩ : ∃ q, asked i = q := ⟨_, rfl⟩
  have xa := h.qa i hi
  rw [hq] at ha
  rw [hq]
  have HQ := Lib.hid hq
  have hlbp := h.ql
  have hWA := Lib.hid hw
  clear kk h xa hs hq hTT h2
  go_enter Tryz.func16, Tryz.ntmps16
  go_wp2_with fail
  generalize hW : (w.alloc (.cells #[.int .i64 0, .int .i64 i, .int .i64 0, .int .i64 ahead, .int .i64 0, .int .i64 way, .slice none 0 0] 41)) = V0 at *
  clear hW
  refine wp_region_held_drew (S := fun w' => w'.cell? ⟨bp, 13 + i, none⟩ = some (.int .i64 (when_ i)) ∧ w'.cell? ⟨w.heap.size, 3, none⟩ = some (.int .i64 ahead)) (by kernel_rfl) ?_ (fun hHeld => ?_)
  · exact ⟨HP0.out.qw i hi, a3⟩
  have HP1 := Lib.hid (HP0.out.below (w' := V0.drew) ((Below.refl _ _).drew))
  have HB1 := Lib.hid HB0.out.drew
  have a3 : V0.drew.cell? ⟨w.heap.size, 3, none⟩ = some (.int .i64 ahead) := a3
  have a4 : V0.drew.cell? ⟨w.heap.size, 4, none⟩ = some (.int .i64 0) := a4
  have a5 : V0.drew.cell? ⟨w.heap.size, 5, none⟩ = some (.int .i64 way) := a5
  have la : w.heap.size < V0.drew.heap.size := la
  clear HP0 HB0 a1
  generalize V0.drew = V1 at *
  refine wpAnyH_take (i := 0) (v := ?_) rfl (by kernel_rfl) (by kernel_rfl) (by kernel_rfl) (fun _ _ _ h => h) (Or.inl ⟨by rfl, ?_⟩) (by assumption) ?_
  rotate_left
  · intro w' hSw; (try dsimp only at hSw); go_simp; (try with_reducible rfl)
  (try simp only [Act.put, List.setIfInBounds_toArray, List.set_cons_zero, List.set_cons_succ, List.getElem_toArray, List.getElem_cons_succ, List.getElem_cons_zero])
  refine wpAnyH_take (i := 1) (v := ?_) rfl (by kernel_rfl) (by kernel_rfl) (by kernel_rfl) (fun _ _ _ h => h) (Or.inl ⟨by rfl, ?_⟩) (by assumption) ?_
  rotate_left
  · intro w' hSw; (try dsimp only at hSw); go_simp; (try with_reducible rfl)
  (try simp only [Act.put, List.setIfInBounds_toArray, List.set_cons_zero, List.set_cons_succ, List.getElem_toArray, List.getElem_cons_succ, List.getElem_cons_zero])
  refine wpAnyH_take (i := 2) (v := ?_) rfl (by kernel_rfl) (by kernel_rfl) (by kernel_rfl) (fun _ _ _ h => h) (Or.inl ⟨by rfl, ?_⟩) (by assumption) ?_
  rotate_left
  · intro w' hSw; (try dsimp only at hSw); go_simp; (try with_reducible rfl)
  (try simp only [Act.put, List.setIfInBounds_toArray, List.set_cons_zero, List.set_cons_succ, List.getElem_toArray, List.getElem_cons_succ, List.getElem_cons_zero])
  refine wpAnyH_take (i := 3) (v := ?_) rfl (by kernel_rfl) (by kernel_rfl) (by kernel_rfl) (fun _ _ _ h => h) (Or.inl ⟨by rfl, ?_⟩) (by assumption) ?_
  rotate_left
  · intro w' hSw; (try dsimp only at hSw); go_simp; (try with_reducible rfl)
  (try simp only [Act.put, List.setIfInBounds_toArray, List.set_cons_zero, List.set_cons_succ, List.getElem_toArray, List.getElem_cons_succ, List.getElem_cons_zero])
  refine wpAnyH_take (i := 4) (v := ?_) rfl (by kernel_rfl) (by kernel_rfl) (by kernel_rfl) (fun _ _ _ h => h) (Or.inl ⟨by rfl, ?_⟩) (by assumption) ?_
  rotate_left
  · intro w' hSw; (try dsimp only at hSw); go_simp; (try with_reducible rfl)
  (try simp only [Act.put, List.setIfInBounds_toArray, List.set_cons_zero, List.set_cons_succ, List.getElem_toArray, List.getElem_cons_succ, List.getElem_cons_zero])
  refine wpAnyH_take (i := 5) (v := ?_) rfl (by kernel_rfl) (by kernel_rfl) (by kernel_rfl) (fun _ _ _ h => h) (Or.inl ⟨by rfl, ?_⟩) (by assumption) ?_
  rotate_left
  · intro w' hSw; (try dsimp only at hSw); go_simp; (try with_reducible rfl)
  (try simp only [Act.put, List.setIfInBounds_toArray, List.set_cons_zero, List.set_cons_succ, List.getElem_toArray, List.getElem_cons_succ, List.getElem_cons_zero])
  refine wpAnyH_take (i := 6) (v := ?_) rfl (by kernel_rfl) (by kernel_rfl) (by kernel_rfl) (fun _ _ _ h => h) (Or.inl ⟨by rfl, ?_⟩) (by assumption) ?_
  rotate_left
  · intro w' hSw; (try dsimp only at hSw); go_simp; (try with_reducible rfl)
  (try simp only [Act.put, List.setIfInBounds_toArray, List.set_cons_zero, List.set_cons_succ, List.getElem_toArray, List.getElem_cons_succ, List.getElem_cons_zero])
  refine wpAnyH_take (i := 7) (v := ?_) rfl (by kernel_rfl) (by kernel_rfl) (by kernel_rfl) (fun _ _ _ h => h) (Or.inl ⟨by rfl, ?_⟩) (by assumption) ?_
  rotate_left
  · intro w' hSw; (try dsimp only at hSw); go_simp; (try with_reducible rfl)
  (try simp only [Act.put, List.setIfInBounds_toArray, List.set_cons_zero, List.set_cons_succ, List.getElem_toArray, List.getElem_cons_succ, List.getElem_cons_zero])
  refine wpAnyH_ready (rs := [8]) (by kernel_rfl) (by simp) ?_
  refine AllReadyH.cons rfl (fun K hK => ?_) (AllReadyH.nil)
  go_simp
  have k1 : Below V1.heap.size V1 (V1.alloc (.cells #[.int .i64 (when_ i), .int .i64 ahead] 3)) := (Below.refl _ _).alloc (Nat.le_refl _) _
  have HP2 := Lib.hid (HP1.out.below k1)
  have HB2 := Lib.hid (HB1.out.trans (k1.mono HB1.out.size))
  have b3 := (k1.cell (p := ⟨w.heap.size, 3, none⟩) la).trans a3
  have b4 := (k1.cell (p := ⟨w.heap.size, 4, none⟩) la).trans a4
  have b5 := (k1.cell (p := ⟨w.heap.size, 5, none⟩) la).trans a5
  have lb := Nat.lt_of_lt_of_le la k1.size
  have z0 : (V1.alloc (.cells #[.int .i64 (when_ i), .int .i64 ahead] 3)).cell? ⟨V1.heap.size, 0, none⟩ = some (.int .i64 (when_ i)) := by simp
  have z1 : (V1.alloc (.cells #[.int .i64 (when_ i), .int .i64 ahead] 3)).cell? ⟨V1.heap.size, 1, none⟩ = some (.int .i64 ahead) := by simp
  clear k1 HP1 HB1 a3 a4 a5 la
  (try dsimp only)
  refine hK.out _ _ ?_ (fun hHeld => ?_)
  · exact ⟨HP2.out.qw i hi, b3⟩
  clear hK K
  (try simp only [Act.put, List.setIfInBounds_toArray, List.set_cons_zero, List.set_cons_succ, List.getElem_toArray, List.getElem_cons_succ, List.getElem_cons_zero])
  generalize (V1.alloc (.cells #[.int .i64 (when_ i), .int .i64 ahead] 3)) = V2 at *
  generalize V1.heap.size = G2 at *
  refine wpAnyH_ready (rs := [9]) (by kernel_rfl) (by simp) ?_
  refine AllReadyH.cons rfl (fun K hK => ?_) (AllReadyH.nil)
  go_simp
  (go_at_call 37; refine (HA1.out G2 V2 z0 z1).mono ?_; rintro e w' ⟨rfl, rfl⟩)
  (try dsimp only)
  refine hK.out _ _ ?_ (fun hHeld => ?_)
  · exact ⟨HP2.out.qw i hi, b3⟩
  clear hK K
  (try simp only [Act.put, List.setIfInBounds_toArray, List.set_cons_zero, List.set_cons_succ, List.getElem_toArray, List.getElem_cons_succ, List.getElem_cons_zero])
  refine wpAnyH_take (i := 10) (v := ?_) rfl (by kernel_rfl) (by kernel_rfl) (by kernel_rfl) (fun _ _ _ h => h) (Or.inl ⟨by rfl, ?_⟩) (by assumption) ?_
  rotate_left
  · intro w' hSw; (try dsimp only at hSw); go_simp; (try with_reducible rfl)
  (try simp only [Act.put, List.setIfInBounds_toArray, List.set_cons_zero, List.set_cons_succ, List.getElem_toArray, List.getElem_cons_succ, List.getElem_cons_zero])
  refine wpAnyH_done (by kernel_rfl) ?_ _
  clear hHeld z0 z1
  have lbp2 := HP2.out.ql
  go_upto_region 3 with fail
  go_cut [7] (fun v wx => ∃ g : Nat, v = .pointer (some ⟨g, 0, none⟩) ∧ W8 wx g 0 4 1 0 0 q s s ∧ V2.heap.size ≤ g ∧ Below V2.heap.size V2 wx)
  case first =>
    refine wp_region_held_drew (S := fun w' => w'.cell? ⟨bp, 5 + i, none⟩ = some (.int .u64 q) ∧ w'.cell? ⟨bp, 0, none⟩ = some (.slice (some ad) n c) ∧ w'.cell? ⟨bp, 1, none⟩ = some (.int .i64 x) ∧ w'.cell? ⟨w.heap.size, 4, none⟩ = some (.int .i64 0)) (by kernel_rfl) ?_ (fun hHeld => ?_)
    · exact ⟨by have := HP2.out.qa i hi; rw [HQ.out] at this; exact this, HP2.out.q0, HP2.out.q1, b4⟩
    have HP3 := Lib.hid (HP2.out.below (w' := V2.drew) ((Below.refl _ _).drew))
    have HB3 : Hid (Below V2.heap.size V2 V2.drew) := Lib.hid ((Below.refl _ _).drew)
    have b4 : V2.drew.cell? ⟨w.heap.size, 4, none⟩ = some (.int .i64 0) := b4
    have lb : w.heap.size < V2.drew.heap.size := lb
    have hab : w.heap.size < V2.heap.size := lb
    have hb4 : V2.cell? ⟨w.heap.size, 4, none⟩ = some (.int .i64 0) := b4
    generalize hV3 : V2.drew = V3 at *
    clear hV3
    refine wpAnyH_take (i := 0) (v := ?_) rfl (by kernel_rfl) (by kernel_rfl) (by kernel_rfl) (fun _ _ _ h => h) (Or.inl ⟨by rfl, ?_⟩) (by assumption) ?_
    rotate_left
    · intro w' hSw; (try dsimp only at hSw); go_simp; (try with_reducible rfl)
    (try simp only [Act.put, List.setIfInBounds_toArray, List.set_cons_zero, List.set_cons_succ, List.getElem_toArray, List.getElem_cons_succ, List.getElem_cons_zero])
    refine wpAnyH_take (i := 1) (v := ?_) rfl (by kernel_rfl) (by kernel_rfl) (by kernel_rfl) (fun _ _ _ h => h) (Or.inl ⟨by rfl, ?_⟩) (by assumption) ?_
    rotate_left
    · intro w' hSw; (try dsimp only at hSw); go_simp; (try with_reducible rfl)
    (try simp only [Act.put, List.setIfInBounds_toArray, List.set_cons_zero, List.set_cons_succ, List.getElem_toArray, List.getElem_cons_succ, List.getElem_cons_zero])
    refine wpAnyH_take (i := 2) (v := ?_) rfl (by kernel_rfl) (by kernel_rfl) (by kernel_rfl) (fun _ _ _ h => h) (Or.inl ⟨by rfl, ?_⟩) (by assumption) ?_
    rotate_left
    · intro w' hSw; (try dsimp only at hSw); go_simp; (try with_reducible rfl)
    (try simp only [Act.put, List.setIfInBounds_toArray, List.set_cons_zero, List.set_cons_succ, List.getElem_toArray, List.getElem_cons_succ, List.getElem_cons_zero])
    refine wpAnyH_take (i := 3) (v := ?_) rfl (by kernel_rfl) (by kernel_rfl) (by kernel_rfl) (fun _ _ _ h => h) (Or.inl ⟨by rfl, ?_⟩) (by assumption) ?_
    rotate_left
    · intro w' hSw; (try dsimp only at hSw); go_simp; (try with_reducible rfl)
    (try simp only [Act.put, List.setIfInBounds_toArray, List.set_cons_zero, List.set_cons_succ, List.getElem_toArray, List.getElem_cons_succ, List.getElem_cons_zero])
    refine wpAnyH_take (i := 4) (v := ?_) rfl (by kernel_rfl) (by kernel_rfl) (by kernel_rfl) (fun _ _ _ h => h) (Or.inl ⟨by rfl, ?_⟩) (by assumption) ?_
    rotate_left
    · intro w' hSw; (try dsimp only at hSw); go_simp; (try with_reducible rfl)
    (try simp only [Act.put, List.setIfInBounds_toArray, List.set_cons_zero, List.set_cons_succ, List.getElem_toArray, List.getElem_cons_succ, List.getElem_cons_zero])
    refine wpAnyH_take (i := 5) (v := ?_) rfl (by kernel_rfl) (by kernel_rfl) (by kernel_rfl) (fun _ _ _ h => h) (Or.inl ⟨by rfl, ?_⟩) (by assumption) ?_
    rotate_left
    · intro w' hSw; (try dsimp only at hSw); go_simp; (try with_reducible rfl)
    (try simp only [Act.put, List.setIfInBounds_toArray, List.set_cons_zero, List.set_cons_succ, List.getElem_toArray, List.getElem_cons_succ, List.getElem_cons_zero])
    refine wpAnyH_take (i := 6) (v := ?_) rfl (by kernel_rfl) (by kernel_rfl) (by kernel_rfl) (fun _ _ _ h => h) (Or.inl ⟨by rfl, ?_⟩) (by assumption) ?_
    rotate_left
    · intro w' hSw; (try dsimp only at hSw); go_simp; (try with_reducible rfl)
    (try simp only [Act.put, List.setIfInBounds_toArray, List.set_cons_zero, List.set_cons_succ, List.getElem_toArray, List.getElem_cons_succ, List.getElem_cons_zero])
    refine wpAnyH_take (i := 7) (v := ?_) rfl (by kernel_rfl) (by kernel_rfl) (by kernel_rfl) (fun _ _ _ h => h) (Or.inl ⟨by rfl, ?_⟩) (by assumption) ?_
    rotate_left
    · intro w' hSw; (try dsimp only at hSw); go_simp; (try with_reducible rfl)
    (try simp only [Act.put, List.setIfInBounds_toArray, List.set_cons_zero, List.set_cons_succ, List.getElem_toArray, List.getElem_cons_succ, List.getElem_cons_zero])
    refine wpAnyH_take (i := 8) (v := ?_) rfl (by kernel_rfl) (by kernel_rfl) (by kernel_rfl) (fun _ _ _ h => h) (Or.inl ⟨by rfl, ?_⟩) (by assumption) ?_
    rotate_left
    · intro w' hSw; (try dsimp only at hSw); go_simp; (try with_reducible rfl)
    (try simp only [Act.put, List.setIfInBounds_toArray, List.set_cons_zero, List.set_cons_succ, List.getElem_toArray, List.getElem_cons_succ, List.getElem_cons_zero])
    refine wpAnyH_take (i := 9) (v := ?_) rfl (by kernel_rfl) (by kernel_rfl) (by kernel_rfl) (fun _ _ _ h => h) (Or.inl ⟨by rfl, ?_⟩) (by assumption) ?_
    rotate_left
    · intro w' hSw; (try dsimp only at hSw); go_simp; (try with_reducible rfl)
    (try simp only [Act.put, List.setIfInBounds_toArray, List.set_cons_zero, List.set_cons_succ, List.getElem_toArray, List.getElem_cons_succ, List.getElem_cons_zero])
    refine wpAnyH_take (i := 10) (v := ?_) rfl (by kernel_rfl) (by kernel_rfl) (by kernel_rfl) (fun _ _ _ h => h) (Or.inl ⟨by rfl, ?_⟩) (by assumption) ?_
    rotate_left
    · intro w' hSw; (try dsimp only at hSw); go_simp; (try with_reducible rfl)
    (try simp only [Act.put, List.setIfInBounds_toArray, List.set_cons_zero, List.set_cons_succ, List.getElem_toArray, List.getElem_cons_succ, List.getElem_cons_zero])
    refine wpAnyH_take (i := 12) (v := ?_) rfl (by kernel_rfl) (by kernel_rfl) (by kernel_rfl) (fun _ _ _ h => h) (Or.inl ⟨by rfl, ?_⟩) (by assumption) ?_
    rotate_left
    · intro w' hSw; (try dsimp only at hSw); go_simp; (try with_reducible rfl)
    (try simp only [Act.put, List.setIfInBounds_toArray, List.set_cons_zero, List.set_cons_succ, List.getElem_toArray, List.getElem_cons_succ, List.getElem_cons_zero])
    refine wpAnyH_take (i := 13) (v := ?_) rfl (by kernel_rfl) (by kernel_rfl) (by kernel_rfl) (fun _ _ _ h => h) (Or.inl ⟨by rfl, ?_⟩) (by assumption) ?_
    rotate_left
    · intro w' hSw; (try dsimp only at hSw); go_simp; (try with_reducible rfl)
    (try simp only [Act.put, List.setIfInBounds_toArray, List.set_cons_zero, List.set_cons_succ, List.getElem_toArray, List.getElem_cons_succ, List.getElem_cons_zero])
    refine wpAnyH_take (i := 14) (v := ?_) rfl (by kernel_rfl) (by kernel_rfl) (by kernel_rfl) (fun _ _ _ h => h) (Or.inl ⟨by rfl, ?_⟩) (by assumption) ?_
    rotate_left
    · intro w' hSw; (try dsimp only at hSw); go_simp; (try with_reducible rfl)
    (try simp only [Act.put, List.setIfInBounds_toArray, List.set_cons_zero, List.set_cons_succ, List.getElem_toArray, List.getElem_cons_succ, List.getElem_cons_zero])
    refine wpAnyH_take (i := 15) (v := ?_) rfl (by kernel_rfl) (by kernel_rfl) (by kernel_rfl) (fun _ _ _ h => h) (Or.inl ⟨by rfl, ?_⟩) (by assumption) ?_
    rotate_left
    · intro w' hSw; (try dsimp only at hSw); go_simp; (try with_reducible rfl)
    (try simp only [Act.put, List.setIfInBounds_toArray, List.set_cons_zero, List.set_cons_succ, List.getElem_toArray, List.getElem_cons_succ, List.getElem_cons_zero])
    refine wpAnyH_take (i := 16) (v := ?_) rfl (by kernel_rfl) (by kernel_rfl) (by kernel_rfl) (fun _ _ _ h => h) (Or.inl ⟨by rfl, ?_⟩) (by assumption) ?_
    rotate_left
    · intro w' hSw; (try dsimp only at hSw); go_simp; (try with_reducible rfl)
    (try simp only [Act.put, List.setIfInBounds_toArray, List.set_cons_zero, List.set_cons_succ, List.getElem_toArray, List.getElem_cons_succ, List.getElem_cons_zero])
    refine wpAnyH_take (i := 17) (v := ?_) rfl (by kernel_rfl) (by kernel_rfl) (by kernel_rfl) (fun _ _ _ h => h) (Or.inl ⟨by rfl, ?_⟩) (by assumption) ?_
    rotate_left
    · intro w' hSw; (try dsimp only at hSw); go_simp; (try with_reducible rfl)
    (try simp only [Act.put, List.setIfInBounds_toArray, List.set_cons_zero, List.set_cons_succ, List.getElem_toArray, List.getElem_cons_succ, List.getElem_cons_zero])
    refine wpAnyH_take (i := 18) (v := ?_) rfl (by kernel_rfl) (by kernel_rfl) (by kernel_rfl) (fun _ _ _ h => h) (Or.inl ⟨by rfl, ?_⟩) (by assumption) ?_
    rotate_left
    · intro w' hSw; (try dsimp only at hSw); go_simp; (try with_reducible rfl)
    (try simp only [Act.put, List.setIfInBounds_toArray, List.set_cons_zero, List.set_cons_succ, List.getElem_toArray, List.getElem_cons_succ, List.getElem_cons_zero])
    refine wpAnyH_ready (rs := [11, 19, 23]) (by kernel_rfl) (by simp) ?_
    refine AllReadyH.cons rfl (fun K hK => ?_) (AllReadyH.cons rfl (fun K hK => ?_) (AllReadyH.cons rfl (fun K hK => ?_) (AllReadyH.nil)))
    ·
      go_simp
      (go_at_call 18; refine (HST.out V3 HP3.out.tab).mono ?_; rintro e U11 ⟨rfl, kx⟩)
      have HP11 := Lib.hid (HP3.out.below kx)
      have HB11 := Lib.hid (HB3.out.trans (kx.mono HB3.out.size))
      clear kx
      (try dsimp only)
      refine hK.out _ _ ?_ (fun hHeld => ?_)
      · exact ⟨by have := HP11.out.qa i hi; rw [HQ.out] at this; exact this, HP11.out.q0, HP11.out.q1, (HB11.out.cell (p := ⟨w.heap.size, 4, none⟩) hab).trans hb4⟩
      clear hK K
      (try simp only [Act.put, List.setIfInBounds_toArray, List.set_cons_zero, List.set_cons_succ, List.getElem_toArray, List.getElem_cons_succ, List.getElem_cons_zero])
      refine wpAnyH_ready (rs := [19, 23]) (by kernel_rfl) (by simp) ?_
      refine AllReadyH.cons rfl (fun K hK => ?_) (AllReadyH.cons rfl (fun K hK => ?_) (AllReadyH.nil))
      ·
        go_simp
        have kx : Below U11.heap.size U11 (U11.alloc (.cells #[.int .i64 T, .int .i64 0] 3)) := (Below.refl _ _).alloc (Nat.le_refl _) _
        have HP12 := Lib.hid (HP11.out.below kx)
        have HB12 := Lib.hid (HB11.out.trans (kx.mono HB11.out.size))
        have zb0 : (U11.alloc (.cells #[.int .i64 T, .int .i64 0] 3)).cell? ⟨U11.heap.size, 0, none⟩ = some (.int .i64 T) := by simp
        have zb1 : (U11.alloc (.cells #[.int .i64 T, .int .i64 0] 3)).cell? ⟨U11.heap.size, 1, none⟩ = some (.int .i64 0) := by simp
        have lgb : U11.heap.size < (U11.alloc (.cells #[.int .i64 T, .int .i64 0] 3)).heap.size := by simp
        clear kx
        (try dsimp only)
        refine hK.out _ _ ?_ (fun hHeld => ?_)
        · exact ⟨by have := HP12.out.qa i hi; rw [HQ.out] at this; exact this, HP12.out.q0, HP12.out.q1, (HB12.out.cell (p := ⟨w.heap.size, 4, none⟩) hab).trans hb4⟩
        clear hK K
        (try simp only [Act.put, List.setIfInBounds_toArray, List.set_cons_zero, List.set_cons_succ, List.getElem_toArray, List.getElem_cons_succ, List.getElem_cons_zero])
        generalize U11.alloc (.cells #[.int .i64 T, .int .i64 0] 3) = U12 at *
        generalize U11.heap.size = GB at *
        refine wpAnyH_ready (rs := [20, 23]) (by kernel_rfl) (by simp) ?_
        refine AllReadyH.cons rfl (fun K hK => ?_) (AllReadyH.cons rfl (fun K hK => ?_) (AllReadyH.nil))
        ·
          go_simp
          (go_at_call 37; refine (HA2.out GB U12 zb0 zb1).mono ?_; rintro e w' ⟨rfl, rfl⟩)
          (try dsimp only)
          refine hK.out _ _ ?_ (fun hHeld => ?_)
          · exact ⟨by have := HP12.out.qa i hi; rw [HQ.out] at this; exact this, HP12.out.q0, HP12.out.q1, (HB12.out.cell (p := ⟨w.heap.size, 4, none⟩) hab).trans hb4⟩
          clear hK K
          (try simp only [Act.put, List.setIfInBounds_toArray, List.set_cons_zero, List.set_cons_succ, List.getElem_toArray, List.getElem_cons_succ, List.getElem_cons_zero])
          refine wpAnyH_ready (rs := [21, 23]) (by kernel_rfl) (by simp) ?_
          refine AllReadyH.cons rfl (fun K hK => ?_) (AllReadyH.cons rfl (fun K hK => ?_) (AllReadyH.nil))
          ·
            go_simp
            (go_at_call 18; refine (HST.out U12 HP12.out.tab).mono ?_; rintro e U14 ⟨rfl, kx⟩)
            have HP14 := Lib.hid (HP12.out.below kx)
            have HB14 := Lib.hid (HB12.out.trans (kx.mono HB12.out.size))
            clear kx
            (try dsimp only)
            refine hK.out _ _ ?_ (fun hHeld => ?_)
            · exact ⟨by have := HP14.out.qa i hi; rw [HQ.out] at this; exact this, HP14.out.q0, HP14.out.q1, (HB14.out.cell (p := ⟨w.heap.size, 4, none⟩) hab).trans hb4⟩
            clear hK K
            (try simp only [Act.put, List.setIfInBounds_toArray, List.set_cons_zero, List.set_cons_succ, List.getElem_toArray, List.getElem_cons_succ, List.getElem_cons_zero])
            refine wpAnyH_take (i := 22) (v := ?_) rfl (by kernel_rfl) (by kernel_rfl) (by kernel_rfl) (fun _ _ _ h => h) (Or.inl ⟨by rfl, ?_⟩) (by assumption) ?_
            rotate_left
            · intro w' hSw; (try dsimp only at hSw); go_simp; (try with_reducible rfl)
            (try simp only [Act.put, List.setIfInBounds_toArray, List.set_cons_zero, List.set_cons_succ, List.getElem_toArray, List.getElem_cons_succ, List.getElem_cons_zero])
            refine wpAnyH_ready (rs := [23]) (by kernel_rfl) (by simp) ?_
            refine AllReadyH.cons rfl (fun K hK => ?_) (AllReadyH.nil)
            go_simp
            have kx : Below U14.heap.size U14 (U14.alloc (.cells #[.int .i64 0, .int .i64 0, .int .i64 0, .int .i64 0, .int .i64 0, .int .u64 0, .int .u64 0, .int .u64 0] 53)) := (Below.refl _ _).alloc (Nat.le_refl _) _
            have HP15 := Lib.hid (HP14.out.below kx)
            have HB15 := Lib.hid (HB14.out.trans (kx.mono HB14.out.size))
            have QE := Lib.hid (W8.mkR9 U14 0 0 0 0 0 0 0 0)
            have hgE : V2.heap.size ≤ U14.heap.size := HB14.out.size
            clear kx
            (try dsimp only)
            refine hK.out _ _ ?_ (fun hHeld => ?_)
            · exact ⟨by have := HP15.out.qa i hi; rw [HQ.out] at this; exact this, HP15.out.q0, HP15.out.q1, (HB15.out.cell (p := ⟨w.heap.size, 4, none⟩) hab).trans hb4⟩
            clear hK K
            (try simp only [Act.put, List.setIfInBounds_toArray, List.set_cons_zero, List.set_cons_succ, List.getElem_toArray, List.getElem_cons_succ, List.getElem_cons_zero])
            generalize U14.alloc (.cells #[.int .i64 0, .int .i64 0, .int .i64 0, .int .i64 0, .int .i64 0, .int .u64 0, .int .u64 0, .int .u64 0] 53) = U15 at *
            generalize U14.heap.size = g5 at *
            obtain ⟨y0, y1, y2, y3, y4, y5, y6, y7, yl⟩ := QE.out.x
            have f0 := QE.out.f 0
            have f1 := QE.out.f 1
            have f2 := QE.out.f 2
            have f3 := QE.out.f 3
            have f4 := QE.out.f 4
            have f5 := QE.out.f 5
            have f6 := QE.out.f 6
            have f7 := QE.out.f 7
            refine wpAnyH_ready (rs := [24]) (by kernel_rfl) (by simp) ?_
            refine AllReadyH.cons rfl (fun K hK => ?_) (AllReadyH.nil)
            go_simp
            have X9 : W8 (st8 U15 g5 0 4 1 0 0 q s s) g5 0 4 1 0 0 q s s := ⟨st8_cells QE.out.x, fun j => by have := QE.out.f j; simpa [st8] using this⟩
            have B9 : Below V2.heap.size V2 (st8 U15 g5 0 4 1 0 0 q s s) := by unfold st8; exact (((((((HB15.out.setCell (p := ⟨g5, 0, none⟩) hgE _).setCell (p := ⟨g5, 1, none⟩) hgE _).setCell (p := ⟨g5, 2, none⟩) hgE _).setCell (p := ⟨g5, 3, none⟩) hgE _).setCell (p := ⟨g5, 4, none⟩) hgE _).setCell (p := ⟨g5, 5, none⟩) hgE _).setCell (p := ⟨g5, 6, none⟩) hgE _).setCell (p := ⟨g5, 7, none⟩) hgE _
            have P9 := HP2.out.below B9
            (try dsimp only)
            refine hK.out _ _ ?_ (fun hHeld => ?_)
            · exact ⟨by have := P9.qa i hi; rw [HQ.out] at this; exact this, P9.q0, P9.q1, (B9.cell (p := ⟨w.heap.size, 4, none⟩) hab).trans hb4⟩
            clear hK K
            (try simp only [Act.put, List.setIfInBounds_toArray, List.set_cons_zero, List.set_cons_succ, List.getElem_toArray, List.getElem_cons_succ, List.getElem_cons_zero])
            refine wpAnyH_done (by kernel_rfl) ?_ _
            have HX9 := Lib.hid X9
            have HB9 := Lib.hid B9
            clear X9 B9 P9 QE y0 y1 y2 y3 y4 y5 y6 y7 f0 f1 f2 f3 f4 f5 f6 f7
            go_wp2_with fail
            go_meet
            exact ⟨g5, rfl, HX9.out, hgE, HB9.out⟩
          ·
            go_simp
            have kx : Below U12.heap.size U12 (U12.alloc (.cells #[.int .i64 0, .int .i64 0, .int .i64 0, .int .i64 0, .int .i64 0, .int .u64 0, .int .u64 0, .int .u64 0] 53)) := (Below.refl _ _).alloc (Nat.le_refl _) _
            have HP16 := Lib.hid (HP12.out.below kx)
            have HB16 := Lib.hid (HB12.out.trans (kx.mono HB12.out.size))
            have QE := Lib.hid (W8.mkR9 U12 0 0 0 0 0 0 0 0)
            have hgE : V2.heap.size ≤ U12.heap.size := HB12.out.size
            clear kx
            (try dsimp only)
            refine hK.out _ _ ?_ (fun hHeld => ?_)
            · exact ⟨by have := HP16.out.qa i hi; rw [HQ.out] at this; exact this, HP16.out.q0, HP16.out.q1, (HB16.out.cell (p := ⟨w.heap.size, 4, none⟩) hab).trans hb4⟩
            clear hK K
            (try simp only [Act.put, List.setIfInBounds_toArray, List.set_cons_zero, List.set_cons_succ, List.getElem_toArray, List.getElem_cons_succ, List.getElem_cons_zero])
            generalize U12.alloc (.cells #[.int .i64 0, .int .i64 0, .int .i64 0, .int .i64 0, .int .i64 0, .int .u64 0, .int .u64 0, .int .u64 0] 53) = U16 at *
            generalize U12.heap.size = g5 at *
            refine wpAnyH_ready (rs := [21]) (by kernel_rfl) (by simp) ?_
            refine AllReadyH.cons rfl (fun K hK => ?_) (AllReadyH.nil)
            go_simp
            (go_at_call 18; refine (HST.out U16 HP16.out.tab).mono ?_; rintro e U17 ⟨rfl, kx⟩)
            have HP17 := Lib.hid (HP16.out.below kx)
            have HB17 := Lib.hid (HB16.out.trans (kx.mono HB16.out.size))
            replace QE := Lib.hid (QE.out.below kx QE.out.x.lt)
            clear kx
            (try dsimp only)
            refine hK.out _ _ ?_ (fun hHeld => ?_)
            · exact ⟨by have := HP17.out.qa i hi; rw [HQ.out] at this; exact this, HP17.out.q0, HP17.out.q1, (HB17.out.cell (p := ⟨w.heap.size, 4, none⟩) hab).trans hb4⟩
            clear hK K
            (try simp only [Act.put, List.setIfInBounds_toArray, List.set_cons_zero, List.set_cons_succ, List.getElem_toArray, List.getElem_cons_succ, List.getElem_cons_zero])
            refine wpAnyH_take (i := 22) (v := ?_) rfl (by kernel_rfl) (by kernel_rfl) (by kernel_rfl) (fun _ _ _ h => h) (Or.inl ⟨by rfl, ?_⟩) (by assumption) ?_
            rotate_left
            · intro w' hSw; (try dsimp only at hSw); go_simp; (try with_reducible rfl)
            (try simp only [Act.put, List.setIfInBounds_toArray, List.set_cons_zero, List.set_cons_succ, List.getElem_toArray, List.getElem_cons_succ, List.getElem_cons_zero])
            obtain ⟨y0, y1, y2, y3, y4, y5, y6, y7, yl⟩ := QE.out.x
            have f0 := QE.out.f 0
            have f1 := QE.out.f 1
            have f2 := QE.out.f 2
            have f3 := QE.out.f 3
            have f4 := QE.out.f 4
            have f5 := QE.out.f 5
            have f6 := QE.out.f 6
            have f7 := QE.out.f 7
            refine wpAnyH_ready (rs := [24]) (by kernel_rfl) (by simp) ?_
            refine AllReadyH.cons rfl (fun K hK => ?_) (AllReadyH.nil)
            go_simp
            have X9 : W8 (st8 U17 g5 0 4 1 0 0 q s s) g5 0 4 1 0 0 q s s := ⟨st8_cells QE.out.x, fun j => by have := QE.out.f j; simpa [st8] using this⟩
            have B9 : Below V2.heap.size V2 (st8 U17 g5 0 4 1 0 0 q s s) := by unfold st8; exact (((((((HB17.out.setCell (p := ⟨g5, 0, none⟩) hgE _).setCell (p := ⟨g5, 1, none⟩) hgE _).setCell (p := ⟨g5, 2, none⟩) hgE _).setCell (p := ⟨g5, 3, none⟩) hgE _).setCell (p := ⟨g5, 4, none⟩) hgE _).setCell (p := ⟨g5, 5, none⟩) hgE _).setCell (p := ⟨g5, 6, none⟩) hgE _).setCell (p := ⟨g5, 7, none⟩) hgE _
            have P9 := HP2.out.below B9
            (try dsimp only)
            refine hK.out _ _ ?_ (fun hHeld => ?_)
            · exact ⟨by have := P9.qa i hi; rw [HQ.out] at this; exact this, P9.q0, P9.q1, (B9.cell (p := ⟨w.heap.size, 4, none⟩) hab).trans hb4⟩
            clear hK K
            (try simp only [Act.put, List.setIfInBounds_toArray, List.set_cons_zero, List.set_cons_succ, List.getElem_toArray, List.getElem_cons_succ, List.getElem_cons_zero])
            refine wpAnyH_done (by kernel_rfl) ?_ _
            have HX9 := Lib.hid X9
            have HB9 := Lib.hid B9
            clear X9 B9 P9 QE y0 y1 y2 y3 y4 y5 y6 y7 f0 f1 f2 f3 f4 f5 f6 f7
            go_wp2_with fail
            go_meet
            exact ⟨g5, rfl, HX9.out, hgE, HB9.out⟩
        ·
          go_simp
          have kx : Below U12.heap.size U12 (U12.alloc (.cells #[.int .i64 0, .int .i64 0, .int .i64 0, .int .i64 0, .int .i64 0, .int .u64 0, .int .u64 0, .int .u64 0] 53)) := (Below.refl _ _).alloc (Nat.le_refl _) _
          have HP18 := Lib.hid (HP12.out.below kx)
          have HB18 := Lib.hid (HB12.out.trans (kx.mono HB12.out.size))
          replace zb0 := (kx.cell (p := ⟨GB, 0, none⟩) lgb).trans zb0
          replace zb1 := (kx.cell (p := ⟨GB, 1, none⟩) lgb).trans zb1
          replace lgb := Nat.lt_of_lt_of_le lgb kx.size
          have QE := Lib.hid (W8.mkR9 U12 0 0 0 0 0 0 0 0)
          have hgE : V2.heap.size ≤ U12.heap.size := HB12.out.size
          clear kx
          (try dsimp only)
          refine hK.out _ _ ?_ (fun hHeld => ?_)
          · exact ⟨by have := HP18.out.qa i hi; rw [HQ.out] at this; exact this, HP18.out.q0, HP18.out.q1, (HB18.out.cell (p := ⟨w.heap.size, 4, none⟩) hab).trans hb4⟩
          clear hK K
          (try simp only [Act.put, List.setIfInBounds_toArray, List.set_cons_zero, List.set_cons_succ, List.getElem_toArray, List.getElem_cons_succ, List.getElem_cons_zero])
          generalize U12.alloc (.cells #[.int .i64 0, .int .i64 0, .int .i64 0, .int .i64 0, .int .i64 0, .int .u64 0, .int .u64 0, .int .u64 0] 53) = U18 at *
          generalize U12.heap.size = g5 at *
          refine wpAnyH_ready (rs := [20]) (by kernel_rfl) (by simp) ?_
          refine AllReadyH.cons rfl (fun K hK => ?_) (AllReadyH.nil)
          go_simp
          (go_at_call 37; refine (HA2.out GB U18 zb0 zb1).mono ?_; rintro e w' ⟨rfl, rfl⟩)
          (try dsimp only)
          refine hK.out _ _ ?_ (fun hHeld => ?_)
          · exact ⟨by have := HP18.out.qa i hi; rw [HQ.out] at this; exact this, HP18.out.q0, HP18.out.q1, (HB18.out.cell (p := ⟨w.heap.size, 4, none⟩) hab).trans hb4⟩
          clear hK K
          (try simp only [Act.put, List.setIfInBounds_toArray, List.set_cons_zero, List.set_cons_succ, List.getElem_toArray, List.getElem_cons_succ, List.getElem_cons_zero])
          refine wpAnyH_ready (rs := [21]) (by kernel_rfl) (by simp) ?_
          refine AllReadyH.cons rfl (fun K hK => ?_) (AllReadyH.nil)
          go_simp
          (go_at_call 18; refine (HST.out U18 HP18.out.tab).mono ?_; rintro e U20 ⟨rfl, kx⟩)
          have HP20 := Lib.hid (HP18.out.below kx)
          have HB20 := Lib.hid (HB18.out.trans (kx.mono HB18.out.size))
          replace QE := Lib.hid (QE.out.below kx QE.out.x.lt)
          clear kx
          (try dsimp only)
          refine hK.out _ _ ?_ (fun hHeld => ?_)
          · exact ⟨by have := HP20.out.qa i hi; rw [HQ.out] at this; exact this, HP20.out.q0, HP20.out.q1, (HB20.out.cell (p := ⟨w.heap.size, 4, none⟩) hab).trans hb4⟩
          clear hK K
          (try simp only [Act.put, List.setIfInBounds_toArray, List.set_cons_zero, List.set_cons_succ, List.getElem_toArray, List.getElem_cons_succ, List.getElem_cons_zero])
          refine wpAnyH_take (i := 22) (v := ?_) rfl (by kernel_rfl) (by kernel_rfl) (by kernel_rfl) (fun _ _ _ h => h) (Or.inl ⟨by rfl, ?_⟩) (by assumption) ?_
          rotate_left
          · intro w' hSw; (try dsimp only at hSw); go_simp; (try with_reducible rfl)
          (try simp only [Act.put, List.setIfInBounds_toArray, List.set_cons_zero, List.set_cons_succ, List.getElem_toArray, List.getElem_cons_succ, List.getElem_cons_zero])
          obtain ⟨y0, y1, y2, y3, y4, y5, y6, y7, yl⟩ := QE.out.x
          have f0 := QE.out.f 0
          have f1 := QE.out.f 1
          have f2 := QE.out.f 2
          have f3 := QE.out.f 3
          have f4 := QE.out.f 4
          have f5 := QE.out.f 5
          have f6 := QE.out.f 6
          have f7 := QE.out.f 7
          refine wpAnyH_ready (rs := [24]) (by kernel_rfl) (by simp) ?_
          refine AllReadyH.cons rfl (fun K hK => ?_) (AllReadyH.nil)
          go_simp
          have X9 : W8 (st8 U20 g5 0 4 1 0 0 q s s) g5 0 4 1 0 0 q s s := ⟨st8_cells QE.out.x, fun j => by have := QE.out.f j; simpa [st8] using this⟩
          have B9 : Below V2.heap.size V2 (st8 U20 g5 0 4 1 0 0 q s s) := by unfold st8; exact (((((((HB20.out.setCell (p := ⟨g5, 0, none⟩) hgE _).setCell (p := ⟨g5, 1, none⟩) hgE _).setCell (p := ⟨g5, 2, none⟩) hgE _).setCell (p := ⟨g5, 3, none⟩) hgE _).setCell (p := ⟨g5, 4, none⟩) hgE _).setCell (p := ⟨g5, 5, none⟩) hgE _).setCell (p := ⟨g5, 6, none⟩) hgE _).setCell (p := ⟨g5, 7, none⟩) hgE _
          have P9 := HP2.out.below B9
          (try dsimp only)
          refine hK.out _ _ ?_ (fun hHeld => ?_)
          · exact ⟨by have := P9.qa i hi; rw [HQ.out] at this; exact this, P9.q0, P9.q1, (B9.cell (p := ⟨w.heap.size, 4, none⟩) hab).trans hb4⟩
          clear hK K
          (try simp only [Act.put, List.setIfInBounds_toArray, List.set_cons_zero, List.set_cons_succ, List.getElem_toArray, List.getElem_cons_succ, List.getElem_cons_zero])
          refine wpAnyH_done (by kernel_rfl) ?_ _
          have HX9 := Lib.hid X9
          have HB9 := Lib.hid B9
          clear X9 B9 P9 QE y0 y1 y2 y3 y4 y5 y6 y7 f0 f1 f2 f3 f4 f5 f6 f7
          go_wp2_with fail
          go_meet
          exact ⟨g5, rfl, HX9.out, hgE, HB9.out⟩
      ·
        go_simp
        have kx : Below U11.heap.size U11 (U11.alloc (.cells #[.int .i64 0, .int .i64 0, .int .i64 0, .int .i64 0, .int .i64 0, .int .u64 0, .int .u64 0, .int .u64 0] 53)) := (Below.refl _ _).alloc (Nat.le_refl _) _
        have HP21 := Lib.hid (HP11.out.below kx)
        have HB21 := Lib.hid (HB11.out.trans (kx.mono HB11.out.size))
        have QE := Lib.hid (W8.mkR9 U11 0 0 0 0 0 0 0 0)
        have hgE : V2.heap.size ≤ U11.heap.size := HB11.out.size
        clear kx
        (try dsimp only)
        refine hK.out _ _ ?_ (fun hHeld => ?_)
        · exact ⟨by have := HP21.out.qa i hi; rw [HQ.out] at this; exact this, HP21.out.q0, HP21.out.q1, (HB21.out.cell (p := ⟨w.heap.size, 4, none⟩) hab).trans hb4⟩
        clear hK K
        (try simp only [Act.put, List.setIfInBounds_toArray, List.set_cons_zero, List.set_cons_succ, List.getElem_toArray, List.getElem_cons_succ, List.getElem_cons_zero])
        generalize U11.alloc (.cells #[.int .i64 0, .int .i64 0, .int .i64 0, .int .i64 0, .int .i64 0, .int .u64 0, .int .u64 0, .int .u64 0] 53) = U21 at *
        generalize U11.heap.size = g5 at *
        refine wpAnyH_ready (rs := [19]) (by kernel_rfl) (by simp) ?_
        refine AllReadyH.cons rfl (fun K hK => ?_) (AllReadyH.nil)
        go_simp
        have kx : Below U21.heap.size U21 (U21.alloc (.cells #[.int .i64 T, .int .i64 0] 3)) := (Below.refl _ _).alloc (Nat.le_refl _) _
        have HP22 := Lib.hid (HP21.out.below kx)
        have HB22 := Lib.hid (HB21.out.trans (kx.mono HB21.out.size))
        replace QE := Lib.hid (QE.out.below kx QE.out.x.lt)
        have zb0 : (U21.alloc (.cells #[.int .i64 T, .int .i64 0] 3)).cell? ⟨U21.heap.size, 0, none⟩ = some (.int .i64 T) := by simp
        have zb1 : (U21.alloc (.cells #[.int .i64 T, .int .i64 0] 3)).cell? ⟨U21.heap.size, 1, none⟩ = some (.int .i64 0) := by simp
        have lgb : U21.heap.size < (U21.alloc (.cells #[.int .i64 T, .int .i64 0] 3)).heap.size := by simp
        clear kx
        (try dsimp only)
        refine hK.out _ _ ?_ (fun hHeld => ?_)
        · exact ⟨by have := HP22.out.qa i hi; rw [HQ.out] at this; exact this, HP22.out.q0, HP22.out.q1, (HB22.out.cell (p := ⟨w.heap.size, 4, none⟩) hab).trans hb4⟩
        clear hK K
        (try simp only [Act.put, List.setIfInBounds_toArray, List.set_cons_zero, List.set_cons_succ, List.getElem_toArray, List.getElem_cons_succ, List.getElem_cons_zero])
        generalize U21.alloc (.cells #[.int .i64 T, .int .i64 0] 3) = U22 at *
        generalize U21.heap.size = GB at *
        refine wpAnyH_ready (rs := [20]) (by kernel_rfl) (by simp) ?_
        refine AllReadyH.cons rfl (fun K hK => ?_) (AllReadyH.nil)
        go_simp
        (go_at_call 37; refine (HA2.out GB U22 zb0 zb1).mono ?_; rintro e w' ⟨rfl, rfl⟩)
        (try dsimp only)
        refine hK.out _ _ ?_ (fun hHeld => ?_)
        · exact ⟨by have := HP22.out.qa i hi; rw [HQ.out] at this; exact this, HP22.out.q0, HP22.out.q1, (HB22.out.cell (p := ⟨w.heap.size, 4, none⟩) hab).trans hb4⟩
        clear hK K
        (try simp only [Act.put, List.setIfInBounds_toArray, List.set_cons_zero, List.set_cons_succ, List.getElem_toArray, List.getElem_cons_succ, List.getElem_cons_zero])
        refine wpAnyH_ready (rs := [21]) (by kernel_rfl) (by simp) ?_
        refine AllReadyH.cons rfl (fun K hK => ?_) (AllReadyH.nil)
        go_simp
        (go_at_call 18; refine (HST.out U22 HP22.out.tab).mono ?_; rintro e U24 ⟨rfl, kx⟩)
        have HP24 := Lib.hid (HP22.out.below kx)
        have HB24 := Lib.hid (HB22.out.trans (kx.mono HB22.out.size))
        replace QE := Lib.hid (QE.out.below kx QE.out.x.lt)
        clear kx
        (try dsimp only)
        refine hK.out _ _ ?_ (fun hHeld => ?_)
        · exact ⟨by have := HP24.out.qa i hi; rw [HQ.out] at this; exact this, HP24.out.q0, HP24.out.q1, (HB24.out.cell (p := ⟨w.heap.size, 4, none⟩) hab).trans hb4⟩
        clear hK K
        (try simp only [Act.put, List.setIfInBounds_toArray, List.set_cons_zero, List.set_cons_succ, List.getElem_toArray, List.getElem_cons_succ, List.getElem_cons_zero])
        refine wpAnyH_take (i := 22) (v := ?_) rfl (by kernel_rfl) (by kernel_rfl) (by kernel_rfl) (fun _ _ _ h => h) (Or.inl ⟨by rfl, ?_⟩) (by assumption) ?_
        rotate_left
        · intro w' hSw; (try dsimp only at hSw); go_simp; (try with_reducible rfl)
        (try simp only [Act.put, List.setIfInBounds_toArray, List.set_cons_zero, List.set_cons_succ, List.getElem_toArray, List.getElem_cons_succ, List.getElem_cons_zero])
        obtain ⟨y0, y1, y2, y3, y4, y5, y6, y7, yl⟩ := QE.out.x
        have f0 := QE.out.f 0
        have f1 := QE.out.f 1
        have f2 := QE.out.f 2
        have f3 := QE.out.f 3
        have f4 := QE.out.f 4
        have f5 := QE.out.f 5
        have f6 := QE.out.f 6
        have f7 := QE.out.f 7
        refine wpAnyH_ready (rs := [24]) (by kernel_rfl) (by simp) ?_
        refine AllReadyH.cons rfl (fun K hK => ?_) (AllReadyH.nil)
        go_simp
        have X9 : W8 (st8 U24 g5 0 4 1 0 0 q s s) g5 0 4 1 0 0 q s s := ⟨st8_cells QE.out.x, fun j => by have := QE.out.f j; simpa [st8] using this⟩
        have B9 : Below V2.heap.size V2 (st8 U24 g5 0 4 1 0 0 q s s) := by unfold st8; exact (((((((HB24.out.setCell (p := ⟨g5, 0, none⟩) hgE _).setCell (p := ⟨g5, 1, none⟩) hgE _).setCell (p := ⟨g5, 2, none⟩) hgE _).setCell (p := ⟨g5, 3, none⟩) hgE _).setCell (p := ⟨g5, 4, none⟩) hgE _).setCell (p := ⟨g5, 5, none⟩) hgE _).setCell (p := ⟨g5, 6, none⟩) hgE _).setCell (p := ⟨g5, 7, none⟩) hgE _
        have P9 := HP2.out.below B9
        (try dsimp only)
        refine hK.out _ _ ?_ (fun hHeld => ?_)
        · exact ⟨by have := P9.qa i hi; rw [HQ.out] at this; exact this, P9.q0, P9.q1, (B9.cell (p := ⟨w.heap.size, 4, none⟩) hab).trans hb4⟩
        clear hK K
        (try simp only [Act.put, List.setIfInBounds_toArray, List.set_cons_zero, List.set_cons_succ, List.getElem_toArray, List.getElem_cons_succ, List.getElem_cons_zero])
        refine wpAnyH_done (by kernel_rfl) ?_ _
        have HX9 := Lib.hid X9
        have HB9 := Lib.hid B9
        clear X9 B9 P9 QE y0 y1 y2 y3 y4 y5 y6 y7 f0 f1 f2 f3 f4 f5 f6 f7
        go_wp2_with fail
        go_meet
        exact ⟨g5, rfl, HX9.out, hgE, HB9.out⟩
    ·
      go_simp
      have kx : Below V3.heap.size V3 (V3.alloc (.cells #[.int .i64 T, .int .i64 0] 3)) := (Below.refl _ _).alloc (Nat.le_refl _) _
      have HP25 := Lib.hid (HP3.out.below kx)
      have HB25 := Lib.hid (HB3.out.trans (kx.mono HB3.out.size))
      have zb0 : (V3.alloc (.cells #[.int .i64 T, .int .i64 0] 3)).cell? ⟨V3.heap.size, 0, none⟩ = some (.int .i64 T) := by simp
      have zb1 : (V3.alloc (.cells #[.int .i64 T, .int .i64 0] 3)).cell? ⟨V3.heap.size, 1, none⟩ = some (.int .i64 0) := by simp
      have lgb : V3.heap.size < (V3.alloc (.cells #[.int .i64 T, .int .i64 0] 3)).heap.size := by simp
      clear kx
      (try dsimp only)
      refine hK.out _ _ ?_ (fun hHeld => ?_)
      · exact ⟨by have := HP25.out.qa i hi; rw [HQ.out] at this; exact this, HP25.out.q0, HP25.out.q1, (HB25.out.cell (p := ⟨w.heap.size, 4, none⟩) hab).trans hb4⟩
      clear hK K
      (try simp only [Act.put, List.setIfInBounds_toArray, List.set_cons_zero, List.set_cons_succ, List.getElem_toArray, List.getElem_cons_succ, List.getElem_cons_zero])
      generalize V3.alloc (.cells #[.int .i64 T, .int .i64 0] 3) = U25 at *
      generalize V3.heap.size = GB at *
      refine wpAnyH_ready (rs := [11, 23]) (by kernel_rfl) (by simp) ?_
      refine AllReadyH.cons rfl (fun K hK => ?_) (AllReadyH.cons rfl (fun K hK => ?_) (AllReadyH.nil))
      ·
        go_simp
        (go_at_call 18; refine (HST.out U25 HP25.out.tab).mono ?_; rintro e U26 ⟨rfl, kx⟩)
        have HP26 := Lib.hid (HP25.out.below kx)
        have HB26 := Lib.hid (HB25.out.trans (kx.mono HB25.out.size))
        replace zb0 := (kx.cell (p := ⟨GB, 0, none⟩) lgb).trans zb0
        replace zb1 := (kx.cell (p := ⟨GB, 1, none⟩) lgb).trans zb1
        replace lgb := Nat.lt_of_lt_of_le lgb kx.size
        clear kx
        (try dsimp only)
        refine hK.out _ _ ?_ (fun hHeld => ?_)
        · exact ⟨by have := HP26.out.qa i hi; rw [HQ.out] at this; exact this, HP26.out.q0, HP26.out.q1, (HB26.out.cell (p := ⟨w.heap.size, 4, none⟩) hab).trans hb4⟩
        clear hK K
        (try simp only [Act.put, List.setIfInBounds_toArray, List.set_cons_zero, List.set_cons_succ, List.getElem_toArray, List.getElem_cons_succ, List.getElem_cons_zero])
        refine wpAnyH_ready (rs := [20, 23]) (by kernel_rfl) (by simp) ?_
        refine AllReadyH.cons rfl (fun K hK => ?_) (AllReadyH.cons rfl (fun K hK => ?_) (AllReadyH.nil))
        ·
          go_simp
          (go_at_call 37; refine (HA2.out GB U26 zb0 zb1).mono ?_; rintro e w' ⟨rfl, rfl⟩)
          (try dsimp only)
          refine hK.out _ _ ?_ (fun hHeld => ?_)
          · exact ⟨by have := HP26.out.qa i hi; rw [HQ.out] at this; exact this, HP26.out.q0, HP26.out.q1, (HB26.out.cell (p := ⟨w.heap.size, 4, none⟩) hab).trans hb4⟩
          clear hK K
          (try simp only [Act.put, List.setIfInBounds_toArray, List.set_cons_zero, List.set_cons_succ, List.getElem_toArray, List.getElem_cons_succ, List.getElem_cons_zero])
          refine wpAnyH_ready (rs := [21, 23]) (by kernel_rfl) (by simp) ?_
          refine AllReadyH.cons rfl (fun K hK => ?_) (AllReadyH.cons rfl (fun K hK => ?_) (AllReadyH.nil))
          ·
            go_simp
            (go_at_call 18; refine (HST.out U26 HP26.out.tab).mono ?_; rintro e U28 ⟨rfl, kx⟩)
            have HP28 := Lib.hid (HP26.out.below kx)
            have HB28 := Lib.hid (HB26.out.trans (kx.mono HB26.out.size))
            clear kx
            (try dsimp only)
            refine hK.out _ _ ?_ (fun hHeld => ?_)
            · exact ⟨by have := HP28.out.qa i hi; rw [HQ.out] at this; exact this, HP28.out.q0, HP28.out.q1, (HB28.out.cell (p := ⟨w.heap.size, 4, none⟩) hab).trans hb4⟩
            clear hK K
            (try simp only [Act.put, List.setIfInBounds_toArray, List.set_cons_zero, List.set_cons_succ, List.getElem_toArray, List.getElem_cons_succ, List.getElem_cons_zero])
            refine wpAnyH_take (i := 22) (v := ?_) rfl (by kernel_rfl) (by kernel_rfl) (by kernel_rfl) (fun _ _ _ h => h) (Or.inl ⟨by rfl, ?_⟩) (by assumption) ?_
            rotate_left
            · intro w' hSw; (try dsimp only at hSw); go_simp; (try with_reducible rfl)
            (try simp only [Act.put, List.setIfInBounds_toArray, List.set_cons_zero, List.set_cons_succ, List.getElem_toArray, List.getElem_cons_succ, List.getElem_cons_zero])
            refine wpAnyH_ready (rs := [23]) (by kernel_rfl) (by simp) ?_
            refine AllReadyH.cons rfl (fun K hK => ?_) (AllReadyH.nil)
            go_simp
            have kx : Below U28.heap.size U28 (U28.alloc (.cells #[.int .i64 0, .int .i64 0, .int .i64 0, .int .i64 0, .int .i64 0, .int .u64 0, .int .u64 0, .int .u64 0] 53)) := (Below.refl _ _).alloc (Nat.le_refl _) _
            have HP29 := Lib.hid (HP28.out.below kx)
            have HB29 := Lib.hid (HB28.out.trans (kx.mono HB28.out.size))
            have QE := Lib.hid (W8.mkR9 U28 0 0 0 0 0 0 0 0)
            have hgE : V2.heap.size ≤ U28.heap.size := HB28.out.size
            clear kx
            (try dsimp only)
            refine hK.out _ _ ?_ (fun hHeld => ?_)
            · exact ⟨by have := HP29.out.qa i hi; rw [HQ.out] at this; exact this, HP29.out.q0, HP29.out.q1, (HB29.out.cell (p := ⟨w.heap.size, 4, none⟩) hab).trans hb4⟩
            clear hK K
            (try simp only [Act.put, List.setIfInBounds_toArray, List.set_cons_zero, List.set_cons_succ, List.getElem_toArray, List.getElem_cons_succ, List.getElem_cons_zero])
            generalize U28.alloc (.cells #[.int .i64 0, .int .i64 0, .int .i64 0, .int .i64 0, .int .i64 0, .int .u64 0, .int .u64 0, .int .u64 0] 53) = U29 at *
            generalize U28.heap.size = g5 at *
            obtain ⟨y0, y1, y2, y3, y4, y5, y6, y7, yl⟩ := QE.out.x
            have f0 := QE.out.f 0
            have f1 := QE.out.f 1
            have f2 := QE.out.f 2
            have f3 := QE.out.f 3
            have f4 := QE.out.f 4
            have f5 := QE.out.f 5
            have f6 := QE.out.f 6
            have f7 := QE.out.f 7
            refine wpAnyH_ready (rs := [24]) (by kernel_rfl) (by simp) ?_
            refine AllReadyH.cons rfl (fun K hK => ?_) (AllReadyH.nil)
            go_simp
            have X9 : W8 (st8 U29 g5 0 4 1 0 0 q s s) g5 0 4 1 0 0 q s s := ⟨st8_cells QE.out.x, fun j => by have := QE.out.f j; simpa [st8] using this⟩
            have B9 : Below V2.heap.size V2 (st8 U29 g5 0 4 1 0 0 q s s) := by unfold st8; exact (((((((HB29.out.setCell (p := ⟨g5, 0, none⟩) hgE _).setCell (p := ⟨g5, 1, none⟩) hgE _).setCell (p := ⟨g5, 2, none⟩) hgE _).setCell (p := ⟨g5, 3, none⟩) hgE _).setCell (p := ⟨g5, 4, none⟩) hgE _).setCell (p := ⟨g5, 5, none⟩) hgE _).setCell (p := ⟨g5, 6, none⟩) hgE _).setCell (p := ⟨g5, 7, none⟩) hgE _
            have P9 := HP2.out.below B9
            (try dsimp only)
            refine hK.out _ _ ?_ (fun hHeld => ?_)
            · exact ⟨by have := P9.qa i hi; rw [HQ.out] at this; exact this, P9.q0, P9.q1, (B9.cell (p := ⟨w.heap.size, 4, none⟩) hab).trans hb4⟩
            clear hK K
            (try simp only [Act.put, List.setIfInBounds_toArray, List.set_cons_zero, List.set_cons_succ, List.getElem_toArray, List.getElem_cons_succ, List.getElem_cons_zero])
            refine wpAnyH_done (by kernel_rfl) ?_ _
            have HX9 := Lib.hid X9
            have HB9 := Lib.hid B9
            clear X9 B9 P9 QE y0 y1 y2 y3 y4 y5 y6 y7 f0 f1 f2 f3 f4 f5 f6 f7
            go_wp2_with fail
            go_meet
            exact ⟨g5, rfl, HX9.out, hgE, HB9.out⟩
          ·
            go_simp
            have kx : Below U26.heap.size U26 (U26.alloc (.cells #[.int .i64 0, .int .i64 0, .int .i64 0, .int .i64 0, .int .i64 0, .int .u64 0, .int .u64 0, .int .u64 0] 53)) := (Below.refl _ _).alloc (Nat.le_refl _) _
            have HP30 := Lib.hid (HP26.out.below kx)
            have HB30 := Lib.hid (HB26.out.trans (kx.mono HB26.out.size))
            have QE := Lib.hid (W8.mkR9 U26 0 0 0 0 0 0 0 0)
            have hgE : V2.heap.size ≤ U26.heap.size := HB26.out.size
            clear kx
            (try dsimp only)
            refine hK.out _ _ ?_ (fun hHeld => ?_)
            · exact ⟨by have := HP30.out.qa i hi; rw [HQ.out] at this; exact this, HP30.out.q0, HP30.out.q1, (HB30.out.cell (p := ⟨w.heap.size, 4, none⟩) hab).trans hb4⟩
            clear hK K
            (try simp only [Act.put, List.setIfInBounds_toArray, List.set_cons_zero, List.set_cons_succ, List.getElem_toArray, List.getElem_cons_succ, List.getElem_cons_zero])
            generalize U26.alloc (.cells #[.int .i64 0, .int .i64 0, .int .i64 0, .int .i64 0, .int .i64 0, .int .u64 0, .int .u64 0, .int .u64 0] 53) = U30 at *
            generalize U26.heap.size = g5 at *
            refine wpAnyH_ready (rs := [21]) (by kernel_rfl) (by simp) ?_
            refine AllReadyH.cons rfl (fun K hK => ?_) (AllReadyH.nil)
            go_simp
            (go_at_call 18; refine (HST.out U30 HP30.out.tab).mono ?_; rintro e U31 ⟨rfl, kx⟩)
            have HP31 := Lib.hid (HP30.out.below kx)
            have HB31 := Lib.hid (HB30.out.trans (kx.mono HB30.out.size))
            replace QE := Lib.hid (QE.out.below kx QE.out.x.lt)
            clear kx
            (try dsimp only)
            refine hK.out _ _ ?_ (fun hHeld => ?_)
            · exact ⟨by have := HP31.out.qa i hi; rw [HQ.out] at this; exact this, HP31.out.q0, HP31.out.q1, (HB31.out.cell (p := ⟨w.heap.size, 4, none⟩) hab).trans hb4⟩
            clear hK K
            (try simp only [Act.put, List.setIfInBounds_toArray, List.set_cons_zero, List.set_cons_succ, List.getElem_toArray, List.getElem_cons_succ, List.getElem_cons_zero])
            refine wpAnyH_take (i := 22) (v := ?_) rfl (by kernel_rfl) (by kernel_rfl) (by kernel_rfl) (fun _ _ _ h => h) (Or.inl ⟨by rfl, ?_⟩) (by assumption) ?_
            rotate_left
            · intro w' hSw; (try dsimp only at hSw); go_simp; (try with_reducible rfl)
            (try simp only [Act.put, List.setIfInBounds_toArray, List.set_cons_zero, List.set_cons_succ, List.getElem_toArray, List.getElem_cons_succ, List.getElem_cons_zero])
            obtain ⟨y0, y1, y2, y3, y4, y5, y6, y7, yl⟩ := QE.out.x
            have f0 := QE.out.f 0
            have f1 := QE.out.f 1
            have f2 := QE.out.f 2
            have f3 := QE.out.f 3
            have f4 := QE.out.f 4
            have f5 := QE.out.f 5
            have f6 := QE.out.f 6
            have f7 := QE.out.f 7
            refine wpAnyH_ready (rs := [24]) (by kernel_rfl) (by simp) ?_
            refine AllReadyH.cons rfl (fun K hK => ?_) (AllReadyH.nil)
            go_simp
            have X9 : W8 (st8 U31 g5 0 4 1 0 0 q s s) g5 0 4 1 0 0 q s s := ⟨st8_cells QE.out.x, fun j => by have := QE.out.f j; simpa [st8] using this⟩
            have B9 : Below V2.heap.size V2 (st8 U31 g5 0 4 1 0 0 q s s) := by unfold st8; exact (((((((HB31.out.setCell (p := ⟨g5, 0, none⟩) hgE _).setCell (p := ⟨g5, 1, none⟩) hgE _).setCell (p := ⟨g5, 2, none⟩) hgE _).setCell (p := ⟨g5, 3, none⟩) hgE _).setCell (p := ⟨g5, 4, none⟩) hgE _).setCell (p := ⟨g5, 5, none⟩) hgE _).setCell (p := ⟨g5, 6, none⟩) hgE _).setCell (p := ⟨g5, 7, none⟩) hgE _
            have P9 := HP2.out.below B9
            (try dsimp only)
            refine hK.out _ _ ?_ (fun hHeld => ?_)
            · exact ⟨by have := P9.qa i hi; rw [HQ.out] at this; exact this, P9.q0, P9.q1, (B9.cell (p := ⟨w.heap.size, 4, none⟩) hab).trans hb4⟩
            clear hK K
            (try simp only [Act.put, List.setIfInBounds_toArray, List.set_cons_zero, List.set_cons_succ, List.getElem_toArray, List.getElem_cons_succ, List.getElem_cons_zero])
            refine wpAnyH_done (by kernel_rfl) ?_ _
            have HX9 := Lib.hid X9
            have HB9 := Lib.hid B9
            clear X9 B9 P9 QE y0 y1 y2 y3 y4 y5 y6 y7 f0 f1 f2 f3 f4 f5 f6 f7
            go_wp2_with fail
            go_meet
            exact ⟨g5, rfl, HX9.out, hgE, HB9.out⟩
        ·
          go_simp
          have kx : Below U26.heap.size U26 (U26.alloc (.cells #[.int .i64 0, .int .i64 0, .int .i64 0, .int .i64 0, .int .i64 0, .int .u64 0, .int .u64 0, .int .u64 0] 53)) := (Below.refl _ _).alloc (Nat.le_refl _) _
          have HP32 := Lib.hid (HP26.out.below kx)
          have HB32 := Lib.hid (HB26.out.trans (kx.mono HB26.out.size))
          replace zb0 := (kx.cell (p := ⟨GB, 0, none⟩) lgb).trans zb0
          replace zb1 := (kx.cell (p := ⟨GB, 1, none⟩) lgb).trans zb1
          replace lgb := Nat.lt_of_lt_of_le lgb kx.size
          have QE := Lib.hid (W8.mkR9 U26 0 0 0 0 0 0 0 0)
          have hgE : V2.heap.size ≤ U26.heap.size := HB26.out.size
          clear kx
          (try dsimp only)
          refine hK.out _ _ ?_ (fun hHeld => ?_)
          · exact ⟨by have := HP32.out.qa i hi; rw [HQ.out] at this; exact this, HP32.out.q0, HP32.out.q1, (HB32.out.cell (p := ⟨w.heap.size, 4, none⟩) hab).trans hb4⟩
          clear hK K
          (try simp only [Act.put, List.setIfInBounds_toArray, List.set_cons_zero, List.set_cons_succ, List.getElem_toArray, List.getElem_cons_succ, List.getElem_cons_zero])
          generalize U26.alloc (.cells #[.int .i64 0, .int .i64 0, .int .i64 0, .int .i64 0, .int .i64 0, .int .u64 0, .int .u64 0, .int .u64 0] 53) = U32 at *
          generalize U26.heap.size = g5 at *
          refine wpAnyH_ready (rs := [20]) (by kernel_rfl) (by simp) ?_
          refine AllReadyH.cons rfl (fun K hK => ?_) (AllReadyH.nil)
          go_simp
          (go_at_call 37; refine (HA2.out GB U32 zb0 zb1).mono ?_; rintro e w' ⟨rfl, rfl⟩)
          (try dsimp only)
          refine hK.out _ _ ?_ (fun hHeld => ?_)
          · exact ⟨by have := HP32.out.qa i hi; rw [HQ.out] at this; exact this, HP32.out.q0, HP32.out.q1, (HB32.out.cell (p := ⟨w.heap.size, 4, none⟩) hab).trans hb4⟩
          clear hK K
          (try simp only [Act.put, List.setIfInBounds_toArray, List.set_cons_zero, List.set_cons_succ, List.getElem_toArray, List.getElem_cons_succ, List.getElem_cons_zero])
          refine wpAnyH_ready (rs := [21]) (by kernel_rfl) (by simp) ?_
          refine AllReadyH.cons rfl (fun K hK => ?_) (AllReadyH.nil)
          go_simp
          (go_at_call 18; refine (HST.out U32 HP32.out.tab).mono ?_; rintro e U34 ⟨rfl, kx⟩)
          have HP34 := Lib.hid (HP32.out.below kx)
          have HB34 := Lib.hid (HB32.out.trans (kx.mono HB32.out.size))
          replace QE := Lib.hid (QE.out.below kx QE.out.x.lt)
          clear kx
          (try dsimp only)
          refine hK.out _ _ ?_ (fun hHeld => ?_)
          · exact ⟨by have := HP34.out.qa i hi; rw [HQ.out] at this; exact this, HP34.out.q0, HP34.out.q1, (HB34.out.cell (p := ⟨w.heap.size, 4, none⟩) hab).trans hb4⟩
          clear hK K
          (try simp only [Act.put, List.setIfInBounds_toArray, List.set_cons_zero, List.set_cons_succ, List.getElem_toArray, List.getElem_cons_succ, List.getElem_cons_zero])
          refine wpAnyH_take (i := 22) (v := ?_) rfl (by kernel_rfl) (by kernel_rfl) (by kernel_rfl) (fun _ _ _ h => h) (Or.inl ⟨by rfl, ?_⟩) (by assumption) ?_
          rotate_left
          · intro w' hSw; (try dsimp only at hSw); go_simp; (try with_reducible rfl)
          (try simp only [Act.put, List.setIfInBounds_toArray, List.set_cons_zero, List.set_cons_succ, List.getElem_toArray, List.getElem_cons_succ, List.getElem_cons_zero])
          obtain ⟨y0, y1, y2, y3, y4, y5, y6, y7, yl⟩ := QE.out.x
          have f0 := QE.out.f 0
          have f1 := QE.out.f 1
          have f2 := QE.out.f 2
          have f3 := QE.out.f 3
          have f4 := QE.out.f 4
          have f5 := QE.out.f 5
          have f6 := QE.out.f 6
          have f7 := QE.out.f 7
          refine wpAnyH_ready (rs := [24]) (by kernel_rfl) (by simp) ?_
          refine AllReadyH.cons rfl (fun K hK => ?_) (AllReadyH.nil)
          go_simp
          have X9 : W8 (st8 U34 g5 0 4 1 0 0 q s s) g5 0 4 1 0 0 q s s := ⟨st8_cells QE.out.x, fun j => by have := QE.out.f j; simpa [st8] using this⟩
          have B9 : Below V2.heap.size V2 (st8 U34 g5 0 4 1 0 0 q s s) := by unfold st8; exact (((((((HB34.out.setCell (p := ⟨g5, 0, none⟩) hgE _).setCell (p := ⟨g5, 1, none⟩) hgE _).setCell (p := ⟨g5, 2, none⟩) hgE _).setCell (p := ⟨g5, 3, none⟩) hgE _).setCell (p := ⟨g5, 4, none⟩) hgE _).setCell (p := ⟨g5, 5, none⟩) hgE _).setCell (p := ⟨g5, 6, none⟩) hgE _).setCell (p := ⟨g5, 7, none⟩) hgE _
          have P9 := HP2.out.below B9
          (try dsimp only)
          refine hK.out _ _ ?_ (fun hHeld => ?_)
          · exact ⟨by have := P9.qa i hi; rw [HQ.out] at this; exact this, P9.q0, P9.q1, (B9.cell (p := ⟨w.heap.size, 4, none⟩) hab).trans hb4⟩
          clear hK K
          (try simp only [Act.put, List.setIfInBounds_toArray, List.set_cons_zero, List.set_cons_succ, List.getElem_toArray, List.getElem_cons_succ, List.getElem_cons_zero])
          refine wpAnyH_done (by kernel_rfl) ?_ _
          have HX9 := Lib.hid X9
          have HB9 := Lib.hid B9
          clear X9 B9 P9 QE y0 y1 y2 y3 y4 y5 y6 y7 f0 f1 f2 f3 f4 f5 f6 f7
          go_wp2_with fail
          go_meet
          exact ⟨g5, rfl, HX9.out, hgE, HB9.out⟩
      ·
        go_simp
        have kx : Below U25.heap.size U25 (U25.alloc (.cells #[.int .i64 0, .int .i64 0, .int .i64 0, .int .i64 0, .int .i64 0, .int .u64 0, .int .u64 0, .int .u64 0] 53)) := (Below.refl _ _).alloc (Nat.le_refl _) _
        have HP35 := Lib.hid (HP25.out.below kx)
        have HB35 := Lib.hid (HB25.out.trans (kx.mono HB25.out.size))
        replace zb0 := (kx.cell (p := ⟨GB, 0, none⟩) lgb).trans zb0
        replace zb1 := (kx.cell (p := ⟨GB, 1, none⟩) lgb).trans zb1
        replace lgb := Nat.lt_of_lt_of_le lgb kx.size
        have QE := Lib.hid (W8.mkR9 U25 0 0 0 0 0 0 0 0)
        have hgE : V2.heap.size ≤ U25.heap.size := HB25.out.size
        clear kx
        (try dsimp only)
        refine hK.out _ _ ?_ (fun hHeld => ?_)
        · exact ⟨by have := HP35.out.qa i hi; rw [HQ.out] at this; exact this, HP35.out.q0, HP35.out.q1, (HB35.out.cell (p := ⟨w.heap.size, 4, none⟩) hab).trans hb4⟩
        clear hK K
        (try simp only [Act.put, List.setIfInBounds_toArray, List.set_cons_zero, List.set_cons_succ, List.getElem_toArray, List.getElem_cons_succ, List.getElem_cons_zero])
        generalize U25.alloc (.cells #[.int .i64 0, .int .i64 0, .int .i64 0, .int .i64 0, .int .i64 0, .int .u64 0, .int .u64 0, .int .u64 0] 53) = U35 at *
        generalize U25.heap.size = g5 at *
        refine wpAnyH_ready (rs := [11]) (by kernel_rfl) (by simp) ?_
        refine AllReadyH.cons rfl (fun K hK => ?_) (AllReadyH.nil)
        go_simp
        (go_at_call 18; refine (HST.out U35 HP35.out.tab).mono ?_; rintro e U36 ⟨rfl, kx⟩)
        have HP36 := Lib.hid (HP35.out.below kx)
        have HB36 := Lib.hid (HB35.out.trans (kx.mono HB35.out.size))
        replace QE := Lib.hid (QE.out.below kx QE.out.x.lt)
        replace zb0 := (kx.cell (p := ⟨GB, 0, none⟩) lgb).trans zb0
        replace zb1 := (kx.cell (p := ⟨GB, 1, none⟩) lgb).trans zb1
        replace lgb := Nat.lt_of_lt_of_le lgb kx.size
        clear kx
        (try dsimp only)
        refine hK.out _ _ ?_ (fun hHeld => ?_)
        · exact ⟨by have := HP36.out.qa i hi; rw [HQ.out] at this; exact this, HP36.out.q0, HP36.out.q1, (HB36.out.cell (p := ⟨w.heap.size, 4, none⟩) hab).trans hb4⟩
        clear hK K
        (try simp only [Act.put, List.setIfInBounds_toArray, List.set_cons_zero, List.set_cons_succ, List.getElem_toArray, List.getElem_cons_succ, List.getElem_cons_zero])
        refine wpAnyH_ready (rs := [20]) (by kernel_rfl) (by simp) ?_
        refine AllReadyH.cons rfl (fun K hK => ?_) (AllReadyH.nil)
        go_simp
        (go_at_call 37; refine (HA2.out GB U36 zb0 zb1).mono ?_; rintro e w' ⟨rfl, rfl⟩)
        (try dsimp only)
        refine hK.out _ _ ?_ (fun hHeld => ?_)
        · exact ⟨by have := HP36.out.qa i hi; rw [HQ.out] at this; exact this, HP36.out.q0, HP36.out.q1, (HB36.out.cell (p := ⟨w.heap.size, 4, none⟩) hab).trans hb4⟩
        clear hK K
        (try simp only [Act.put, List.setIfInBounds_toArray, List.set_cons_zero, List.set_cons_succ, List.getElem_toArray, List.getElem_cons_succ, List.getElem_cons_zero])
        refine wpAnyH_ready (rs := [21]) (by kernel_rfl) (by simp) ?_
        refine AllReadyH.cons rfl (fun K hK => ?_) (AllReadyH.nil)
        go_simp
        (go_at_call 18; refine (HST.out U36 HP36.out.tab).mono ?_; rintro e U38 ⟨rfl, kx⟩)
        have HP38 := Lib.hid (HP36.out.below kx)
        have HB38 := Lib.hid (HB36.out.trans (kx.mono HB36.out.size))
        replace QE := Lib.hid (QE.out.below kx QE.out.x.lt)
        clear kx
        (try dsimp only)
        refine hK.out _ _ ?_ (fun hHeld => ?_)
        · exact ⟨by have := HP38.out.qa i hi; rw [HQ.out] at this; exact this, HP38.out.q0, HP38.out.q1, (HB38.out.cell (p := ⟨w.heap.size, 4, none⟩) hab).trans hb4⟩
        clear hK K
        (try simp only [Act.put, List.setIfInBounds_toArray, List.set_cons_zero, List.set_cons_succ, List.getElem_toArray, List.getElem_cons_succ, List.getElem_cons_zero])
        refine wpAnyH_take (i := 22) (v := ?_) rfl (by kernel_rfl) (by kernel_rfl) (by kernel_rfl) (fun _ _ _ h => h) (Or.inl ⟨by rfl, ?_⟩) (by assumption) ?_
        rotate_left
        · intro w' hSw; (try dsimp only at hSw); go_simp; (try with_reducible rfl)
        (try simp only [Act.put, List.setIfInBounds_toArray, List.set_cons_zero, List.set_cons_succ, List.getElem_toArray, List.getElem_cons_succ, List.getElem_cons_zero])
        obtain ⟨y0, y1, y2, y3, y4, y5, y6, y7, yl⟩ := QE.out.x
        have f0 := QE.out.f 0
        have f1 := QE.out.f 1
        have f2 := QE.out.f 2
        have f3 := QE.out.f 3
        have f4 := QE.out.f 4
        have f5 := QE.out.f 5
        have f6 := QE.out.f 6
        have f7 := QE.out.f 7
        refine wpAnyH_ready (rs := [24]) (by kernel_rfl) (by simp) ?_
        refine AllReadyH.cons rfl (fun K hK => ?_) (AllReadyH.nil)
        go_simp
        have X9 : W8 (st8 U38 g5 0 4 1 0 0 q s s) g5 0 4 1 0 0 q s s := ⟨st8_cells QE.out.x, fun j => by have := QE.out.f j; simpa [st8] using this⟩
        have B9 : Below V2.heap.size V2 (st8 U38 g5 0 4 1 0 0 q s s) := by unfold st8; exact (((((((HB38.out.setCell (p := ⟨g5, 0, none⟩) hgE _).setCell (p := ⟨g5, 1, none⟩) hgE _).setCell (p := ⟨g5, 2, none⟩) hgE _).setCell (p := ⟨g5, 3, none⟩) hgE _).setCell (p := ⟨g5, 4, none⟩) hgE _).setCell (p := ⟨g5, 5, none⟩) hgE _).setCell (p := ⟨g5, 6, none⟩) hgE _).setCell (p := ⟨g5, 7, none⟩) hgE _
        have P9 := HP2.out.below B9
        (try dsimp only)
        refine hK.out _ _ ?_ (fun hHeld => ?_)
        · exact ⟨by have := P9.qa i hi; rw [HQ.out] at this; exact this, P9.q0, P9.q1, (B9.cell (p := ⟨w.heap.size, 4, none⟩) hab).trans hb4⟩
        clear hK K
        (try simp only [Act.put, List.setIfInBounds_toArray, List.set_cons_zero, List.set_cons_succ, List.getElem_toArray, List.getElem_cons_succ, List.getElem_cons_zero])
        refine wpAnyH_done (by kernel_rfl) ?_ _
        have HX9 := Lib.hid X9
        have HB9 := Lib.hid B9
        clear X9 B9 P9 QE y0 y1 y2 y3 y4 y5 y6 y7 f0 f1 f2 f3 f4 f5 f6 f7
        go_wp2_with fail
        go_meet
        exact ⟨g5, rfl, HX9.out, hgE, HB9.out⟩
    ·
      go_simp
      have kx : Below V3.heap.size V3 (V3.alloc (.cells #[.int .i64 0, .int .i64 0, .int .i64 0, .int .i64 0, .int .i64 0, .int .u64 0, .int .u64 0, .int .u64 0] 53)) := (Below.refl _ _).alloc (Nat.le_refl _) _
      have HP39 := Lib.hid (HP3.out.below kx)
      have HB39 := Lib.hid (HB3.out.trans (kx.mono HB3.out.size))
      have QE := Lib.hid (W8.mkR9 V3 0 0 0 0 0 0 0 0)
      have hgE : V2.heap.size ≤ V3.heap.size := HB3.out.size
      clear kx
      (try dsimp only)
      refine hK.out _ _ ?_ (fun hHeld => ?_)
      · exact ⟨by have := HP39.out.qa i hi; rw [HQ.out] at this; exact this, HP39.out.q0, HP39.out.q1, (HB39.out.cell (p := ⟨w.heap.size, 4, none⟩) hab).trans hb4⟩
      clear hK K
      (try simp only [Act.put, List.setIfInBounds_toArray, List.set_cons_zero, List.set_cons_succ, List.getElem_toArray, List.getElem_cons_succ, List.getElem_cons_zero])
      generalize V3.alloc (.cells #[.int .i64 0, .int .i64 0, .int .i64 0, .int .i64 0, .int .i64 0, .int .u64 0, .int .u64 0, .int .u64 0] 53) = U39 at *
      generalize V3.heap.size = g5 at *
      refine wpAnyH_ready (rs := [11, 19]) (by kernel_rfl) (by simp) ?_
      refine AllReadyH.cons rfl (fun K hK => ?_) (AllReadyH.cons rfl (fun K hK => ?_) (AllReadyH.nil))
      ·
        go_simp
        (go_at_call 18; refine (HST.out U39 HP39.out.tab).mono ?_; rintro e U40 ⟨rfl, kx⟩)
        have HP40 := Lib.hid (HP39.out.below kx)
        have HB40 := Lib.hid (HB39.out.trans (kx.mono HB39.out.size))
        replace QE := Lib.hid (QE.out.below kx QE.out.x.lt)
        clear kx
        (try dsimp only)
        refine hK.out _ _ ?_ (fun hHeld => ?_)
        · exact ⟨by have := HP40.out.qa i hi; rw [HQ.out] at this; exact this, HP40.out.q0, HP40.out.q1, (HB40.out.cell (p := ⟨w.heap.size, 4, none⟩) hab).trans hb4⟩
        clear hK K
        (try simp only [Act.put, List.setIfInBounds_toArray, List.set_cons_zero, List.set_cons_succ, List.getElem_toArray, List.getElem_cons_succ, List.getElem_cons_zero])
        refine wpAnyH_ready (rs := [19]) (by kernel_rfl) (by simp) ?_
        refine AllReadyH.cons rfl (fun K hK => ?_) (AllReadyH.nil)
        go_simp
        have kx : Below U40.heap.size U40 (U40.alloc (.cells #[.int .i64 T, .int .i64 0] 3)) := (Below.refl _ _).alloc (Nat.le_refl _) _
        have HP41 := Lib.hid (HP40.out.below kx)
        have HB41 := Lib.hid (HB40.out.trans (kx.mono HB40.out.size))
        replace QE := Lib.hid (QE.out.below kx QE.out.x.lt)
        have zb0 : (U40.alloc (.cells #[.int .i64 T, .int .i64 0] 3)).cell? ⟨U40.heap.size, 0, none⟩ = some (.int .i64 T) := by simp
        have zb1 : (U40.alloc (.cells #[.int .i64 T, .int .i64 0] 3)).cell? ⟨U40.heap.size, 1, none⟩ = some (.int .i64 0) := by simp
        have lgb : U40.heap.size < (U40.alloc (.cells #[.int .i64 T, .int .i64 0] 3)).heap.size := by simp
        clear kx
        (try dsimp only)
        refine hK.out _ _ ?_ (fun hHeld => ?_)
        · exact ⟨by have := HP41.out.qa i hi; rw [HQ.out] at this; exact this, HP41.out.q0, HP41.out.q1, (HB41.out.cell (p := ⟨w.heap.size, 4, none⟩) hab).trans hb4⟩
        clear hK K
        (try simp only [Act.put, List.setIfInBounds_toArray, List.set_cons_zero, List.set_cons_succ, List.getElem_toArray, List.getElem_cons_succ, List.getElem_cons_zero])
        generalize U40.alloc (.cells #[.int .i64 T, .int .i64 0] 3) = U41 at *
        generalize U40.heap.size = GB at *
        refine wpAnyH_ready (rs := [20]) (by kernel_rfl) (by simp) ?_
        refine AllReadyH.cons rfl (fun K hK => ?_) (AllReadyH.nil)
        go_simp
        (go_at_call 37; refine (HA2.out GB U41 zb0 zb1).mono ?_; rintro e w' ⟨rfl, rfl⟩)
        (try dsimp only)
        refine hK.out _ _ ?_ (fun hHeld => ?_)
        · exact ⟨by have := HP41.out.qa i hi; rw [HQ.out] at this; exact this, HP41.out.q0, HP41.out.q1, (HB41.out.cell (p := ⟨w.heap.size, 4, none⟩) hab).trans hb4⟩
        clear hK K
        (try simp only [Act.put, List.setIfInBounds_toArray, List.set_cons_zero, List.set_cons_succ, List.getElem_toArray, List.getElem_cons_succ, List.getElem_cons_zero])
        refine wpAnyH_ready (rs := [21]) (by kernel_rfl) (by simp) ?_
        refine AllReadyH.cons rfl (fun K hK => ?_) (AllReadyH.nil)
        go_simp
        (go_at_call 18; refine (HST.out U41 HP41.out.tab).mono ?_; rintro e U43 ⟨rfl, kx⟩)
        have HP43 := Lib.hid (HP41.out.below kx)
        have HB43 := Lib.hid (HB41.out.trans (kx.mono HB41.out.size))
        replace QE := Lib.hid (QE.out.below kx QE.out.x.lt)
        clear kx
        (try dsimp only)
        refine hK.out _ _ ?_ (fun hHeld => ?_)
        · exact ⟨by have := HP43.out.qa i hi; rw [HQ.out] at this; exact this, HP43.out.q0, HP43.out.q1, (HB43.out.cell (p := ⟨w.heap.size, 4, none⟩) hab).trans hb4⟩
        clear hK K
        (try simp only [Act.put, List.setIfInBounds_toArray, List.set_cons_zero, List.set_cons_succ, List.getElem_toArray, List.getElem_cons_succ, List.getElem_cons_zero])
        refine wpAnyH_take (i := 22) (v := ?_) rfl (by kernel_rfl) (by kernel_rfl) (by kernel_rfl) (fun _ _ _ h => h) (Or.inl ⟨by rfl, ?_⟩) (by assumption) ?_
        rotate_left
        · intro w' hSw; (try dsimp only at hSw); go_simp; (try with_reducible rfl)
        (try simp only [Act.put, List.setIfInBounds_toArray, List.set_cons_zero, List.set_cons_succ, List.getElem_toArray, List.getElem_cons_succ, List.getElem_cons_zero])
        obtain ⟨y0, y1, y2, y3, y4, y5, y6, y7, yl⟩ := QE.out.x
        have f0 := QE.out.f 0
        have f1 := QE.out.f 1
        have f2 := QE.out.f 2
        have f3 := QE.out.f 3
        have f4 := QE.out.f 4
        have f5 := QE.out.f 5
        have f6 := QE.out.f 6
        have f7 := QE.out.f 7
        refine wpAnyH_ready (rs := [24]) (by kernel_rfl) (by simp) ?_
        refine AllReadyH.cons rfl (fun K hK => ?_) (AllReadyH.nil)
        go_simp
        have X9 : W8 (st8 U43 g5 0 4 1 0 0 q s s) g5 0 4 1 0 0 q s s := ⟨st8_cells QE.out.x, fun j => by have := QE.out.f j; simpa [st8] using this⟩
        have B9 : Below V2.heap.size V2 (st8 U43 g5 0 4 1 0 0 q s s) := by unfold st8; exact (((((((HB43.out.setCell (p := ⟨g5, 0, none⟩) hgE _).setCell (p := ⟨g5, 1, none⟩) hgE _).setCell (p := ⟨g5, 2, none⟩) hgE _).setCell (p := ⟨g5, 3, none⟩) hgE _).setCell (p := ⟨g5, 4, none⟩) hgE _).setCell (p := ⟨g5, 5, none⟩) hgE _).setCell (p := ⟨g5, 6, none⟩) hgE _).setCell (p := ⟨g5, 7, none⟩) hgE _
        have P9 := HP2.out.below B9
        (try dsimp only)
        refine hK.out _ _ ?_ (fun hHeld => ?_)
        · exact ⟨by have := P9.qa i hi; rw [HQ.out] at this; exact this, P9.q0, P9.q1, (B9.cell (p := ⟨w.heap.size, 4, none⟩) hab).trans hb4⟩
        clear hK K
        (try simp only [Act.put, List.setIfInBounds_toArray, List.set_cons_zero, List.set_cons_succ, List.getElem_toArray, List.getElem_cons_succ, List.getElem_cons_zero])
        refine wpAnyH_done (by kernel_rfl) ?_ _
        have HX9 := Lib.hid X9
        have HB9 := Lib.hid B9
        clear X9 B9 P9 QE y0 y1 y2 y3 y4 y5 y6 y7 f0 f1 f2 f3 f4 f5 f6 f7
        go_wp2_with fail
        go_meet
        exact ⟨g5, rfl, HX9.out, hgE, HB9.out⟩
      ·
        go_simp
        have kx : Below U39.heap.size U39 (U39.alloc (.cells #[.int .i64 T, .int .i64 0] 3)) := (Below.refl _ _).alloc (Nat.le_refl _) _
        have HP44 := Lib.hid (HP39.out.below kx)
        have HB44 := Lib.hid (HB39.out.trans (kx.mono HB39.out.size))
        replace QE := Lib.hid (QE.out.below kx QE.out.x.lt)
        have zb0 : (U39.alloc (.cells #[.int .i64 T, .int .i64 0] 3)).cell? ⟨U39.heap.size, 0, none⟩ = some (.int .i64 T) := by simp
        have zb1 : (U39.alloc (.cells #[.int .i64 T, .int .i64 0] 3)).cell? ⟨U39.heap.size, 1, none⟩ = some (.int .i64 0) := by simp
        have lgb : U39.heap.size < (U39.alloc (.cells #[.int .i64 T, .int .i64 0] 3)).heap.size := by simp
        clear kx
        (try dsimp only)
        refine hK.out _ _ ?_ (fun hHeld => ?_)
        · exact ⟨by have := HP44.out.qa i hi; rw [HQ.out] at this; exact this, HP44.out.q0, HP44.out.q1, (HB44.out.cell (p := ⟨w.heap.size, 4, none⟩) hab).trans hb4⟩
        clear hK K
        (try simp only [Act.put, List.setIfInBounds_toArray, List.set_cons_zero, List.set_cons_succ, List.getElem_toArray, List.getElem_cons_succ, List.getElem_cons_zero])
        generalize U39.alloc (.cells #[.int .i64 T, .int .i64 0] 3) = U44 at *
        generalize U39.heap.size = GB at *
        refine wpAnyH_ready (rs := [11]) (by kernel_rfl) (by simp) ?_
        refine AllReadyH.cons rfl (fun K hK => ?_) (AllReadyH.nil)
        go_simp
        (go_at_call 18; refine (HST.out U44 HP44.out.tab).mono ?_; rintro e U45 ⟨rfl, kx⟩)
        have HP45 := Lib.hid (HP44.out.below kx)
        have HB45 := Lib.hid (HB44.out.trans (kx.mono HB44.out.size))
        replace QE := Lib.hid (QE.out.below kx QE.out.x.lt)
        replace zb0 := (kx.cell (p := ⟨GB, 0, none⟩) lgb).trans zb0
        replace zb1 := (kx.cell (p := ⟨GB, 1, none⟩) lgb).trans zb1
        replace lgb := Nat.lt_of_lt_of_le lgb kx.size
        clear kx
        (try dsimp only)
        refine hK.out _ _ ?_ (fun hHeld => ?_)
        · exact ⟨by have := HP45.out.qa i hi; rw [HQ.out] at this; exact this, HP45.out.q0, HP45.out.q1, (HB45.out.cell (p := ⟨w.heap.size, 4, none⟩) hab).trans hb4⟩
        clear hK K
        (try simp only [Act.put, List.setIfInBounds_toArray, List.set_cons_zero, List.set_cons_succ, List.getElem_toArray, List.getElem_cons_succ, List.getElem_cons_zero])
        refine wpAnyH_ready (rs := [20]) (by kernel_rfl) (by simp) ?_
        refine AllReadyH.cons rfl (fun K hK => ?_) (AllReadyH.nil)
        go_simp
        (go_at_call 37; refine (HA2.out GB U45 zb0 zb1).mono ?_; rintro e w' ⟨rfl, rfl⟩)
        (try dsimp only)
        refine hK.out _ _ ?_ (fun hHeld => ?_)
        · exact ⟨by have := HP45.out.qa i hi; rw [HQ.out] at this; exact this, HP45.out.q0, HP45.out.q1, (HB45.out.cell (p := ⟨w.heap.size, 4, none⟩) hab).trans hb4⟩
        clear hK K
        (try simp only [Act.put, List.setIfInBounds_toArray, List.set_cons_zero, List.set_cons_succ, List.getElem_toArray, List.getElem_cons_succ, List.getElem_cons_zero])
        refine wpAnyH_ready (rs := [21]) (by kernel_rfl) (by simp) ?_
        refine AllReadyH.cons rfl (fun K hK => ?_) (AllReadyH.nil)
        go_simp
        (go_at_call 18; refine (HST.out U45 HP45.out.tab).mono ?_; rintro e U47 ⟨rfl, kx⟩)
        have HP47 := Lib.hid (HP45.out.below kx)
        have HB47 := Lib.hid (HB45.out.trans (kx.mono HB45.out.size))
        replace QE := Lib.hid (QE.out.below kx QE.out.x.lt)
        clear kx
        (try dsimp only)
        refine hK.out _ _ ?_ (fun hHeld => ?_)
        · exact ⟨by have := HP47.out.qa i hi; rw [HQ.out] at this; exact this, HP47.out.q0, HP47.out.q1, (HB47.out.cell (p := ⟨w.heap.size, 4, none⟩) hab).trans hb4⟩
        clear hK K
        (try simp only [Act.put, List.setIfInBounds_toArray, List.set_cons_zero, List.set_cons_succ, List.getElem_toArray, List.getElem_cons_succ, List.getElem_cons_zero])
        refine wpAnyH_take (i := 22) (v := ?_) rfl (by kernel_rfl) (by kernel_rfl) (by kernel_rfl) (fun _ _ _ h => h) (Or.inl ⟨by rfl, ?_⟩) (by assumption) ?_
        rotate_left
        · intro w' hSw; (try dsimp only at hSw); go_simp; (try with_reducible rfl)
        (try simp only [Act.put, List.setIfInBounds_toArray, List.set_cons_zero, List.set_cons_succ, List.getElem_toArray, List.getElem_cons_succ, List.getElem_cons_zero])
        obtain ⟨y0, y1, y2, y3, y4, y5, y6, y7, yl⟩ := QE.out.x
        have f0 := QE.out.f 0
        have f1 := QE.out.f 1
        have f2 := QE.out.f 2
        have f3 := QE.out.f 3
        have f4 := QE.out.f 4
        have f5 := QE.out.f 5
        have f6 := QE.out.f 6
        have f7 := QE.out.f 7
        refine wpAnyH_ready (rs := [24]) (by kernel_rfl) (by simp) ?_
        refine AllReadyH.cons rfl (fun K hK => ?_) (AllReadyH.nil)
        go_simp
        have X9 : W8 (st8 U47 g5 0 4 1 0 0 q s s) g5 0 4 1 0 0 q s s := ⟨st8_cells QE.out.x, fun j => by have := QE.out.f j; simpa [st8] using this⟩
        have B9 : Below V2.heap.size V2 (st8 U47 g5 0 4 1 0 0 q s s) := by unfold st8; exact (((((((HB47.out.setCell (p := ⟨g5, 0, none⟩) hgE _).setCell (p := ⟨g5, 1, none⟩) hgE _).setCell (p := ⟨g5, 2, none⟩) hgE _).setCell (p := ⟨g5, 3, none⟩) hgE _).setCell (p := ⟨g5, 4, none⟩) hgE _).setCell (p := ⟨g5, 5, none⟩) hgE _).setCell (p := ⟨g5, 6, none⟩) hgE _).setCell (p := ⟨g5, 7, none⟩) hgE _
        have P9 := HP2.out.below B9
        (try dsimp only)
        refine hK.out _ _ ?_ (fun hHeld => ?_)
        · exact ⟨by have := P9.qa i hi; rw [HQ.out] at this; exact this, P9.q0, P9.q1, (B9.cell (p := ⟨w.heap.size, 4, none⟩) hab).trans hb4⟩
        clear hK K
        (try simp only [Act.put, List.setIfInBounds_toArray, List.set_cons_zero, List.set_cons_succ, List.getElem_toArray, List.getElem_cons_succ, List.getElem_cons_zero])
        refine wpAnyH_done (by kernel_rfl) ?_ _
        have HX9 := Lib.hid X9
        have HB9 := Lib.hid B9
        clear X9 B9 P9 QE y0 y1 y2 y3 y4 y5 y6 y7 f0 f1 f2 f3 f4 f5 f6 f7
        go_wp2_with fail
        go_meet
        exact ⟨g5, rfl, HX9.out, hgE, HB9.out⟩
  case rest =>
  obtain ⟨g5, rfl, hw8, hg5, hB5⟩ := hcut
  generalize wc = W5 at *
  have b5 := (hB5.cell (p := ⟨w.heap.size, 5, none⟩) lb).trans b5
  have HB5 := Lib.hid (HB2.out.trans (hB5.mono HB2.out.size))
  obtain ⟨y0, y1, y2, y3, y4, y5, y6, y7, yl⟩ := hw8.x
  have f0 := hw8.f 0
  have f1 := hw8.f 1
  have f2 := hw8.f 2
  have f5 := hw8.f 5
  have f6 := hw8.f 6
  have f7 := hw8.f 7
  have hag : w.heap.size ≤ g5 := by omega
  have HW8 := Lib.hid hw8
  have HE := Lib.hid (fun W : World => ref6_enc (ansP way q s) (ansP_ok way q s ha sb) W)
  clear hw8 hB5 HP2 HB2 b3 b4 hHeld
  have hway := hWA.out
  rcases (show way = 0 ∨ way = 1 ∨ way = 2 ∨ way = 3 ∨ way = 4 ∨ way = 5 ∨ way = 6 ∨ way = 7 from by omega) with rfl | rfl | rfl | rfl | rfl | rfl | rfl | rfl
  · as_aux_lemma =>
    have ew : bits .and .i64 ((0 : Nat) : Int) 15 = 0 := by decide
    have ew2 : bits .and .i64 (0 : Int) 15 = 0 := by decide
    have HBF := HB5
    go_wp2_with fail
    refine (HE.out _).mono ?_; rintro e w9 ⟨g9, c9, rfl, hg9, hp9, k9⟩
    have HB9 := Lib.hid (HBF.out.trans (k9.mono HBF.out.size))
    have HP9 := Lib.hid hp9
    have hz9 := HBF.out.size
    clear k9 hp9
    go_wp2_with fail
    go_ret
    exact ⟨⟨g9, c9, rfl, by omega, HP9.out⟩, HB9.out⟩
  · as_aux_lemma =>
    have ew : bits .and .i64 ((1 : Nat) : Int) 15 = 1 := by decide
    have ew2 : bits .and .i64 (1 : Int) 15 = 1 := by decide
    have HBF := Lib.hid (HB5.out.setCell (p := ⟨g5, 0, none⟩) hag (.int .i64 3))
    have x0 := World.cell?_setCell_same W5 ⟨g5, 0, none⟩ (.int .i64 3) y0
    have x1 := (World.cell?_setCell_other W5 ⟨g5, 0, none⟩ ⟨g5, 1, none⟩ (.int .i64 3) (by simp)).trans y1
    have x2 := (World.cell?_setCell_other W5 ⟨g5, 0, none⟩ ⟨g5, 2, none⟩ (.int .i64 3) (by simp)).trans y2
    have x3 := (World.cell?_setCell_other W5 ⟨g5, 0, none⟩ ⟨g5, 3, none⟩ (.int .i64 3) (by simp)).trans y3
    have x4 := (World.cell?_setCell_other W5 ⟨g5, 0, none⟩ ⟨g5, 4, none⟩ (.int .i64 3) (by simp)).trans y4
    have x5 := (World.cell?_setCell_other W5 ⟨g5, 0, none⟩ ⟨g5, 5, none⟩ (.int .i64 3) (by simp)).trans y5
    have x6 := (World.cell?_setCell_other W5 ⟨g5, 0, none⟩ ⟨g5, 6, none⟩ (.int .i64 3) (by simp)).trans y6
    have x7 := (World.cell?_setCell_other W5 ⟨g5, 0, none⟩ ⟨g5, 7, none⟩ (.int .i64 3) (by simp)).trans y7
    go_wp2_with fail
    refine (HE.out _).mono ?_; rintro e w9 ⟨g9, c9, rfl, hg9, hp9, k9⟩
    have HB9 := Lib.hid (HBF.out.trans (k9.mono HBF.out.size))
    have HP9 := Lib.hid hp9
    have hz9 := HBF.out.size
    clear k9 hp9
    go_wp2_with fail
    go_ret
    exact ⟨⟨g9, c9, rfl, by omega, HP9.out⟩, HB9.out⟩
  · as_aux_lemma =>
    have ew : bits .and .i64 ((2 : Nat) : Int) 15 = 2 := by decide
    have ew2 : bits .and .i64 (2 : Int) 15 = 2 := by decide
    have HBF := Lib.hid (HB5.out.setCell (p := ⟨g5, 2, none⟩) hag (.int .i64 0))
    have x0 := (World.cell?_setCell_other W5 ⟨g5, 2, none⟩ ⟨g5, 0, none⟩ (.int .i64 0) (by simp)).trans y0
    have x1 := (World.cell?_setCell_other W5 ⟨g5, 2, none⟩ ⟨g5, 1, none⟩ (.int .i64 0) (by simp)).trans y1
    have x2 := World.cell?_setCell_same W5 ⟨g5, 2, none⟩ (.int .i64 0) y2
    have x3 := (World.cell?_setCell_other W5 ⟨g5, 2, none⟩ ⟨g5, 3, none⟩ (.int .i64 0) (by simp)).trans y3
    have x4 := (World.cell?_setCell_other W5 ⟨g5, 2, none⟩ ⟨g5, 4, none⟩ (.int .i64 0) (by simp)).trans y4
    have x5 := (World.cell?_setCell_other W5 ⟨g5, 2, none⟩ ⟨g5, 5, none⟩ (.int .i64 0) (by simp)).trans y5
    have x6 := (World.cell?_setCell_other W5 ⟨g5, 2, none⟩ ⟨g5, 6, none⟩ (.int .i64 0) (by simp)).trans y6
    have x7 := (World.cell?_setCell_other W5 ⟨g5, 2, none⟩ ⟨g5, 7, none⟩ (.int .i64 0) (by simp)).trans y7
    go_wp2_with fail
    refine (HE.out _).mono ?_; rintro e w9 ⟨g9, c9, rfl, hg9, hp9, k9⟩
    have HB9 := Lib.hid (HBF.out.trans (k9.mono HBF.out.size))
    have HP9 := Lib.hid hp9
    have hz9 := HBF.out.size
    clear k9 hp9
    go_wp2_with fail
    go_ret
    exact ⟨⟨g9, c9, rfl, by omega, HP9.out⟩, HB9.out⟩
  · as_aux_lemma =>
    have ew : bits .and .i64 ((3 : Nat) : Int) 15 = 3 := by decide
    have ew2 : bits .and .i64 (3 : Int) 15 = 3 := by decide
    have HBF := Lib.hid (HB5.out.setCell (p := ⟨g5, 2, none⟩) hag (.int .i64 16))
    have x0 := (World.cell?_setCell_other W5 ⟨g5, 2, none⟩ ⟨g5, 0, none⟩ (.int .i64 16) (by simp)).trans y0
    have x1 := (World.cell?_setCell_other W5 ⟨g5, 2, none⟩ ⟨g5, 1, none⟩ (.int .i64 16) (by simp)).trans y1
    have x2 := World.cell?_setCell_same W5 ⟨g5, 2, none⟩ (.int .i64 16) y2
    have x3 := (World.cell?_setCell_other W5 ⟨g5, 2, none⟩ ⟨g5, 3, none⟩ (.int .i64 16) (by simp)).trans y3
    have x4 := (World.cell?_setCell_other W5 ⟨g5, 2, none⟩ ⟨g5, 4, none⟩ (.int .i64 16) (by simp)).trans y4
    have x5 := (World.cell?_setCell_other W5 ⟨g5, 2, none⟩ ⟨g5, 5, none⟩ (.int .i64 16) (by simp)).trans y5
    have x6 := (World.cell?_setCell_other W5 ⟨g5, 2, none⟩ ⟨g5, 6, none⟩ (.int .i64 16) (by simp)).trans y6
    have x7 := (World.cell?_setCell_other W5 ⟨g5, 2, none⟩ ⟨g5, 7, none⟩ (.int .i64 16) (by simp)).trans y7
    go_wp2_with fail
    refine (HE.out _).mono ?_; rintro e w9 ⟨g9, c9, rfl, hg9, hp9, k9⟩
    have HB9 := Lib.hid (HBF.out.trans (k9.mono HBF.out.size))
    have HP9 := Lib.hid hp9
    have hz9 := HBF.out.size
    clear k9 hp9
    go_wp2_with fail
    go_ret
    exact ⟨⟨g9, c9, rfl, by omega, HP9.out⟩, HB9.out⟩
  · as_aux_lemma =>
    have ew : bits .and .i64 ((4 : Nat) : Int) 15 = 4 := by decide
    have ew2 : bits .and .i64 (4 : Int) 15 = 4 := by decide
    have wx : IntKind.u64.wrap (q + 1) = (q + 1) % 18446744073709551616 := by rw [IntKind.wrap_u64]
    have HBF := Lib.hid (HB5.out.setCell (p := ⟨g5, 5, none⟩) hag (.int .u64 ((q + 1) % 18446744073709551616)))
    have x0 := (World.cell?_setCell_other W5 ⟨g5, 5, none⟩ ⟨g5, 0, none⟩ (.int .u64 ((q + 1) % 18446744073709551616)) (by simp)).trans y0
    have x1 := (World.cell?_setCell_other W5 ⟨g5, 5, none⟩ ⟨g5, 1, none⟩ (.int .u64 ((q + 1) % 18446744073709551616)) (by simp)).trans y1
    have x2 := (World.cell?_setCell_other W5 ⟨g5, 5, none⟩ ⟨g5, 2, none⟩ (.int .u64 ((q + 1) % 18446744073709551616)) (by simp)).trans y2
    have x3 := (World.cell?_setCell_other W5 ⟨g5, 5, none⟩ ⟨g5, 3, none⟩ (.int .u64 ((q + 1) % 18446744073709551616)) (by simp)).trans y3
    have x4 := (World.cell?_setCell_other W5 ⟨g5, 5, none⟩ ⟨g5, 4, none⟩ (.int .u64 ((q + 1) % 18446744073709551616)) (by simp)).trans y4
    have x5 := World.cell?_setCell_same W5 ⟨g5, 5, none⟩ (.int .u64 ((q + 1) % 18446744073709551616)) y5
    have x6 := (World.cell?_setCell_other W5 ⟨g5, 5, none⟩ ⟨g5, 6, none⟩ (.int .u64 ((q + 1) % 18446744073709551616)) (by simp)).trans y6
    have x7 := (World.cell?_setCell_other W5 ⟨g5, 5, none⟩ ⟨g5, 7, none⟩ (.int .u64 ((q + 1) % 18446744073709551616)) (by simp)).trans y7
    go_wp2_with fail
    refine (HE.out _).mono ?_; rintro e w9 ⟨g9, c9, rfl, hg9, hp9, k9⟩
    have HB9 := Lib.hid (HBF.out.trans (k9.mono HBF.out.size))
    have HP9 := Lib.hid hp9
    have hz9 := HBF.out.size
    clear k9 hp9
    go_wp2_with fail
    go_ret
    exact ⟨⟨g9, c9, rfl, by omega, HP9.out⟩, HB9.out⟩
  · as_aux_lemma =>
    have ew : bits .and .i64 ((5 : Nat) : Int) 15 = 5 := by decide
    have ew2 : bits .and .i64 (5 : Int) 15 = 5 := by decide
    have HBF := Lib.hid (HB5.out.setCell (p := ⟨g5, 1, none⟩) hag (.int .i64 3))
    have x0 := (World.cell?_setCell_other W5 ⟨g5, 1, none⟩ ⟨g5, 0, none⟩ (.int .i64 3) (by simp)).trans y0
    have x1 := World.cell?_setCell_same W5 ⟨g5, 1, none⟩ (.int .i64 3) y1
    have x2 := (World.cell?_setCell_other W5 ⟨g5, 1, none⟩ ⟨g5, 2, none⟩ (.int .i64 3) (by simp)).trans y2
    have x3 := (World.cell?_setCell_other W5 ⟨g5, 1, none⟩ ⟨g5, 3, none⟩ (.int .i64 3) (by simp)).trans y3
    have x4 := (World.cell?_setCell_other W5 ⟨g5, 1, none⟩ ⟨g5, 4, none⟩ (.int .i64 3) (by simp)).trans y4
    have x5 := (World.cell?_setCell_other W5 ⟨g5, 1, none⟩ ⟨g5, 5, none⟩ (.int .i64 3) (by simp)).trans y5
    have x6 := (World.cell?_setCell_other W5 ⟨g5, 1, none⟩ ⟨g5, 6, none⟩ (.int .i64 3) (by simp)).trans y6
    have x7 := (World.cell?_setCell_other W5 ⟨g5, 1, none⟩ ⟨g5, 7, none⟩ (.int .i64 3) (by simp)).trans y7
    go_wp2_with fail
    refine (HE.out _).mono ?_; rintro e w9 ⟨g9, c9, rfl, hg9, hp9, k9⟩
    have HB9 := Lib.hid (HBF.out.trans (k9.mono HBF.out.size))
    have HP9 := Lib.hid hp9
    have hz9 := HBF.out.size
    clear k9 hp9
    go_wp2_with fail
    go_ret
    exact ⟨⟨g9, c9, rfl, by omega, HP9.out⟩, HB9.out⟩
  · as_aux_lemma =>
    have ew : bits .and .i64 ((6 : Nat) : Int) 15 = 6 := by decide
    have ew2 : bits .and .i64 (6 : Int) 15 = 6 := by decide
    have HBF := Lib.hid (HB5.out.setCell (p := ⟨g5, 6, none⟩) hag (.int .u64 0))
    have x0 := (World.cell?_setCell_other W5 ⟨g5, 6, none⟩ ⟨g5, 0, none⟩ (.int .u64 0) (by simp)).trans y0
    have x1 := (World.cell?_setCell_other W5 ⟨g5, 6, none⟩ ⟨g5, 1, none⟩ (.int .u64 0) (by simp)).trans y1
    have x2 := (World.cell?_setCell_other W5 ⟨g5, 6, none⟩ ⟨g5, 2, none⟩ (.int .u64 0) (by simp)).trans y2
    have x3 := (World.cell?_setCell_other W5 ⟨g5, 6, none⟩ ⟨g5, 3, none⟩ (.int .u64 0) (by simp)).trans y3
    have x4 := (World.cell?_setCell_other W5 ⟨g5, 6, none⟩ ⟨g5, 4, none⟩ (.int .u64 0) (by simp)).trans y4
    have x5 := (World.cell?_setCell_other W5 ⟨g5, 6, none⟩ ⟨g5, 5, none⟩ (.int .u64 0) (by simp)).trans y5
    have x6 := World.cell?_setCell_same W5 ⟨g5, 6, none⟩ (.int .u64 0) y6
    have x7 := (World.cell?_setCell_other W5 ⟨g5, 6, none⟩ ⟨g5, 7, none⟩ (.int .u64 0) (by simp)).trans y7
    go_wp2_with fail
    refine (HE.out _).mono ?_; rintro e w9 ⟨g9, c9, rfl, hg9, hp9, k9⟩
    have HB9 := Lib.hid (HBF.out.trans (k9.mono HBF.out.size))
    have HP9 := Lib.hid hp9
    have hz9 := HBF.out.size
    clear k9 hp9
    go_wp2_with fail
    go_ret
    exact ⟨⟨g9, c9, rfl, by omega, HP9.out⟩, HB9.out⟩
  · as_aux_lemma =>
    have ew : bits .and .i64 ((7 : Nat) : Int) 15 = 7 := by decide
    have ew2 : bits .and .i64 (7 : Int) 15 = 7 := by decide
    have wx : IntKind.u64.wrap (s - 4294967296) = (s - 4294967296) % 18446744073709551616 := by rw [IntKind.wrap_u64]
    have HBF := Lib.hid (HB5.out.setCell (p := ⟨g5, 7, none⟩) hag (.int .u64 ((s - 4294967296) % 18446744073709551616)))
    have x0 := (World.cell?_setCell_other W5 ⟨g5, 7, none⟩ ⟨g5, 0, none⟩ (.int .u64 ((s - 4294967296) % 18446744073709551616)) (by simp)).trans y0
    have x1 := (World.cell?_setCell_other W5 ⟨g5, 7, none⟩ ⟨g5, 1, none⟩ (.int .u64 ((s - 4294967296) % 18446744073709551616)) (by simp)).trans y1
    have x2 := (World.cell?_setCell_other W5 ⟨g5, 7, none⟩ ⟨g5, 2, none⟩ (.int .u64 ((s - 4294967296) % 18446744073709551616)) (by simp)).trans y2
    have x3 := (World.cell?_setCell_other W5 ⟨g5, 7, none⟩ ⟨g5, 3, none⟩ (.int .u64 ((s - 4294967296) % 18446744073709551616)) (by simp)).trans y3
    have x4 := (World.cell?_setCell_other W5 ⟨g5, 7, none⟩ ⟨g5, 4, none⟩ (.int .u64 ((s - 4294967296) % 18446744073709551616)) (by simp)).trans y4
    have x5 := (World.cell?_setCell_other W5 ⟨g5, 7, none⟩ ⟨g5, 5, none⟩ (.int .u64 ((s - 4294967296) % 18446744073709551616)) (by simp)).trans y5
    have x6 := (World.cell?_setCell_other W5 ⟨g5, 7, none⟩ ⟨g5, 6, none⟩ (.int .u64 ((s - 4294967296) % 18446744073709551616)) (by simp)).trans y6
    have x7 := World.cell?_setCell_same W5 ⟨g5, 7, none⟩ (.int .u64 ((s - 4294967296) % 18446744073709551616)) y7
    go_wp2_with fail
    refine (HE.out _).mono ?_; rintro e w9 ⟨g9, c9, rfl, hg9, hp9, k9⟩
    have HB9 := Lib.hid (HBF.out.trans (k9.mono HBF.out.size))
    have HP9 := Lib.hid hp9
    have hz9 := HBF.out.size
    clear k9 hp9
    go_wp2_with fail
    go_ret
    exact ⟨⟨g9, c9, rfl, by omega, HP9.out⟩, HB9.out⟩
end Go.Proofs.YtepdnkpmkhjlgaaGreat
