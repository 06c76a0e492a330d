/- (*Token).Saw of any list (written by gen/toksaw.py). -/
import Derived.Test.YtcmoglbmngmgnaaDoorTokMax
import Derived.BigGuard
import Derived.BigGuardPart
import Derived.BigCall
set_option linter.unusedSimpArgs false
set_option linter.unusedVariables false
namespace Go.Proofs.YtcmoglbmngmgnaaDoor
open Go.RowKit

/-- What was seen behind k stamps. -/
def swS (m c : Int) (p q : Nat → Int) : Nat → Int × Int
  | 0 => (m, c)
  | k + 1 => (mx1 (swS m c p q k).1 (swS m c p q k).2 (p k) (q k), mx2 (swS m c p q k).1 (swS m c p q k).2 (p k) (q k))
theorem swS_add (m c : Int) (p q : Nat → Int) (k : Nat) : ∀ j, swS (swS m c p q k).1 (swS m c p q k).2 (fun i => p (k + i)) (fun i => q (k + i)) j = swS m c p q (k + j)
  | 0 => rfl
  | j + 1 => by
    show (mx1 (swS _ _ _ _ j).1 (swS _ _ _ _ j).2 _ _, mx2 (swS _ _ _ _ j).1 (swS _ _ _ _ j).2 _ _) = _
    rw [swS_add m c p q k j]
    rfl
theorem saw_nil (A : Option Addr) (n c : Nat) (w : World) : Calls Tryd.prog 14 #[.pointer none, .slice A n c] w fun e w' => e = .returned (.tuple #[]) ∧ w = w' := by
  go_enter Tryd.func14, Tryd.ntmps14
  go_wp2
  exact bodyPost_end (by simp [results, Tryd.results14, go_sem]) rfl ⟨rfl, rfl⟩
set_option maxRecDepth 100000 in
set_option maxHeartbeats 4000000 in
theorem saw_any (b : Nat) (m c : Int) (p q : Nat → Int) (A : Option Addr) (n cc : Nat) (w : World) (hI : Ints2 w b m c) (hz : PairsAt w A n p q) (hA : 0 < n → ∀ ad, A = some ad → ad.block ≠ b) (hn : n ≤ 100000) :
    Calls Tryd.prog 14 #[.pointer (some ⟨b, 0, none⟩), .slice A n cc] w fun e w' => e = .returned (.tuple #[]) ∧ Only b w w' ∧ Ints2 w' b (swS m c p q n).1 (swS m c p q n).2 := by
  have HZ := Lib.hid (And.intro hz hA)
  have HI := Lib.hid hI
  have hni : (n : Int) ≤ 100000 := by omega
  have lb := hI.lt
  clear hz hA hI
  go_enter Tryd.func14, Tryd.ntmps14
  go_wp2
  go_loopw [10] (fun i wr => ∃ k : Nat, k ≤ n ∧ i = .int .i64 k ∧ Only b w wr ∧ Ints2 wr b (swS m c p q k).1 (swS m c p q k).2) (fun i _ => n - (intOf i).toNat)
  case atStart => exact ⟨0, Nat.zero_le _, rfl, Only.refl _ _, HI.out⟩
  case round =>
    obtain ⟨k, hk, rfl, hO, hI⟩ := hrel
    clear HI
    by_cases hlt : k < n
    · obtain ⟨B, O, rfl, hB, hcells⟩ := HZ.out.1 (by omega)
      have hBb : B ≠ b := HZ.out.2 (by omega) _ rfl
      have a0 : wr.cell? ⟨B, O + k * 2, none⟩ = some (.int .i64 (p k)) := (hO.cell B (O + k * 2) hB hBb).trans (hcells k hlt).1
      have a1 : wr.cell? ⟨B, O + k * 2 + 1, none⟩ = some (.int .i64 (q k)) := (hO.cell B (O + k * 2 + 1) hB hBb).trans (hcells k hlt).2
      have lk : (k : Int) < (n : Int) := by omega
      have HS : Hid (swS m c p q (k + 1) = (mx1 (swS m c p q k).1 (swS m c p q k).2 (p k) (q k), mx2 (swS m c p q k).1 (swS m c p q k).2 (p k) (q k))) := Lib.hid rfl
      have HO := Lib.hid hO
      have HI2 := Lib.hid hI
      have lr := hI.lt
      clear hO hI hcells hlt
      generalize (swS m c p q k).1 = m1 at *
      generalize (swS m c p q k).2 = c1 at *
      generalize p k = pk at *
      generalize q k = qk at *
      go_wp2_with fail
      have HX : Hid (Ints2 (wr.alloc (.cells #[.int .i64 pk, .int .i64 qk] 23)) wr.heap.size pk qk) := Lib.hid (Ints2.new wr pk qk 23)
      have HIa := Lib.hid (HI2.out.alloc (.cells #[.int .i64 pk, .int .i64 qk] 23))
      have HOa := Lib.hid (HO.out.alloc (.cells #[.int .i64 pk, .int .i64 qk] 23))
      have lba : b < wr.heap.size := lr
      clear a0 a1
      generalize wr.alloc (.cells #[.int .i64 pk, .int .i64 qk] 23) = V at *
      generalize wr.heap.size = bx at *
      refine wp_region_held_drew (S := fun w' => w'.cell? ⟨bx, 0, none⟩ = some (.int .i64 pk) ∧ w'.cell? ⟨bx, 1, none⟩ = some (.int .i64 qk)) (by kernel_rfl) ?_ (fun hHeld => ?_)
      · exact ⟨HX.out.c0, HX.out.c1⟩
      have HXd := Lib.hid HX.out.drew
      have HId := Lib.hid HIa.out.drew
      have HOd : Hid (Only b w V.drew) := Lib.hid HOa.out.drew
      clear HX HIa HOa HI2 HO
      generalize V.drew = V2 at *
      obtain ⟨i0, i1, if0, if1, il⟩ := HId.out
      refine wpAnyH_take (i := 0) (v := ?_) rfl (by kernel_rfl) (by kernel_rfl) (by kernel_rfl) (fun _ _ _ h => h) (Or.inl ⟨by rfl, ?_⟩) (by assumption) ?_
      rotate_left
      · intro w' hSw; (try dsimp only at hSw); go_simp; (try with_reducible rfl)
      (try simp only [Act.put, List.setIfInBounds_toArray, List.set_cons_zero, List.set_cons_succ, List.getElem_toArray, List.getElem_cons_succ, List.getElem_cons_zero])
      refine wpAnyH_take (i := 1) (v := ?_) rfl (by kernel_rfl) (by kernel_rfl) (by kernel_rfl) (fun _ _ _ h => h) (Or.inl ⟨by rfl, ?_⟩) (by assumption) ?_
      rotate_left
      · intro w' hSw; (try dsimp only at hSw); go_simp; (try with_reducible rfl)
      (try simp only [Act.put, List.setIfInBounds_toArray, List.set_cons_zero, List.set_cons_succ, List.getElem_toArray, List.getElem_cons_succ, List.getElem_cons_zero])
      refine wpAnyH_take (i := 2) (v := ?_) rfl (by kernel_rfl) (by kernel_rfl) (by kernel_rfl) (fun _ _ _ h => h) (Or.inl ⟨by rfl, ?_⟩) (by assumption) ?_
      rotate_left
      · intro w' hSw; (try dsimp only at hSw); go_simp; (try with_reducible rfl)
      (try simp only [Act.put, List.setIfInBounds_toArray, List.set_cons_zero, List.set_cons_succ, List.getElem_toArray, List.getElem_cons_succ, List.getElem_cons_zero])
      refine wpAnyH_take (i := 3) (v := ?_) rfl (by kernel_rfl) (by kernel_rfl) (by kernel_rfl) (fun _ _ _ h => h) (Or.inl ⟨by rfl, ?_⟩) (by assumption) ?_
      rotate_left
      · intro w' hSw; (try dsimp only at hSw); go_simp; (try with_reducible rfl)
      (try simp only [Act.put, List.setIfInBounds_toArray, List.set_cons_zero, List.set_cons_succ, List.getElem_toArray, List.getElem_cons_succ, List.getElem_cons_zero])
      refine wpAnyH_take (i := 5) (v := ?_) rfl (by kernel_rfl) (by kernel_rfl) (by kernel_rfl) (fun _ _ _ h => h) (Or.inl ⟨by rfl, ?_⟩) (by assumption) ?_
      rotate_left
      · intro w' hSw; (try dsimp only at hSw); go_simp; (try with_reducible rfl)
      (try simp only [Act.put, List.setIfInBounds_toArray, List.set_cons_zero, List.set_cons_succ, List.getElem_toArray, List.getElem_cons_succ, List.getElem_cons_zero])
      refine wpAnyH_ready (rs := [4]) (by kernel_rfl) (by simp) ?_
      refine AllReadyH.cons rfl (fun K hK => ?_) (AllReadyH.nil)
      go_simp
      (try dsimp only)
      refine hK.out _ _ ?_ (fun hHeld => ?_)
      · exact ⟨HXd.out.c0, HXd.out.c1⟩
      clear hK K
      (try simp only [Act.put, List.setIfInBounds_toArray, List.set_cons_zero, List.set_cons_succ, List.getElem_toArray, List.getElem_cons_succ, List.getElem_cons_zero])
      refine wpAnyH_ready (rs := [6]) (by kernel_rfl) (by simp) ?_
      refine AllReadyH.cons rfl (fun K hK => ?_) (AllReadyH.nil)
      go_simp
      (try dsimp only)
      refine hK.out _ _ ?_ (fun hHeld => ?_)
      · exact ⟨(World.cell?_alloc_past _ bx 0 HXd.out.lt).trans HXd.out.c0, (World.cell?_alloc_past _ bx 1 HXd.out.lt).trans HXd.out.c1⟩
      clear hK K
      (try simp only [Act.put, List.setIfInBounds_toArray, List.set_cons_zero, List.set_cons_succ, List.getElem_toArray, List.getElem_cons_succ, List.getElem_cons_zero])
      have kS : Below V2.heap.size V2 (V2.alloc (.cells #[.int .i64 m1, .int .i64 c1, .int .i64 pk, .int .i64 qk] 23)) := (Below.refl _ _).alloc (Nat.le_refl _) _
      have HMX := Lib.hid (hlc_max2 V2.heap.size m1 c1 pk qk (V2.alloc (.cells #[.int .i64 m1, .int .i64 c1, .int .i64 pk, .int .i64 qk] 23)) (by simp [go_sem]) (by simp [go_sem]) (by simp [go_sem]) (by simp [go_sem]) (by simp))
      have HI3 := Lib.hid (HId.out.alloc (.cells #[.int .i64 m1, .int .i64 c1, .int .i64 pk, .int .i64 qk] 23))
      have HO3 := Lib.hid (HOd.out.alloc (.cells #[.int .i64 m1, .int .i64 c1, .int .i64 pk, .int .i64 qk] 23))
      have HX3 := Lib.hid (HXd.out.alloc (.cells #[.int .i64 m1, .int .i64 c1, .int .i64 pk, .int .i64 qk] 23))
      clear kS HId HOd HXd i0 i1 if0 if1 il
      generalize V2.alloc (.cells #[.int .i64 m1, .int .i64 c1, .int .i64 pk, .int .i64 qk] 23) = V3 at *
      generalize V2.heap.size = bs at *
      refine wpAnyH_ready (rs := [7]) (by kernel_rfl) (by simp) ?_
      refine AllReadyH.cons rfl (fun K hK => ?_) (AllReadyH.nil)
      go_simp
      (go_at_call 25; refine HMX.out.mono ?_; rintro e V4 ⟨rfl, k4⟩)
      have HI4 := Lib.hid (HI3.out.below k4 HI3.out.lt)
      have HX4 := Lib.hid (HX3.out.below k4 HX3.out.lt)
      have HO4 := Lib.hid (HO3.out.trans (Only.of_below k4))
      obtain ⟨i0, i1, if0, if1, il⟩ := HI4.out
      (try dsimp only)
      refine hK.out _ _ ?_ (fun hHeld => ?_)
      · exact ⟨HX4.out.c0, HX4.out.c1⟩
      clear hK K
      (try simp only [Act.put, List.setIfInBounds_toArray, List.set_cons_zero, List.set_cons_succ, List.getElem_toArray, List.getElem_cons_succ, List.getElem_cons_zero])
      refine wpAnyH_take (i := 8) (v := ?_) rfl (by kernel_rfl) (by kernel_rfl) (by kernel_rfl) (fun _ _ _ h => h) (Or.inl ⟨by rfl, ?_⟩) (by assumption) ?_
      rotate_left
      · intro w' hSw; (try dsimp only at hSw); go_simp; (try with_reducible rfl)
      (try simp only [Act.put, List.setIfInBounds_toArray, List.set_cons_zero, List.set_cons_succ, List.getElem_toArray, List.getElem_cons_succ, List.getElem_cons_zero])
      refine wpAnyH_take (i := 9) (v := ?_) rfl (by kernel_rfl) (by kernel_rfl) (by kernel_rfl) (fun _ _ _ h => h) (Or.inl ⟨by rfl, ?_⟩) (by assumption) ?_
      rotate_left
      · intro w' hSw; (try dsimp only at hSw); go_simp; (try with_reducible rfl)
      (try simp only [Act.put, List.setIfInBounds_toArray, List.set_cons_zero, List.set_cons_succ, List.getElem_toArray, List.getElem_cons_succ, List.getElem_cons_zero])
      refine wpAnyH_ready (rs := [10]) (by kernel_rfl) (by simp) ?_
      refine AllReadyH.cons rfl (fun K hK => ?_) (AllReadyH.nil)
      clear HMX HI3 HO3 HX3
      have nbx : b ≠ bx := by omega
      go_simp
      (try dsimp only)
      refine hK.out _ _ ?_ (fun hHeld => ?_)
      · exact ⟨(World.cell?_setCell_other _ _ _ _ (fun e => by injection e with e1 e2; omega)).trans ((World.cell?_setCell_other _ _ _ _ (fun e => by injection e with e1 e2; omega)).trans HX4.out.c0), (World.cell?_setCell_other _ _ _ _ (fun e => by injection e with e1 e2; omega)).trans ((World.cell?_setCell_other _ _ _ _ (fun e => by injection e with e1 e2; omega)).trans HX4.out.c1)⟩
      clear hK K
      (try simp only [Act.put, List.setIfInBounds_toArray, List.set_cons_zero, List.set_cons_succ, List.getElem_toArray, List.getElem_cons_succ, List.getElem_cons_zero])
      refine wpAnyH_done (by kernel_rfl) ?_ _
      have HIF := Lib.hid ((HI4.out.set0 (mx1 m1 c1 pk qk)).set1 (mx2 m1 c1 pk qk))
      have HOF : Hid (Only b w ((V4.setCell ⟨b, 0, none⟩ (.int .i64 (mx1 m1 c1 pk qk))).setCell ⟨b, 1, none⟩ (.int .i64 (mx2 m1 c1 pk qk)))) := Lib.hid ((HO4.out.setB _).setB _)
      clear HI4 HX4 HO4 i0 i1 if0 if1 il
      go_wp2
      go_roundw
      case rel => exact ⟨k + 1, by omega, by go_num, HOF.out, by rw [HS.out]; exact HIF.out⟩
      case measure => simp [intOf]; omega
    · obtain rfl : k = n := by omega
      have HF := Lib.hid (And.intro hO hI)
      clear hO hI hlt
      go_wp2
      exact bodyPost_end (by simp [results, Tryd.results14, go_sem]) rfl ⟨rfl, HF.out⟩
end Go.Proofs.YtcmoglbmngmgnaaDoor
