/- NTP: the law's tells; what Hear leaves is right. -/
import Derived.Test.YtepdnkpmkhjlgaaGreatM9H
import Derived.Test.YtepdnkpmkhjlgaaGreatM9O
import Derived.Test.YtepdnkpmkhjlgaaGreatRef8Turn
import Derived.Test.YtepdnkpmkhjlgaaGreatM9O
import Derived.Test.YtepdnkpmkhjlgaaGreatPkDecRef
/- Two rows of bytes, the law's same. -/
set_option linter.unusedSimpArgs false
set_option linter.unusedVariables false
namespace Go.Proofs.YtepdnkpmkhjlgaaGreat
open Go.RowKit

set_option maxHeartbeats 1000000 in
theorem same6 (A : Option Addr) (n c : Nat) (f : Nat → Int) (A' : Option Addr) (n' c' : Nat) (f' : Nat → Int) (w : World) (hn : n ≤ 1000000) (hn' : n' ≤ 1000000) (h : BytesAt w A n f) (h' : BytesAt w A' n' f') :
    Calls Tryz.prog 30 #[.slice A n c, .slice A' n' c'] w fun e w' => e = .returned (.bool (eqB n f n' f')) ∧ ∃ q, w' = w.drewN q := by
  by_cases hne : n = n'
  · subst hne
    have t0 : (n != n) = false := by simp
    have HA := Lib.hid h
    have HA' := Lib.hid h'
    have HEB : Hid (eqB n f n f' = eqK f f' n) := Lib.hid (by simp [eqB])
    clear h h'
    have hni : (n : Int) ≤ 1000000 := by omega
    go_enter Tryz.func30, Tryz.ntmps30
    go_wp2
    go_loopw [5] (fun i wr => ∃ k : Nat, k ≤ n ∧ i = .int .i64 k ∧ eqK f f' k = true ∧ ∃ q, wr = w.drewN q) (fun i _ => n - (intOf i).toNat)
    case atStart => exact ⟨0, Nat.zero_le _, rfl, rfl, 0, rfl⟩
    case round =>
      obtain ⟨k, hk, rfl, hE, q, hW⟩ := hrel
      by_cases hlt : k < n
      · obtain ⟨B, O, rfl, hB, hc⟩ := HA.out (by omega)
        obtain ⟨B', O', rfl, hB', hc'⟩ := HA'.out (by omega)
        have x0 : wr.cell? ⟨B, O + k, none⟩ = some (.int .u8 (f k)) := by rw [hW]; exact hc k hlt
        have x1 : wr.cell? ⟨B', O' + k, none⟩ = some (.int .u8 (f' k)) := by rw [hW]; exact hc' k hlt
        have lk : (k : Int) < (n : Int) := by omega
        have HS : Hid (eqK f f' (k + 1) = (eqK f f' k && f k == f' k)) := Lib.hid rfl
        have HN : Hid (f k ≠ f' k → eqK f f' n = false) := Lib.hid (fun hne => by
          cases hq : eqK f f' n
          · rfl
          · exact absurd ((eqK_iff f f' n).1 hq k hlt) hne)
        have HW := Lib.hid hW
        have HE := Lib.hid hE
        clear hc hc' hW hE
        generalize f k = a at *
        generalize f' k = b at *
        by_cases hab : a = b
        · have t1 : (a != b) = false := by simp [hab]
          clear hab
          have hab' : (a == b) = true := by simpa using t1
          have HS2 : Hid (eqK f f' (k + 1) = true) := Lib.hid (by rw [HS.out, HE.out, hab']; rfl)
          clear hab' HS
          go_wp2
          go_quiet (fail)
          go_wp2
          go_roundw
          case rel => exact ⟨k + 1, by omega, by go_num, HS2.out, q + nq, by rw [HW.out]; simp [World.drewN, Nat.add_assoc]⟩
          case measure => simp [intOf]; omega
        · have t1 : (a != b) = true := by simpa using hab
          have HN2 := Lib.hid (HN.out hab)
          clear hab HN HS
          go_wp2
          go_quiet (fail)
          go_wp2
          go_ret
          exact ⟨by rw [HEB.out, HN2.out]; rfl, q + nq, by rw [HW.out]; simp [World.drewN, Nat.add_assoc]⟩
      · obtain rfl : k = n := by omega
        have HE := Lib.hid hE
        clear hE
        have HW := Lib.hid hW
        clear hW
        go_wp2
        go_ret
        exact ⟨by rw [HEB.out, HE.out]; rfl, q, HW.out⟩
  · have t0 : ((n : Int) != (n' : Int)) = true := by simp; omega
    have t0' : (n != n') = true := by simpa using hne
    have HEB : Hid (eqB n f n' f' = false) := Lib.hid (by simp [eqB, hne])
    clear hne
    go_enter Tryz.func30, Tryz.ntmps30
    go_wp2
    go_ret
    exact ⟨by rw [HEB.out]; rfl, 0, rfl⟩
end Go.Proofs.YtepdnkpmkhjlgaaGreat

/- NTP: the reference's Ask (written by gen/rask.py). -/
namespace Go.Proofs.YtepdnkpmkhjlgaaGreat
open Go.RowKit Go.Sort

theorem r_is {w : World} {b bc bs : Nat} {A : Option Addr} {n cc : Nat} {x : Int} {z : Nat → Int} {N : Nat} {K : Cs} (h : Nc layR w b bc bs A n cc x z N K) (i : Nat) (hi : i < N) : Calls Tryz.prog 47 #[.pointer (some ⟨b, 0, none⟩), .int .i64 i] w fun e w' => e = .returned (.bool true) ∧ w = w' := by
  have c3 := h.c3
  have li : (i : Int) < (N : Int) := by omega
  have t0 : decide ((i : Int) ≥ 0) = true := by simp
  have t1 : decide (0 ≤ (i : Int)) = true := by simp
  go_enter Tryz.func47, Tryz.ntmps47
  go_wp2
  go_ret
  exact ⟨rfl, rfl⟩
abbrev askP (q : Int) : Pk := ⟨0, 3, 0, 0, 0, 0, 0, q⟩
theorem askP_ok (q : Int) (h : 0 ≤ q ∧ q < 18446744073709551616) : (askP q).ok := ⟨by simp, by simp, by simp, by simp, by simp, by simp, by simp, h⟩
set_option maxRecDepth 100000 in
set_option maxHeartbeats 4000000 in
theorem r_ask {w : World} {b bc bs : Nat} {A : Option Addr} {n cc : Nat} {x : Int} {z : Nat → Int} {N : Nat} {K : Cs} (h : Nc layR w b bc bs A n cc x z N K) (hK : K.Ok N) (hn : K.n < 1000000000) (i : Nat) (hi : i < N) (count : Int) (hc : count ≤ 9223372036854775807) :
    Calls Tryz.prog 28 #[.pointer (some ⟨b, 0, none⟩), .int .i64 i, .int .i64 count] w fun e w' => (∃ g cap, e = .returned (.tuple #[.slice (some ⟨g, 0, none⟩) 48 cap, .int .i64 0]) ∧ w.heap.size ≤ g ∧ PkAt w' g cap (askP (K.n + 1))) ∧ Nc layR w' b bc bs A n cc x z N (askK K i count) ∧ But (Ft b bc bs) w w' := by
  have HHS := Lib.hid (r_is h i hi)
  have HH := Lib.hid h
  have HKK := Lib.hid hK
  have hlb := h.lt
  have hls := h.sl
  have hlc := h.clk.lt
  have c4 := h.c4
  have f4 := h.f 4
  have n0 := hK.n0
  have wn : IntKind.u64.wrap (K.n + 1) = K.n + 1 := (by rw [IntKind.wrap_u64]; omega)
  have HEN := Lib.hid (fun W : World => ref6_enc (askP (K.n + 1)) (askP_ok _ ⟨by omega, by omega⟩) W)
  have li : (i : Int) < (N : Int) := by omega
  have W2K := Lib.hid (h.setN (K.n + 1))
  have W2F : Hid (But (Ft b bc bs) w (w.setCell ⟨b, 4, none⟩ (.int .u64 (K.n + 1)))) := Lib.hid ((But.refl _ _).setCell (p := ⟨b, 4, none⟩) (fun _ => .inl rfl) _)
  clear h hK
  go_enter Tryz.func28, Tryz.ntmps28
  go_wp2_with fail
  refine HHS.out.mono ?_; rintro e w' ⟨rfl, rfl⟩
  go_wp2_with fail
  clear c4 f4
  generalize w.setCell ⟨b, 4, none⟩ (.int .u64 (K.n + 1)) = W2 at *
  have c3 := W2K.out.c3
  have c4 := W2K.out.c4
  refine wp_region_held_drew (S := fun w' => w'.cell? ⟨b, 3, none⟩ = some (.slice (some ⟨bs, 0, none⟩) N N) ∧ w'.cell? ⟨b, 4, none⟩ = some (.int .u64 (K.n + 1))) (by kernel_rfl) ?_ (fun hHeld => ?_)
  · exact ⟨c3, c4⟩
  have HKV := Lib.hid W2K.out.drew
  have HFV := Lib.hid W2F.out.drew
  clear W2K W2F c3 c4
  generalize W2.drew = V at *
  obtain ⟨x0, x1, x2, x3, x4, x5⟩ := HKV.out.sixR i hi
  have f0 := HKV.out.sf (i * 6)
  have r1 : Nc layR (V.setCell ⟨bs, i * 6, none⟩ (.int .u64 (K.n + 1))) b bc bs A n cc x z N { K with n := K.n + 1, S := updS K.S i { K.S i with q := K.n + 1 } } := HKV.out.store i 0 hi (by omega) { K.S i with q := K.n + 1 } (.int .u64 (K.n + 1)) rfl (fun q hq hne => by unfold layR; simp [hne])
  have R1 := Lib.hid r1
  have F1 : Hid (But (Ft b bc bs) w (V.setCell ⟨bs, i * 6, none⟩ (.int .u64 (K.n + 1)))) := Lib.hid (HFV.out.setCell (p := ⟨bs, i * 6, none⟩) (fun _ => .inr (.inr rfl)) (.int .u64 (K.n + 1)))
  clear r1
  refine wpAnyH_take (i := 0) (v := ?_) rfl (by kernel_rfl) (by kernel_rfl) (by kernel_rfl) (fun _ _ _ h => h) (Or.inl ⟨by rfl, ?_⟩) (by assumption) ?_
  rotate_left
  · intro w' hSw; (try dsimp only at hSw); go_simp; (try with_reducible rfl)
  (try simp only [Act.put, List.setIfInBounds_toArray, List.set_cons_zero, List.set_cons_succ, List.getElem_toArray, List.getElem_cons_succ, List.getElem_cons_zero])
  refine wpAnyH_take (i := 1) (v := ?_) rfl (by kernel_rfl) (by kernel_rfl) (by kernel_rfl) (fun _ _ _ h => h) (Or.inl ⟨by rfl, ?_⟩) (by assumption) ?_
  rotate_left
  · intro w' hSw; (try dsimp only at hSw); go_simp; (try with_reducible rfl)
  (try simp only [Act.put, List.setIfInBounds_toArray, List.set_cons_zero, List.set_cons_succ, List.getElem_toArray, List.getElem_cons_succ, List.getElem_cons_zero])
  refine wpAnyH_take (i := 2) (v := ?_) rfl (by kernel_rfl) (by kernel_rfl) (by kernel_rfl) (fun _ _ _ h => h) (Or.inl ⟨by rfl, ?_⟩) (by assumption) ?_
  rotate_left
  · intro w' hSw; (try dsimp only at hSw); go_simp; (try with_reducible rfl)
  (try simp only [Act.put, List.setIfInBounds_toArray, List.set_cons_zero, List.set_cons_succ, List.getElem_toArray, List.getElem_cons_succ, List.getElem_cons_zero])
  refine wpAnyH_take (i := 3) (v := ?_) rfl (by kernel_rfl) (by kernel_rfl) (by kernel_rfl) (fun _ _ _ h => h) (Or.inl ⟨by rfl, ?_⟩) (by assumption) ?_
  rotate_left
  · intro w' hSw; (try dsimp only at hSw); go_simp; (try with_reducible rfl)
  (try simp only [Act.put, List.setIfInBounds_toArray, List.set_cons_zero, List.set_cons_succ, List.getElem_toArray, List.getElem_cons_succ, List.getElem_cons_zero])
  refine wpAnyH_take (i := 4) (v := ?_) rfl (by kernel_rfl) (by kernel_rfl) (by kernel_rfl) (fun _ _ _ h => h) (Or.inl ⟨by rfl, ?_⟩) (by assumption) ?_
  rotate_left
  · intro w' hSw; (try dsimp only at hSw); go_simp; (try with_reducible rfl)
  (try simp only [Act.put, List.setIfInBounds_toArray, List.set_cons_zero, List.set_cons_succ, List.getElem_toArray, List.getElem_cons_succ, List.getElem_cons_zero])
  refine wpAnyH_take (i := 5) (v := ?_) rfl (by kernel_rfl) (by kernel_rfl) (by kernel_rfl) (fun _ _ _ h => h) (Or.inl ⟨by rfl, ?_⟩) (by assumption) ?_
  rotate_left
  · intro w' hSw; (try dsimp only at hSw); go_simp; (try with_reducible rfl)
  (try simp only [Act.put, List.setIfInBounds_toArray, List.set_cons_zero, List.set_cons_succ, List.getElem_toArray, List.getElem_cons_succ, List.getElem_cons_zero])
  refine wpAnyH_take (i := 6) (v := ?_) rfl (by kernel_rfl) (by kernel_rfl) (by kernel_rfl) (fun _ _ _ h => h) (Or.inl ⟨by rfl, ?_⟩) (by assumption) ?_
  rotate_left
  · intro w' hSw; (try dsimp only at hSw); go_simp; (try with_reducible rfl)
  (try simp only [Act.put, List.setIfInBounds_toArray, List.set_cons_zero, List.set_cons_succ, List.getElem_toArray, List.getElem_cons_succ, List.getElem_cons_zero])
  refine wpAnyH_take (i := 7) (v := ?_) rfl (by kernel_rfl) (by kernel_rfl) (by kernel_rfl) (fun _ _ _ h => h) (Or.inl ⟨by rfl, ?_⟩) (by assumption) ?_
  rotate_left
  · intro w' hSw; (try dsimp only at hSw); go_simp; (try with_reducible rfl)
  (try simp only [Act.put, List.setIfInBounds_toArray, List.set_cons_zero, List.set_cons_succ, List.getElem_toArray, List.getElem_cons_succ, List.getElem_cons_zero])
  refine wpAnyH_take (i := 8) (v := ?_) rfl (by kernel_rfl) (by kernel_rfl) (by kernel_rfl) (fun _ _ _ h => h) (Or.inl ⟨by rfl, ?_⟩) (by assumption) ?_
  rotate_left
  · intro w' hSw; (try dsimp only at hSw); go_simp; (try with_reducible rfl)
  (try simp only [Act.put, List.setIfInBounds_toArray, List.set_cons_zero, List.set_cons_succ, List.getElem_toArray, List.getElem_cons_succ, List.getElem_cons_zero])
  refine wpAnyH_take (i := 9) (v := ?_) rfl (by kernel_rfl) (by kernel_rfl) (by kernel_rfl) (fun _ _ _ h => h) (Or.inl ⟨by rfl, ?_⟩) (by assumption) ?_
  rotate_left
  · intro w' hSw; (try dsimp only at hSw); go_simp; (try with_reducible rfl)
  (try simp only [Act.put, List.setIfInBounds_toArray, List.set_cons_zero, List.set_cons_succ, List.getElem_toArray, List.getElem_cons_succ, List.getElem_cons_zero])
  refine wpAnyH_take (i := 10) (v := ?_) rfl (by kernel_rfl) (by kernel_rfl) (by kernel_rfl) (fun _ _ _ h => h) (Or.inl ⟨by rfl, ?_⟩) (by assumption) ?_
  rotate_left
  · intro w' hSw; (try dsimp only at hSw); go_simp; (try with_reducible rfl)
  (try simp only [Act.put, List.setIfInBounds_toArray, List.set_cons_zero, List.set_cons_succ, List.getElem_toArray, List.getElem_cons_succ, List.getElem_cons_zero])
  refine wpAnyH_ready (rs := [11]) (by kernel_rfl) (by simp) ?_
  refine AllReadyH.cons rfl (fun K hK => ?_) (AllReadyH.nil)
  go_simp
  (try dsimp only)
  refine hK.out _ _ ?_ (fun hHeld => ?_)
  · exact ⟨R1.out.c3, R1.out.c4⟩
  clear hK K
  (try simp only [Act.put, List.setIfInBounds_toArray, List.set_cons_zero, List.set_cons_succ, List.getElem_toArray, List.getElem_cons_succ, List.getElem_cons_zero])
  refine wpAnyH_done (by kernel_rfl) ?_ _
  clear hHeld x0 x1 x2 x3 x4 x5 f0 HKV HFV
  generalize V.setCell ⟨bs, i * 6, none⟩ (.int .u64 (K.n + 1)) = V1 at *
  go_wp2_with fail
  refine wp_region_held_drew (S := fun w' => w'.cell? ⟨b, 3, none⟩ = some (.slice (some ⟨bs, 0, none⟩) N N) ∧ w'.cell? ⟨b, 0, none⟩ = some (.pointer (some ⟨bc, 0, none⟩))) (by kernel_rfl) ?_ (fun hHeld => ?_)
  · exact ⟨R1.out.c3, R1.out.c0⟩
  have HKV := Lib.hid R1.out.drew
  have HFV := Lib.hid F1.out.drew
  clear R1 F1
  generalize V1.drew = V2 at *
  have HRD := Lib.hid (ref8_read_all bc K.c K.t K.l count V2 HKV.out.clk HKK.out.clk hc)
  refine wpAnyH_take (i := 0) (v := ?_) rfl (by kernel_rfl) (by kernel_rfl) (by kernel_rfl) (fun _ _ _ h => h) (Or.inl ⟨by rfl, ?_⟩) (by assumption) ?_
  rotate_left
  · intro w' hSw; (try dsimp only at hSw); go_simp; (try with_reducible rfl)
  (try simp only [Act.put, List.setIfInBounds_toArray, List.set_cons_zero, List.set_cons_succ, List.getElem_toArray, List.getElem_cons_succ, List.getElem_cons_zero])
  refine wpAnyH_take (i := 1) (v := ?_) rfl (by kernel_rfl) (by kernel_rfl) (by kernel_rfl) (fun _ _ _ h => h) (Or.inl ⟨by rfl, ?_⟩) (by assumption) ?_
  rotate_left
  · intro w' hSw; (try dsimp only at hSw); go_simp; (try with_reducible rfl)
  (try simp only [Act.put, List.setIfInBounds_toArray, List.set_cons_zero, List.set_cons_succ, List.getElem_toArray, List.getElem_cons_succ, List.getElem_cons_zero])
  refine wpAnyH_take (i := 2) (v := ?_) rfl (by kernel_rfl) (by kernel_rfl) (by kernel_rfl) (fun _ _ _ h => h) (Or.inl ⟨by rfl, ?_⟩) (by assumption) ?_
  rotate_left
  · intro w' hSw; (try dsimp only at hSw); go_simp; (try with_reducible rfl)
  (try simp only [Act.put, List.setIfInBounds_toArray, List.set_cons_zero, List.set_cons_succ, List.getElem_toArray, List.getElem_cons_succ, List.getElem_cons_zero])
  refine wpAnyH_take (i := 3) (v := ?_) rfl (by kernel_rfl) (by kernel_rfl) (by kernel_rfl) (fun _ _ _ h => h) (Or.inl ⟨by rfl, ?_⟩) (by assumption) ?_
  rotate_left
  · intro w' hSw; (try dsimp only at hSw); go_simp; (try with_reducible rfl)
  (try simp only [Act.put, List.setIfInBounds_toArray, List.set_cons_zero, List.set_cons_succ, List.getElem_toArray, List.getElem_cons_succ, List.getElem_cons_zero])
  refine wpAnyH_take (i := 4) (v := ?_) rfl (by kernel_rfl) (by kernel_rfl) (by kernel_rfl) (fun _ _ _ h => h) (Or.inl ⟨by rfl, ?_⟩) (by assumption) ?_
  rotate_left
  · intro w' hSw; (try dsimp only at hSw); go_simp; (try with_reducible rfl)
  (try simp only [Act.put, List.setIfInBounds_toArray, List.set_cons_zero, List.set_cons_succ, List.getElem_toArray, List.getElem_cons_succ, List.getElem_cons_zero])
  refine wpAnyH_take (i := 5) (v := ?_) rfl (by kernel_rfl) (by kernel_rfl) (by kernel_rfl) (fun _ _ _ h => h) (Or.inl ⟨by rfl, ?_⟩) (by assumption) ?_
  rotate_left
  · intro w' hSw; (try dsimp only at hSw); go_simp; (try with_reducible rfl)
  (try simp only [Act.put, List.setIfInBounds_toArray, List.set_cons_zero, List.set_cons_succ, List.getElem_toArray, List.getElem_cons_succ, List.getElem_cons_zero])
  refine wpAnyH_take (i := 6) (v := ?_) rfl (by kernel_rfl) (by kernel_rfl) (by kernel_rfl) (fun _ _ _ h => h) (Or.inl ⟨by rfl, ?_⟩) (by assumption) ?_
  rotate_left
  · intro w' hSw; (try dsimp only at hSw); go_simp; (try with_reducible rfl)
  (try simp only [Act.put, List.setIfInBounds_toArray, List.set_cons_zero, List.set_cons_succ, List.getElem_toArray, List.getElem_cons_succ, List.getElem_cons_zero])
  refine wpAnyH_take (i := 7) (v := ?_) rfl (by kernel_rfl) (by kernel_rfl) (by kernel_rfl) (fun _ _ _ h => h) (Or.inl ⟨by rfl, ?_⟩) (by assumption) ?_
  rotate_left
  · intro w' hSw; (try dsimp only at hSw); go_simp; (try with_reducible rfl)
  (try simp only [Act.put, List.setIfInBounds_toArray, List.set_cons_zero, List.set_cons_succ, List.getElem_toArray, List.getElem_cons_succ, List.getElem_cons_zero])
  refine wpAnyH_take (i := 8) (v := ?_) rfl (by kernel_rfl) (by kernel_rfl) (by kernel_rfl) (fun _ _ _ h => h) (Or.inl ⟨by rfl, ?_⟩) (by assumption) ?_
  rotate_left
  · intro w' hSw; (try dsimp only at hSw); go_simp; (try with_reducible rfl)
  (try simp only [Act.put, List.setIfInBounds_toArray, List.set_cons_zero, List.set_cons_succ, List.getElem_toArray, List.getElem_cons_succ, List.getElem_cons_zero])
  refine wpAnyH_take (i := 9) (v := ?_) rfl (by kernel_rfl) (by kernel_rfl) (by kernel_rfl) (fun _ _ _ h => h) (Or.inl ⟨by rfl, ?_⟩) (by assumption) ?_
  rotate_left
  · intro w' hSw; (try dsimp only at hSw); go_simp; (try with_reducible rfl)
  (try simp only [Act.put, List.setIfInBounds_toArray, List.set_cons_zero, List.set_cons_succ, List.getElem_toArray, List.getElem_cons_succ, List.getElem_cons_zero])
  refine wpAnyH_ready (rs := [10]) (by kernel_rfl) (by simp) ?_
  refine AllReadyH.cons rfl (fun K hK => ?_) (AllReadyH.nil)
  go_simp
  (go_at_call 33; refine HRD.out.mono ?_; rintro e w5 ⟨rfl, ho5, k5⟩)
  have HK5 := Lib.hid (HKV.out.clock ho5 k5)
  have HF5 := Lib.hid (HFV.out.trans (T := Ft b bc bs) (But.of_only ho5 (.inr (.inl rfl))) (fun _ _ q => q))
  clear ho5 k5
  (try dsimp only)
  refine hK.out _ _ ?_ (fun hHeld => ?_)
  · exact ⟨HK5.out.c3, HK5.out.c0⟩
  clear hK K
  (try simp only [Act.put, List.setIfInBounds_toArray, List.set_cons_zero, List.set_cons_succ, List.getElem_toArray, List.getElem_cons_succ, List.getElem_cons_zero])
  obtain ⟨x0, x1, x2, x3, x4, x5⟩ := HK5.out.sixR i hi
  have f1 := HK5.out.sf (i * 6 + 1)
  have r2 := HK5.out.store i 1 hi (by omega) { K.S i with q := K.n + 1, a := rt K.c K.t K.l count } (.int .i64 (rt K.c K.t K.l count)) rfl (fun q hq hne => by simp only [updS_same]; unfold layR; simp [hne])
  have R2 : Hid (Nc layR (w5.setCell ⟨bs, i * 6 + 1, none⟩ (.int .i64 (rt K.c K.t K.l count))) b bc bs A n cc x z N (askK K i count)) := Lib.hid (r2.congr (S' := (askK K i count).S) (fun j _ => by simp only [askK, updS_upd]))
  have HF9 : Hid (But (Ft b bc bs) w (w5.setCell ⟨bs, i * 6 + 1, none⟩ (.int .i64 (rt K.c K.t K.l count)))) := Lib.hid (HF5.out.setCell (p := ⟨bs, i * 6 + 1, none⟩) (fun _ => .inr (.inr rfl)) (.int .i64 (rt K.c K.t K.l count)))
  clear r2
  refine wpAnyH_take (i := 11) (v := ?_) rfl (by kernel_rfl) (by kernel_rfl) (by kernel_rfl) (fun _ _ _ h => h) (Or.inl ⟨by rfl, ?_⟩) (by assumption) ?_
  rotate_left
  · intro w' hSw; (try dsimp only at hSw); go_simp; (try with_reducible rfl)
  (try simp only [Act.put, List.setIfInBounds_toArray, List.set_cons_zero, List.set_cons_succ, List.getElem_toArray, List.getElem_cons_succ, List.getElem_cons_zero])
  refine wpAnyH_take (i := 12) (v := ?_) rfl (by kernel_rfl) (by kernel_rfl) (by kernel_rfl) (fun _ _ _ h => h) (Or.inl ⟨by rfl, ?_⟩) (by assumption) ?_
  rotate_left
  · intro w' hSw; (try dsimp only at hSw); go_simp; (try with_reducible rfl)
  (try simp only [Act.put, List.setIfInBounds_toArray, List.set_cons_zero, List.set_cons_succ, List.getElem_toArray, List.getElem_cons_succ, List.getElem_cons_zero])
  refine wpAnyH_ready (rs := [13]) (by kernel_rfl) (by simp) ?_
  refine AllReadyH.cons rfl (fun K hK => ?_) (AllReadyH.nil)
  go_simp
  (try dsimp only)
  refine hK.out _ _ ?_ (fun hHeld => ?_)
  · exact ⟨R2.out.c3, R2.out.c0⟩
  clear hK K
  (try simp only [Act.put, List.setIfInBounds_toArray, List.set_cons_zero, List.set_cons_succ, List.getElem_toArray, List.getElem_cons_succ, List.getElem_cons_zero])
  refine wpAnyH_done (by kernel_rfl) ?_ _
  clear hHeld x0 x1 x2 x3 x4 x5 f1 HK5 HF5 HKV HFV
  generalize (w5.setCell ⟨bs, i * 6 + 1, none⟩ (.int .i64 (rt K.c K.t K.l count))) = W9 at *
  have c4 : W9.cell? ⟨b, 4, none⟩ = some (.int .u64 (K.n + 1)) := R2.out.c4
  go_wp2_with fail
  refine (HEN.out W9).mono ?_; rintro e w10 ⟨g, cap, rfl, hg, hp, k10⟩
  have R3 := Lib.hid (R2.out.below k10)
  have F3 := Lib.hid (HF9.out.next k10)
  have HP := Lib.hid hp
  have hz9 := HF9.out.size
  clear hp k10
  go_wp2_with fail
  go_ret2
  exact ⟨⟨g, cap, rfl, by omega, HP.out⟩, R3.out, F3.out⟩
end Go.Proofs.YtepdnkpmkhjlgaaGreat

/- NTP: the law's does, of a question (written by gen/does1.py). -/
namespace Go.Proofs.YtepdnkpmkhjlgaaGreat
open Go.RowKit Go.Sort

def updI (f : Nat → Int) (i : Nat) (v : Int) : Nat → Int := fun j => if j = i then v else f j
theorem Pr.cnt {w : World} {bp b bc bs : Nat} {A1 : Option Addr} {c1 : Nat} {rb rbc rbs : Nat} {A2 : Option Addr} {c2 : Nat} {ad : Addr} {n c : Nat} {x : Int} {z : Nat → Int} {N : Nat} {m0 m1 m2 : Nat} {K R : Cs} {cnt : Int} {asked when_ : Nat → Int} (h : Pr w bp b bc bs A1 c1 rb rbc rbs A2 c2 ad n c x z N m0 m1 m2 K R cnt asked when_) (v : Int) : Pr (w.setCell ⟨bp, 4, none⟩ (.int .i64 v)) bp b bc bs A1 c1 rb rbc rbs A2 c2 ad n c x z N m0 m1 m2 K R v asked when_ := by
  have r1 := h.r1
  have r2 := h.r2
  have r3 := h.r3
  have a0 := h.a0
  have O : Only bp w (w.setCell ⟨bp, 4, none⟩ (.int .i64 v)) := (Only.refl _ _).setB _
  have U : But (fun k => k = bp) w (w.setCell ⟨bp, 4, none⟩ (.int .i64 v)) := But.of_only O rfl
  have e : ∀ o, o ≠ 4 → (w.setCell ⟨bp, 4, none⟩ (.int .i64 v)).cell? ⟨bp, o, none⟩ = w.cell? ⟨bp, o, none⟩ := fun o ho => World.cell?_setCell_other _ _ _ _ (by simp; try omega)
  have hz := O.size
  refine ⟨(e 0 (by omega)).trans h.q0, (e 1 (by omega)).trans h.q1, (e 2 (by omega)).trans h.q2, (e 3 (by omega)).trans h.q3, World.cell?_setCell_same _ _ _ h.q4, fun j hj => (e _ (by omega)).trans (h.qa j hj), fun j hj => (e _ (by omega)).trans (h.qw j hj), fun j => by simpa using h.qf j, Nat.lt_of_lt_of_le h.ql hz,
    h.P.but U (by omega) (by omega) (by omega) (fun q hq => by have := h.a1 q hq; omega), h.R.but U (by omega) (by omega) (by omega) (fun q hq => by have := h.a2 q hq; omega), ?_, r1, r2, r3, h.a1, h.a2, h.a0⟩
  intro hn
  obtain ⟨B, O', hA, hB, hc⟩ := h.tab hn
  have hab : ad.block = B := by injection hA with hA; rw [hA]
  exact ⟨B, O', hA, Nat.lt_of_lt_of_le hB hz, fun j hj => ⟨(O.cell B _ hB (by omega)).trans (hc j hj).1, (hc j hj).2⟩⟩
theorem Pr.ask {w : World} {bp b bc bs : Nat} {A1 : Option Addr} {c1 : Nat} {rb rbc rbs : Nat} {A2 : Option Addr} {c2 : Nat} {ad : Addr} {n c : Nat} {x : Int} {z : Nat → Int} {N : Nat} {m0 m1 m2 : Nat} {K R : Cs} {cnt : Int} {asked when_ : Nat → Int} (h : Pr w bp b bc bs A1 c1 rb rbc rbs A2 c2 ad n c x z N m0 m1 m2 K R cnt asked when_) (i : Nat) (hi : i < 8) (v : Int) : Pr (w.setCell ⟨bp, 5 + i, none⟩ (.int .u64 v)) bp b bc bs A1 c1 rb rbc rbs A2 c2 ad n c x z N m0 m1 m2 K R cnt (updI asked i v) when_ := by
  have r1 := h.r1
  have r2 := h.r2
  have r3 := h.r3
  have a0 := h.a0
  have O : Only bp w (w.setCell ⟨bp, 5 + i, none⟩ (.int .u64 v)) := (Only.refl _ _).setB _
  have U : But (fun k => k = bp) w (w.setCell ⟨bp, 5 + i, none⟩ (.int .u64 v)) := But.of_only O rfl
  have e : ∀ o, o ≠ 5 + i → (w.setCell ⟨bp, 5 + i, none⟩ (.int .u64 v)).cell? ⟨bp, o, none⟩ = w.cell? ⟨bp, o, none⟩ := fun o ho => World.cell?_setCell_other _ _ _ _ (by simp; try omega)
  have hz := O.size
  refine ⟨(e 0 (by omega)).trans h.q0, (e 1 (by omega)).trans h.q1, (e 2 (by omega)).trans h.q2, (e 3 (by omega)).trans h.q3, (e 4 (by omega)).trans h.q4, fun j hj => by
    by_cases q : j = i
    · subst q; rw [World.cell?_setCell_same _ _ _ (h.qa j hj)]; simp [updI]
    · rw [e _ (by omega), h.qa j hj]; simp [updI, q], fun j hj => (e _ (by omega)).trans (h.qw j hj), fun j => by simpa using h.qf j, Nat.lt_of_lt_of_le h.ql hz,
    h.P.but U (by omega) (by omega) (by omega) (fun q hq => by have := h.a1 q hq; omega), h.R.but U (by omega) (by omega) (by omega) (fun q hq => by have := h.a2 q hq; omega), ?_, r1, r2, r3, h.a1, h.a2, h.a0⟩
  intro hn
  obtain ⟨B, O', hA, hB, hc⟩ := h.tab hn
  have hab : ad.block = B := by injection hA with hA; rw [hA]
  exact ⟨B, O', hA, Nat.lt_of_lt_of_le hB hz, fun j hj => ⟨(O.cell B _ hB (by omega)).trans (hc j hj).1, (hc j hj).2⟩⟩
theorem Pr.when {w : World} {bp b bc bs : Nat} {A1 : Option Addr} {c1 : Nat} {rb rbc rbs : Nat} {A2 : Option Addr} {c2 : Nat} {ad : Addr} {n c : Nat} {x : Int} {z : Nat → Int} {N : Nat} {m0 m1 m2 : Nat} {K R : Cs} {cnt : Int} {asked when_ : Nat → Int} (h : Pr w bp b bc bs A1 c1 rb rbc rbs A2 c2 ad n c x z N m0 m1 m2 K R cnt asked when_) (i : Nat) (hi : i < 8) (v : Int) : Pr (w.setCell ⟨bp, 13 + i, none⟩ (.int .i64 v)) bp b bc bs A1 c1 rb rbc rbs A2 c2 ad n c x z N m0 m1 m2 K R cnt asked (updI when_ i v) := by
  have r1 := h.r1
  have r2 := h.r2
  have r3 := h.r3
  have a0 := h.a0
  have O : Only bp w (w.setCell ⟨bp, 13 + i, none⟩ (.int .i64 v)) := (Only.refl _ _).setB _
  have U : But (fun k => k = bp) w (w.setCell ⟨bp, 13 + i, none⟩ (.int .i64 v)) := But.of_only O rfl
  have e : ∀ o, o ≠ 13 + i → (w.setCell ⟨bp, 13 + i, none⟩ (.int .i64 v)).cell? ⟨bp, o, none⟩ = w.cell? ⟨bp, o, none⟩ := fun o ho => World.cell?_setCell_other _ _ _ _ (by simp; try omega)
  have hz := O.size
  refine ⟨(e 0 (by omega)).trans h.q0, (e 1 (by omega)).trans h.q1, (e 2 (by omega)).trans h.q2, (e 3 (by omega)).trans h.q3, (e 4 (by omega)).trans h.q4, fun j hj => (e _ (by omega)).trans (h.qa j hj), fun j hj => by
    by_cases q : j = i
    · subst q; rw [World.cell?_setCell_same _ _ _ (h.qw j hj)]; simp [updI]
    · rw [e _ (by omega), h.qw j hj]; simp [updI, q], fun j => by simpa using h.qf j, Nat.lt_of_lt_of_le h.ql hz,
    h.P.but U (by omega) (by omega) (by omega) (fun q hq => by have := h.a1 q hq; omega), h.R.but U (by omega) (by omega) (by omega) (fun q hq => by have := h.a2 q hq; omega), ?_, r1, r2, r3, h.a1, h.a2, h.a0⟩
  intro hn
  obtain ⟨B, O', hA, hB, hc⟩ := h.tab hn
  have hab : ad.block = B := by injection hA with hA; rw [hA]
  exact ⟨B, O', hA, Nat.lt_of_lt_of_le hB hz, fun j hj => ⟨(O.cell B _ hB (by omega)).trans (hc j hj).1, (hc j hj).2⟩⟩
theorem decR_of {w : World} {g cap : Nat} {p : Pk} (h : PkAt w g cap p) (hp : p.ok) : Calls Tryz.prog 29 #[.slice (some ⟨g, 0, none⟩) 48 cap] w fun e w' => e = .returned (.tuple #[pkVal p, .int .i64 0]) ∧ Below w.heap.size w w' := by
  have q := ref6_dec g 0 cap 48 rfl p.f w h.1 (fun j hj => by rw [Nat.zero_add]; exact h.2.2 j hj) (fun j hj => encF_byte _ _ _ _ _ _ _ _ hp.isP j hj) h.2.1
  refine q.mono ?_
  rintro e w' ⟨q1, _, q3⟩
  have e0 := q1 (decOk_enc hp.isP hp.o hp.v hp.t)
  obtain ⟨d1, d2, d3, d4, d5, d6, d7, d8⟩ := dec_enc hp.isP hp.o hp.v hp.t
  refine ⟨?_, q3⟩
  rw [e0]
  show Ending.returned (.tuple #[pkV (dL p.f) (dM p.f) (p.f 1) (dD p.f) (dR p.f) (dO p.f) (dV p.f) (dT p.f), .int .i64 0]) = _
  rw [show dL p.f = p.l from d1, show dM p.f = p.m from d2, show p.f 1 = p.s from d3, show dD p.f = p.d from d4, show dR p.f = p.r from d5, show dO p.f = p.o from d6, show dV p.f = p.v from d7, show dT p.f = p.t from d8]
theorem PkAt.bytes {w : World} {g cap : Nat} {p : Pk} (h : PkAt w g cap p) : BytesAt w (some ⟨g, 0, none⟩) 48 p.f := fun _ => ⟨g, 0, rfl, h.1, fun j hj => by rw [Nat.zero_add]; exact h.2.2 j hj⟩
theorem AskAns.pk {w w' : World} {q : Int} {g : Nat} (h : U8At w' g 48 (encF 0 3 0 0 0 0 0 q)) : PkAt w' g 48 (askP q) := ⟨h.lt, Nat.le_refl _, fun j hj => h.c j hj⟩
set_option maxRecDepth 100000 in
set_option maxHeartbeats 16000000 in
theorem law_does1 {w : World} {bp b bc bs : Nat} {A1 : Option Addr} {c1 : Nat} {rb rbc rbs : Nat} {A2 : Option Addr} {c2 : Nat} {ad : Addr} {n c : Nat} {x : Int} {z : Nat → Int} {N : Nat} {m0 m1 m2 : Nat} {K R : Cs} {cnt : Int} {asked when_ : Nat → Int} (h : Pr w bp b bc bs A1 c1 rb rbc rbs A2 c2 ad n c x z N m0 m1 m2 K R cnt asked when_) (hK : K.Ok N) (hR : R.Ok N) (hn : R.n = K.n) (hn1 : K.n < 1000000000) (hN : N ≤ 8) (i : Nat) (hi : i < N) (k0 : 0 ≤ cnt) (k1 : cnt ≤ 1152921504606846976) :
    Calls Tryz.prog 13 #[.pointer (some ⟨bp, 0, none⟩), .agg #[.int .i64 1, .int .i64 i, .int .i64 0, .int .i64 0, .int .i64 0, .int .i64 0, .slice none 0 0]] w fun e w' => e = .returned (.bool true) ∧ Pr w' bp b bc bs A1 c1 rb rbc rbs A2 c2 ad n c x z N m0 m1 m2 (askK K i cnt) (askK R i cnt) cnt (updI asked i (K.n + 1)) (updI when_ i cnt) ∧ But (fun k => m0 ≤ k ∧ k ≤ bp) w w' := by
  have hr1 := h.r1
  have hr2 := h.r2
  have hr3 := h.r3
  have hql := h.ql
  have kk : Below w.heap.size w (w.alloc (.cells #[.int .i64 1, .int .i64 i, .int .i64 0, .int .i64 0, .int .i64 0, .int .i64 0, .slice none 0 0] 41)) := (Below.refl _ _).alloc (Nat.le_refl _) _
  have HP0 := Lib.hid (h.below kk)
  have HU0 : Hid (But (fun k => m0 ≤ k ∧ k ≤ bp) w (w.alloc (.cells #[.int .i64 1, .int .i64 i, .int .i64 0, .int .i64 0, .int .i64 0, .int .i64 0, .slice none 0 0] 41))) := Lib.hid (But.of_below kk)
  have a1 : (w.alloc (.cells #[.int .i64 1, .int .i64 i, .int .i64 0, .int .i64 0, .int .i64 0, .int .i64 0, .slice none 0 0] 41)).cell? ⟨w.heap.size, 1, none⟩ = some (.int .i64 i) := by simp
  have a2 : (w.alloc (.cells #[.int .i64 1, .int .i64 i, .int .i64 0, .int .i64 0, .int .i64 0, .int .i64 0, .slice none 0 0] 41)).cell? ⟨w.heap.size, 2, none⟩ = some (.int .i64 0) := by simp
  have a0 : (w.alloc (.cells #[.int .i64 1, .int .i64 i, .int .i64 0, .int .i64 0, .int .i64 0, .int .i64 0, .slice none 0 0] 41)).cell? ⟨w.heap.size, 0, none⟩ = some (.int .i64 1) := by simp
  have la : w.heap.size < (w.alloc (.cells #[.int .i64 1, .int .i64 i, .int .i64 0, .int .i64 0, .int .i64 0, .int .i64 0, .slice none 0 0] 41)).heap.size := by simp
  have mn : min cnt 1152921504606846976 = cnt := by omega
  have mn2 : min (0 : Int) 35184372088832 = 0 := by decide
  have mx2 : max (0 : Int) 0 = 0 := by decide
  have wc : IntKind.i64.wrap cnt = cnt := IntWalk.i64_in _ (by omega)
  have wc0 : IntKind.i64.wrap (cnt + 0) = cnt := by rw [Int.add_zero]; exact wc
  have HKO := Lib.hid hK
  have HRO := Lib.hid hR
  have HN := Lib.hid (And.intro hn (And.intro hn1 (And.intro k0 k1)))
  have hkn := hK.n0
  have li : (i : Int) < 8 := by omega
  have li2 : i < 8 := by omega
  have p4 := HP0.out.q4
  clear kk h hK hR hn k0 k1 hn1
  go_enter Tryz.func13, Tryz.ntmps13
  go_wp2_with fail
  generalize hA : w.heap.size = a at *
  have HAE := Lib.hid hA
  generalize hW : (w.alloc (.cells #[.int .i64 1, .int .i64 i, .int .i64 0, .int .i64 0, .int .i64 0, .int .i64 0, .slice none 0 0] 41)) = V0 at *
  clear hA hW
  refine wp_region_held_drew (S := fun w' => w'.cell? ⟨bp, 4, none⟩ = some (.int .i64 cnt) ∧ w'.cell? ⟨a, 2, none⟩ = some (.int .i64 0)) (by kernel_rfl) ?_ (fun hHeld => ?_)
  · exact ⟨p4, a2⟩
  have HP1 := Lib.hid (HP0.out.below (w' := V0.drew) ((Below.refl _ _).drew))
  have HU1 := Lib.hid HU0.out.drew
  have a0 : V0.drew.cell? ⟨a, 0, none⟩ = some (.int .i64 1) := a0
  have a1 : V0.drew.cell? ⟨a, 1, none⟩ = some (.int .i64 i) := a1
  have a2 : V0.drew.cell? ⟨a, 2, none⟩ = some (.int .i64 0) := a2
  have la : a < V0.drew.heap.size := la
  clear HP0 HU0 p4
  generalize V0.drew = V1 at *
  have nab : a ≠ bp := by omega
  have HP2 := Lib.hid (HP1.out.cnt cnt)
  have HU2 : Hid (But (fun k => m0 ≤ k ∧ k ≤ bp) w (V1.setCell ⟨bp, 4, none⟩ (.int .i64 cnt))) := Lib.hid (HU1.out.setCell (p := ⟨bp, 4, none⟩) (fun _ => ⟨by show m0 ≤ bp; omega, Nat.le_refl _⟩) _)
  have b0 : (V1.setCell ⟨bp, 4, none⟩ (.int .i64 cnt)).cell? ⟨a, 0, none⟩ = some (.int .i64 1) := (World.cell?_setCell_other _ _ _ _ (by simp [nab])).trans a0
  have b1 : (V1.setCell ⟨bp, 4, none⟩ (.int .i64 cnt)).cell? ⟨a, 1, none⟩ = some (.int .i64 i) := (World.cell?_setCell_other _ _ _ _ (by simp [nab])).trans a1
  have b2 : (V1.setCell ⟨bp, 4, none⟩ (.int .i64 cnt)).cell? ⟨a, 2, none⟩ = some (.int .i64 0) := (World.cell?_setCell_other _ _ _ _ (by simp [nab])).trans a2
  have lb : a < (V1.setCell ⟨bp, 4, none⟩ (.int .i64 cnt)).heap.size := by simpa [World.setCell] using la
  have f4 := HP1.out.qf 4
  have p4 := HP1.out.q4
  have lbp := HP1.out.ql
  refine wpAnyH_take (i := 0) (v := ?_) rfl (by kernel_rfl) (by kernel_rfl) (by kernel_rfl) (fun _ _ _ h => h) (Or.inl ⟨by rfl, ?_⟩) (by assumption) ?_
  rotate_left
  · intro w' hSw; (try dsimp only at hSw); go_simp; (try with_reducible rfl)
  (try simp only [Act.put, List.setIfInBounds_toArray, List.set_cons_zero, List.set_cons_succ, List.getElem_toArray, List.getElem_cons_succ, List.getElem_cons_zero])
  refine wpAnyH_take (i := 1) (v := ?_) rfl (by kernel_rfl) (by kernel_rfl) (by kernel_rfl) (fun _ _ _ h => h) (Or.inl ⟨by rfl, ?_⟩) (by assumption) ?_
  rotate_left
  · intro w' hSw; (try dsimp only at hSw); go_simp; (try with_reducible rfl)
  (try simp only [Act.put, List.setIfInBounds_toArray, List.set_cons_zero, List.set_cons_succ, List.getElem_toArray, List.getElem_cons_succ, List.getElem_cons_zero])
  refine wpAnyH_take (i := 2) (v := ?_) rfl (by kernel_rfl) (by kernel_rfl) (by kernel_rfl) (fun _ _ _ h => h) (Or.inl ⟨by rfl, ?_⟩) (by assumption) ?_
  rotate_left
  · intro w' hSw; (try dsimp only at hSw); go_simp; (try with_reducible rfl)
  (try simp only [Act.put, List.setIfInBounds_toArray, List.set_cons_zero, List.set_cons_succ, List.getElem_toArray, List.getElem_cons_succ, List.getElem_cons_zero])
  refine wpAnyH_take (i := 3) (v := ?_) rfl (by kernel_rfl) (by kernel_rfl) (by kernel_rfl) (fun _ _ _ h => h) (Or.inl ⟨by rfl, ?_⟩) (by assumption) ?_
  rotate_left
  · intro w' hSw; (try dsimp only at hSw); go_simp; (try with_reducible rfl)
  (try simp only [Act.put, List.setIfInBounds_toArray, List.set_cons_zero, List.set_cons_succ, List.getElem_toArray, List.getElem_cons_succ, List.getElem_cons_zero])
  refine wpAnyH_take (i := 4) (v := ?_) rfl (by kernel_rfl) (by kernel_rfl) (by kernel_rfl) (fun _ _ _ h => h) (Or.inl ⟨by rfl, ?_⟩) (by assumption) ?_
  rotate_left
  · intro w' hSw; (try dsimp only at hSw); go_simp; (try with_reducible rfl)
  (try simp only [Act.put, List.setIfInBounds_toArray, List.set_cons_zero, List.set_cons_succ, List.getElem_toArray, List.getElem_cons_succ, List.getElem_cons_zero])
  refine wpAnyH_take (i := 5) (v := ?_) rfl (by kernel_rfl) (by kernel_rfl) (by kernel_rfl) (fun _ _ _ h => h) (Or.inl ⟨by rfl, ?_⟩) (by assumption) ?_
  rotate_left
  · intro w' hSw; (try dsimp only at hSw); go_simp; (try with_reducible rfl)
  (try simp only [Act.put, List.setIfInBounds_toArray, List.set_cons_zero, List.set_cons_succ, List.getElem_toArray, List.getElem_cons_succ, List.getElem_cons_zero])
  refine wpAnyH_take (i := 6) (v := ?_) rfl (by kernel_rfl) (by kernel_rfl) (by kernel_rfl) (fun _ _ _ h => h) (Or.inl ⟨by rfl, ?_⟩) (by assumption) ?_
  rotate_left
  · intro w' hSw; (try dsimp only at hSw); go_simp; (try with_reducible rfl)
  (try simp only [Act.put, List.setIfInBounds_toArray, List.set_cons_zero, List.set_cons_succ, List.getElem_toArray, List.getElem_cons_succ, List.getElem_cons_zero])
  refine wpAnyH_take (i := 7) (v := ?_) rfl (by kernel_rfl) (by kernel_rfl) (by kernel_rfl) (fun _ _ _ h => h) (Or.inl ⟨by rfl, ?_⟩) (by assumption) ?_
  rotate_left
  · intro w' hSw; (try dsimp only at hSw); go_simp; (try with_reducible rfl)
  (try simp only [Act.put, List.setIfInBounds_toArray, List.set_cons_zero, List.set_cons_succ, List.getElem_toArray, List.getElem_cons_succ, List.getElem_cons_zero])
  refine wpAnyH_take (i := 8) (v := ?_) rfl (by kernel_rfl) (by kernel_rfl) (by kernel_rfl) (fun _ _ _ h => h) (Or.inl ⟨by rfl, ?_⟩) (by assumption) ?_
  rotate_left
  · intro w' hSw; (try dsimp only at hSw); go_simp; (try with_reducible rfl)
  (try simp only [Act.put, List.setIfInBounds_toArray, List.set_cons_zero, List.set_cons_succ, List.getElem_toArray, List.getElem_cons_succ, List.getElem_cons_zero])
  refine wpAnyH_take (i := 9) (v := ?_) rfl (by kernel_rfl) (by kernel_rfl) (by kernel_rfl) (fun _ _ _ h => h) (Or.inl ⟨by rfl, ?_⟩) (by assumption) ?_
  rotate_left
  · intro w' hSw; (try dsimp only at hSw); go_simp; (try with_reducible rfl)
  (try simp only [Act.put, List.setIfInBounds_toArray, List.set_cons_zero, List.set_cons_succ, List.getElem_toArray, List.getElem_cons_succ, List.getElem_cons_zero])
  refine wpAnyH_take (i := 10) (v := ?_) rfl (by kernel_rfl) (by kernel_rfl) (by kernel_rfl) (fun _ _ _ h => h) (Or.inl ⟨by rfl, ?_⟩) (by assumption) ?_
  rotate_left
  · intro w' hSw; (try dsimp only at hSw); go_simp; (try with_reducible rfl)
  (try simp only [Act.put, List.setIfInBounds_toArray, List.set_cons_zero, List.set_cons_succ, List.getElem_toArray, List.getElem_cons_succ, List.getElem_cons_zero])
  refine wpAnyH_take (i := 11) (v := ?_) rfl (by kernel_rfl) (by kernel_rfl) (by kernel_rfl) (fun _ _ _ h => h) (Or.inl ⟨by rfl, ?_⟩) (by assumption) ?_
  rotate_left
  · intro w' hSw; (try dsimp only at hSw); go_simp; (try with_reducible rfl)
  (try simp only [Act.put, List.setIfInBounds_toArray, List.set_cons_zero, List.set_cons_succ, List.getElem_toArray, List.getElem_cons_succ, List.getElem_cons_zero])
  refine wpAnyH_take (i := 12) (v := ?_) rfl (by kernel_rfl) (by kernel_rfl) (by kernel_rfl) (fun _ _ _ h => h) (Or.inl ⟨by rfl, ?_⟩) (by assumption) ?_
  rotate_left
  · intro w' hSw; (try dsimp only at hSw); go_simp; (try with_reducible rfl)
  (try simp only [Act.put, List.setIfInBounds_toArray, List.set_cons_zero, List.set_cons_succ, List.getElem_toArray, List.getElem_cons_succ, List.getElem_cons_zero])
  refine wpAnyH_ready (rs := [13]) (by kernel_rfl) (by simp) ?_
  refine AllReadyH.cons rfl (fun K hK => ?_) (AllReadyH.nil)
  go_simp
  (try dsimp only)
  refine hK.out _ _ ?_ (fun hHeld => ?_)
  · exact ⟨HP2.out.q4, b2⟩
  clear hK K
  (try simp only [Act.put, List.setIfInBounds_toArray, List.set_cons_zero, List.set_cons_succ, List.getElem_toArray, List.getElem_cons_succ, List.getElem_cons_zero])
  refine wpAnyH_done (by kernel_rfl) ?_ _
  clear hHeld HP1 HU1 a0 a1 a2 la f4 p4 lbp
  generalize V1.setCell ⟨bp, 4, none⟩ (.int .i64 cnt) = V2 at *
  have HAK := Lib.hid (fun (W : World) (hp : Pr W bp b bc bs A1 c1 rb rbc rbs A2 c2 ad n c x z N m0 m1 m2 K R cnt asked when_) => ntp_ask hp.P HKO.out HN.out.2.1 i hi cnt (by have := HN.out; omega))
  have HRK := Lib.hid (fun (W : World) (hp : Nc layR W rb rbc rbs A2 n c2 x z N R) => r_ask hp HRO.out (by have := HN.out; omega) i hi cnt (by have := HN.out; omega))
  go_wp2_with fail
  refine wp_region_held_drew (S := fun w' => w'.cell? ⟨bp, 2, none⟩ = some (.pointer (some ⟨b, 0, none⟩)) ∧ w'.cell? ⟨bp, 4, none⟩ = some (.int .i64 cnt) ∧ w'.cell? ⟨a, 1, none⟩ = some (.int .i64 i)) (by kernel_rfl) ?_ (fun hHeld => ?_)
  · exact ⟨HP2.out.q2, HP2.out.q4, b1⟩
  have HP3 := Lib.hid (HP2.out.below (w' := V2.drew) ((Below.refl _ _).drew))
  have HU3 := Lib.hid HU2.out.drew
  have b1 : V2.drew.cell? ⟨a, 1, none⟩ = some (.int .i64 i) := b1
  have lb : a < V2.drew.heap.size := lb
  clear HP2 HU2 b0 b2
  generalize V2.drew = V3 at *
  refine wpAnyH_take (i := 0) (v := ?_) rfl (by kernel_rfl) (by kernel_rfl) (by kernel_rfl) (fun _ _ _ h => h) (Or.inl ⟨by rfl, ?_⟩) (by assumption) ?_
  rotate_left
  · intro w' hSw; (try dsimp only at hSw); go_simp; (try with_reducible rfl)
  (try simp only [Act.put, List.setIfInBounds_toArray, List.set_cons_zero, List.set_cons_succ, List.getElem_toArray, List.getElem_cons_succ, List.getElem_cons_zero])
  refine wpAnyH_take (i := 1) (v := ?_) rfl (by kernel_rfl) (by kernel_rfl) (by kernel_rfl) (fun _ _ _ h => h) (Or.inl ⟨by rfl, ?_⟩) (by assumption) ?_
  rotate_left
  · intro w' hSw; (try dsimp only at hSw); go_simp; (try with_reducible rfl)
  (try simp only [Act.put, List.setIfInBounds_toArray, List.set_cons_zero, List.set_cons_succ, List.getElem_toArray, List.getElem_cons_succ, List.getElem_cons_zero])
  refine wpAnyH_take (i := 2) (v := ?_) rfl (by kernel_rfl) (by kernel_rfl) (by kernel_rfl) (fun _ _ _ h => h) (Or.inl ⟨by rfl, ?_⟩) (by assumption) ?_
  rotate_left
  · intro w' hSw; (try dsimp only at hSw); go_simp; (try with_reducible rfl)
  (try simp only [Act.put, List.setIfInBounds_toArray, List.set_cons_zero, List.set_cons_succ, List.getElem_toArray, List.getElem_cons_succ, List.getElem_cons_zero])
  refine wpAnyH_take (i := 3) (v := ?_) rfl (by kernel_rfl) (by kernel_rfl) (by kernel_rfl) (fun _ _ _ h => h) (Or.inl ⟨by rfl, ?_⟩) (by assumption) ?_
  rotate_left
  · intro w' hSw; (try dsimp only at hSw); go_simp; (try with_reducible rfl)
  (try simp only [Act.put, List.setIfInBounds_toArray, List.set_cons_zero, List.set_cons_succ, List.getElem_toArray, List.getElem_cons_succ, List.getElem_cons_zero])
  refine wpAnyH_take (i := 4) (v := ?_) rfl (by kernel_rfl) (by kernel_rfl) (by kernel_rfl) (fun _ _ _ h => h) (Or.inl ⟨by rfl, ?_⟩) (by assumption) ?_
  rotate_left
  · intro w' hSw; (try dsimp only at hSw); go_simp; (try with_reducible rfl)
  (try simp only [Act.put, List.setIfInBounds_toArray, List.set_cons_zero, List.set_cons_succ, List.getElem_toArray, List.getElem_cons_succ, List.getElem_cons_zero])
  refine wpAnyH_take (i := 5) (v := ?_) rfl (by kernel_rfl) (by kernel_rfl) (by kernel_rfl) (fun _ _ _ h => h) (Or.inl ⟨by rfl, ?_⟩) (by assumption) ?_
  rotate_left
  · intro w' hSw; (try dsimp only at hSw); go_simp; (try with_reducible rfl)
  (try simp only [Act.put, List.setIfInBounds_toArray, List.set_cons_zero, List.set_cons_succ, List.getElem_toArray, List.getElem_cons_succ, List.getElem_cons_zero])
  refine wpAnyH_take (i := 6) (v := ?_) rfl (by kernel_rfl) (by kernel_rfl) (by kernel_rfl) (fun _ _ _ h => h) (Or.inl ⟨by rfl, ?_⟩) (by assumption) ?_
  rotate_left
  · intro w' hSw; (try dsimp only at hSw); go_simp; (try with_reducible rfl)
  (try simp only [Act.put, List.setIfInBounds_toArray, List.set_cons_zero, List.set_cons_succ, List.getElem_toArray, List.getElem_cons_succ, List.getElem_cons_zero])
  refine wpAnyH_take (i := 7) (v := ?_) rfl (by kernel_rfl) (by kernel_rfl) (by kernel_rfl) (fun _ _ _ h => h) (Or.inl ⟨by rfl, ?_⟩) (by assumption) ?_
  rotate_left
  · intro w' hSw; (try dsimp only at hSw); go_simp; (try with_reducible rfl)
  (try simp only [Act.put, List.setIfInBounds_toArray, List.set_cons_zero, List.set_cons_succ, List.getElem_toArray, List.getElem_cons_succ, List.getElem_cons_zero])
  refine wpAnyH_take (i := 8) (v := ?_) rfl (by kernel_rfl) (by kernel_rfl) (by kernel_rfl) (fun _ _ _ h => h) (Or.inl ⟨by rfl, ?_⟩) (by assumption) ?_
  rotate_left
  · intro w' hSw; (try dsimp only at hSw); go_simp; (try with_reducible rfl)
  (try simp only [Act.put, List.setIfInBounds_toArray, List.set_cons_zero, List.set_cons_succ, List.getElem_toArray, List.getElem_cons_succ, List.getElem_cons_zero])
  refine wpAnyH_take (i := 9) (v := ?_) rfl (by kernel_rfl) (by kernel_rfl) (by kernel_rfl) (fun _ _ _ h => h) (Or.inl ⟨by rfl, ?_⟩) (by assumption) ?_
  rotate_left
  · intro w' hSw; (try dsimp only at hSw); go_simp; (try with_reducible rfl)
  (try simp only [Act.put, List.setIfInBounds_toArray, List.set_cons_zero, List.set_cons_succ, List.getElem_toArray, List.getElem_cons_succ, List.getElem_cons_zero])
  refine wpAnyH_ready (rs := [10]) (by kernel_rfl) (by simp) ?_
  refine AllReadyH.cons rfl (fun K hK => ?_) (AllReadyH.nil)
  go_simp
  (go_at_call 27; refine (HAK.out V3 HP3.out).mono ?_; rintro e V4 ⟨⟨g4, rfl, hg4, hu4⟩, hn4, hf4⟩)
  have HP4 := Lib.hid (HP3.out.onP hn4 hf4)
  have HU4 := Lib.hid (HU3.out.trans (T := Ft b bc bs) hf4 (fun q _ hq => by unfold Ft at hq; omega))
  have hnF : ¬ Ft b bc bs a := by unfold Ft; omega
  have b1 : V4.cell? ⟨a, 1, none⟩ = some (.int .i64 i) := (hf4.cell a 1 lb hnF).trans b1
  have lb : a < V4.heap.size := Nat.lt_of_lt_of_le lb hf4.size
  have HG4 := Lib.hid (AskAns.pk (w := w) hu4)
  have hga : a < g4 := by have := hg4; omega
  have hz4 := hf4.size
  have hg4' := hu4.lt
  clear hn4 hf4 hu4 HP3 HU3 HAK
  (try dsimp only)
  refine hK.out _ _ ?_ (fun hHeld => ?_)
  · exact ⟨HP4.out.q2, HP4.out.q4, b1⟩
  clear hK K
  (try simp only [Act.put, List.setIfInBounds_toArray, List.set_cons_zero, List.set_cons_succ, List.getElem_toArray, List.getElem_cons_succ, List.getElem_cons_zero])
  refine wpAnyH_take (i := 11) (v := ?_) rfl (by kernel_rfl) (by kernel_rfl) (by kernel_rfl) (fun _ _ _ h => h) (Or.inl ⟨by rfl, ?_⟩) (by assumption) ?_
  rotate_left
  · intro w' hSw; (try dsimp only at hSw); go_simp; (try with_reducible rfl)
  (try simp only [Act.put, List.setIfInBounds_toArray, List.set_cons_zero, List.set_cons_succ, List.getElem_toArray, List.getElem_cons_succ, List.getElem_cons_zero])
  refine wpAnyH_take (i := 12) (v := ?_) rfl (by kernel_rfl) (by kernel_rfl) (by kernel_rfl) (fun _ _ _ h => h) (Or.inl ⟨by rfl, ?_⟩) (by assumption) ?_
  rotate_left
  · intro w' hSw; (try dsimp only at hSw); go_simp; (try with_reducible rfl)
  (try simp only [Act.put, List.setIfInBounds_toArray, List.set_cons_zero, List.set_cons_succ, List.getElem_toArray, List.getElem_cons_succ, List.getElem_cons_zero])
  refine wpAnyH_take (i := 13) (v := ?_) rfl (by kernel_rfl) (by kernel_rfl) (by kernel_rfl) (fun _ _ _ h => h) (Or.inl ⟨by rfl, ?_⟩) (by assumption) ?_
  rotate_left
  · intro w' hSw; (try dsimp only at hSw); go_simp; (try with_reducible rfl)
  (try simp only [Act.put, List.setIfInBounds_toArray, List.set_cons_zero, List.set_cons_succ, List.getElem_toArray, List.getElem_cons_succ, List.getElem_cons_zero])
  refine wpAnyH_take (i := 14) (v := ?_) rfl (by kernel_rfl) (by kernel_rfl) (by kernel_rfl) (fun _ _ _ h => h) (Or.inl ⟨by rfl, ?_⟩) (by assumption) ?_
  rotate_left
  · intro w' hSw; (try dsimp only at hSw); go_simp; (try with_reducible rfl)
  (try simp only [Act.put, List.setIfInBounds_toArray, List.set_cons_zero, List.set_cons_succ, List.getElem_toArray, List.getElem_cons_succ, List.getElem_cons_zero])
  refine wpAnyH_take (i := 15) (v := ?_) rfl (by kernel_rfl) (by kernel_rfl) (by kernel_rfl) (fun _ _ _ h => h) (Or.inl ⟨by rfl, ?_⟩) (by assumption) ?_
  rotate_left
  · intro w' hSw; (try dsimp only at hSw); go_simp; (try with_reducible rfl)
  (try simp only [Act.put, List.setIfInBounds_toArray, List.set_cons_zero, List.set_cons_succ, List.getElem_toArray, List.getElem_cons_succ, List.getElem_cons_zero])
  refine wpAnyH_done (by kernel_rfl) ?_ _
  clear hHeld
  go_wp2_with fail
  refine wp_region_held_drew (S := fun w' => w'.cell? ⟨bp, 3, none⟩ = some (.pointer (some ⟨rb, 0, none⟩)) ∧ w'.cell? ⟨bp, 4, none⟩ = some (.int .i64 cnt) ∧ w'.cell? ⟨a, 1, none⟩ = some (.int .i64 i)) (by kernel_rfl) ?_ (fun hHeld => ?_)
  · exact ⟨HP4.out.q3, HP4.out.q4, b1⟩
  have HP5 := Lib.hid (HP4.out.below (w' := V4.drew) ((Below.refl _ _).drew))
  have HU5 := Lib.hid HU4.out.drew
  have HG5 := Lib.hid (HG4.out.below (w' := V4.drew) ((Below.refl _ _).drew))
  have b1 : V4.drew.cell? ⟨a, 1, none⟩ = some (.int .i64 i) := b1
  have lb : a < V4.drew.heap.size := lb
  have hg5 : g4 < V4.drew.heap.size := hg4'
  clear HP4 HU4 HG4 hz4 hg4 hg4'
  generalize V4.drew = V5 at *
  refine wpAnyH_take (i := 0) (v := ?_) rfl (by kernel_rfl) (by kernel_rfl) (by kernel_rfl) (fun _ _ _ h => h) (Or.inl ⟨by rfl, ?_⟩) (by assumption) ?_
  rotate_left
  · intro w' hSw; (try dsimp only at hSw); go_simp; (try with_reducible rfl)
  (try simp only [Act.put, List.setIfInBounds_toArray, List.set_cons_zero, List.set_cons_succ, List.getElem_toArray, List.getElem_cons_succ, List.getElem_cons_zero])
  refine wpAnyH_take (i := 1) (v := ?_) rfl (by kernel_rfl) (by kernel_rfl) (by kernel_rfl) (fun _ _ _ h => h) (Or.inl ⟨by rfl, ?_⟩) (by assumption) ?_
  rotate_left
  · intro w' hSw; (try dsimp only at hSw); go_simp; (try with_reducible rfl)
  (try simp only [Act.put, List.setIfInBounds_toArray, List.set_cons_zero, List.set_cons_succ, List.getElem_toArray, List.getElem_cons_succ, List.getElem_cons_zero])
  refine wpAnyH_take (i := 2) (v := ?_) rfl (by kernel_rfl) (by kernel_rfl) (by kernel_rfl) (fun _ _ _ h => h) (Or.inl ⟨by rfl, ?_⟩) (by assumption) ?_
  rotate_left
  · intro w' hSw; (try dsimp only at hSw); go_simp; (try with_reducible rfl)
  (try simp only [Act.put, List.setIfInBounds_toArray, List.set_cons_zero, List.set_cons_succ, List.getElem_toArray, List.getElem_cons_succ, List.getElem_cons_zero])
  refine wpAnyH_take (i := 3) (v := ?_) rfl (by kernel_rfl) (by kernel_rfl) (by kernel_rfl) (fun _ _ _ h => h) (Or.inl ⟨by rfl, ?_⟩) (by assumption) ?_
  rotate_left
  · intro w' hSw; (try dsimp only at hSw); go_simp; (try with_reducible rfl)
  (try simp only [Act.put, List.setIfInBounds_toArray, List.set_cons_zero, List.set_cons_succ, List.getElem_toArray, List.getElem_cons_succ, List.getElem_cons_zero])
  refine wpAnyH_take (i := 4) (v := ?_) rfl (by kernel_rfl) (by kernel_rfl) (by kernel_rfl) (fun _ _ _ h => h) (Or.inl ⟨by rfl, ?_⟩) (by assumption) ?_
  rotate_left
  · intro w' hSw; (try dsimp only at hSw); go_simp; (try with_reducible rfl)
  (try simp only [Act.put, List.setIfInBounds_toArray, List.set_cons_zero, List.set_cons_succ, List.getElem_toArray, List.getElem_cons_succ, List.getElem_cons_zero])
  refine wpAnyH_take (i := 5) (v := ?_) rfl (by kernel_rfl) (by kernel_rfl) (by kernel_rfl) (fun _ _ _ h => h) (Or.inl ⟨by rfl, ?_⟩) (by assumption) ?_
  rotate_left
  · intro w' hSw; (try dsimp only at hSw); go_simp; (try with_reducible rfl)
  (try simp only [Act.put, List.setIfInBounds_toArray, List.set_cons_zero, List.set_cons_succ, List.getElem_toArray, List.getElem_cons_succ, List.getElem_cons_zero])
  refine wpAnyH_take (i := 6) (v := ?_) rfl (by kernel_rfl) (by kernel_rfl) (by kernel_rfl) (fun _ _ _ h => h) (Or.inl ⟨by rfl, ?_⟩) (by assumption) ?_
  rotate_left
  · intro w' hSw; (try dsimp only at hSw); go_simp; (try with_reducible rfl)
  (try simp only [Act.put, List.setIfInBounds_toArray, List.set_cons_zero, List.set_cons_succ, List.getElem_toArray, List.getElem_cons_succ, List.getElem_cons_zero])
  refine wpAnyH_take (i := 7) (v := ?_) rfl (by kernel_rfl) (by kernel_rfl) (by kernel_rfl) (fun _ _ _ h => h) (Or.inl ⟨by rfl, ?_⟩) (by assumption) ?_
  rotate_left
  · intro w' hSw; (try dsimp only at hSw); go_simp; (try with_reducible rfl)
  (try simp only [Act.put, List.setIfInBounds_toArray, List.set_cons_zero, List.set_cons_succ, List.getElem_toArray, List.getElem_cons_succ, List.getElem_cons_zero])
  refine wpAnyH_take (i := 8) (v := ?_) rfl (by kernel_rfl) (by kernel_rfl) (by kernel_rfl) (fun _ _ _ h => h) (Or.inl ⟨by rfl, ?_⟩) (by assumption) ?_
  rotate_left
  · intro w' hSw; (try dsimp only at hSw); go_simp; (try with_reducible rfl)
  (try simp only [Act.put, List.setIfInBounds_toArray, List.set_cons_zero, List.set_cons_succ, List.getElem_toArray, List.getElem_cons_succ, List.getElem_cons_zero])
  refine wpAnyH_take (i := 9) (v := ?_) rfl (by kernel_rfl) (by kernel_rfl) (by kernel_rfl) (fun _ _ _ h => h) (Or.inl ⟨by rfl, ?_⟩) (by assumption) ?_
  rotate_left
  · intro w' hSw; (try dsimp only at hSw); go_simp; (try with_reducible rfl)
  (try simp only [Act.put, List.setIfInBounds_toArray, List.set_cons_zero, List.set_cons_succ, List.getElem_toArray, List.getElem_cons_succ, List.getElem_cons_zero])
  refine wpAnyH_ready (rs := [10]) (by kernel_rfl) (by simp) ?_
  refine AllReadyH.cons rfl (fun K hK => ?_) (AllReadyH.nil)
  go_simp
  (go_at_call 28; refine (HRK.out V5 HP5.out.R).mono ?_; rintro e V6 ⟨⟨g6, cap6, rfl, hg6, hu6⟩, hn6, hf6⟩)
  have HP6 := Lib.hid (HP5.out.onR hn6 hf6)
  have HU6 := Lib.hid (HU5.out.trans (T := Ft rb rbc rbs) hf6 (fun q _ hq => by unfold Ft at hq; omega))
  have hnF : ¬ Ft rb rbc rbs a := by unfold Ft; omega
  have hnG : ¬ Ft rb rbc rbs g4 := by unfold Ft; omega
  have b1 : V6.cell? ⟨a, 1, none⟩ = some (.int .i64 i) := (hf6.cell a 1 lb hnF).trans b1
  have lb : a < V6.heap.size := Nat.lt_of_lt_of_le lb hf6.size
  have HG6 := Lib.hid (HG5.out.but hf6 hnG)
  rw [HN.out.1] at hu6
  have HD6 := Lib.hid hu6
  have hg6' := hu6.1
  clear hn6 hf6 hu6 HP5 HU5 HG5 HRK hnF hnG
  (try dsimp only)
  refine hK.out _ _ ?_ (fun hHeld => ?_)
  · exact ⟨HP6.out.q3, HP6.out.q4, b1⟩
  clear hK K
  (try simp only [Act.put, List.setIfInBounds_toArray, List.set_cons_zero, List.set_cons_succ, List.getElem_toArray, List.getElem_cons_succ, List.getElem_cons_zero])
  refine wpAnyH_take (i := 11) (v := ?_) rfl (by kernel_rfl) (by kernel_rfl) (by kernel_rfl) (fun _ _ _ h => h) (Or.inl ⟨by rfl, ?_⟩) (by assumption) ?_
  rotate_left
  · intro w' hSw; (try dsimp only at hSw); go_simp; (try with_reducible rfl)
  (try simp only [Act.put, List.setIfInBounds_toArray, List.set_cons_zero, List.set_cons_succ, List.getElem_toArray, List.getElem_cons_succ, List.getElem_cons_zero])
  refine wpAnyH_take (i := 12) (v := ?_) rfl (by kernel_rfl) (by kernel_rfl) (by kernel_rfl) (fun _ _ _ h => h) (Or.inl ⟨by rfl, ?_⟩) (by assumption) ?_
  rotate_left
  · intro w' hSw; (try dsimp only at hSw); go_simp; (try with_reducible rfl)
  (try simp only [Act.put, List.setIfInBounds_toArray, List.set_cons_zero, List.set_cons_succ, List.getElem_toArray, List.getElem_cons_succ, List.getElem_cons_zero])
  refine wpAnyH_take (i := 13) (v := ?_) rfl (by kernel_rfl) (by kernel_rfl) (by kernel_rfl) (fun _ _ _ h => h) (Or.inl ⟨by rfl, ?_⟩) (by assumption) ?_
  rotate_left
  · intro w' hSw; (try dsimp only at hSw); go_simp; (try with_reducible rfl)
  (try simp only [Act.put, List.setIfInBounds_toArray, List.set_cons_zero, List.set_cons_succ, List.getElem_toArray, List.getElem_cons_succ, List.getElem_cons_zero])
  refine wpAnyH_take (i := 14) (v := ?_) rfl (by kernel_rfl) (by kernel_rfl) (by kernel_rfl) (fun _ _ _ h => h) (Or.inl ⟨by rfl, ?_⟩) (by assumption) ?_
  rotate_left
  · intro w' hSw; (try dsimp only at hSw); go_simp; (try with_reducible rfl)
  (try simp only [Act.put, List.setIfInBounds_toArray, List.set_cons_zero, List.set_cons_succ, List.getElem_toArray, List.getElem_cons_succ, List.getElem_cons_zero])
  refine wpAnyH_take (i := 15) (v := ?_) rfl (by kernel_rfl) (by kernel_rfl) (by kernel_rfl) (fun _ _ _ h => h) (Or.inl ⟨by rfl, ?_⟩) (by assumption) ?_
  rotate_left
  · intro w' hSw; (try dsimp only at hSw); go_simp; (try with_reducible rfl)
  (try simp only [Act.put, List.setIfInBounds_toArray, List.set_cons_zero, List.set_cons_succ, List.getElem_toArray, List.getElem_cons_succ, List.getElem_cons_zero])
  refine wpAnyH_done (by kernel_rfl) ?_ _
  clear hHeld
  have HDC := Lib.hid (decR_of HD6.out (askP_ok (K.n + 1) ⟨by omega, by have := HN.out; omega⟩))
  go_wp2_with fail
  refine HDC.out.mono ?_; rintro e W7 ⟨rfl, k7⟩
  obtain ⟨QO, hQO⟩ : ∃ QO : Obj, (.cells #[.int .i64 0, .int .i64 3, .int .i64 0, .int .i64 0, .int .i64 0, .int .u64 0, .int .u64 0, .int .u64 (K.n + 1)] 53) = QO := ⟨_, rfl⟩
  have k8 := k7.alloc k7.size QO
  have y7 : (W7.alloc QO).cell? ⟨W7.heap.size, 7, none⟩ = some (.int .u64 (K.n + 1)) := by rw [← hQO]; simp
  have HP8 := Lib.hid (HP6.out.below k8)
  have HU8 := Lib.hid (HU6.out.next k8)
  have HG8 := Lib.hid (HG6.out.below k8)
  have HD8 := Lib.hid (HD6.out.below k8)
  have b1 := (k8.cell (p := ⟨a, 1, none⟩) lb).trans b1
  have hz7 := k7.size
  have lq : W7.heap.size < (W7.alloc QO).heap.size := by simp
  have HQO := Lib.hid hQO
  clear k7 k8 HP6 HU6 HG6 HD6 HDC hQO
  go_wp2_with fail
  rw [HQO.out]
  generalize W7.alloc QO = V8 at *
  generalize W7.heap.size = q8 at *
  refine wp_region_held_drew (S := fun w' => w'.cell? ⟨bp, 4, none⟩ = some (.int .i64 cnt) ∧ w'.cell? ⟨a, 1, none⟩ = some (.int .i64 i) ∧ w'.cell? ⟨q8, 7, none⟩ = some (.int .u64 (K.n + 1))) (by kernel_rfl) ?_ (fun hHeld => ?_)
  · exact ⟨HP8.out.q4, b1, y7⟩
  have HPV := Lib.hid (HP8.out.below (w' := V8.drew) ((Below.refl _ _).drew))
  have HUV := Lib.hid HU8.out.drew
  have HGV := Lib.hid (HG8.out.below (w' := V8.drew) ((Below.refl _ _).drew))
  have HDV := Lib.hid (HD8.out.below (w' := V8.drew) ((Below.refl _ _).drew))
  have b1 : V8.drew.cell? ⟨a, 1, none⟩ = some (.int .i64 i) := b1
  have y7 : V8.drew.cell? ⟨q8, 7, none⟩ = some (.int .u64 (K.n + 1)) := y7
  clear HP8 HU8 HG8 HD8
  generalize V8.drew = V at *
  have nq : q8 ≠ bp := by omega
  have HP9 := Lib.hid (HPV.out.ask i li2 (K.n + 1))
  have HP10 := Lib.hid (HP9.out.when i li2 cnt)
  have HU10 : Hid (But (fun k => m0 ≤ k ∧ k ≤ bp) w ((V.setCell ⟨bp, 5 + i, none⟩ (.int .u64 (K.n + 1))).setCell ⟨bp, 13 + i, none⟩ (.int .i64 cnt))) := Lib.hid ((HUV.out.setCell (p := ⟨bp, 5 + i, none⟩) (fun _ => ⟨by show m0 ≤ bp; omega, Nat.le_refl _⟩) _).setCell (p := ⟨bp, 13 + i, none⟩) (fun _ => ⟨by show m0 ≤ bp; omega, Nat.le_refl _⟩) _)
  have O9 : Only bp V ((V.setCell ⟨bp, 5 + i, none⟩ (.int .u64 (K.n + 1))).setCell ⟨bp, 13 + i, none⟩ (.int .i64 cnt)) := ((Only.refl _ _).setB _).setB _
  have HG10 := Lib.hid (HGV.out.but (S := fun k => k = bp) (But.of_only O9 rfl) (by omega))
  have HD10 := Lib.hid (HDV.out.but (S := fun k => k = bp) (But.of_only O9 rfl) (by omega))
  have e1 : (V.setCell ⟨bp, 5 + i, none⟩ (.int .u64 (K.n + 1))).cell? ⟨a, 1, none⟩ = some (.int .i64 i) := (World.cell?_setCell_other _ _ _ _ (by simp [nab])).trans b1
  have e2 : (V.setCell ⟨bp, 5 + i, none⟩ (.int .u64 (K.n + 1))).cell? ⟨q8, 7, none⟩ = some (.int .u64 (K.n + 1)) := (World.cell?_setCell_other _ _ _ _ (by simp [nq])).trans y7
  have e3 : ((V.setCell ⟨bp, 5 + i, none⟩ (.int .u64 (K.n + 1))).setCell ⟨bp, 13 + i, none⟩ (.int .i64 cnt)).cell? ⟨a, 1, none⟩ = some (.int .i64 i) := (World.cell?_setCell_other _ _ _ _ (by simp [nab])).trans e1
  have e4 : ((V.setCell ⟨bp, 5 + i, none⟩ (.int .u64 (K.n + 1))).setCell ⟨bp, 13 + i, none⟩ (.int .i64 cnt)).cell? ⟨q8, 7, none⟩ = some (.int .u64 (K.n + 1)) := (World.cell?_setCell_other _ _ _ _ (by simp [nq])).trans e2
  have xa := HPV.out.qa i li2
  have fa := HPV.out.qf (5 + i)
  have p4 := HPV.out.q4
  clear O9
  refine wpAnyH_take (i := 0) (v := ?_) rfl (by kernel_rfl) (by kernel_rfl) (by kernel_rfl) (fun _ _ _ h => h) (Or.inl ⟨by rfl, ?_⟩) (by assumption) ?_
  rotate_left
  · intro w' hSw; (try dsimp only at hSw); go_simp; (try with_reducible rfl)
  (try simp only [Act.put, List.setIfInBounds_toArray, List.set_cons_zero, List.set_cons_succ, List.getElem_toArray, List.getElem_cons_succ, List.getElem_cons_zero])
  refine wpAnyH_take (i := 1) (v := ?_) rfl (by kernel_rfl) (by kernel_rfl) (by kernel_rfl) (fun _ _ _ h => h) (Or.inl ⟨by rfl, ?_⟩) (by assumption) ?_
  rotate_left
  · intro w' hSw; (try dsimp only at hSw); go_simp; (try with_reducible rfl)
  (try simp only [Act.put, List.setIfInBounds_toArray, List.set_cons_zero, List.set_cons_succ, List.getElem_toArray, List.getElem_cons_succ, List.getElem_cons_zero])
  refine wpAnyH_take (i := 2) (v := ?_) rfl (by kernel_rfl) (by kernel_rfl) (by kernel_rfl) (fun _ _ _ h => h) (Or.inl ⟨by rfl, ?_⟩) (by assumption) ?_
  rotate_left
  · intro w' hSw; (try dsimp only at hSw); go_simp; (try with_reducible rfl)
  (try simp only [Act.put, List.setIfInBounds_toArray, List.set_cons_zero, List.set_cons_succ, List.getElem_toArray, List.getElem_cons_succ, List.getElem_cons_zero])
  refine wpAnyH_take (i := 3) (v := ?_) rfl (by kernel_rfl) (by kernel_rfl) (by kernel_rfl) (fun _ _ _ h => h) (Or.inl ⟨by rfl, ?_⟩) (by assumption) ?_
  rotate_left
  · intro w' hSw; (try dsimp only at hSw); go_simp; (try with_reducible rfl)
  (try simp only [Act.put, List.setIfInBounds_toArray, List.set_cons_zero, List.set_cons_succ, List.getElem_toArray, List.getElem_cons_succ, List.getElem_cons_zero])
  refine wpAnyH_take (i := 4) (v := ?_) rfl (by kernel_rfl) (by kernel_rfl) (by kernel_rfl) (fun _ _ _ h => h) (Or.inl ⟨by rfl, ?_⟩) (by assumption) ?_
  rotate_left
  · intro w' hSw; (try dsimp only at hSw); go_simp; (try with_reducible rfl)
  (try simp only [Act.put, List.setIfInBounds_toArray, List.set_cons_zero, List.set_cons_succ, List.getElem_toArray, List.getElem_cons_succ, List.getElem_cons_zero])
  refine wpAnyH_take (i := 5) (v := ?_) rfl (by kernel_rfl) (by kernel_rfl) (by kernel_rfl) (fun _ _ _ h => h) (Or.inl ⟨by rfl, ?_⟩) (by assumption) ?_
  rotate_left
  · intro w' hSw; (try dsimp only at hSw); go_simp; (try with_reducible rfl)
  (try simp only [Act.put, List.setIfInBounds_toArray, List.set_cons_zero, List.set_cons_succ, List.getElem_toArray, List.getElem_cons_succ, List.getElem_cons_zero])
  refine wpAnyH_take (i := 6) (v := ?_) rfl (by kernel_rfl) (by kernel_rfl) (by kernel_rfl) (fun _ _ _ h => h) (Or.inl ⟨by rfl, ?_⟩) (by assumption) ?_
  rotate_left
  · intro w' hSw; (try dsimp only at hSw); go_simp; (try with_reducible rfl)
  (try simp only [Act.put, List.setIfInBounds_toArray, List.set_cons_zero, List.set_cons_succ, List.getElem_toArray, List.getElem_cons_succ, List.getElem_cons_zero])
  refine wpAnyH_take (i := 7) (v := ?_) rfl (by kernel_rfl) (by kernel_rfl) (by kernel_rfl) (fun _ _ _ h => h) (Or.inl ⟨by rfl, ?_⟩) (by assumption) ?_
  rotate_left
  · intro w' hSw; (try dsimp only at hSw); go_simp; (try with_reducible rfl)
  (try simp only [Act.put, List.setIfInBounds_toArray, List.set_cons_zero, List.set_cons_succ, List.getElem_toArray, List.getElem_cons_succ, List.getElem_cons_zero])
  refine wpAnyH_take (i := 8) (v := ?_) rfl (by kernel_rfl) (by kernel_rfl) (by kernel_rfl) (fun _ _ _ h => h) (Or.inl ⟨by rfl, ?_⟩) (by assumption) ?_
  rotate_left
  · intro w' hSw; (try dsimp only at hSw); go_simp; (try with_reducible rfl)
  (try simp only [Act.put, List.setIfInBounds_toArray, List.set_cons_zero, List.set_cons_succ, List.getElem_toArray, List.getElem_cons_succ, List.getElem_cons_zero])
  refine wpAnyH_take (i := 9) (v := ?_) rfl (by kernel_rfl) (by kernel_rfl) (by kernel_rfl) (fun _ _ _ h => h) (Or.inl ⟨by rfl, ?_⟩) (by assumption) ?_
  rotate_left
  · intro w' hSw; (try dsimp only at hSw); go_simp; (try with_reducible rfl)
  (try simp only [Act.put, List.setIfInBounds_toArray, List.set_cons_zero, List.set_cons_succ, List.getElem_toArray, List.getElem_cons_succ, List.getElem_cons_zero])
  refine wpAnyH_take (i := 10) (v := ?_) rfl (by kernel_rfl) (by kernel_rfl) (by kernel_rfl) (fun _ _ _ h => h) (Or.inl ⟨by rfl, ?_⟩) (by assumption) ?_
  rotate_left
  · intro w' hSw; (try dsimp only at hSw); go_simp; (try with_reducible rfl)
  (try simp only [Act.put, List.setIfInBounds_toArray, List.set_cons_zero, List.set_cons_succ, List.getElem_toArray, List.getElem_cons_succ, List.getElem_cons_zero])
  refine wpAnyH_take (i := 11) (v := ?_) rfl (by kernel_rfl) (by kernel_rfl) (by kernel_rfl) (fun _ _ _ h => h) (Or.inl ⟨by rfl, ?_⟩) (by assumption) ?_
  rotate_left
  · intro w' hSw; (try dsimp only at hSw); go_simp; (try with_reducible rfl)
  (try simp only [Act.put, List.setIfInBounds_toArray, List.set_cons_zero, List.set_cons_succ, List.getElem_toArray, List.getElem_cons_succ, List.getElem_cons_zero])
  refine wpAnyH_take (i := 12) (v := ?_) rfl (by kernel_rfl) (by kernel_rfl) (by kernel_rfl) (fun _ _ _ h => h) (Or.inl ⟨by rfl, ?_⟩) (by assumption) ?_
  rotate_left
  · intro w' hSw; (try dsimp only at hSw); go_simp; (try with_reducible rfl)
  (try simp only [Act.put, List.setIfInBounds_toArray, List.set_cons_zero, List.set_cons_succ, List.getElem_toArray, List.getElem_cons_succ, List.getElem_cons_zero])
  refine wpAnyH_take (i := 13) (v := ?_) rfl (by kernel_rfl) (by kernel_rfl) (by kernel_rfl) (fun _ _ _ h => h) (Or.inl ⟨by rfl, ?_⟩) (by assumption) ?_
  rotate_left
  · intro w' hSw; (try dsimp only at hSw); go_simp; (try with_reducible rfl)
  (try simp only [Act.put, List.setIfInBounds_toArray, List.set_cons_zero, List.set_cons_succ, List.getElem_toArray, List.getElem_cons_succ, List.getElem_cons_zero])
  refine wpAnyH_take (i := 14) (v := ?_) rfl (by kernel_rfl) (by kernel_rfl) (by kernel_rfl) (fun _ _ _ h => h) (Or.inl ⟨by rfl, ?_⟩) (by assumption) ?_
  rotate_left
  · intro w' hSw; (try dsimp only at hSw); go_simp; (try with_reducible rfl)
  (try simp only [Act.put, List.setIfInBounds_toArray, List.set_cons_zero, List.set_cons_succ, List.getElem_toArray, List.getElem_cons_succ, List.getElem_cons_zero])
  refine wpAnyH_take (i := 16) (v := ?_) rfl (by kernel_rfl) (by kernel_rfl) (by kernel_rfl) (fun _ _ _ h => h) (Or.inl ⟨by rfl, ?_⟩) (by assumption) ?_
  rotate_left
  · intro w' hSw; (try dsimp only at hSw); go_simp; (try with_reducible rfl)
  (try simp only [Act.put, List.setIfInBounds_toArray, List.set_cons_zero, List.set_cons_succ, List.getElem_toArray, List.getElem_cons_succ, List.getElem_cons_zero])
  refine wpAnyH_take (i := 17) (v := ?_) rfl (by kernel_rfl) (by kernel_rfl) (by kernel_rfl) (fun _ _ _ h => h) (Or.inl ⟨by rfl, ?_⟩) (by assumption) ?_
  rotate_left
  · intro w' hSw; (try dsimp only at hSw); go_simp; (try with_reducible rfl)
  (try simp only [Act.put, List.setIfInBounds_toArray, List.set_cons_zero, List.set_cons_succ, List.getElem_toArray, List.getElem_cons_succ, List.getElem_cons_zero])
  refine wpAnyH_ready (rs := [15]) (by kernel_rfl) (by simp) ?_
  refine AllReadyH.cons rfl (fun K hK => ?_) (AllReadyH.nil)
  go_simp
  (try dsimp only)
  refine hK.out _ _ ?_ (fun hHeld => ?_)
  · exact ⟨HP9.out.q4, e1, e2⟩
  clear hK K
  (try simp only [Act.put, List.setIfInBounds_toArray, List.set_cons_zero, List.set_cons_succ, List.getElem_toArray, List.getElem_cons_succ, List.getElem_cons_zero])
  have xw := HP9.out.qw i li2
  have fw := HP9.out.qf (13 + i)
  refine wpAnyH_take (i := 18) (v := ?_) rfl (by kernel_rfl) (by kernel_rfl) (by kernel_rfl) (fun _ _ _ h => h) (Or.inl ⟨by rfl, ?_⟩) (by assumption) ?_
  rotate_left
  · intro w' hSw; (try dsimp only at hSw); go_simp; (try with_reducible rfl)
  (try simp only [Act.put, List.setIfInBounds_toArray, List.set_cons_zero, List.set_cons_succ, List.getElem_toArray, List.getElem_cons_succ, List.getElem_cons_zero])
  refine wpAnyH_ready (rs := [19]) (by kernel_rfl) (by simp) ?_
  refine AllReadyH.cons rfl (fun K hK => ?_) (AllReadyH.nil)
  go_simp
  (try dsimp only)
  refine hK.out _ _ ?_ (fun hHeld => ?_)
  · exact ⟨HP10.out.q4, e3, e4⟩
  clear hK K
  (try simp only [Act.put, List.setIfInBounds_toArray, List.set_cons_zero, List.set_cons_succ, List.getElem_toArray, List.getElem_cons_succ, List.getElem_cons_zero])
  refine wpAnyH_done (by kernel_rfl) ?_ _
  clear hHeld xa fa xw fw e1 e2 e3 e4 y7 b1 HP9 HPV HUV HGV HDV p4
  generalize ((V.setCell ⟨bp, 5 + i, none⟩ (.int .u64 (K.n + 1))).setCell ⟨bp, 13 + i, none⟩ (.int .i64 cnt)) = W10 at *
  have HSM := Lib.hid (same6 (some ⟨g4, 0, none⟩) 48 48 (askP (K.n + 1)).f (some ⟨g6, 0, none⟩) 48 cap6 (askP (K.n + 1)).f W10 (by omega) (by omega) HG10.out.bytes HD10.out.bytes)
  rw [eqB_refl] at HSM
  go_wp2_with (go_at_call 30; refine HSM.out.mono ?_; rintro e w' ⟨rfl, nq, rfl⟩)
  go_ret
  exact ⟨rfl, HP10.out.below (w' := W10.drewN nq) (below_drewN (Below.refl _ _) nq), HU10.out.drewN nq⟩
end Go.Proofs.YtepdnkpmkhjlgaaGreat

/- NTP: the law's tells; what Hear leaves is right. -/
namespace Go.Proofs.YtepdnkpmkhjlgaaGreat
open Go.RowKit Go.Sort

set_option maxHeartbeats 2000000 in
theorem law_tells {w : World} {bp b bc bs : Nat} {A1 : Option Addr} {c1 : Nat} {rb rbc rbs : Nat} {A2 : Option Addr} {c2 : Nat} {ad : Addr} {n c : Nat} {x : Int} {z : Nat → Int} {N : Nat} {m0 m1 m2 : Nat} {K R : Cs} {cnt : Int} {asked when_ : Nat → Int} (h : Pr w bp b bc bs A1 c1 rb rbc rbs A2 c2 ad n c x z N m0 m1 m2 K R cnt asked when_) (i : Nat) (hi : i < 8) (T : Int) (t0 : 0 ≤ T) (t1 : T ≤ 9223372036854775806) (ha : 0 ≤ asked i ∧ asked i < 18446744073709551616) :
    Calls Tryz.prog 24 #[.pointer (some ⟨bp, 0, none⟩), .int .i64 i, .int .i64 T] w fun e w' => (∃ g cap, e = .returned (.slice (some ⟨g, 0, none⟩) 48 cap) ∧ w.heap.size ≤ g ∧ PkAt w' g cap ⟨0, 4, 1, 0, 0, asked i, stpV z n T, stpV z n T⟩) ∧ Below w.heap.size w w' := by
  have HS := Lib.hid (law_stamp (some ad) n c x T z w h.tab h.P.tb t0 t1)
  have sb := stp_bd h.P.tb T
  have HE := Lib.hid (fun W : World => ref6_enc ⟨0, 4, 1, 0, 0, asked i, stpV z n T, stpV z n T⟩ ⟨by simp, by simp, by simp, by simp, by simp, ha, sb, sb⟩ W)
  have p0 := h.q0
  have p1 := h.q1
  have HH := Lib.hid h
  have li : (i : Int) < 8 := by omega
  clear h
  go_enter Tryz.func24, Tryz.ntmps24
  go_wp2_with fail
  refine HS.out.mono ?_; rintro e w1 ⟨rfl, k1⟩
  have HP1 := HH.out.below k1
  have xa := HP1.qa i hi
  have HB1 := Lib.hid k1
  clear k1 HP1
  go_wp2_with fail
  refine (HE.out w1).mono ?_; rintro e w2 ⟨g, cap, rfl, hg, hp, k2⟩
  have HB2 := Lib.hid (HB1.out.trans (k2.mono HB1.out.size))
  have HP := Lib.hid hp
  have z1 := HB1.out.size
  clear k2 hp
  go_wp2_with fail
  go_ret
  exact ⟨⟨g, cap, rfl, by omega, HP.out⟩, HB2.out⟩
theorem rstP_ok (s : Srv) (h : s.ok) : (rstP s).ok := ⟨h.q0, h.q1, h.a0, h.a1, by simp [rstP], by simp [rstP], by simp [rstP, I64], by simp [rstP, I64]⟩
theorem rstR_ok (s : Srv) (h : s.ok) : (rstR s).ok := ⟨h.q0, h.q1, h.a0, h.a1, h.h0, h.h1, by simp [rstR, I64], by simp [rstR, I64]⟩
theorem Cs.Ok.turn {rs : Srv → Srv} (hrs : ∀ s : Srv, s.ok → (rs s).ok) {K : Cs} {N : Nat} (h : K.Ok N) (hs : K.syn < 1000000000) (hd : Int) : (turnK rs K N hd).Ok N := by
  unfold turnK
  split
  · exact h
  · have b := addS_bd (mostP (cand K.S hd N)).1.1 (mostP (cand K.S hd N)).1.2
    generalize addS (mostP (cand K.S hd N)).1.1 (mostP (cand K.S hd N)).1.2 = q at *
    exact ⟨(ok_turn h.clk (by omega)).1, fun i hi => hrs _ (h.srv i hi), h.n0, h.n1, by show 0 ≤ K.syn + 1; have := h.s0; omega, by show K.syn + 1 ≤ _; omega⟩
theorem Cs.Ok.hear {rs : Srv → Srv} (hrs : ∀ s : Srv, s.ok → (rs s).ok) {K : Cs} {z : Nat → Int} {n : Nat} {x : Int} {N : Nat} (h : K.Ok N) (hs : K.syn < 1000000000) (i : Nat) (hi : i < N) (count : Int) (hc : count ≤ 9223372036854775807) (p : Pk) : (hearK rs z n x N K i count p).2.Ok N := by
  have hcl := h.clr i hi
  have hrd := hcl.read count hc
  unfold hearK
  split
  · exact h
  split
  · exact h
  split
  · exact hcl
  split
  · exact hcl
  rw [hear1_eq]
  split
  · exact hrd
  rw [hear2_eq]
  split
  · exact hrd
  have ck := hrd.clk
  unfold Ok3 at ck
  have bd := smpV_bd ((readK (clrK K i) count).S i).a (tmsV z n x p (readK (clrK K i) count).t).1 (tmsV z n x p (readK (clrK K i) count).t).2.1 (readK (clrK K i) count).t p.d p.r
  exact (hrd.smp i hi _ _ _ (by omega) (by omega) bd.1 bd.2).turn hrs hs _
theorem hear_again (rs : Srv → Srv) (z : Nat → Int) (n : Nat) (x : Int) (N : Nat) (K : Cs) (i : Nat) (count : Int) (p : Pk) (hm : p.m = 4) (hq : (K.S i).q = 0) : hearK rs z n x N K i count p = (14, K) := by
  unfold hearK
  rw [if_neg (by simp [hm]), if_pos (Or.inl hq)]
theorem rt_new (c count : Int) (h : c ≤ count) (h2 : count ≤ 4611686018427387904) (c0 : 0 ≤ c) : rt c 0 0 count = count - c := by
  unfold rt
  split
  · next hc =>
    unfold shown
    rw [turn0 _ (by omega), addS_in (a := count - c) (b := 0) (by omega) (by omega), addS_in (by omega) (by omega)]
    omega
  · omega
theorem stop9 (a b : Int) : (if a < b then b else a) = max a b := by split <;> omega
end Go.Proofs.YtepdnkpmkhjlgaaGreat

