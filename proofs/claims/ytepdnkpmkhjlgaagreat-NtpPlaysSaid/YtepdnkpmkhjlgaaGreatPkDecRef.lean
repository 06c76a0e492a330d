/- The reference's Decode of packets (written by gen/pkdecref.py). -/
import Derived.Test.YtepdnkpmkhjlgaaGreatPkDec
import Derived.Test.YtepdnkpmkhjlgaaGreatPkRef
import Derived.Test.YtepdnkpmkhjlgaaGreatPkRefNum
import Derived.BigGuard
import Derived.BigGuardPart
import Derived.BigCall
import Derived.Laws.IdiomStrings
set_option linter.unusedSimpArgs false
set_option linter.unusedVariables false
namespace Go.Proofs.YtepdnkpmkhjlgaaGreat
open Go.ChangeShapes Go.WideShapes Go.ChangeAt Go.RowKit Go.Joins

theorem W8.newR (w : World) (l m s d r o v t : Int) : W8 (w.alloc (pkR l m s d r o v t)) w.heap.size l m s d r o v t := ⟨Box8.newR w l m s d r o v t, fun j => by simp⟩
def strF (n : Nat) (f : Nat → Int) : ByteArray := ⟨(Lib.bytesOf ((List.range n).map f)).toArray⟩
theorem run_strF (w : World) (B O n c : Nat) (f : Nat → Int) (h : ∀ j, j < n → w.cell? ⟨B, O + j, none⟩ = some (.int .u8 (f j))) (hb : ∀ j, j < n → 0 ≤ f j ∧ f j ≤ 255) : (convert 39 9 (.slice (some ⟨B, O, none⟩) n c)).run Tryz.prog w = .ok (.string (strF n f)) w := by
  have h1 := run_convert_bytes_back (P := Tryz.prog) w 39 9 5 ⟨B, O, none⟩ c (Lib.bytesOf ((List.range n).map f)) Tryz.underlying39 Tryz.underlying5 Tryz.underlying9 (by
    intro j hj
    have hj' : j < n := by simpa [Lib.bytesOf] using hj
    rw [show (Addr.mk B O none).add j = ⟨B, O + j, none⟩ from add_plain _ _ _, h j hj']
    have h2 := hb j hj'
    simp [Lib.bytesOf]
    omega)
  rw [Lib.bytesOf_length] at h1
  simpa [strF] using h1
theorem strF_lists (n : Nat) (f f' : Nat → Int) (hf : ∀ j, j < n → 0 ≤ f j ∧ f j ≤ 255) (hf' : ∀ j, j < n → 0 ≤ f' j ∧ f' j ≤ 255) : (strF n f).toList = (strF n f').toList ↔ eqB n f n f' = true := by
  rw [← eq_bytes n f n f' hf hf', beq_iff_eq, ByteArray.toList_eq, ByteArray.toList_eq]
  simp [strF]
set_option maxHeartbeats 2000000 in
theorem ref6_dec_len (A : Option Addr) (n c : Nat) (w : World) (hn : n ≤ maxLen) (h : n ≠ 48) :
    Calls Tryz.prog 29 #[.slice A n c] w fun e w' => e = .returned (.tuple #[pkV 0 0 0 0 0 0 0 0, .int .i64 (if n < 48 then 2 else 5)]) ∧ Below w.heap.size w w' := by
  have X := W8.newR w 0 0 0 0 0 0 0 0
  unfold maxLen at hn
  have HR := Lib.hid (st8_cells (l' := 0) (m' := 0) (s' := 0) (d' := 0) (r' := 0) (o' := 0) (v' := 0) (t' := 0) X.x)
  rcases Nat.lt_or_ge n 48 with hl | hg
  · rw [if_pos hl]
    have h1 : decide ((n : Int) < 48) = true := by simp; omega
    clear X
    go_enter Tryz.func29, Tryz.ntmps29
    go_wp2
    refine bodyPost_ret (v := .tuple #[pkV 0 0 0 0 0 0 0 0, .int .i64 2]) (by simp [results, Tryz.results29, go_sem]) rfl ⟨rfl, ?_⟩
    go_light
    (repeat' (first | (with_reducible exact Below.refl _ _) | (with_reducible assumption) | (with_reducible refine Below.trans ?_ (Below.mono (by with_reducible assumption) ?_)) | (with_reducible refine Below.alloc ?_ ?_ _) | (with_reducible refine Below.setCell ?_ ?_ _) | (with_reducible refine below_drewN ?_ _) | (with_reducible refine Below.drew ?_) | go_size))
  · rw [if_neg (by omega)]
    have h1 : decide ((n : Int) < 48) = false := by simp; omega
    have h2 : decide ((48 : Int) < (n : Int)) = true := by simp; omega
    clear X
    go_enter Tryz.func29, Tryz.ntmps29
    go_wp2
    refine bodyPost_ret (v := .tuple #[pkV 0 0 0 0 0 0 0 0, .int .i64 5]) (by simp [results, Tryz.results29, go_sem]) rfl ⟨rfl, ?_⟩
    go_light
    (repeat' (first | (with_reducible exact Below.refl _ _) | (with_reducible assumption) | (with_reducible refine Below.trans ?_ (Below.mono (by with_reducible assumption) ?_)) | (with_reducible refine Below.alloc ?_ ?_ _) | (with_reducible refine Below.setCell ?_ ?_ _) | (with_reducible refine below_drewN ?_ _) | (with_reducible refine Below.drew ?_) | go_size))
set_option maxRecDepth 100000 in
set_option maxHeartbeats 8000000 in
theorem ref6_dec (B O c n : Nat) (hn : n = 48) (f : Nat → Int) (w : World) (hB : B < w.heap.size) (h : ∀ j, j < 48 → w.cell? ⟨B, O + j, none⟩ = some (.int .u8 (f j))) (hb : ∀ j, j < 48 → 0 ≤ f j ∧ f j ≤ 255) (hc : 48 ≤ c) :
    Calls Tryz.prog 29 #[.slice (some ⟨B, O, none⟩) n c] w fun e w' => (decOk f = true → e = .returned (.tuple #[pkV (dL f) (dM f) (f 1) (dD f) (dR f) (dO f) (dV f) (dT f), .int .i64 0])) ∧ (decOk f = false → e = .returned (.tuple #[pkV 0 0 0 0 0 0 0 0, .int .i64 3])) ∧ Below w.heap.size w w' := by
  have hn48 := Lib.hid hn
  have tn1 : decide ((n : Int) < 48) = false := by simp; omega
  have tn2 : decide ((48 : Int) < (n : Int)) = false := by simp; omega
  have tn3 : (0 : Int) < (n : Int) := by omega
  have tn4 : (1 : Int) < (n : Int) := by omega
  have tn5 : ¬ n < 48 := by omega
  have tn6 : ¬ 48 < n := by omega
  have tn7 : 0 < n := by omega
  have tn8 : 1 < n := by omega
  clear hn
  have hb0 := hb 0 (by omega)
  have hb1 := hb 1 (by omega)
  have a7 := and7 (f 0) hb0.1 hb0.2
  have nD : 0 ≤ dD f ∧ dD f < 4294967296 := numK_bd _ 4 (fun j hj => hb (4 + j) (by omega))
  have nR : 0 ≤ dR f ∧ dR f < 4294967296 := numK_bd _ 4 (fun j hj => hb (8 + j) (by omega))
  have nO : 0 ≤ dO f ∧ dO f < 18446744073709551616 := numK_bd _ 8 (fun j hj => hb (24 + j) (by omega))
  have nV : 0 ≤ dV f ∧ dV f < 18446744073709551616 := numK_bd _ 8 (fun j hj => hb (32 + j) (by omega))
  have nT : 0 ≤ dT f ∧ dT f < 18446744073709551616 := numK_bd _ 8 (fun j hj => hb (40 + j) (by omega))
  have X0 := Lib.hid (W8.newR w 0 0 0 0 0 0 0 0)
  have HB0 : Hid (Below w.heap.size w (w.alloc (pkR 0 0 0 0 0 0 0 0))) := Lib.hid (by (repeat' (first | (with_reducible exact Below.refl _ _) | (with_reducible assumption) | (with_reducible refine Below.trans ?_ (Below.mono (by with_reducible assumption) ?_)) | (with_reducible refine Below.alloc ?_ ?_ _) | (with_reducible refine Below.setCell ?_ ?_ _) | (with_reducible refine below_drewN ?_ _) | (with_reducible refine Below.drew ?_) | go_size)))
  have Y0 : ∀ j, j < 48 → (w.alloc (pkR 0 0 0 0 0 0 0 0)).cell? ⟨B, O + j, none⟩ = some (.int .u8 (f j)) := fun j hj => (World.cell?_alloc_past _ B (O + j) hB).trans (h j hj)
  have HY0 := Lib.hid Y0
  have HBB := Lib.hid hb
  have C1 := Lib.hid (fun (W : World) (hh : ∀ j, j < 48 → W.cell? ⟨B, O + j, none⟩ = some (.int .u8 (f j))) => ref6_number B (O + 4) 4 (c - 4) (fun j => f (4 + j)) W (fun j hj => by have := hh (4 + j) (by omega); rwa [← Nat.add_assoc] at this) (fun j hj => hb (4 + j) (by omega)) (by omega))
  have C2 := Lib.hid (fun (W : World) (hh : ∀ j, j < 48 → W.cell? ⟨B, O + j, none⟩ = some (.int .u8 (f j))) => ref6_number B (O + 8) 4 (c - 8) (fun j => f (8 + j)) W (fun j hj => by have := hh (8 + j) (by omega); rwa [← Nat.add_assoc] at this) (fun j hj => hb (8 + j) (by omega)) (by omega))
  have C3 := Lib.hid (fun (W : World) (hh : ∀ j, j < 48 → W.cell? ⟨B, O + j, none⟩ = some (.int .u8 (f j))) => ref6_number B (O + 24) 8 (c - 24) (fun j => f (24 + j)) W (fun j hj => by have := hh (24 + j) (by omega); rwa [← Nat.add_assoc] at this) (fun j hj => hb (24 + j) (by omega)) (by omega))
  have C4 := Lib.hid (fun (W : World) (hh : ∀ j, j < 48 → W.cell? ⟨B, O + j, none⟩ = some (.int .u8 (f j))) => ref6_number B (O + 32) 8 (c - 32) (fun j => f (32 + j)) W (fun j hj => by have := hh (32 + j) (by omega); rwa [← Nat.add_assoc] at this) (fun j hj => hb (32 + j) (by omega)) (by omega))
  have C5 := Lib.hid (fun (W : World) (hh : ∀ j, j < 48 → W.cell? ⟨B, O + j, none⟩ = some (.int .u8 (f j))) => ref6_number B (O + 40) 8 (c - 40) (fun j => f (40 + j)) W (fun j hj => by have := hh (40 + j) (by omega); rwa [← Nat.add_assoc] at this) (fun j hj => hb (40 + j) (by omega)) (by omega))
  have hc4 : (4 : Int) ≤ (c : Int) := by omega
  have hc8 : (8 : Int) ≤ (c : Int) := by omega
  have hc12 : (12 : Int) ≤ (c : Int) := by omega
  have hc24 : (24 : Int) ≤ (c : Int) := by omega
  have hc32 : (32 : Int) ≤ (c : Int) := by omega
  have hc40 : (40 : Int) ≤ (c : Int) := by omega
  have hc48 : (48 : Int) ≤ (c : Int) := by omega
  have cn4 : ¬ c = 4 := by omega
  have cn8 : ¬ c = 8 := by omega
  have cn24 : ¬ c = 24 := by omega
  have cn32 : ¬ c = 32 := by omega
  have cn40 : ¬ c = 40 := by omega
  have w1 : IntKind.i64.wrap (f 0 / 64) = f 0 / 64 := IntWalk.i64_in _ (by omega)
  have w2 : IntKind.i64.wrap (f 0 % 8) = f 0 % 8 := IntWalk.i64_in _ (by omega)
  have w3 : IntKind.i64.wrap (f 1) = f 1 := IntWalk.i64_in _ (by omega)
  have w4 : IntKind.i64.wrap (numK (fun j => f (4 + j)) 4) = numK (fun j => f (4 + j)) 4 := IntWalk.i64_in _ (by have := nD; unfold dD at this; omega)
  have w5 : IntKind.i64.wrap (numK (fun j => f (8 + j)) 4) = numK (fun j => f (8 + j)) 4 := IntWalk.i64_in _ (by have := nR; unfold dR at this; omega)
  clear h hb Y0
  go_enter Tryz.func29, Tryz.ntmps29
  go_wp2_with fail
  refine wp_region_held_drew (S := fun w' => w'.cell? ⟨B, O, none⟩ = some (.int .u8 (f 0)) ∧ w'.cell? ⟨B, O + 1, none⟩ = some (.int .u8 (f 1))) (by kernel_rfl) ?_ (fun hHeld => ?_)
  · exact ⟨HY0.out 0 (by omega), HY0.out 1 (by omega)⟩
  have X := X0.out.drew
  have HB := HB0.out.drew
  have HY : Hid (∀ j, j < 48 → (w.alloc (pkR 0 0 0 0 0 0 0 0)).drew.cell? ⟨B, O + j, none⟩ = some (.int .u8 (f j))) := HY0
  have lB : B < (w.alloc (pkR 0 0 0 0 0 0 0 0)).drew.heap.size := by show B < (w.alloc (pkR 0 0 0 0 0 0 0 0)).heap.size; simp; omega
  generalize (w.alloc (pkR 0 0 0 0 0 0 0 0)).drew = V at *
  clear X0 HB0 HY0
  have HYA : Hid (∀ j, j < 48 → (V.alloc (pkR 0 0 0 0 0 0 0 0)).cell? ⟨B, O + j, none⟩ = some (.int .u8 (f j))) := Lib.hid (fun j hj => (World.cell?_alloc_past _ B (O + j) lB).trans (HY.out j hj))
  refine wpAnyH_take (i := 0) (v := ?_) rfl (by kernel_rfl) (by kernel_rfl) (by kernel_rfl) (fun _ _ _ h => h) (Or.inl ⟨by rfl, ?_⟩) (by assumption) ?_
  rotate_left
  · intro w' hSw; (try dsimp only at hSw); go_simp; (try with_reducible rfl)
  (try simp only [Act.put, List.setIfInBounds_toArray, List.set_cons_zero, List.set_cons_succ, List.getElem_toArray, List.getElem_cons_succ, List.getElem_cons_zero])
  refine wpAnyH_take (i := 1) (v := ?_) rfl (by kernel_rfl) (by kernel_rfl) (by kernel_rfl) (fun _ _ _ h => h) (Or.inl ⟨by rfl, ?_⟩) (by assumption) ?_
  rotate_left
  · intro w' hSw; (try dsimp only at hSw); go_simp; (try with_reducible rfl)
  (try simp only [Act.put, List.setIfInBounds_toArray, List.set_cons_zero, List.set_cons_succ, List.getElem_toArray, List.getElem_cons_succ, List.getElem_cons_zero])
  refine wpAnyH_take (i := 2) (v := ?_) rfl (by kernel_rfl) (by kernel_rfl) (by kernel_rfl) (fun _ _ _ h => h) (Or.inl ⟨by rfl, ?_⟩) (by assumption) ?_
  rotate_left
  · intro w' hSw; (try dsimp only at hSw); go_simp; (try with_reducible rfl)
  (try simp only [Act.put, List.setIfInBounds_toArray, List.set_cons_zero, List.set_cons_succ, List.getElem_toArray, List.getElem_cons_succ, List.getElem_cons_zero])
  refine wpAnyH_take (i := 3) (v := ?_) rfl (by kernel_rfl) (by kernel_rfl) (by kernel_rfl) (fun _ _ _ h => h) (Or.inl ⟨by rfl, ?_⟩) (by assumption) ?_
  rotate_left
  · intro w' hSw; (try dsimp only at hSw); go_simp; (try with_reducible rfl)
  (try simp only [Act.put, List.setIfInBounds_toArray, List.set_cons_zero, List.set_cons_succ, List.getElem_toArray, List.getElem_cons_succ, List.getElem_cons_zero])
  refine wpAnyH_take (i := 4) (v := ?_) rfl (by kernel_rfl) (by kernel_rfl) (by kernel_rfl) (fun _ _ _ h => h) (Or.inl ⟨by rfl, ?_⟩) (by assumption) ?_
  rotate_left
  · intro w' hSw; (try dsimp only at hSw); go_simp; (try with_reducible rfl)
  (try simp only [Act.put, List.setIfInBounds_toArray, List.set_cons_zero, List.set_cons_succ, List.getElem_toArray, List.getElem_cons_succ, List.getElem_cons_zero])
  refine wpAnyH_take (i := 5) (v := ?_) rfl (by kernel_rfl) (by kernel_rfl) (by kernel_rfl) (fun _ _ _ h => h) (Or.inl ⟨by rfl, ?_⟩) (by assumption) ?_
  rotate_left
  · intro w' hSw; (try dsimp only at hSw); go_simp; (try with_reducible rfl)
  (try simp only [Act.put, List.setIfInBounds_toArray, List.set_cons_zero, List.set_cons_succ, List.getElem_toArray, List.getElem_cons_succ, List.getElem_cons_zero])
  refine wpAnyH_take (i := 6) (v := ?_) rfl (by kernel_rfl) (by kernel_rfl) (by kernel_rfl) (fun _ _ _ h => h) (Or.inl ⟨by rfl, ?_⟩) (by assumption) ?_
  rotate_left
  · intro w' hSw; (try dsimp only at hSw); go_simp; (try with_reducible rfl)
  (try simp only [Act.put, List.setIfInBounds_toArray, List.set_cons_zero, List.set_cons_succ, List.getElem_toArray, List.getElem_cons_succ, List.getElem_cons_zero])
  refine wpAnyH_take (i := 7) (v := ?_) rfl (by kernel_rfl) (by kernel_rfl) (by kernel_rfl) (fun _ _ _ h => h) (Or.inl ⟨by rfl, ?_⟩) (by assumption) ?_
  rotate_left
  · intro w' hSw; (try dsimp only at hSw); go_simp; (try with_reducible rfl)
  (try simp only [Act.put, List.setIfInBounds_toArray, List.set_cons_zero, List.set_cons_succ, List.getElem_toArray, List.getElem_cons_succ, List.getElem_cons_zero])
  refine wpAnyH_take (i := 8) (v := ?_) rfl (by kernel_rfl) (by kernel_rfl) (by kernel_rfl) (fun _ _ _ h => h) (Or.inl ⟨by rfl, ?_⟩) (by assumption) ?_
  rotate_left
  · intro w' hSw; (try dsimp only at hSw); go_simp; (try with_reducible rfl)
  (try simp only [Act.put, List.setIfInBounds_toArray, List.set_cons_zero, List.set_cons_succ, List.getElem_toArray, List.getElem_cons_succ, List.getElem_cons_zero])
  refine wpAnyH_take (i := 9) (v := ?_) rfl (by kernel_rfl) (by kernel_rfl) (by kernel_rfl) (fun _ _ _ h => h) (Or.inl ⟨by rfl, ?_⟩) (by assumption) ?_
  rotate_left
  · intro w' hSw; (try dsimp only at hSw); go_simp; (try with_reducible rfl)
  (try simp only [Act.put, List.setIfInBounds_toArray, List.set_cons_zero, List.set_cons_succ, List.getElem_toArray, List.getElem_cons_succ, List.getElem_cons_zero])
  refine wpAnyH_take (i := 10) (v := ?_) rfl (by kernel_rfl) (by kernel_rfl) (by kernel_rfl) (fun _ _ _ h => h) (Or.inl ⟨by rfl, ?_⟩) (by assumption) ?_
  rotate_left
  · intro w' hSw; (try dsimp only at hSw); go_simp; (try with_reducible rfl)
  (try simp only [Act.put, List.setIfInBounds_toArray, List.set_cons_zero, List.set_cons_succ, List.getElem_toArray, List.getElem_cons_succ, List.getElem_cons_zero])
  refine wpAnyH_take (i := 11) (v := ?_) rfl (by kernel_rfl) (by kernel_rfl) (by kernel_rfl) (fun _ _ _ h => h) (Or.inl ⟨by rfl, ?_⟩) (by assumption) ?_
  rotate_left
  · intro w' hSw; (try dsimp only at hSw); go_simp; (try with_reducible rfl)
  (try simp only [Act.put, List.setIfInBounds_toArray, List.set_cons_zero, List.set_cons_succ, List.getElem_toArray, List.getElem_cons_succ, List.getElem_cons_zero])
  refine wpAnyH_take (i := 12) (v := ?_) rfl (by kernel_rfl) (by kernel_rfl) (by kernel_rfl) (fun _ _ _ h => h) (Or.inl ⟨by rfl, ?_⟩) (by assumption) ?_
  rotate_left
  · intro w' hSw; (try dsimp only at hSw); go_simp; (try with_reducible rfl)
  (try simp only [Act.put, List.setIfInBounds_toArray, List.set_cons_zero, List.set_cons_succ, List.getElem_toArray, List.getElem_cons_succ, List.getElem_cons_zero])
  refine wpAnyH_take (i := 13) (v := ?_) rfl (by kernel_rfl) (by kernel_rfl) (by kernel_rfl) (fun _ _ _ h => h) (Or.inl ⟨by rfl, ?_⟩) (by assumption) ?_
  rotate_left
  · intro w' hSw; (try dsimp only at hSw); go_simp; (try with_reducible rfl)
  (try simp only [Act.put, List.setIfInBounds_toArray, List.set_cons_zero, List.set_cons_succ, List.getElem_toArray, List.getElem_cons_succ, List.getElem_cons_zero])
  refine wpAnyH_take (i := 14) (v := ?_) rfl (by kernel_rfl) (by kernel_rfl) (by kernel_rfl) (fun _ _ _ h => h) (Or.inl ⟨by rfl, ?_⟩) (by assumption) ?_
  rotate_left
  · intro w' hSw; (try dsimp only at hSw); go_simp; (try with_reducible rfl)
  (try simp only [Act.put, List.setIfInBounds_toArray, List.set_cons_zero, List.set_cons_succ, List.getElem_toArray, List.getElem_cons_succ, List.getElem_cons_zero])
  refine wpAnyH_take (i := 15) (v := ?_) rfl (by kernel_rfl) (by kernel_rfl) (by kernel_rfl) (fun _ _ _ h => h) (Or.inl ⟨by rfl, ?_⟩) (by assumption) ?_
  rotate_left
  · intro w' hSw; (try dsimp only at hSw); go_simp; (try with_reducible rfl)
  (try simp only [Act.put, List.setIfInBounds_toArray, List.set_cons_zero, List.set_cons_succ, List.getElem_toArray, List.getElem_cons_succ, List.getElem_cons_zero])
  refine wpAnyH_take (i := 18) (v := ?_) rfl (by kernel_rfl) (by kernel_rfl) (by kernel_rfl) (fun _ _ _ h => h) (Or.inl ⟨by rfl, ?_⟩) (by assumption) ?_
  rotate_left
  · intro w' hSw; (try dsimp only at hSw); go_simp; (try with_reducible rfl)
  (try simp only [Act.put, List.setIfInBounds_toArray, List.set_cons_zero, List.set_cons_succ, List.getElem_toArray, List.getElem_cons_succ, List.getElem_cons_zero])
  refine wpAnyH_take (i := 19) (v := ?_) rfl (by kernel_rfl) (by kernel_rfl) (by kernel_rfl) (fun _ _ _ h => h) (Or.inl ⟨by rfl, ?_⟩) (by assumption) ?_
  rotate_left
  · intro w' hSw; (try dsimp only at hSw); go_simp; (try with_reducible rfl)
  (try simp only [Act.put, List.setIfInBounds_toArray, List.set_cons_zero, List.set_cons_succ, List.getElem_toArray, List.getElem_cons_succ, List.getElem_cons_zero])
  refine wpAnyH_take (i := 22) (v := ?_) rfl (by kernel_rfl) (by kernel_rfl) (by kernel_rfl) (fun _ _ _ h => h) (Or.inl ⟨by rfl, ?_⟩) (by assumption) ?_
  rotate_left
  · intro w' hSw; (try dsimp only at hSw); go_simp; (try with_reducible rfl)
  (try simp only [Act.put, List.setIfInBounds_toArray, List.set_cons_zero, List.set_cons_succ, List.getElem_toArray, List.getElem_cons_succ, List.getElem_cons_zero])
  refine wpAnyH_take (i := 23) (v := ?_) rfl (by kernel_rfl) (by kernel_rfl) (by kernel_rfl) (fun _ _ _ h => h) (Or.inl ⟨by rfl, ?_⟩) (by assumption) ?_
  rotate_left
  · intro w' hSw; (try dsimp only at hSw); go_simp; (try with_reducible rfl)
  (try simp only [Act.put, List.setIfInBounds_toArray, List.set_cons_zero, List.set_cons_succ, List.getElem_toArray, List.getElem_cons_succ, List.getElem_cons_zero])
  refine wpAnyH_take (i := 25) (v := ?_) rfl (by kernel_rfl) (by kernel_rfl) (by kernel_rfl) (fun _ _ _ h => h) (Or.inl ⟨by rfl, ?_⟩) (by assumption) ?_
  rotate_left
  · intro w' hSw; (try dsimp only at hSw); go_simp; (try with_reducible rfl)
  (try simp only [Act.put, List.setIfInBounds_toArray, List.set_cons_zero, List.set_cons_succ, List.getElem_toArray, List.getElem_cons_succ, List.getElem_cons_zero])
  refine wpAnyH_take (i := 26) (v := ?_) rfl (by kernel_rfl) (by kernel_rfl) (by kernel_rfl) (fun _ _ _ h => h) (Or.inl ⟨by rfl, ?_⟩) (by assumption) ?_
  rotate_left
  · intro w' hSw; (try dsimp only at hSw); go_simp; (try with_reducible rfl)
  (try simp only [Act.put, List.setIfInBounds_toArray, List.set_cons_zero, List.set_cons_succ, List.getElem_toArray, List.getElem_cons_succ, List.getElem_cons_zero])
  refine wpAnyH_take (i := 28) (v := ?_) rfl (by kernel_rfl) (by kernel_rfl) (by kernel_rfl) (fun _ _ _ h => h) (Or.inl ⟨by rfl, ?_⟩) (by assumption) ?_
  rotate_left
  · intro w' hSw; (try dsimp only at hSw); go_simp; (try with_reducible rfl)
  (try simp only [Act.put, List.setIfInBounds_toArray, List.set_cons_zero, List.set_cons_succ, List.getElem_toArray, List.getElem_cons_succ, List.getElem_cons_zero])
  refine wpAnyH_take (i := 29) (v := ?_) rfl (by kernel_rfl) (by kernel_rfl) (by kernel_rfl) (fun _ _ _ h => h) (Or.inl ⟨by rfl, ?_⟩) (by assumption) ?_
  rotate_left
  · intro w' hSw; (try dsimp only at hSw); go_simp; (try with_reducible rfl)
  (try simp only [Act.put, List.setIfInBounds_toArray, List.set_cons_zero, List.set_cons_succ, List.getElem_toArray, List.getElem_cons_succ, List.getElem_cons_zero])
  refine wpAnyH_ready (rs := [16, 32]) (by kernel_rfl) (by simp) ?_
  refine AllReadyH.cons rfl (fun K hK => ?_) (AllReadyH.cons rfl (fun K hK => ?_) (AllReadyH.nil))
  · go_simp
    (go_at_call 60; refine (C1.out _ HY.out).mono ?_; rintro e w' ⟨rfl, rfl⟩)
    (try dsimp only)
    refine hK.out _ _ ?_ (fun hHeld => ?_)
    · exact ⟨HY.out 0 (by omega), HY.out 1 (by omega)⟩
    clear hK K
    (try simp only [Act.put, List.setIfInBounds_toArray, List.set_cons_zero, List.set_cons_succ, List.getElem_toArray, List.getElem_cons_succ, List.getElem_cons_zero])
    refine wpAnyH_take (i := 17) (v := ?_) rfl (by kernel_rfl) (by kernel_rfl) (by kernel_rfl) (fun _ _ _ h => h) (Or.inl ⟨by rfl, ?_⟩) (by assumption) ?_
    rotate_left
    · intro w' hSw; (try dsimp only at hSw); go_simp; (try with_reducible rfl)
    (try simp only [Act.put, List.setIfInBounds_toArray, List.set_cons_zero, List.set_cons_succ, List.getElem_toArray, List.getElem_cons_succ, List.getElem_cons_zero])
    refine wpAnyH_ready (rs := [20, 32]) (by kernel_rfl) (by simp) ?_
    refine AllReadyH.cons rfl (fun K hK => ?_) (AllReadyH.cons rfl (fun K hK => ?_) (AllReadyH.nil))
    · go_simp
      (go_at_call 60; refine (C2.out _ HY.out).mono ?_; rintro e w' ⟨rfl, rfl⟩)
      (try dsimp only)
      refine hK.out _ _ ?_ (fun hHeld => ?_)
      · exact ⟨HY.out 0 (by omega), HY.out 1 (by omega)⟩
      clear hK K
      (try simp only [Act.put, List.setIfInBounds_toArray, List.set_cons_zero, List.set_cons_succ, List.getElem_toArray, List.getElem_cons_succ, List.getElem_cons_zero])
      refine wpAnyH_take (i := 21) (v := ?_) rfl (by kernel_rfl) (by kernel_rfl) (by kernel_rfl) (fun _ _ _ h => h) (Or.inl ⟨by rfl, ?_⟩) (by assumption) ?_
      rotate_left
      · intro w' hSw; (try dsimp only at hSw); go_simp; (try with_reducible rfl)
      (try simp only [Act.put, List.setIfInBounds_toArray, List.set_cons_zero, List.set_cons_succ, List.getElem_toArray, List.getElem_cons_succ, List.getElem_cons_zero])
      refine wpAnyH_ready (rs := [24, 32]) (by kernel_rfl) (by simp) ?_
      refine AllReadyH.cons rfl (fun K hK => ?_) (AllReadyH.cons rfl (fun K hK => ?_) (AllReadyH.nil))
      · go_simp
        (go_at_call 60; refine (C3.out _ HY.out).mono ?_; rintro e w' ⟨rfl, rfl⟩)
        (try dsimp only)
        refine hK.out _ _ ?_ (fun hHeld => ?_)
        · exact ⟨HY.out 0 (by omega), HY.out 1 (by omega)⟩
        clear hK K
        (try simp only [Act.put, List.setIfInBounds_toArray, List.set_cons_zero, List.set_cons_succ, List.getElem_toArray, List.getElem_cons_succ, List.getElem_cons_zero])
        refine wpAnyH_ready (rs := [27, 32]) (by kernel_rfl) (by simp) ?_
        refine AllReadyH.cons rfl (fun K hK => ?_) (AllReadyH.cons rfl (fun K hK => ?_) (AllReadyH.nil))
        · go_simp
          (go_at_call 60; refine (C4.out _ HY.out).mono ?_; rintro e w' ⟨rfl, rfl⟩)
          (try dsimp only)
          refine hK.out _ _ ?_ (fun hHeld => ?_)
          · exact ⟨HY.out 0 (by omega), HY.out 1 (by omega)⟩
          clear hK K
          (try simp only [Act.put, List.setIfInBounds_toArray, List.set_cons_zero, List.set_cons_succ, List.getElem_toArray, List.getElem_cons_succ, List.getElem_cons_zero])
          refine wpAnyH_ready (rs := [30, 32]) (by kernel_rfl) (by simp) ?_
          refine AllReadyH.cons rfl (fun K hK => ?_) (AllReadyH.cons rfl (fun K hK => ?_) (AllReadyH.nil))
          · go_simp
            (go_at_call 60; refine (C5.out _ HY.out).mono ?_; rintro e w' ⟨rfl, rfl⟩)
            (try dsimp only)
            refine hK.out _ _ ?_ (fun hHeld => ?_)
            · exact ⟨HY.out 0 (by omega), HY.out 1 (by omega)⟩
            clear hK K
            (try simp only [Act.put, List.setIfInBounds_toArray, List.set_cons_zero, List.set_cons_succ, List.getElem_toArray, List.getElem_cons_succ, List.getElem_cons_zero])
            refine wpAnyH_take (i := 31) (v := ?_) rfl (by kernel_rfl) (by kernel_rfl) (by kernel_rfl) (fun _ _ _ h => h) (Or.inl ⟨by rfl, ?_⟩) (by assumption) ?_
            rotate_left
            · intro w' hSw; (try dsimp only at hSw); go_simp; (try with_reducible rfl)
            (try simp only [Act.put, List.setIfInBounds_toArray, List.set_cons_zero, List.set_cons_succ, List.getElem_toArray, List.getElem_cons_succ, List.getElem_cons_zero])
            refine wpAnyH_ready (rs := [32]) (by kernel_rfl) (by simp) ?_
            refine AllReadyH.cons rfl (fun K hK => ?_) (AllReadyH.nil)
            · go_simp
              (try dsimp only)
              refine hK.out _ _ ?_ (fun hHeld => ?_)
              · exact ⟨HYA.out 0 (by omega), HYA.out 1 (by omega)⟩
              clear hK K
              (try simp only [Act.put, List.setIfInBounds_toArray, List.set_cons_zero, List.set_cons_succ, List.getElem_toArray, List.getElem_cons_succ, List.getElem_cons_zero])
              refine wpAnyH_ready (rs := [33]) (by kernel_rfl) (by simp) ?_
              refine AllReadyH.cons rfl (fun K hK => ?_) AllReadyH.nil
              go_simp
              (try dsimp only)
              refine hK.out _ _ ?_ (fun hHeld => ?_)
              · exact ⟨(World.cell?_alloc_past _ B O lB).trans (HY.out 0 (by omega)), (World.cell?_alloc_past _ B (O + 1) lB).trans (HY.out 1 (by omega))⟩
              clear hK K
              (try simp only [Act.put, List.setIfInBounds_toArray, List.set_cons_zero, List.set_cons_succ, List.getElem_toArray, List.getElem_cons_succ, List.getElem_cons_zero])
              refine wpAnyH_done (by kernel_rfl) ?_ _
              have XA := X.alloc (pkR (f 0 / 64) (f 0 % 8) (f 1) (numK (fun j => f (4 + j)) 4) (numK (fun j => f (8 + j)) 4) (numK (fun j => f (24 + j)) 8) (numK (fun j => f (32 + j)) 8) (numK (fun j => f (40 + j)) 8))
              have HBA := HB.alloc HB.size (pkR (f 0 / 64) (f 0 % 8) (f 1) (numK (fun j => f (4 + j)) 4) (numK (fun j => f (8 + j)) 4) (numK (fun j => f (24 + j)) 8) (numK (fun j => f (32 + j)) 8) (numK (fun j => f (40 + j)) 8))
              have X4 := Box8.newR V (f 0 / 64) (f 0 % 8) (f 1) (numK (fun j => f (4 + j)) 4) (numK (fun j => f (8 + j)) 4) (numK (fun j => f (24 + j)) 8) (numK (fun j => f (32 + j)) 8) (numK (fun j => f (40 + j)) 8)
              have BY : BytesAt (V.alloc (pkR (f 0 / 64) (f 0 % 8) (f 1) (numK (fun j => f (4 + j)) 4) (numK (fun j => f (8 + j)) 4) (numK (fun j => f (24 + j)) 8) (numK (fun j => f (32 + j)) 8) (numK (fun j => f (40 + j)) 8))) (some ⟨B, O, none⟩) 48 f := fun _ => ⟨B, O, rfl, by simp; omega, fun j hj => (World.cell?_alloc_past _ B (O + j) lB).trans (HY.out j hj)⟩
              have d0 := X4.c0
              have d1 := X4.c1
              have d2 := X4.c2
              have d3 := X4.c3
              have d4 := X4.c4
              have d5 := X4.c5
              have d6 := X4.c6
              have d7 := X4.c7
              have zA := HBA.size
              clear C1 C2 C3 C4 C5 w1 w2 w3 w4 w5 a7 HY HYA X HB lB
              generalize hVA : V.alloc (pkR (f 0 / 64) (f 0 % 8) (f 1) (numK (fun j => f (4 + j)) 4) (numK (fun j => f (8 + j)) 4) (numK (fun j => f (24 + j)) 8) (numK (fun j => f (32 + j)) 8) (numK (fun j => f (40 + j)) 8)) = VA at *
              generalize V.heap.size = b4 at *
              clear hVA
              cases hP : isP (f 0 / 64) (f 0 % 8) (f 1) (numK (fun j => f (4 + j)) 4) (numK (fun j => f (8 + j)) 4)
              · have CE := Lib.hid (ref6_enc_no (f 0 / 64) (f 0 % 8) (f 1) (numK (fun j => f (4 + j)) 4) (numK (fun j => f (8 + j)) 4) (numK (fun j => f (24 + j)) 8) (numK (fun j => f (32 + j)) 8) (numK (fun j => f (40 + j)) 8) VA hP)
                have hk : Hid (decOk f = false) := Lib.hid (by show (isP (f 0 / 64) (f 0 % 8) (f 1) (numK (fun j => f (4 + j)) 4) (numK (fun j => f (8 + j)) 4) && _) = false; rw [hP]; rfl)
                have XAx := XA.x
                have XAf := XA.f
                clear hP
                go_wp2_with fail
                refine CE.out.mono ?_; rintro e w2 ⟨rfl, hb2⟩
                have XB := XA.below hb2 XAx.lt
                have HB2 := HBA.trans (hb2.mono zA)
                have z2 := HB2.size
                have R := st8_cells (l' := 0) (m' := 0) (s' := 0) (d' := 0) (r' := 0) (o' := 0) (v' := 0) (t' := 0) XB.x
                obtain ⟨R0, R1, R2, R3, R4, R5, R6, R7, _⟩ := R
                obtain ⟨⟨q0, q1, q2, q3, q4, q5, q6, q7, _⟩, qf⟩ := XB
                clear hb2 d0 d1 d2 d3 d4 d5 d6 d7 XAx XAf
                go_wp2
                refine bodyPost_ret (v := .tuple #[pkV 0 0 0 0 0 0 0 0, .int .i64 3]) (by simp [results, Tryz.results29, go_sem, R0, R1, R2, R3, R4, R5, R6, R7]) rfl ⟨fun h => absurd h (by rw [hk.out]; simp), fun _ => rfl, ?_⟩
                go_light
                (repeat' (first | (with_reducible exact Below.refl _ _) | (with_reducible assumption) | (with_reducible refine Below.trans ?_ (Below.mono (by with_reducible assumption) ?_)) | (with_reducible refine Below.alloc ?_ ?_ _) | (with_reducible refine Below.setCell ?_ ?_ _) | (with_reducible refine below_drewN ?_ _) | (with_reducible refine Below.drew ?_) | go_size))
              · have CE := Lib.hid (ref6_enc_yes (f 0 / 64) (f 0 % 8) (f 1) (numK (fun j => f (4 + j)) 4) (numK (fun j => f (8 + j)) 4) (numK (fun j => f (24 + j)) 8) (numK (fun j => f (32 + j)) 8) (numK (fun j => f (40 + j)) 8) VA hP nO.1 nO.2 nV.1 nV.2 nT.1 nT.2)
                have HEB := Lib.hid (encF_byte (f 0 / 64) (f 0 % 8) (f 1) (numK (fun j => f (4 + j)) 4) (numK (fun j => f (8 + j)) 4) (numK (fun j => f (24 + j)) 8) (numK (fun j => f (32 + j)) 8) (numK (fun j => f (40 + j)) 8) hP)
                have XAx := XA.x
                have hP' : Hid (isP (dL f) (dM f) (f 1) (dD f) (dR f) = true) := Lib.hid hP
                clear hP
                go_wp2_with fail
                refine CE.out.mono ?_; rintro e w2 ⟨u, rfl, hU0, hb2⟩; obtain ⟨A7, c7, rfl, hU⟩ := BOwn.bytes (show BOwn _ _ _ n _ from by rw [hn48.out]; exact hU0); obtain ⟨g, og, rfl, _, hUc⟩ := hU (by omega)
                have XB := XA.below hb2 XAx.lt
                have X5 := X4.below hb2 X4.lt
                have BY2 := BY.below hb2
                have HB2 := HBA.trans (hb2.mono zA)
                have z2 := HB2.size
                have CV := run_strF w2 g og n c7 (encF (f 0 / 64) (f 0 % 8) (f 1) (numK (fun j => f (4 + j)) 4) (numK (fun j => f (8 + j)) 4) (numK (fun j => f (24 + j)) 8) (numK (fun j => f (32 + j)) 8) (numK (fun j => f (40 + j)) 8)) hUc (fun j hj => HEB.out j (by have := hn48.out; omega))
                have CV' := run_strF w2 B O n c f (fun j hj => by have := hn48.out; obtain ⟨B', O', e, _, q⟩ := BY2 (by omega); injection e with e; injection e with e1 e2; subst e1 e2; exact q j (by omega)) (fun j hj => HBB.out j (by have := hn48.out; omega))
                have HSL := Lib.hid (strF_lists n (encF (f 0 / 64) (f 0 % 8) (f 1) (numK (fun j => f (4 + j)) 4) (numK (fun j => f (8 + j)) 4) (numK (fun j => f (24 + j)) 8) (numK (fun j => f (32 + j)) 8) (numK (fun j => f (40 + j)) 8)) f (fun j hj => HEB.out j (by have := hn48.out; omega)) (fun j hj => HBB.out j (by have := hn48.out; omega)))
                clear hb2 d0 d1 d2 d3 d4 d5 d6 d7 XAx hU BY BY2 X4 hU0 hUc
                cases hq : eqB 48 (encF (f 0 / 64) (f 0 % 8) (f 1) (numK (fun j => f (4 + j)) 4) (numK (fun j => f (8 + j)) 4) (numK (fun j => f (24 + j)) 8) (numK (fun j => f (32 + j)) 8) (numK (fun j => f (40 + j)) 8)) 48 f
                · have hk : Hid (decOk f = false) := Lib.hid (by show (isP _ _ _ _ _ && eqB 48 (encF (f 0 / 64) (f 0 % 8) (f 1) (numK (fun j => f (4 + j)) 4) (numK (fun j => f (8 + j)) 4) (numK (fun j => f (24 + j)) 8) (numK (fun j => f (32 + j)) 8) (numK (fun j => f (40 + j)) 8)) 48 f) = false; rw [hq]; simp)
                  have hs : ¬ (strF n (encF (f 0 / 64) (f 0 % 8) (f 1) (numK (fun j => f (4 + j)) 4) (numK (fun j => f (8 + j)) 4) (numK (fun j => f (24 + j)) 8) (numK (fun j => f (32 + j)) 8) (numK (fun j => f (40 + j)) 8))).toList = (strF n f).toList := fun e => by have := HSL.out.1 e; rw [hn48.out, hq] at this; cases this
                  clear HSL
                  generalize strF n (encF (f 0 / 64) (f 0 % 8) (f 1) (numK (fun j => f (4 + j)) 4) (numK (fun j => f (8 + j)) 4) (numK (fun j => f (24 + j)) 8) (numK (fun j => f (32 + j)) 8) (numK (fun j => f (40 + j)) 8)) = s1 at *
                  generalize strF n f = s2 at *
                  have R := st8_cells (l' := 0) (m' := 0) (s' := 0) (d' := 0) (r' := 0) (o' := 0) (v' := 0) (t' := 0) XB.x
                  obtain ⟨R0, R1, R2, R3, R4, R5, R6, R7, _⟩ := R
                  obtain ⟨⟨q0, q1, q2, q3, q4, q5, q6, q7, _⟩, qf⟩ := XB
                  have hs2 : (s1.toList == s2.toList) = false := by simpa using hs
                  have hs3 : (s1.toList != s2.toList) = true := by simpa using hs
                  clear hq X5
                  go_wp2
                  refine bodyPost_ret (v := .tuple #[pkV 0 0 0 0 0 0 0 0, .int .i64 3]) (by simp [results, Tryz.results29, go_sem, R0, R1, R2, R3, R4, R5, R6, R7]) rfl ⟨fun h => absurd h (by rw [hk.out]; simp), fun _ => rfl, ?_⟩
                  go_light
                  (repeat' (first | (with_reducible exact Below.refl _ _) | (with_reducible assumption) | (with_reducible refine Below.trans ?_ (Below.mono (by with_reducible assumption) ?_)) | (with_reducible refine Below.alloc ?_ ?_ _) | (with_reducible refine Below.setCell ?_ ?_ _) | (with_reducible refine below_drewN ?_ _) | (with_reducible refine Below.drew ?_) | go_size))
                · have hk : Hid (decOk f = true) := Lib.hid (by show (isP (dL f) (dM f) (f 1) (dD f) (dR f) && eqB 48 (encF (f 0 / 64) (f 0 % 8) (f 1) (numK (fun j => f (4 + j)) 4) (numK (fun j => f (8 + j)) 4) (numK (fun j => f (24 + j)) 8) (numK (fun j => f (32 + j)) 8) (numK (fun j => f (40 + j)) 8)) 48 f) = true; rw [hq, hP'.out]; rfl)
                  have hs : (strF n (encF (f 0 / 64) (f 0 % 8) (f 1) (numK (fun j => f (4 + j)) 4) (numK (fun j => f (8 + j)) 4) (numK (fun j => f (24 + j)) 8) (numK (fun j => f (32 + j)) 8) (numK (fun j => f (40 + j)) 8))).toList = (strF n f).toList := HSL.out.2 (by rw [hn48.out]; exact hq)
                  clear HSL
                  generalize strF n (encF (f 0 / 64) (f 0 % 8) (f 1) (numK (fun j => f (4 + j)) 4) (numK (fun j => f (8 + j)) 4) (numK (fun j => f (24 + j)) 8) (numK (fun j => f (32 + j)) 8) (numK (fun j => f (40 + j)) 8)) = s1 at *
                  generalize strF n f = s2 at *
                  have R := st8_cells (l' := f 0 / 64) (m' := f 0 % 8) (s' := f 1) (d' := numK (fun j => f (4 + j)) 4) (r' := numK (fun j => f (8 + j)) 4) (o' := numK (fun j => f (24 + j)) 8) (v' := numK (fun j => f (32 + j)) 8) (t' := numK (fun j => f (40 + j)) 8) XB.x
                  obtain ⟨R0, R1, R2, R3, R4, R5, R6, R7, _⟩ := R
                  obtain ⟨⟨q0, q1, q2, q3, q4, q5, q6, q7, _⟩, qf⟩ := XB
                  obtain ⟨e0, e1, e2, e3, e4, e5, e6, e7, _⟩ := X5
                  have hs2 : (s1.toList == s2.toList) = true := by simpa using hs
                  have hs3 : (s1.toList != s2.toList) = false := by simpa using hs
                  clear hq
                  go_wp2
                  refine bodyPost_ret (v := .tuple #[pkV (f 0 / 64) (f 0 % 8) (f 1) (numK (fun j => f (4 + j)) 4) (numK (fun j => f (8 + j)) 4) (numK (fun j => f (24 + j)) 8) (numK (fun j => f (32 + j)) 8) (numK (fun j => f (40 + j)) 8), .int .i64 0]) (by simp [results, Tryz.results29, go_sem, R0, R1, R2, R3, R4, R5, R6, R7]) rfl ⟨fun _ => rfl, fun h => absurd h (by rw [hk.out]; simp), ?_⟩
                  go_light
                  (repeat' (first | (with_reducible exact Below.refl _ _) | (with_reducible assumption) | (with_reducible refine Below.trans ?_ (Below.mono (by with_reducible assumption) ?_)) | (with_reducible refine Below.alloc ?_ ?_ _) | (with_reducible refine Below.setCell ?_ ?_ _) | (with_reducible refine below_drewN ?_ _) | (with_reducible refine Below.drew ?_) | go_size))
          · go_simp
            (try dsimp only)
            refine hK.out _ _ ?_ (fun hHeld => ?_)
            · exact ⟨HYA.out 0 (by omega), HYA.out 1 (by omega)⟩
            clear hK K
            (try simp only [Act.put, List.setIfInBounds_toArray, List.set_cons_zero, List.set_cons_succ, List.getElem_toArray, List.getElem_cons_succ, List.getElem_cons_zero])
            refine wpAnyH_ready (rs := [30]) (by kernel_rfl) (by simp) ?_
            refine AllReadyH.cons rfl (fun K hK => ?_) (AllReadyH.nil)
            · go_simp
              (go_at_call 60; refine (C5.out _ HYA.out).mono ?_; rintro e w' ⟨rfl, rfl⟩)
              (try dsimp only)
              refine hK.out _ _ ?_ (fun hHeld => ?_)
              · exact ⟨HYA.out 0 (by omega), HYA.out 1 (by omega)⟩
              clear hK K
              (try simp only [Act.put, List.setIfInBounds_toArray, List.set_cons_zero, List.set_cons_succ, List.getElem_toArray, List.getElem_cons_succ, List.getElem_cons_zero])
              refine wpAnyH_take (i := 31) (v := ?_) rfl (by kernel_rfl) (by kernel_rfl) (by kernel_rfl) (fun _ _ _ h => h) (Or.inl ⟨by rfl, ?_⟩) (by assumption) ?_
              rotate_left
              · intro w' hSw; (try dsimp only at hSw); go_simp; (try with_reducible rfl)
              (try simp only [Act.put, List.setIfInBounds_toArray, List.set_cons_zero, List.set_cons_succ, List.getElem_toArray, List.getElem_cons_succ, List.getElem_cons_zero])
              refine wpAnyH_ready (rs := [33]) (by kernel_rfl) (by simp) ?_
              refine AllReadyH.cons rfl (fun K hK => ?_) AllReadyH.nil
              go_simp
              (try dsimp only)
              refine hK.out _ _ ?_ (fun hHeld => ?_)
              · exact ⟨(World.cell?_alloc_past _ B O lB).trans (HY.out 0 (by omega)), (World.cell?_alloc_past _ B (O + 1) lB).trans (HY.out 1 (by omega))⟩
              clear hK K
              (try simp only [Act.put, List.setIfInBounds_toArray, List.set_cons_zero, List.set_cons_succ, List.getElem_toArray, List.getElem_cons_succ, List.getElem_cons_zero])
              refine wpAnyH_done (by kernel_rfl) ?_ _
              have XA := X.alloc (pkR (f 0 / 64) (f 0 % 8) (f 1) (numK (fun j => f (4 + j)) 4) (numK (fun j => f (8 + j)) 4) (numK (fun j => f (24 + j)) 8) (numK (fun j => f (32 + j)) 8) (numK (fun j => f (40 + j)) 8))
              have HBA := HB.alloc HB.size (pkR (f 0 / 64) (f 0 % 8) (f 1) (numK (fun j => f (4 + j)) 4) (numK (fun j => f (8 + j)) 4) (numK (fun j => f (24 + j)) 8) (numK (fun j => f (32 + j)) 8) (numK (fun j => f (40 + j)) 8))
              have X4 := Box8.newR V (f 0 / 64) (f 0 % 8) (f 1) (numK (fun j => f (4 + j)) 4) (numK (fun j => f (8 + j)) 4) (numK (fun j => f (24 + j)) 8) (numK (fun j => f (32 + j)) 8) (numK (fun j => f (40 + j)) 8)
              have BY : BytesAt (V.alloc (pkR (f 0 / 64) (f 0 % 8) (f 1) (numK (fun j => f (4 + j)) 4) (numK (fun j => f (8 + j)) 4) (numK (fun j => f (24 + j)) 8) (numK (fun j => f (32 + j)) 8) (numK (fun j => f (40 + j)) 8))) (some ⟨B, O, none⟩) 48 f := fun _ => ⟨B, O, rfl, by simp; omega, fun j hj => (World.cell?_alloc_past _ B (O + j) lB).trans (HY.out j hj)⟩
              have d0 := X4.c0
              have d1 := X4.c1
              have d2 := X4.c2
              have d3 := X4.c3
              have d4 := X4.c4
              have d5 := X4.c5
              have d6 := X4.c6
              have d7 := X4.c7
              have zA := HBA.size
              clear C1 C2 C3 C4 C5 w1 w2 w3 w4 w5 a7 HY HYA X HB lB
              generalize hVA : V.alloc (pkR (f 0 / 64) (f 0 % 8) (f 1) (numK (fun j => f (4 + j)) 4) (numK (fun j => f (8 + j)) 4) (numK (fun j => f (24 + j)) 8) (numK (fun j => f (32 + j)) 8) (numK (fun j => f (40 + j)) 8)) = VA at *
              generalize V.heap.size = b4 at *
              clear hVA
              cases hP : isP (f 0 / 64) (f 0 % 8) (f 1) (numK (fun j => f (4 + j)) 4) (numK (fun j => f (8 + j)) 4)
              · have CE := Lib.hid (ref6_enc_no (f 0 / 64) (f 0 % 8) (f 1) (numK (fun j => f (4 + j)) 4) (numK (fun j => f (8 + j)) 4) (numK (fun j => f (24 + j)) 8) (numK (fun j => f (32 + j)) 8) (numK (fun j => f (40 + j)) 8) VA hP)
                have hk : Hid (decOk f = false) := Lib.hid (by show (isP (f 0 / 64) (f 0 % 8) (f 1) (numK (fun j => f (4 + j)) 4) (numK (fun j => f (8 + j)) 4) && _) = false; rw [hP]; rfl)
                have XAx := XA.x
                have XAf := XA.f
                clear hP
                go_wp2_with fail
                refine CE.out.mono ?_; rintro e w2 ⟨rfl, hb2⟩
                have XB := XA.below hb2 XAx.lt
                have HB2 := HBA.trans (hb2.mono zA)
                have z2 := HB2.size
                have R := st8_cells (l' := 0) (m' := 0) (s' := 0) (d' := 0) (r' := 0) (o' := 0) (v' := 0) (t' := 0) XB.x
                obtain ⟨R0, R1, R2, R3, R4, R5, R6, R7, _⟩ := R
                obtain ⟨⟨q0, q1, q2, q3, q4, q5, q6, q7, _⟩, qf⟩ := XB
                clear hb2 d0 d1 d2 d3 d4 d5 d6 d7 XAx XAf
                go_wp2
                refine bodyPost_ret (v := .tuple #[pkV 0 0 0 0 0 0 0 0, .int .i64 3]) (by simp [results, Tryz.results29, go_sem, R0, R1, R2, R3, R4, R5, R6, R7]) rfl ⟨fun h => absurd h (by rw [hk.out]; simp), fun _ => rfl, ?_⟩
                go_light
                (repeat' (first | (with_reducible exact Below.refl _ _) | (with_reducible assumption) | (with_reducible refine Below.trans ?_ (Below.mono (by with_reducible assumption) ?_)) | (with_reducible refine Below.alloc ?_ ?_ _) | (with_reducible refine Below.setCell ?_ ?_ _) | (with_reducible refine below_drewN ?_ _) | (with_reducible refine Below.drew ?_) | go_size))
              · have CE := Lib.hid (ref6_enc_yes (f 0 / 64) (f 0 % 8) (f 1) (numK (fun j => f (4 + j)) 4) (numK (fun j => f (8 + j)) 4) (numK (fun j => f (24 + j)) 8) (numK (fun j => f (32 + j)) 8) (numK (fun j => f (40 + j)) 8) VA hP nO.1 nO.2 nV.1 nV.2 nT.1 nT.2)
                have HEB := Lib.hid (encF_byte (f 0 / 64) (f 0 % 8) (f 1) (numK (fun j => f (4 + j)) 4) (numK (fun j => f (8 + j)) 4) (numK (fun j => f (24 + j)) 8) (numK (fun j => f (32 + j)) 8) (numK (fun j => f (40 + j)) 8) hP)
                have XAx := XA.x
                have hP' : Hid (isP (dL f) (dM f) (f 1) (dD f) (dR f) = true) := Lib.hid hP
                clear hP
                go_wp2_with fail
                refine CE.out.mono ?_; rintro e w2 ⟨u, rfl, hU0, hb2⟩; obtain ⟨A7, c7, rfl, hU⟩ := BOwn.bytes (show BOwn _ _ _ n _ from by rw [hn48.out]; exact hU0); obtain ⟨g, og, rfl, _, hUc⟩ := hU (by omega)
                have XB := XA.below hb2 XAx.lt
                have X5 := X4.below hb2 X4.lt
                have BY2 := BY.below hb2
                have HB2 := HBA.trans (hb2.mono zA)
                have z2 := HB2.size
                have CV := run_strF w2 g og n c7 (encF (f 0 / 64) (f 0 % 8) (f 1) (numK (fun j => f (4 + j)) 4) (numK (fun j => f (8 + j)) 4) (numK (fun j => f (24 + j)) 8) (numK (fun j => f (32 + j)) 8) (numK (fun j => f (40 + j)) 8)) hUc (fun j hj => HEB.out j (by have := hn48.out; omega))
                have CV' := run_strF w2 B O n c f (fun j hj => by have := hn48.out; obtain ⟨B', O', e, _, q⟩ := BY2 (by omega); injection e with e; injection e with e1 e2; subst e1 e2; exact q j (by omega)) (fun j hj => HBB.out j (by have := hn48.out; omega))
                have HSL := Lib.hid (strF_lists n (encF (f 0 / 64) (f 0 % 8) (f 1) (numK (fun j => f (4 + j)) 4) (numK (fun j => f (8 + j)) 4) (numK (fun j => f (24 + j)) 8) (numK (fun j => f (32 + j)) 8) (numK (fun j => f (40 + j)) 8)) f (fun j hj => HEB.out j (by have := hn48.out; omega)) (fun j hj => HBB.out j (by have := hn48.out; omega)))
                clear hb2 d0 d1 d2 d3 d4 d5 d6 d7 XAx hU BY BY2 X4 hU0 hUc
                cases hq : eqB 48 (encF (f 0 / 64) (f 0 % 8) (f 1) (numK (fun j => f (4 + j)) 4) (numK (fun j => f (8 + j)) 4) (numK (fun j => f (24 + j)) 8) (numK (fun j => f (32 + j)) 8) (numK (fun j => f (40 + j)) 8)) 48 f
                · have hk : Hid (decOk f = false) := Lib.hid (by show (isP _ _ _ _ _ && eqB 48 (encF (f 0 / 64) (f 0 % 8) (f 1) (numK (fun j => f (4 + j)) 4) (numK (fun j => f (8 + j)) 4) (numK (fun j => f (24 + j)) 8) (numK (fun j => f (32 + j)) 8) (numK (fun j => f (40 + j)) 8)) 48 f) = false; rw [hq]; simp)
                  have hs : ¬ (strF n (encF (f 0 / 64) (f 0 % 8) (f 1) (numK (fun j => f (4 + j)) 4) (numK (fun j => f (8 + j)) 4) (numK (fun j => f (24 + j)) 8) (numK (fun j => f (32 + j)) 8) (numK (fun j => f (40 + j)) 8))).toList = (strF n f).toList := fun e => by have := HSL.out.1 e; rw [hn48.out, hq] at this; cases this
                  clear HSL
                  generalize strF n (encF (f 0 / 64) (f 0 % 8) (f 1) (numK (fun j => f (4 + j)) 4) (numK (fun j => f (8 + j)) 4) (numK (fun j => f (24 + j)) 8) (numK (fun j => f (32 + j)) 8) (numK (fun j => f (40 + j)) 8)) = s1 at *
                  generalize strF n f = s2 at *
                  have R := st8_cells (l' := 0) (m' := 0) (s' := 0) (d' := 0) (r' := 0) (o' := 0) (v' := 0) (t' := 0) XB.x
                  obtain ⟨R0, R1, R2, R3, R4, R5, R6, R7, _⟩ := R
                  obtain ⟨⟨q0, q1, q2, q3, q4, q5, q6, q7, _⟩, qf⟩ := XB
                  have hs2 : (s1.toList == s2.toList) = false := by simpa using hs
                  have hs3 : (s1.toList != s2.toList) = true := by simpa using hs
                  clear hq X5
                  go_wp2
                  refine bodyPost_ret (v := .tuple #[pkV 0 0 0 0 0 0 0 0, .int .i64 3]) (by simp [results, Tryz.results29, go_sem, R0, R1, R2, R3, R4, R5, R6, R7]) rfl ⟨fun h => absurd h (by rw [hk.out]; simp), fun _ => rfl, ?_⟩
                  go_light
                  (repeat' (first | (with_reducible exact Below.refl _ _) | (with_reducible assumption) | (with_reducible refine Below.trans ?_ (Below.mono (by with_reducible assumption) ?_)) | (with_reducible refine Below.alloc ?_ ?_ _) | (with_reducible refine Below.setCell ?_ ?_ _) | (with_reducible refine below_drewN ?_ _) | (with_reducible refine Below.drew ?_) | go_size))
                · have hk : Hid (decOk f = true) := Lib.hid (by show (isP (dL f) (dM f) (f 1) (dD f) (dR f) && eqB 48 (encF (f 0 / 64) (f 0 % 8) (f 1) (numK (fun j => f (4 + j)) 4) (numK (fun j => f (8 + j)) 4) (numK (fun j => f (24 + j)) 8) (numK (fun j => f (32 + j)) 8) (numK (fun j => f (40 + j)) 8)) 48 f) = true; rw [hq, hP'.out]; rfl)
                  have hs : (strF n (encF (f 0 / 64) (f 0 % 8) (f 1) (numK (fun j => f (4 + j)) 4) (numK (fun j => f (8 + j)) 4) (numK (fun j => f (24 + j)) 8) (numK (fun j => f (32 + j)) 8) (numK (fun j => f (40 + j)) 8))).toList = (strF n f).toList := HSL.out.2 (by rw [hn48.out]; exact hq)
                  clear HSL
                  generalize strF n (encF (f 0 / 64) (f 0 % 8) (f 1) (numK (fun j => f (4 + j)) 4) (numK (fun j => f (8 + j)) 4) (numK (fun j => f (24 + j)) 8) (numK (fun j => f (32 + j)) 8) (numK (fun j => f (40 + j)) 8)) = s1 at *
                  generalize strF n f = s2 at *
                  have R := st8_cells (l' := f 0 / 64) (m' := f 0 % 8) (s' := f 1) (d' := numK (fun j => f (4 + j)) 4) (r' := numK (fun j => f (8 + j)) 4) (o' := numK (fun j => f (24 + j)) 8) (v' := numK (fun j => f (32 + j)) 8) (t' := numK (fun j => f (40 + j)) 8) XB.x
                  obtain ⟨R0, R1, R2, R3, R4, R5, R6, R7, _⟩ := R
                  obtain ⟨⟨q0, q1, q2, q3, q4, q5, q6, q7, _⟩, qf⟩ := XB
                  obtain ⟨e0, e1, e2, e3, e4, e5, e6, e7, _⟩ := X5
                  have hs2 : (s1.toList == s2.toList) = true := by simpa using hs
                  have hs3 : (s1.toList != s2.toList) = false := by simpa using hs
                  clear hq
                  go_wp2
                  refine bodyPost_ret (v := .tuple #[pkV (f 0 / 64) (f 0 % 8) (f 1) (numK (fun j => f (4 + j)) 4) (numK (fun j => f (8 + j)) 4) (numK (fun j => f (24 + j)) 8) (numK (fun j => f (32 + j)) 8) (numK (fun j => f (40 + j)) 8), .int .i64 0]) (by simp [results, Tryz.results29, go_sem, R0, R1, R2, R3, R4, R5, R6, R7]) rfl ⟨fun _ => rfl, fun h => absurd h (by rw [hk.out]; simp), ?_⟩
                  go_light
                  (repeat' (first | (with_reducible exact Below.refl _ _) | (with_reducible assumption) | (with_reducible refine Below.trans ?_ (Below.mono (by with_reducible assumption) ?_)) | (with_reducible refine Below.alloc ?_ ?_ _) | (with_reducible refine Below.setCell ?_ ?_ _) | (with_reducible refine below_drewN ?_ _) | (with_reducible refine Below.drew ?_) | go_size))
        · go_simp
          (try dsimp only)
          refine hK.out _ _ ?_ (fun hHeld => ?_)
          · exact ⟨HYA.out 0 (by omega), HYA.out 1 (by omega)⟩
          clear hK K
          (try simp only [Act.put, List.setIfInBounds_toArray, List.set_cons_zero, List.set_cons_succ, List.getElem_toArray, List.getElem_cons_succ, List.getElem_cons_zero])
          refine wpAnyH_ready (rs := [27]) (by kernel_rfl) (by simp) ?_
          refine AllReadyH.cons rfl (fun K hK => ?_) (AllReadyH.nil)
          · go_simp
            (go_at_call 60; refine (C4.out _ HYA.out).mono ?_; rintro e w' ⟨rfl, rfl⟩)
            (try dsimp only)
            refine hK.out _ _ ?_ (fun hHeld => ?_)
            · exact ⟨HYA.out 0 (by omega), HYA.out 1 (by omega)⟩
            clear hK K
            (try simp only [Act.put, List.setIfInBounds_toArray, List.set_cons_zero, List.set_cons_succ, List.getElem_toArray, List.getElem_cons_succ, List.getElem_cons_zero])
            refine wpAnyH_ready (rs := [30]) (by kernel_rfl) (by simp) ?_
            refine AllReadyH.cons rfl (fun K hK => ?_) (AllReadyH.nil)
            · go_simp
              (go_at_call 60; refine (C5.out _ HYA.out).mono ?_; rintro e w' ⟨rfl, rfl⟩)
              (try dsimp only)
              refine hK.out _ _ ?_ (fun hHeld => ?_)
              · exact ⟨HYA.out 0 (by omega), HYA.out 1 (by omega)⟩
              clear hK K
              (try simp only [Act.put, List.setIfInBounds_toArray, List.set_cons_zero, List.set_cons_succ, List.getElem_toArray, List.getElem_cons_succ, List.getElem_cons_zero])
              refine wpAnyH_take (i := 31) (v := ?_) rfl (by kernel_rfl) (by kernel_rfl) (by kernel_rfl) (fun _ _ _ h => h) (Or.inl ⟨by rfl, ?_⟩) (by assumption) ?_
              rotate_left
              · intro w' hSw; (try dsimp only at hSw); go_simp; (try with_reducible rfl)
              (try simp only [Act.put, List.setIfInBounds_toArray, List.set_cons_zero, List.set_cons_succ, List.getElem_toArray, List.getElem_cons_succ, List.getElem_cons_zero])
              refine wpAnyH_ready (rs := [33]) (by kernel_rfl) (by simp) ?_
              refine AllReadyH.cons rfl (fun K hK => ?_) AllReadyH.nil
              go_simp
              (try dsimp only)
              refine hK.out _ _ ?_ (fun hHeld => ?_)
              · exact ⟨(World.cell?_alloc_past _ B O lB).trans (HY.out 0 (by omega)), (World.cell?_alloc_past _ B (O + 1) lB).trans (HY.out 1 (by omega))⟩
              clear hK K
              (try simp only [Act.put, List.setIfInBounds_toArray, List.set_cons_zero, List.set_cons_succ, List.getElem_toArray, List.getElem_cons_succ, List.getElem_cons_zero])
              refine wpAnyH_done (by kernel_rfl) ?_ _
              have XA := X.alloc (pkR (f 0 / 64) (f 0 % 8) (f 1) (numK (fun j => f (4 + j)) 4) (numK (fun j => f (8 + j)) 4) (numK (fun j => f (24 + j)) 8) (numK (fun j => f (32 + j)) 8) (numK (fun j => f (40 + j)) 8))
              have HBA := HB.alloc HB.size (pkR (f 0 / 64) (f 0 % 8) (f 1) (numK (fun j => f (4 + j)) 4) (numK (fun j => f (8 + j)) 4) (numK (fun j => f (24 + j)) 8) (numK (fun j => f (32 + j)) 8) (numK (fun j => f (40 + j)) 8))
              have X4 := Box8.newR V (f 0 / 64) (f 0 % 8) (f 1) (numK (fun j => f (4 + j)) 4) (numK (fun j => f (8 + j)) 4) (numK (fun j => f (24 + j)) 8) (numK (fun j => f (32 + j)) 8) (numK (fun j => f (40 + j)) 8)
              have BY : BytesAt (V.alloc (pkR (f 0 / 64) (f 0 % 8) (f 1) (numK (fun j => f (4 + j)) 4) (numK (fun j => f (8 + j)) 4) (numK (fun j => f (24 + j)) 8) (numK (fun j => f (32 + j)) 8) (numK (fun j => f (40 + j)) 8))) (some ⟨B, O, none⟩) 48 f := fun _ => ⟨B, O, rfl, by simp; omega, fun j hj => (World.cell?_alloc_past _ B (O + j) lB).trans (HY.out j hj)⟩
              have d0 := X4.c0
              have d1 := X4.c1
              have d2 := X4.c2
              have d3 := X4.c3
              have d4 := X4.c4
              have d5 := X4.c5
              have d6 := X4.c6
              have d7 := X4.c7
              have zA := HBA.size
              clear C1 C2 C3 C4 C5 w1 w2 w3 w4 w5 a7 HY HYA X HB lB
              generalize hVA : V.alloc (pkR (f 0 / 64) (f 0 % 8) (f 1) (numK (fun j => f (4 + j)) 4) (numK (fun j => f (8 + j)) 4) (numK (fun j => f (24 + j)) 8) (numK (fun j => f (32 + j)) 8) (numK (fun j => f (40 + j)) 8)) = VA at *
              generalize V.heap.size = b4 at *
              clear hVA
              cases hP : isP (f 0 / 64) (f 0 % 8) (f 1) (numK (fun j => f (4 + j)) 4) (numK (fun j => f (8 + j)) 4)
              · have CE := Lib.hid (ref6_enc_no (f 0 / 64) (f 0 % 8) (f 1) (numK (fun j => f (4 + j)) 4) (numK (fun j => f (8 + j)) 4) (numK (fun j => f (24 + j)) 8) (numK (fun j => f (32 + j)) 8) (numK (fun j => f (40 + j)) 8) VA hP)
                have hk : Hid (decOk f = false) := Lib.hid (by show (isP (f 0 / 64) (f 0 % 8) (f 1) (numK (fun j => f (4 + j)) 4) (numK (fun j => f (8 + j)) 4) && _) = false; rw [hP]; rfl)
                have XAx := XA.x
                have XAf := XA.f
                clear hP
                go_wp2_with fail
                refine CE.out.mono ?_; rintro e w2 ⟨rfl, hb2⟩
                have XB := XA.below hb2 XAx.lt
                have HB2 := HBA.trans (hb2.mono zA)
                have z2 := HB2.size
                have R := st8_cells (l' := 0) (m' := 0) (s' := 0) (d' := 0) (r' := 0) (o' := 0) (v' := 0) (t' := 0) XB.x
                obtain ⟨R0, R1, R2, R3, R4, R5, R6, R7, _⟩ := R
                obtain ⟨⟨q0, q1, q2, q3, q4, q5, q6, q7, _⟩, qf⟩ := XB
                clear hb2 d0 d1 d2 d3 d4 d5 d6 d7 XAx XAf
                go_wp2
                refine bodyPost_ret (v := .tuple #[pkV 0 0 0 0 0 0 0 0, .int .i64 3]) (by simp [results, Tryz.results29, go_sem, R0, R1, R2, R3, R4, R5, R6, R7]) rfl ⟨fun h => absurd h (by rw [hk.out]; simp), fun _ => rfl, ?_⟩
                go_light
                (repeat' (first | (with_reducible exact Below.refl _ _) | (with_reducible assumption) | (with_reducible refine Below.trans ?_ (Below.mono (by with_reducible assumption) ?_)) | (with_reducible refine Below.alloc ?_ ?_ _) | (with_reducible refine Below.setCell ?_ ?_ _) | (with_reducible refine below_drewN ?_ _) | (with_reducible refine Below.drew ?_) | go_size))
              · have CE := Lib.hid (ref6_enc_yes (f 0 / 64) (f 0 % 8) (f 1) (numK (fun j => f (4 + j)) 4) (numK (fun j => f (8 + j)) 4) (numK (fun j => f (24 + j)) 8) (numK (fun j => f (32 + j)) 8) (numK (fun j => f (40 + j)) 8) VA hP nO.1 nO.2 nV.1 nV.2 nT.1 nT.2)
                have HEB := Lib.hid (encF_byte (f 0 / 64) (f 0 % 8) (f 1) (numK (fun j => f (4 + j)) 4) (numK (fun j => f (8 + j)) 4) (numK (fun j => f (24 + j)) 8) (numK (fun j => f (32 + j)) 8) (numK (fun j => f (40 + j)) 8) hP)
                have XAx := XA.x
                have hP' : Hid (isP (dL f) (dM f) (f 1) (dD f) (dR f) = true) := Lib.hid hP
                clear hP
                go_wp2_with fail
                refine CE.out.mono ?_; rintro e w2 ⟨u, rfl, hU0, hb2⟩; obtain ⟨A7, c7, rfl, hU⟩ := BOwn.bytes (show BOwn _ _ _ n _ from by rw [hn48.out]; exact hU0); obtain ⟨g, og, rfl, _, hUc⟩ := hU (by omega)
                have XB := XA.below hb2 XAx.lt
                have X5 := X4.below hb2 X4.lt
                have BY2 := BY.below hb2
                have HB2 := HBA.trans (hb2.mono zA)
                have z2 := HB2.size
                have CV := run_strF w2 g og n c7 (encF (f 0 / 64) (f 0 % 8) (f 1) (numK (fun j => f (4 + j)) 4) (numK (fun j => f (8 + j)) 4) (numK (fun j => f (24 + j)) 8) (numK (fun j => f (32 + j)) 8) (numK (fun j => f (40 + j)) 8)) hUc (fun j hj => HEB.out j (by have := hn48.out; omega))
                have CV' := run_strF w2 B O n c f (fun j hj => by have := hn48.out; obtain ⟨B', O', e, _, q⟩ := BY2 (by omega); injection e with e; injection e with e1 e2; subst e1 e2; exact q j (by omega)) (fun j hj => HBB.out j (by have := hn48.out; omega))
                have HSL := Lib.hid (strF_lists n (encF (f 0 / 64) (f 0 % 8) (f 1) (numK (fun j => f (4 + j)) 4) (numK (fun j => f (8 + j)) 4) (numK (fun j => f (24 + j)) 8) (numK (fun j => f (32 + j)) 8) (numK (fun j => f (40 + j)) 8)) f (fun j hj => HEB.out j (by have := hn48.out; omega)) (fun j hj => HBB.out j (by have := hn48.out; omega)))
                clear hb2 d0 d1 d2 d3 d4 d5 d6 d7 XAx hU BY BY2 X4 hU0 hUc
                cases hq : eqB 48 (encF (f 0 / 64) (f 0 % 8) (f 1) (numK (fun j => f (4 + j)) 4) (numK (fun j => f (8 + j)) 4) (numK (fun j => f (24 + j)) 8) (numK (fun j => f (32 + j)) 8) (numK (fun j => f (40 + j)) 8)) 48 f
                · have hk : Hid (decOk f = false) := Lib.hid (by show (isP _ _ _ _ _ && eqB 48 (encF (f 0 / 64) (f 0 % 8) (f 1) (numK (fun j => f (4 + j)) 4) (numK (fun j => f (8 + j)) 4) (numK (fun j => f (24 + j)) 8) (numK (fun j => f (32 + j)) 8) (numK (fun j => f (40 + j)) 8)) 48 f) = false; rw [hq]; simp)
                  have hs : ¬ (strF n (encF (f 0 / 64) (f 0 % 8) (f 1) (numK (fun j => f (4 + j)) 4) (numK (fun j => f (8 + j)) 4) (numK (fun j => f (24 + j)) 8) (numK (fun j => f (32 + j)) 8) (numK (fun j => f (40 + j)) 8))).toList = (strF n f).toList := fun e => by have := HSL.out.1 e; rw [hn48.out, hq] at this; cases this
                  clear HSL
                  generalize strF n (encF (f 0 / 64) (f 0 % 8) (f 1) (numK (fun j => f (4 + j)) 4) (numK (fun j => f (8 + j)) 4) (numK (fun j => f (24 + j)) 8) (numK (fun j => f (32 + j)) 8) (numK (fun j => f (40 + j)) 8)) = s1 at *
                  generalize strF n f = s2 at *
                  have R := st8_cells (l' := 0) (m' := 0) (s' := 0) (d' := 0) (r' := 0) (o' := 0) (v' := 0) (t' := 0) XB.x
                  obtain ⟨R0, R1, R2, R3, R4, R5, R6, R7, _⟩ := R
                  obtain ⟨⟨q0, q1, q2, q3, q4, q5, q6, q7, _⟩, qf⟩ := XB
                  have hs2 : (s1.toList == s2.toList) = false := by simpa using hs
                  have hs3 : (s1.toList != s2.toList) = true := by simpa using hs
                  clear hq X5
                  go_wp2
                  refine bodyPost_ret (v := .tuple #[pkV 0 0 0 0 0 0 0 0, .int .i64 3]) (by simp [results, Tryz.results29, go_sem, R0, R1, R2, R3, R4, R5, R6, R7]) rfl ⟨fun h => absurd h (by rw [hk.out]; simp), fun _ => rfl, ?_⟩
                  go_light
                  (repeat' (first | (with_reducible exact Below.refl _ _) | (with_reducible assumption) | (with_reducible refine Below.trans ?_ (Below.mono (by with_reducible assumption) ?_)) | (with_reducible refine Below.alloc ?_ ?_ _) | (with_reducible refine Below.setCell ?_ ?_ _) | (with_reducible refine below_drewN ?_ _) | (with_reducible refine Below.drew ?_) | go_size))
                · have hk : Hid (decOk f = true) := Lib.hid (by show (isP (dL f) (dM f) (f 1) (dD f) (dR f) && eqB 48 (encF (f 0 / 64) (f 0 % 8) (f 1) (numK (fun j => f (4 + j)) 4) (numK (fun j => f (8 + j)) 4) (numK (fun j => f (24 + j)) 8) (numK (fun j => f (32 + j)) 8) (numK (fun j => f (40 + j)) 8)) 48 f) = true; rw [hq, hP'.out]; rfl)
                  have hs : (strF n (encF (f 0 / 64) (f 0 % 8) (f 1) (numK (fun j => f (4 + j)) 4) (numK (fun j => f (8 + j)) 4) (numK (fun j => f (24 + j)) 8) (numK (fun j => f (32 + j)) 8) (numK (fun j => f (40 + j)) 8))).toList = (strF n f).toList := HSL.out.2 (by rw [hn48.out]; exact hq)
                  clear HSL
                  generalize strF n (encF (f 0 / 64) (f 0 % 8) (f 1) (numK (fun j => f (4 + j)) 4) (numK (fun j => f (8 + j)) 4) (numK (fun j => f (24 + j)) 8) (numK (fun j => f (32 + j)) 8) (numK (fun j => f (40 + j)) 8)) = s1 at *
                  generalize strF n f = s2 at *
                  have R := st8_cells (l' := f 0 / 64) (m' := f 0 % 8) (s' := f 1) (d' := numK (fun j => f (4 + j)) 4) (r' := numK (fun j => f (8 + j)) 4) (o' := numK (fun j => f (24 + j)) 8) (v' := numK (fun j => f (32 + j)) 8) (t' := numK (fun j => f (40 + j)) 8) XB.x
                  obtain ⟨R0, R1, R2, R3, R4, R5, R6, R7, _⟩ := R
                  obtain ⟨⟨q0, q1, q2, q3, q4, q5, q6, q7, _⟩, qf⟩ := XB
                  obtain ⟨e0, e1, e2, e3, e4, e5, e6, e7, _⟩ := X5
                  have hs2 : (s1.toList == s2.toList) = true := by simpa using hs
                  have hs3 : (s1.toList != s2.toList) = false := by simpa using hs
                  clear hq
                  go_wp2
                  refine bodyPost_ret (v := .tuple #[pkV (f 0 / 64) (f 0 % 8) (f 1) (numK (fun j => f (4 + j)) 4) (numK (fun j => f (8 + j)) 4) (numK (fun j => f (24 + j)) 8) (numK (fun j => f (32 + j)) 8) (numK (fun j => f (40 + j)) 8), .int .i64 0]) (by simp [results, Tryz.results29, go_sem, R0, R1, R2, R3, R4, R5, R6, R7]) rfl ⟨fun _ => rfl, fun h => absurd h (by rw [hk.out]; simp), ?_⟩
                  go_light
                  (repeat' (first | (with_reducible exact Below.refl _ _) | (with_reducible assumption) | (with_reducible refine Below.trans ?_ (Below.mono (by with_reducible assumption) ?_)) | (with_reducible refine Below.alloc ?_ ?_ _) | (with_reducible refine Below.setCell ?_ ?_ _) | (with_reducible refine below_drewN ?_ _) | (with_reducible refine Below.drew ?_) | go_size))
      · go_simp
        (try dsimp only)
        refine hK.out _ _ ?_ (fun hHeld => ?_)
        · exact ⟨HYA.out 0 (by omega), HYA.out 1 (by omega)⟩
        clear hK K
        (try simp only [Act.put, List.setIfInBounds_toArray, List.set_cons_zero, List.set_cons_succ, List.getElem_toArray, List.getElem_cons_succ, List.getElem_cons_zero])
        refine wpAnyH_ready (rs := [24]) (by kernel_rfl) (by simp) ?_
        refine AllReadyH.cons rfl (fun K hK => ?_) (AllReadyH.nil)
        · go_simp
          (go_at_call 60; refine (C3.out _ HYA.out).mono ?_; rintro e w' ⟨rfl, rfl⟩)
          (try dsimp only)
          refine hK.out _ _ ?_ (fun hHeld => ?_)
          · exact ⟨HYA.out 0 (by omega), HYA.out 1 (by omega)⟩
          clear hK K
          (try simp only [Act.put, List.setIfInBounds_toArray, List.set_cons_zero, List.set_cons_succ, List.getElem_toArray, List.getElem_cons_succ, List.getElem_cons_zero])
          refine wpAnyH_ready (rs := [27]) (by kernel_rfl) (by simp) ?_
          refine AllReadyH.cons rfl (fun K hK => ?_) (AllReadyH.nil)
          · go_simp
            (go_at_call 60; refine (C4.out _ HYA.out).mono ?_; rintro e w' ⟨rfl, rfl⟩)
            (try dsimp only)
            refine hK.out _ _ ?_ (fun hHeld => ?_)
            · exact ⟨HYA.out 0 (by omega), HYA.out 1 (by omega)⟩
            clear hK K
            (try simp only [Act.put, List.setIfInBounds_toArray, List.set_cons_zero, List.set_cons_succ, List.getElem_toArray, List.getElem_cons_succ, List.getElem_cons_zero])
            refine wpAnyH_ready (rs := [30]) (by kernel_rfl) (by simp) ?_
            refine AllReadyH.cons rfl (fun K hK => ?_) (AllReadyH.nil)
            · go_simp
              (go_at_call 60; refine (C5.out _ HYA.out).mono ?_; rintro e w' ⟨rfl, rfl⟩)
              (try dsimp only)
              refine hK.out _ _ ?_ (fun hHeld => ?_)
              · exact ⟨HYA.out 0 (by omega), HYA.out 1 (by omega)⟩
              clear hK K
              (try simp only [Act.put, List.setIfInBounds_toArray, List.set_cons_zero, List.set_cons_succ, List.getElem_toArray, List.getElem_cons_succ, List.getElem_cons_zero])
              refine wpAnyH_take (i := 31) (v := ?_) rfl (by kernel_rfl) (by kernel_rfl) (by kernel_rfl) (fun _ _ _ h => h) (Or.inl ⟨by rfl, ?_⟩) (by assumption) ?_
              rotate_left
              · intro w' hSw; (try dsimp only at hSw); go_simp; (try with_reducible rfl)
              (try simp only [Act.put, List.setIfInBounds_toArray, List.set_cons_zero, List.set_cons_succ, List.getElem_toArray, List.getElem_cons_succ, List.getElem_cons_zero])
              refine wpAnyH_ready (rs := [33]) (by kernel_rfl) (by simp) ?_
              refine AllReadyH.cons rfl (fun K hK => ?_) AllReadyH.nil
              go_simp
              (try dsimp only)
              refine hK.out _ _ ?_ (fun hHeld => ?_)
              · exact ⟨(World.cell?_alloc_past _ B O lB).trans (HY.out 0 (by omega)), (World.cell?_alloc_past _ B (O + 1) lB).trans (HY.out 1 (by omega))⟩
              clear hK K
              (try simp only [Act.put, List.setIfInBounds_toArray, List.set_cons_zero, List.set_cons_succ, List.getElem_toArray, List.getElem_cons_succ, List.getElem_cons_zero])
              refine wpAnyH_done (by kernel_rfl) ?_ _
              have XA := X.alloc (pkR (f 0 / 64) (f 0 % 8) (f 1) (numK (fun j => f (4 + j)) 4) (numK (fun j => f (8 + j)) 4) (numK (fun j => f (24 + j)) 8) (numK (fun j => f (32 + j)) 8) (numK (fun j => f (40 + j)) 8))
              have HBA := HB.alloc HB.size (pkR (f 0 / 64) (f 0 % 8) (f 1) (numK (fun j => f (4 + j)) 4) (numK (fun j => f (8 + j)) 4) (numK (fun j => f (24 + j)) 8) (numK (fun j => f (32 + j)) 8) (numK (fun j => f (40 + j)) 8))
              have X4 := Box8.newR V (f 0 / 64) (f 0 % 8) (f 1) (numK (fun j => f (4 + j)) 4) (numK (fun j => f (8 + j)) 4) (numK (fun j => f (24 + j)) 8) (numK (fun j => f (32 + j)) 8) (numK (fun j => f (40 + j)) 8)
              have BY : BytesAt (V.alloc (pkR (f 0 / 64) (f 0 % 8) (f 1) (numK (fun j => f (4 + j)) 4) (numK (fun j => f (8 + j)) 4) (numK (fun j => f (24 + j)) 8) (numK (fun j => f (32 + j)) 8) (numK (fun j => f (40 + j)) 8))) (some ⟨B, O, none⟩) 48 f := fun _ => ⟨B, O, rfl, by simp; omega, fun j hj => (World.cell?_alloc_past _ B (O + j) lB).trans (HY.out j hj)⟩
              have d0 := X4.c0
              have d1 := X4.c1
              have d2 := X4.c2
              have d3 := X4.c3
              have d4 := X4.c4
              have d5 := X4.c5
              have d6 := X4.c6
              have d7 := X4.c7
              have zA := HBA.size
              clear C1 C2 C3 C4 C5 w1 w2 w3 w4 w5 a7 HY HYA X HB lB
              generalize hVA : V.alloc (pkR (f 0 / 64) (f 0 % 8) (f 1) (numK (fun j => f (4 + j)) 4) (numK (fun j => f (8 + j)) 4) (numK (fun j => f (24 + j)) 8) (numK (fun j => f (32 + j)) 8) (numK (fun j => f (40 + j)) 8)) = VA at *
              generalize V.heap.size = b4 at *
              clear hVA
              cases hP : isP (f 0 / 64) (f 0 % 8) (f 1) (numK (fun j => f (4 + j)) 4) (numK (fun j => f (8 + j)) 4)
              · have CE := Lib.hid (ref6_enc_no (f 0 / 64) (f 0 % 8) (f 1) (numK (fun j => f (4 + j)) 4) (numK (fun j => f (8 + j)) 4) (numK (fun j => f (24 + j)) 8) (numK (fun j => f (32 + j)) 8) (numK (fun j => f (40 + j)) 8) VA hP)
                have hk : Hid (decOk f = false) := Lib.hid (by show (isP (f 0 / 64) (f 0 % 8) (f 1) (numK (fun j => f (4 + j)) 4) (numK (fun j => f (8 + j)) 4) && _) = false; rw [hP]; rfl)
                have XAx := XA.x
                have XAf := XA.f
                clear hP
                go_wp2_with fail
                refine CE.out.mono ?_; rintro e w2 ⟨rfl, hb2⟩
                have XB := XA.below hb2 XAx.lt
                have HB2 := HBA.trans (hb2.mono zA)
                have z2 := HB2.size
                have R := st8_cells (l' := 0) (m' := 0) (s' := 0) (d' := 0) (r' := 0) (o' := 0) (v' := 0) (t' := 0) XB.x
                obtain ⟨R0, R1, R2, R3, R4, R5, R6, R7, _⟩ := R
                obtain ⟨⟨q0, q1, q2, q3, q4, q5, q6, q7, _⟩, qf⟩ := XB
                clear hb2 d0 d1 d2 d3 d4 d5 d6 d7 XAx XAf
                go_wp2
                refine bodyPost_ret (v := .tuple #[pkV 0 0 0 0 0 0 0 0, .int .i64 3]) (by simp [results, Tryz.results29, go_sem, R0, R1, R2, R3, R4, R5, R6, R7]) rfl ⟨fun h => absurd h (by rw [hk.out]; simp), fun _ => rfl, ?_⟩
                go_light
                (repeat' (first | (with_reducible exact Below.refl _ _) | (with_reducible assumption) | (with_reducible refine Below.trans ?_ (Below.mono (by with_reducible assumption) ?_)) | (with_reducible refine Below.alloc ?_ ?_ _) | (with_reducible refine Below.setCell ?_ ?_ _) | (with_reducible refine below_drewN ?_ _) | (with_reducible refine Below.drew ?_) | go_size))
              · have CE := Lib.hid (ref6_enc_yes (f 0 / 64) (f 0 % 8) (f 1) (numK (fun j => f (4 + j)) 4) (numK (fun j => f (8 + j)) 4) (numK (fun j => f (24 + j)) 8) (numK (fun j => f (32 + j)) 8) (numK (fun j => f (40 + j)) 8) VA hP nO.1 nO.2 nV.1 nV.2 nT.1 nT.2)
                have HEB := Lib.hid (encF_byte (f 0 / 64) (f 0 % 8) (f 1) (numK (fun j => f (4 + j)) 4) (numK (fun j => f (8 + j)) 4) (numK (fun j => f (24 + j)) 8) (numK (fun j => f (32 + j)) 8) (numK (fun j => f (40 + j)) 8) hP)
                have XAx := XA.x
                have hP' : Hid (isP (dL f) (dM f) (f 1) (dD f) (dR f) = true) := Lib.hid hP
                clear hP
                go_wp2_with fail
                refine CE.out.mono ?_; rintro e w2 ⟨u, rfl, hU0, hb2⟩; obtain ⟨A7, c7, rfl, hU⟩ := BOwn.bytes (show BOwn _ _ _ n _ from by rw [hn48.out]; exact hU0); obtain ⟨g, og, rfl, _, hUc⟩ := hU (by omega)
                have XB := XA.below hb2 XAx.lt
                have X5 := X4.below hb2 X4.lt
                have BY2 := BY.below hb2
                have HB2 := HBA.trans (hb2.mono zA)
                have z2 := HB2.size
                have CV := run_strF w2 g og n c7 (encF (f 0 / 64) (f 0 % 8) (f 1) (numK (fun j => f (4 + j)) 4) (numK (fun j => f (8 + j)) 4) (numK (fun j => f (24 + j)) 8) (numK (fun j => f (32 + j)) 8) (numK (fun j => f (40 + j)) 8)) hUc (fun j hj => HEB.out j (by have := hn48.out; omega))
                have CV' := run_strF w2 B O n c f (fun j hj => by have := hn48.out; obtain ⟨B', O', e, _, q⟩ := BY2 (by omega); injection e with e; injection e with e1 e2; subst e1 e2; exact q j (by omega)) (fun j hj => HBB.out j (by have := hn48.out; omega))
                have HSL := Lib.hid (strF_lists n (encF (f 0 / 64) (f 0 % 8) (f 1) (numK (fun j => f (4 + j)) 4) (numK (fun j => f (8 + j)) 4) (numK (fun j => f (24 + j)) 8) (numK (fun j => f (32 + j)) 8) (numK (fun j => f (40 + j)) 8)) f (fun j hj => HEB.out j (by have := hn48.out; omega)) (fun j hj => HBB.out j (by have := hn48.out; omega)))
                clear hb2 d0 d1 d2 d3 d4 d5 d6 d7 XAx hU BY BY2 X4 hU0 hUc
                cases hq : eqB 48 (encF (f 0 / 64) (f 0 % 8) (f 1) (numK (fun j => f (4 + j)) 4) (numK (fun j => f (8 + j)) 4) (numK (fun j => f (24 + j)) 8) (numK (fun j => f (32 + j)) 8) (numK (fun j => f (40 + j)) 8)) 48 f
                · have hk : Hid (decOk f = false) := Lib.hid (by show (isP _ _ _ _ _ && eqB 48 (encF (f 0 / 64) (f 0 % 8) (f 1) (numK (fun j => f (4 + j)) 4) (numK (fun j => f (8 + j)) 4) (numK (fun j => f (24 + j)) 8) (numK (fun j => f (32 + j)) 8) (numK (fun j => f (40 + j)) 8)) 48 f) = false; rw [hq]; simp)
                  have hs : ¬ (strF n (encF (f 0 / 64) (f 0 % 8) (f 1) (numK (fun j => f (4 + j)) 4) (numK (fun j => f (8 + j)) 4) (numK (fun j => f (24 + j)) 8) (numK (fun j => f (32 + j)) 8) (numK (fun j => f (40 + j)) 8))).toList = (strF n f).toList := fun e => by have := HSL.out.1 e; rw [hn48.out, hq] at this; cases this
                  clear HSL
                  generalize strF n (encF (f 0 / 64) (f 0 % 8) (f 1) (numK (fun j => f (4 + j)) 4) (numK (fun j => f (8 + j)) 4) (numK (fun j => f (24 + j)) 8) (numK (fun j => f (32 + j)) 8) (numK (fun j => f (40 + j)) 8)) = s1 at *
                  generalize strF n f = s2 at *
                  have R := st8_cells (l' := 0) (m' := 0) (s' := 0) (d' := 0) (r' := 0) (o' := 0) (v' := 0) (t' := 0) XB.x
                  obtain ⟨R0, R1, R2, R3, R4, R5, R6, R7, _⟩ := R
                  obtain ⟨⟨q0, q1, q2, q3, q4, q5, q6, q7, _⟩, qf⟩ := XB
                  have hs2 : (s1.toList == s2.toList) = false := by simpa using hs
                  have hs3 : (s1.toList != s2.toList) = true := by simpa using hs
                  clear hq X5
                  go_wp2
                  refine bodyPost_ret (v := .tuple #[pkV 0 0 0 0 0 0 0 0, .int .i64 3]) (by simp [results, Tryz.results29, go_sem, R0, R1, R2, R3, R4, R5, R6, R7]) rfl ⟨fun h => absurd h (by rw [hk.out]; simp), fun _ => rfl, ?_⟩
                  go_light
                  (repeat' (first | (with_reducible exact Below.refl _ _) | (with_reducible assumption) | (with_reducible refine Below.trans ?_ (Below.mono (by with_reducible assumption) ?_)) | (with_reducible refine Below.alloc ?_ ?_ _) | (with_reducible refine Below.setCell ?_ ?_ _) | (with_reducible refine below_drewN ?_ _) | (with_reducible refine Below.drew ?_) | go_size))
                · have hk : Hid (decOk f = true) := Lib.hid (by show (isP (dL f) (dM f) (f 1) (dD f) (dR f) && eqB 48 (encF (f 0 / 64) (f 0 % 8) (f 1) (numK (fun j => f (4 + j)) 4) (numK (fun j => f (8 + j)) 4) (numK (fun j => f (24 + j)) 8) (numK (fun j => f (32 + j)) 8) (numK (fun j => f (40 + j)) 8)) 48 f) = true; rw [hq, hP'.out]; rfl)
                  have hs : (strF n (encF (f 0 / 64) (f 0 % 8) (f 1) (numK (fun j => f (4 + j)) 4) (numK (fun j => f (8 + j)) 4) (numK (fun j => f (24 + j)) 8) (numK (fun j => f (32 + j)) 8) (numK (fun j => f (40 + j)) 8))).toList = (strF n f).toList := HSL.out.2 (by rw [hn48.out]; exact hq)
                  clear HSL
                  generalize strF n (encF (f 0 / 64) (f 0 % 8) (f 1) (numK (fun j => f (4 + j)) 4) (numK (fun j => f (8 + j)) 4) (numK (fun j => f (24 + j)) 8) (numK (fun j => f (32 + j)) 8) (numK (fun j => f (40 + j)) 8)) = s1 at *
                  generalize strF n f = s2 at *
                  have R := st8_cells (l' := f 0 / 64) (m' := f 0 % 8) (s' := f 1) (d' := numK (fun j => f (4 + j)) 4) (r' := numK (fun j => f (8 + j)) 4) (o' := numK (fun j => f (24 + j)) 8) (v' := numK (fun j => f (32 + j)) 8) (t' := numK (fun j => f (40 + j)) 8) XB.x
                  obtain ⟨R0, R1, R2, R3, R4, R5, R6, R7, _⟩ := R
                  obtain ⟨⟨q0, q1, q2, q3, q4, q5, q6, q7, _⟩, qf⟩ := XB
                  obtain ⟨e0, e1, e2, e3, e4, e5, e6, e7, _⟩ := X5
                  have hs2 : (s1.toList == s2.toList) = true := by simpa using hs
                  have hs3 : (s1.toList != s2.toList) = false := by simpa using hs
                  clear hq
                  go_wp2
                  refine bodyPost_ret (v := .tuple #[pkV (f 0 / 64) (f 0 % 8) (f 1) (numK (fun j => f (4 + j)) 4) (numK (fun j => f (8 + j)) 4) (numK (fun j => f (24 + j)) 8) (numK (fun j => f (32 + j)) 8) (numK (fun j => f (40 + j)) 8), .int .i64 0]) (by simp [results, Tryz.results29, go_sem, R0, R1, R2, R3, R4, R5, R6, R7]) rfl ⟨fun _ => rfl, fun h => absurd h (by rw [hk.out]; simp), ?_⟩
                  go_light
                  (repeat' (first | (with_reducible exact Below.refl _ _) | (with_reducible assumption) | (with_reducible refine Below.trans ?_ (Below.mono (by with_reducible assumption) ?_)) | (with_reducible refine Below.alloc ?_ ?_ _) | (with_reducible refine Below.setCell ?_ ?_ _) | (with_reducible refine below_drewN ?_ _) | (with_reducible refine Below.drew ?_) | go_size))
    · go_simp
      (try dsimp only)
      refine hK.out _ _ ?_ (fun hHeld => ?_)
      · exact ⟨HYA.out 0 (by omega), HYA.out 1 (by omega)⟩
      clear hK K
      (try simp only [Act.put, List.setIfInBounds_toArray, List.set_cons_zero, List.set_cons_succ, List.getElem_toArray, List.getElem_cons_succ, List.getElem_cons_zero])
      refine wpAnyH_ready (rs := [20]) (by kernel_rfl) (by simp) ?_
      refine AllReadyH.cons rfl (fun K hK => ?_) (AllReadyH.nil)
      · go_simp
        (go_at_call 60; refine (C2.out _ HYA.out).mono ?_; rintro e w' ⟨rfl, rfl⟩)
        (try dsimp only)
        refine hK.out _ _ ?_ (fun hHeld => ?_)
        · exact ⟨HYA.out 0 (by omega), HYA.out 1 (by omega)⟩
        clear hK K
        (try simp only [Act.put, List.setIfInBounds_toArray, List.set_cons_zero, List.set_cons_succ, List.getElem_toArray, List.getElem_cons_succ, List.getElem_cons_zero])
        refine wpAnyH_take (i := 21) (v := ?_) rfl (by kernel_rfl) (by kernel_rfl) (by kernel_rfl) (fun _ _ _ h => h) (Or.inl ⟨by rfl, ?_⟩) (by assumption) ?_
        rotate_left
        · intro w' hSw; (try dsimp only at hSw); go_simp; (try with_reducible rfl)
        (try simp only [Act.put, List.setIfInBounds_toArray, List.set_cons_zero, List.set_cons_succ, List.getElem_toArray, List.getElem_cons_succ, List.getElem_cons_zero])
        refine wpAnyH_ready (rs := [24]) (by kernel_rfl) (by simp) ?_
        refine AllReadyH.cons rfl (fun K hK => ?_) (AllReadyH.nil)
        · go_simp
          (go_at_call 60; refine (C3.out _ HYA.out).mono ?_; rintro e w' ⟨rfl, rfl⟩)
          (try dsimp only)
          refine hK.out _ _ ?_ (fun hHeld => ?_)
          · exact ⟨HYA.out 0 (by omega), HYA.out 1 (by omega)⟩
          clear hK K
          (try simp only [Act.put, List.setIfInBounds_toArray, List.set_cons_zero, List.set_cons_succ, List.getElem_toArray, List.getElem_cons_succ, List.getElem_cons_zero])
          refine wpAnyH_ready (rs := [27]) (by kernel_rfl) (by simp) ?_
          refine AllReadyH.cons rfl (fun K hK => ?_) (AllReadyH.nil)
          · go_simp
            (go_at_call 60; refine (C4.out _ HYA.out).mono ?_; rintro e w' ⟨rfl, rfl⟩)
            (try dsimp only)
            refine hK.out _ _ ?_ (fun hHeld => ?_)
            · exact ⟨HYA.out 0 (by omega), HYA.out 1 (by omega)⟩
            clear hK K
            (try simp only [Act.put, List.setIfInBounds_toArray, List.set_cons_zero, List.set_cons_succ, List.getElem_toArray, List.getElem_cons_succ, List.getElem_cons_zero])
            refine wpAnyH_ready (rs := [30]) (by kernel_rfl) (by simp) ?_
            refine AllReadyH.cons rfl (fun K hK => ?_) (AllReadyH.nil)
            · go_simp
              (go_at_call 60; refine (C5.out _ HYA.out).mono ?_; rintro e w' ⟨rfl, rfl⟩)
              (try dsimp only)
              refine hK.out _ _ ?_ (fun hHeld => ?_)
              · exact ⟨HYA.out 0 (by omega), HYA.out 1 (by omega)⟩
              clear hK K
              (try simp only [Act.put, List.setIfInBounds_toArray, List.set_cons_zero, List.set_cons_succ, List.getElem_toArray, List.getElem_cons_succ, List.getElem_cons_zero])
              refine wpAnyH_take (i := 31) (v := ?_) rfl (by kernel_rfl) (by kernel_rfl) (by kernel_rfl) (fun _ _ _ h => h) (Or.inl ⟨by rfl, ?_⟩) (by assumption) ?_
              rotate_left
              · intro w' hSw; (try dsimp only at hSw); go_simp; (try with_reducible rfl)
              (try simp only [Act.put, List.setIfInBounds_toArray, List.set_cons_zero, List.set_cons_succ, List.getElem_toArray, List.getElem_cons_succ, List.getElem_cons_zero])
              refine wpAnyH_ready (rs := [33]) (by kernel_rfl) (by simp) ?_
              refine AllReadyH.cons rfl (fun K hK => ?_) AllReadyH.nil
              go_simp
              (try dsimp only)
              refine hK.out _ _ ?_ (fun hHeld => ?_)
              · exact ⟨(World.cell?_alloc_past _ B O lB).trans (HY.out 0 (by omega)), (World.cell?_alloc_past _ B (O + 1) lB).trans (HY.out 1 (by omega))⟩
              clear hK K
              (try simp only [Act.put, List.setIfInBounds_toArray, List.set_cons_zero, List.set_cons_succ, List.getElem_toArray, List.getElem_cons_succ, List.getElem_cons_zero])
              refine wpAnyH_done (by kernel_rfl) ?_ _
              have XA := X.alloc (pkR (f 0 / 64) (f 0 % 8) (f 1) (numK (fun j => f (4 + j)) 4) (numK (fun j => f (8 + j)) 4) (numK (fun j => f (24 + j)) 8) (numK (fun j => f (32 + j)) 8) (numK (fun j => f (40 + j)) 8))
              have HBA := HB.alloc HB.size (pkR (f 0 / 64) (f 0 % 8) (f 1) (numK (fun j => f (4 + j)) 4) (numK (fun j => f (8 + j)) 4) (numK (fun j => f (24 + j)) 8) (numK (fun j => f (32 + j)) 8) (numK (fun j => f (40 + j)) 8))
              have X4 := Box8.newR V (f 0 / 64) (f 0 % 8) (f 1) (numK (fun j => f (4 + j)) 4) (numK (fun j => f (8 + j)) 4) (numK (fun j => f (24 + j)) 8) (numK (fun j => f (32 + j)) 8) (numK (fun j => f (40 + j)) 8)
              have BY : BytesAt (V.alloc (pkR (f 0 / 64) (f 0 % 8) (f 1) (numK (fun j => f (4 + j)) 4) (numK (fun j => f (8 + j)) 4) (numK (fun j => f (24 + j)) 8) (numK (fun j => f (32 + j)) 8) (numK (fun j => f (40 + j)) 8))) (some ⟨B, O, none⟩) 48 f := fun _ => ⟨B, O, rfl, by simp; omega, fun j hj => (World.cell?_alloc_past _ B (O + j) lB).trans (HY.out j hj)⟩
              have d0 := X4.c0
              have d1 := X4.c1
              have d2 := X4.c2
              have d3 := X4.c3
              have d4 := X4.c4
              have d5 := X4.c5
              have d6 := X4.c6
              have d7 := X4.c7
              have zA := HBA.size
              clear C1 C2 C3 C4 C5 w1 w2 w3 w4 w5 a7 HY HYA X HB lB
              generalize hVA : V.alloc (pkR (f 0 / 64) (f 0 % 8) (f 1) (numK (fun j => f (4 + j)) 4) (numK (fun j => f (8 + j)) 4) (numK (fun j => f (24 + j)) 8) (numK (fun j => f (32 + j)) 8) (numK (fun j => f (40 + j)) 8)) = VA at *
              generalize V.heap.size = b4 at *
              clear hVA
              cases hP : isP (f 0 / 64) (f 0 % 8) (f 1) (numK (fun j => f (4 + j)) 4) (numK (fun j => f (8 + j)) 4)
              · have CE := Lib.hid (ref6_enc_no (f 0 / 64) (f 0 % 8) (f 1) (numK (fun j => f (4 + j)) 4) (numK (fun j => f (8 + j)) 4) (numK (fun j => f (24 + j)) 8) (numK (fun j => f (32 + j)) 8) (numK (fun j => f (40 + j)) 8) VA hP)
                have hk : Hid (decOk f = false) := Lib.hid (by show (isP (f 0 / 64) (f 0 % 8) (f 1) (numK (fun j => f (4 + j)) 4) (numK (fun j => f (8 + j)) 4) && _) = false; rw [hP]; rfl)
                have XAx := XA.x
                have XAf := XA.f
                clear hP
                go_wp2_with fail
                refine CE.out.mono ?_; rintro e w2 ⟨rfl, hb2⟩
                have XB := XA.below hb2 XAx.lt
                have HB2 := HBA.trans (hb2.mono zA)
                have z2 := HB2.size
                have R := st8_cells (l' := 0) (m' := 0) (s' := 0) (d' := 0) (r' := 0) (o' := 0) (v' := 0) (t' := 0) XB.x
                obtain ⟨R0, R1, R2, R3, R4, R5, R6, R7, _⟩ := R
                obtain ⟨⟨q0, q1, q2, q3, q4, q5, q6, q7, _⟩, qf⟩ := XB
                clear hb2 d0 d1 d2 d3 d4 d5 d6 d7 XAx XAf
                go_wp2
                refine bodyPost_ret (v := .tuple #[pkV 0 0 0 0 0 0 0 0, .int .i64 3]) (by simp [results, Tryz.results29, go_sem, R0, R1, R2, R3, R4, R5, R6, R7]) rfl ⟨fun h => absurd h (by rw [hk.out]; simp), fun _ => rfl, ?_⟩
                go_light
                (repeat' (first | (with_reducible exact Below.refl _ _) | (with_reducible assumption) | (with_reducible refine Below.trans ?_ (Below.mono (by with_reducible assumption) ?_)) | (with_reducible refine Below.alloc ?_ ?_ _) | (with_reducible refine Below.setCell ?_ ?_ _) | (with_reducible refine below_drewN ?_ _) | (with_reducible refine Below.drew ?_) | go_size))
              · have CE := Lib.hid (ref6_enc_yes (f 0 / 64) (f 0 % 8) (f 1) (numK (fun j => f (4 + j)) 4) (numK (fun j => f (8 + j)) 4) (numK (fun j => f (24 + j)) 8) (numK (fun j => f (32 + j)) 8) (numK (fun j => f (40 + j)) 8) VA hP nO.1 nO.2 nV.1 nV.2 nT.1 nT.2)
                have HEB := Lib.hid (encF_byte (f 0 / 64) (f 0 % 8) (f 1) (numK (fun j => f (4 + j)) 4) (numK (fun j => f (8 + j)) 4) (numK (fun j => f (24 + j)) 8) (numK (fun j => f (32 + j)) 8) (numK (fun j => f (40 + j)) 8) hP)
                have XAx := XA.x
                have hP' : Hid (isP (dL f) (dM f) (f 1) (dD f) (dR f) = true) := Lib.hid hP
                clear hP
                go_wp2_with fail
                refine CE.out.mono ?_; rintro e w2 ⟨u, rfl, hU0, hb2⟩; obtain ⟨A7, c7, rfl, hU⟩ := BOwn.bytes (show BOwn _ _ _ n _ from by rw [hn48.out]; exact hU0); obtain ⟨g, og, rfl, _, hUc⟩ := hU (by omega)
                have XB := XA.below hb2 XAx.lt
                have X5 := X4.below hb2 X4.lt
                have BY2 := BY.below hb2
                have HB2 := HBA.trans (hb2.mono zA)
                have z2 := HB2.size
                have CV := run_strF w2 g og n c7 (encF (f 0 / 64) (f 0 % 8) (f 1) (numK (fun j => f (4 + j)) 4) (numK (fun j => f (8 + j)) 4) (numK (fun j => f (24 + j)) 8) (numK (fun j => f (32 + j)) 8) (numK (fun j => f (40 + j)) 8)) hUc (fun j hj => HEB.out j (by have := hn48.out; omega))
                have CV' := run_strF w2 B O n c f (fun j hj => by have := hn48.out; obtain ⟨B', O', e, _, q⟩ := BY2 (by omega); injection e with e; injection e with e1 e2; subst e1 e2; exact q j (by omega)) (fun j hj => HBB.out j (by have := hn48.out; omega))
                have HSL := Lib.hid (strF_lists n (encF (f 0 / 64) (f 0 % 8) (f 1) (numK (fun j => f (4 + j)) 4) (numK (fun j => f (8 + j)) 4) (numK (fun j => f (24 + j)) 8) (numK (fun j => f (32 + j)) 8) (numK (fun j => f (40 + j)) 8)) f (fun j hj => HEB.out j (by have := hn48.out; omega)) (fun j hj => HBB.out j (by have := hn48.out; omega)))
                clear hb2 d0 d1 d2 d3 d4 d5 d6 d7 XAx hU BY BY2 X4 hU0 hUc
                cases hq : eqB 48 (encF (f 0 / 64) (f 0 % 8) (f 1) (numK (fun j => f (4 + j)) 4) (numK (fun j => f (8 + j)) 4) (numK (fun j => f (24 + j)) 8) (numK (fun j => f (32 + j)) 8) (numK (fun j => f (40 + j)) 8)) 48 f
                · have hk : Hid (decOk f = false) := Lib.hid (by show (isP _ _ _ _ _ && eqB 48 (encF (f 0 / 64) (f 0 % 8) (f 1) (numK (fun j => f (4 + j)) 4) (numK (fun j => f (8 + j)) 4) (numK (fun j => f (24 + j)) 8) (numK (fun j => f (32 + j)) 8) (numK (fun j => f (40 + j)) 8)) 48 f) = false; rw [hq]; simp)
                  have hs : ¬ (strF n (encF (f 0 / 64) (f 0 % 8) (f 1) (numK (fun j => f (4 + j)) 4) (numK (fun j => f (8 + j)) 4) (numK (fun j => f (24 + j)) 8) (numK (fun j => f (32 + j)) 8) (numK (fun j => f (40 + j)) 8))).toList = (strF n f).toList := fun e => by have := HSL.out.1 e; rw [hn48.out, hq] at this; cases this
                  clear HSL
                  generalize strF n (encF (f 0 / 64) (f 0 % 8) (f 1) (numK (fun j => f (4 + j)) 4) (numK (fun j => f (8 + j)) 4) (numK (fun j => f (24 + j)) 8) (numK (fun j => f (32 + j)) 8) (numK (fun j => f (40 + j)) 8)) = s1 at *
                  generalize strF n f = s2 at *
                  have R := st8_cells (l' := 0) (m' := 0) (s' := 0) (d' := 0) (r' := 0) (o' := 0) (v' := 0) (t' := 0) XB.x
                  obtain ⟨R0, R1, R2, R3, R4, R5, R6, R7, _⟩ := R
                  obtain ⟨⟨q0, q1, q2, q3, q4, q5, q6, q7, _⟩, qf⟩ := XB
                  have hs2 : (s1.toList == s2.toList) = false := by simpa using hs
                  have hs3 : (s1.toList != s2.toList) = true := by simpa using hs
                  clear hq X5
                  go_wp2
                  refine bodyPost_ret (v := .tuple #[pkV 0 0 0 0 0 0 0 0, .int .i64 3]) (by simp [results, Tryz.results29, go_sem, R0, R1, R2, R3, R4, R5, R6, R7]) rfl ⟨fun h => absurd h (by rw [hk.out]; simp), fun _ => rfl, ?_⟩
                  go_light
                  (repeat' (first | (with_reducible exact Below.refl _ _) | (with_reducible assumption) | (with_reducible refine Below.trans ?_ (Below.mono (by with_reducible assumption) ?_)) | (with_reducible refine Below.alloc ?_ ?_ _) | (with_reducible refine Below.setCell ?_ ?_ _) | (with_reducible refine below_drewN ?_ _) | (with_reducible refine Below.drew ?_) | go_size))
                · have hk : Hid (decOk f = true) := Lib.hid (by show (isP (dL f) (dM f) (f 1) (dD f) (dR f) && eqB 48 (encF (f 0 / 64) (f 0 % 8) (f 1) (numK (fun j => f (4 + j)) 4) (numK (fun j => f (8 + j)) 4) (numK (fun j => f (24 + j)) 8) (numK (fun j => f (32 + j)) 8) (numK (fun j => f (40 + j)) 8)) 48 f) = true; rw [hq, hP'.out]; rfl)
                  have hs : (strF n (encF (f 0 / 64) (f 0 % 8) (f 1) (numK (fun j => f (4 + j)) 4) (numK (fun j => f (8 + j)) 4) (numK (fun j => f (24 + j)) 8) (numK (fun j => f (32 + j)) 8) (numK (fun j => f (40 + j)) 8))).toList = (strF n f).toList := HSL.out.2 (by rw [hn48.out]; exact hq)
                  clear HSL
                  generalize strF n (encF (f 0 / 64) (f 0 % 8) (f 1) (numK (fun j => f (4 + j)) 4) (numK (fun j => f (8 + j)) 4) (numK (fun j => f (24 + j)) 8) (numK (fun j => f (32 + j)) 8) (numK (fun j => f (40 + j)) 8)) = s1 at *
                  generalize strF n f = s2 at *
                  have R := st8_cells (l' := f 0 / 64) (m' := f 0 % 8) (s' := f 1) (d' := numK (fun j => f (4 + j)) 4) (r' := numK (fun j => f (8 + j)) 4) (o' := numK (fun j => f (24 + j)) 8) (v' := numK (fun j => f (32 + j)) 8) (t' := numK (fun j => f (40 + j)) 8) XB.x
                  obtain ⟨R0, R1, R2, R3, R4, R5, R6, R7, _⟩ := R
                  obtain ⟨⟨q0, q1, q2, q3, q4, q5, q6, q7, _⟩, qf⟩ := XB
                  obtain ⟨e0, e1, e2, e3, e4, e5, e6, e7, _⟩ := X5
                  have hs2 : (s1.toList == s2.toList) = true := by simpa using hs
                  have hs3 : (s1.toList != s2.toList) = false := by simpa using hs
                  clear hq
                  go_wp2
                  refine bodyPost_ret (v := .tuple #[pkV (f 0 / 64) (f 0 % 8) (f 1) (numK (fun j => f (4 + j)) 4) (numK (fun j => f (8 + j)) 4) (numK (fun j => f (24 + j)) 8) (numK (fun j => f (32 + j)) 8) (numK (fun j => f (40 + j)) 8), .int .i64 0]) (by simp [results, Tryz.results29, go_sem, R0, R1, R2, R3, R4, R5, R6, R7]) rfl ⟨fun _ => rfl, fun h => absurd h (by rw [hk.out]; simp), ?_⟩
                  go_light
                  (repeat' (first | (with_reducible exact Below.refl _ _) | (with_reducible assumption) | (with_reducible refine Below.trans ?_ (Below.mono (by with_reducible assumption) ?_)) | (with_reducible refine Below.alloc ?_ ?_ _) | (with_reducible refine Below.setCell ?_ ?_ _) | (with_reducible refine below_drewN ?_ _) | (with_reducible refine Below.drew ?_) | go_size))
  · go_simp
    (try dsimp only)
    refine hK.out _ _ ?_ (fun hHeld => ?_)
    · exact ⟨HYA.out 0 (by omega), HYA.out 1 (by omega)⟩
    clear hK K
    (try simp only [Act.put, List.setIfInBounds_toArray, List.set_cons_zero, List.set_cons_succ, List.getElem_toArray, List.getElem_cons_succ, List.getElem_cons_zero])
    refine wpAnyH_ready (rs := [16]) (by kernel_rfl) (by simp) ?_
    refine AllReadyH.cons rfl (fun K hK => ?_) (AllReadyH.nil)
    · go_simp
      (go_at_call 60; refine (C1.out _ HYA.out).mono ?_; rintro e w' ⟨rfl, rfl⟩)
      (try dsimp only)
      refine hK.out _ _ ?_ (fun hHeld => ?_)
      · exact ⟨HYA.out 0 (by omega), HYA.out 1 (by omega)⟩
      clear hK K
      (try simp only [Act.put, List.setIfInBounds_toArray, List.set_cons_zero, List.set_cons_succ, List.getElem_toArray, List.getElem_cons_succ, List.getElem_cons_zero])
      refine wpAnyH_take (i := 17) (v := ?_) rfl (by kernel_rfl) (by kernel_rfl) (by kernel_rfl) (fun _ _ _ h => h) (Or.inl ⟨by rfl, ?_⟩) (by assumption) ?_
      rotate_left
      · intro w' hSw; (try dsimp only at hSw); go_simp; (try with_reducible rfl)
      (try simp only [Act.put, List.setIfInBounds_toArray, List.set_cons_zero, List.set_cons_succ, List.getElem_toArray, List.getElem_cons_succ, List.getElem_cons_zero])
      refine wpAnyH_ready (rs := [20]) (by kernel_rfl) (by simp) ?_
      refine AllReadyH.cons rfl (fun K hK => ?_) (AllReadyH.nil)
      · go_simp
        (go_at_call 60; refine (C2.out _ HYA.out).mono ?_; rintro e w' ⟨rfl, rfl⟩)
        (try dsimp only)
        refine hK.out _ _ ?_ (fun hHeld => ?_)
        · exact ⟨HYA.out 0 (by omega), HYA.out 1 (by omega)⟩
        clear hK K
        (try simp only [Act.put, List.setIfInBounds_toArray, List.set_cons_zero, List.set_cons_succ, List.getElem_toArray, List.getElem_cons_succ, List.getElem_cons_zero])
        refine wpAnyH_take (i := 21) (v := ?_) rfl (by kernel_rfl) (by kernel_rfl) (by kernel_rfl) (fun _ _ _ h => h) (Or.inl ⟨by rfl, ?_⟩) (by assumption) ?_
        rotate_left
        · intro w' hSw; (try dsimp only at hSw); go_simp; (try with_reducible rfl)
        (try simp only [Act.put, List.setIfInBounds_toArray, List.set_cons_zero, List.set_cons_succ, List.getElem_toArray, List.getElem_cons_succ, List.getElem_cons_zero])
        refine wpAnyH_ready (rs := [24]) (by kernel_rfl) (by simp) ?_
        refine AllReadyH.cons rfl (fun K hK => ?_) (AllReadyH.nil)
        · go_simp
          (go_at_call 60; refine (C3.out _ HYA.out).mono ?_; rintro e w' ⟨rfl, rfl⟩)
          (try dsimp only)
          refine hK.out _ _ ?_ (fun hHeld => ?_)
          · exact ⟨HYA.out 0 (by omega), HYA.out 1 (by omega)⟩
          clear hK K
          (try simp only [Act.put, List.setIfInBounds_toArray, List.set_cons_zero, List.set_cons_succ, List.getElem_toArray, List.getElem_cons_succ, List.getElem_cons_zero])
          refine wpAnyH_ready (rs := [27]) (by kernel_rfl) (by simp) ?_
          refine AllReadyH.cons rfl (fun K hK => ?_) (AllReadyH.nil)
          · go_simp
            (go_at_call 60; refine (C4.out _ HYA.out).mono ?_; rintro e w' ⟨rfl, rfl⟩)
            (try dsimp only)
            refine hK.out _ _ ?_ (fun hHeld => ?_)
            · exact ⟨HYA.out 0 (by omega), HYA.out 1 (by omega)⟩
            clear hK K
            (try simp only [Act.put, List.setIfInBounds_toArray, List.set_cons_zero, List.set_cons_succ, List.getElem_toArray, List.getElem_cons_succ, List.getElem_cons_zero])
            refine wpAnyH_ready (rs := [30]) (by kernel_rfl) (by simp) ?_
            refine AllReadyH.cons rfl (fun K hK => ?_) (AllReadyH.nil)
            · go_simp
              (go_at_call 60; refine (C5.out _ HYA.out).mono ?_; rintro e w' ⟨rfl, rfl⟩)
              (try dsimp only)
              refine hK.out _ _ ?_ (fun hHeld => ?_)
              · exact ⟨HYA.out 0 (by omega), HYA.out 1 (by omega)⟩
              clear hK K
              (try simp only [Act.put, List.setIfInBounds_toArray, List.set_cons_zero, List.set_cons_succ, List.getElem_toArray, List.getElem_cons_succ, List.getElem_cons_zero])
              refine wpAnyH_take (i := 31) (v := ?_) rfl (by kernel_rfl) (by kernel_rfl) (by kernel_rfl) (fun _ _ _ h => h) (Or.inl ⟨by rfl, ?_⟩) (by assumption) ?_
              rotate_left
              · intro w' hSw; (try dsimp only at hSw); go_simp; (try with_reducible rfl)
              (try simp only [Act.put, List.setIfInBounds_toArray, List.set_cons_zero, List.set_cons_succ, List.getElem_toArray, List.getElem_cons_succ, List.getElem_cons_zero])
              refine wpAnyH_ready (rs := [33]) (by kernel_rfl) (by simp) ?_
              refine AllReadyH.cons rfl (fun K hK => ?_) AllReadyH.nil
              go_simp
              (try dsimp only)
              refine hK.out _ _ ?_ (fun hHeld => ?_)
              · exact ⟨(World.cell?_alloc_past _ B O lB).trans (HY.out 0 (by omega)), (World.cell?_alloc_past _ B (O + 1) lB).trans (HY.out 1 (by omega))⟩
              clear hK K
              (try simp only [Act.put, List.setIfInBounds_toArray, List.set_cons_zero, List.set_cons_succ, List.getElem_toArray, List.getElem_cons_succ, List.getElem_cons_zero])
              refine wpAnyH_done (by kernel_rfl) ?_ _
              have XA := X.alloc (pkR (f 0 / 64) (f 0 % 8) (f 1) (numK (fun j => f (4 + j)) 4) (numK (fun j => f (8 + j)) 4) (numK (fun j => f (24 + j)) 8) (numK (fun j => f (32 + j)) 8) (numK (fun j => f (40 + j)) 8))
              have HBA := HB.alloc HB.size (pkR (f 0 / 64) (f 0 % 8) (f 1) (numK (fun j => f (4 + j)) 4) (numK (fun j => f (8 + j)) 4) (numK (fun j => f (24 + j)) 8) (numK (fun j => f (32 + j)) 8) (numK (fun j => f (40 + j)) 8))
              have X4 := Box8.newR V (f 0 / 64) (f 0 % 8) (f 1) (numK (fun j => f (4 + j)) 4) (numK (fun j => f (8 + j)) 4) (numK (fun j => f (24 + j)) 8) (numK (fun j => f (32 + j)) 8) (numK (fun j => f (40 + j)) 8)
              have BY : BytesAt (V.alloc (pkR (f 0 / 64) (f 0 % 8) (f 1) (numK (fun j => f (4 + j)) 4) (numK (fun j => f (8 + j)) 4) (numK (fun j => f (24 + j)) 8) (numK (fun j => f (32 + j)) 8) (numK (fun j => f (40 + j)) 8))) (some ⟨B, O, none⟩) 48 f := fun _ => ⟨B, O, rfl, by simp; omega, fun j hj => (World.cell?_alloc_past _ B (O + j) lB).trans (HY.out j hj)⟩
              have d0 := X4.c0
              have d1 := X4.c1
              have d2 := X4.c2
              have d3 := X4.c3
              have d4 := X4.c4
              have d5 := X4.c5
              have d6 := X4.c6
              have d7 := X4.c7
              have zA := HBA.size
              clear C1 C2 C3 C4 C5 w1 w2 w3 w4 w5 a7 HY HYA X HB lB
              generalize hVA : V.alloc (pkR (f 0 / 64) (f 0 % 8) (f 1) (numK (fun j => f (4 + j)) 4) (numK (fun j => f (8 + j)) 4) (numK (fun j => f (24 + j)) 8) (numK (fun j => f (32 + j)) 8) (numK (fun j => f (40 + j)) 8)) = VA at *
              generalize V.heap.size = b4 at *
              clear hVA
              cases hP : isP (f 0 / 64) (f 0 % 8) (f 1) (numK (fun j => f (4 + j)) 4) (numK (fun j => f (8 + j)) 4)
              · have CE := Lib.hid (ref6_enc_no (f 0 / 64) (f 0 % 8) (f 1) (numK (fun j => f (4 + j)) 4) (numK (fun j => f (8 + j)) 4) (numK (fun j => f (24 + j)) 8) (numK (fun j => f (32 + j)) 8) (numK (fun j => f (40 + j)) 8) VA hP)
                have hk : Hid (decOk f = false) := Lib.hid (by show (isP (f 0 / 64) (f 0 % 8) (f 1) (numK (fun j => f (4 + j)) 4) (numK (fun j => f (8 + j)) 4) && _) = false; rw [hP]; rfl)
                have XAx := XA.x
                have XAf := XA.f
                clear hP
                go_wp2_with fail
                refine CE.out.mono ?_; rintro e w2 ⟨rfl, hb2⟩
                have XB := XA.below hb2 XAx.lt
                have HB2 := HBA.trans (hb2.mono zA)
                have z2 := HB2.size
                have R := st8_cells (l' := 0) (m' := 0) (s' := 0) (d' := 0) (r' := 0) (o' := 0) (v' := 0) (t' := 0) XB.x
                obtain ⟨R0, R1, R2, R3, R4, R5, R6, R7, _⟩ := R
                obtain ⟨⟨q0, q1, q2, q3, q4, q5, q6, q7, _⟩, qf⟩ := XB
                clear hb2 d0 d1 d2 d3 d4 d5 d6 d7 XAx XAf
                go_wp2
                refine bodyPost_ret (v := .tuple #[pkV 0 0 0 0 0 0 0 0, .int .i64 3]) (by simp [results, Tryz.results29, go_sem, R0, R1, R2, R3, R4, R5, R6, R7]) rfl ⟨fun h => absurd h (by rw [hk.out]; simp), fun _ => rfl, ?_⟩
                go_light
                (repeat' (first | (with_reducible exact Below.refl _ _) | (with_reducible assumption) | (with_reducible refine Below.trans ?_ (Below.mono (by with_reducible assumption) ?_)) | (with_reducible refine Below.alloc ?_ ?_ _) | (with_reducible refine Below.setCell ?_ ?_ _) | (with_reducible refine below_drewN ?_ _) | (with_reducible refine Below.drew ?_) | go_size))
              · have CE := Lib.hid (ref6_enc_yes (f 0 / 64) (f 0 % 8) (f 1) (numK (fun j => f (4 + j)) 4) (numK (fun j => f (8 + j)) 4) (numK (fun j => f (24 + j)) 8) (numK (fun j => f (32 + j)) 8) (numK (fun j => f (40 + j)) 8) VA hP nO.1 nO.2 nV.1 nV.2 nT.1 nT.2)
                have HEB := Lib.hid (encF_byte (f 0 / 64) (f 0 % 8) (f 1) (numK (fun j => f (4 + j)) 4) (numK (fun j => f (8 + j)) 4) (numK (fun j => f (24 + j)) 8) (numK (fun j => f (32 + j)) 8) (numK (fun j => f (40 + j)) 8) hP)
                have XAx := XA.x
                have hP' : Hid (isP (dL f) (dM f) (f 1) (dD f) (dR f) = true) := Lib.hid hP
                clear hP
                go_wp2_with fail
                refine CE.out.mono ?_; rintro e w2 ⟨u, rfl, hU0, hb2⟩; obtain ⟨A7, c7, rfl, hU⟩ := BOwn.bytes (show BOwn _ _ _ n _ from by rw [hn48.out]; exact hU0); obtain ⟨g, og, rfl, _, hUc⟩ := hU (by omega)
                have XB := XA.below hb2 XAx.lt
                have X5 := X4.below hb2 X4.lt
                have BY2 := BY.below hb2
                have HB2 := HBA.trans (hb2.mono zA)
                have z2 := HB2.size
                have CV := run_strF w2 g og n c7 (encF (f 0 / 64) (f 0 % 8) (f 1) (numK (fun j => f (4 + j)) 4) (numK (fun j => f (8 + j)) 4) (numK (fun j => f (24 + j)) 8) (numK (fun j => f (32 + j)) 8) (numK (fun j => f (40 + j)) 8)) hUc (fun j hj => HEB.out j (by have := hn48.out; omega))
                have CV' := run_strF w2 B O n c f (fun j hj => by have := hn48.out; obtain ⟨B', O', e, _, q⟩ := BY2 (by omega); injection e with e; injection e with e1 e2; subst e1 e2; exact q j (by omega)) (fun j hj => HBB.out j (by have := hn48.out; omega))
                have HSL := Lib.hid (strF_lists n (encF (f 0 / 64) (f 0 % 8) (f 1) (numK (fun j => f (4 + j)) 4) (numK (fun j => f (8 + j)) 4) (numK (fun j => f (24 + j)) 8) (numK (fun j => f (32 + j)) 8) (numK (fun j => f (40 + j)) 8)) f (fun j hj => HEB.out j (by have := hn48.out; omega)) (fun j hj => HBB.out j (by have := hn48.out; omega)))
                clear hb2 d0 d1 d2 d3 d4 d5 d6 d7 XAx hU BY BY2 X4 hU0 hUc
                cases hq : eqB 48 (encF (f 0 / 64) (f 0 % 8) (f 1) (numK (fun j => f (4 + j)) 4) (numK (fun j => f (8 + j)) 4) (numK (fun j => f (24 + j)) 8) (numK (fun j => f (32 + j)) 8) (numK (fun j => f (40 + j)) 8)) 48 f
                · have hk : Hid (decOk f = false) := Lib.hid (by show (isP _ _ _ _ _ && eqB 48 (encF (f 0 / 64) (f 0 % 8) (f 1) (numK (fun j => f (4 + j)) 4) (numK (fun j => f (8 + j)) 4) (numK (fun j => f (24 + j)) 8) (numK (fun j => f (32 + j)) 8) (numK (fun j => f (40 + j)) 8)) 48 f) = false; rw [hq]; simp)
                  have hs : ¬ (strF n (encF (f 0 / 64) (f 0 % 8) (f 1) (numK (fun j => f (4 + j)) 4) (numK (fun j => f (8 + j)) 4) (numK (fun j => f (24 + j)) 8) (numK (fun j => f (32 + j)) 8) (numK (fun j => f (40 + j)) 8))).toList = (strF n f).toList := fun e => by have := HSL.out.1 e; rw [hn48.out, hq] at this; cases this
                  clear HSL
                  generalize strF n (encF (f 0 / 64) (f 0 % 8) (f 1) (numK (fun j => f (4 + j)) 4) (numK (fun j => f (8 + j)) 4) (numK (fun j => f (24 + j)) 8) (numK (fun j => f (32 + j)) 8) (numK (fun j => f (40 + j)) 8)) = s1 at *
                  generalize strF n f = s2 at *
                  have R := st8_cells (l' := 0) (m' := 0) (s' := 0) (d' := 0) (r' := 0) (o' := 0) (v' := 0) (t' := 0) XB.x
                  obtain ⟨R0, R1, R2, R3, R4, R5, R6, R7, _⟩ := R
                  obtain ⟨⟨q0, q1, q2, q3, q4, q5, q6, q7, _⟩, qf⟩ := XB
                  have hs2 : (s1.toList == s2.toList) = false := by simpa using hs
                  have hs3 : (s1.toList != s2.toList) = true := by simpa using hs
                  clear hq X5
                  go_wp2
                  refine bodyPost_ret (v := .tuple #[pkV 0 0 0 0 0 0 0 0, .int .i64 3]) (by simp [results, Tryz.results29, go_sem, R0, R1, R2, R3, R4, R5, R6, R7]) rfl ⟨fun h => absurd h (by rw [hk.out]; simp), fun _ => rfl, ?_⟩
                  go_light
                  (repeat' (first | (with_reducible exact Below.refl _ _) | (with_reducible assumption) | (with_reducible refine Below.trans ?_ (Below.mono (by with_reducible assumption) ?_)) | (with_reducible refine Below.alloc ?_ ?_ _) | (with_reducible refine Below.setCell ?_ ?_ _) | (with_reducible refine below_drewN ?_ _) | (with_reducible refine Below.drew ?_) | go_size))
                · have hk : Hid (decOk f = true) := Lib.hid (by show (isP (dL f) (dM f) (f 1) (dD f) (dR f) && eqB 48 (encF (f 0 / 64) (f 0 % 8) (f 1) (numK (fun j => f (4 + j)) 4) (numK (fun j => f (8 + j)) 4) (numK (fun j => f (24 + j)) 8) (numK (fun j => f (32 + j)) 8) (numK (fun j => f (40 + j)) 8)) 48 f) = true; rw [hq, hP'.out]; rfl)
                  have hs : (strF n (encF (f 0 / 64) (f 0 % 8) (f 1) (numK (fun j => f (4 + j)) 4) (numK (fun j => f (8 + j)) 4) (numK (fun j => f (24 + j)) 8) (numK (fun j => f (32 + j)) 8) (numK (fun j => f (40 + j)) 8))).toList = (strF n f).toList := HSL.out.2 (by rw [hn48.out]; exact hq)
                  clear HSL
                  generalize strF n (encF (f 0 / 64) (f 0 % 8) (f 1) (numK (fun j => f (4 + j)) 4) (numK (fun j => f (8 + j)) 4) (numK (fun j => f (24 + j)) 8) (numK (fun j => f (32 + j)) 8) (numK (fun j => f (40 + j)) 8)) = s1 at *
                  generalize strF n f = s2 at *
                  have R := st8_cells (l' := f 0 / 64) (m' := f 0 % 8) (s' := f 1) (d' := numK (fun j => f (4 + j)) 4) (r' := numK (fun j => f (8 + j)) 4) (o' := numK (fun j => f (24 + j)) 8) (v' := numK (fun j => f (32 + j)) 8) (t' := numK (fun j => f (40 + j)) 8) XB.x
                  obtain ⟨R0, R1, R2, R3, R4, R5, R6, R7, _⟩ := R
                  obtain ⟨⟨q0, q1, q2, q3, q4, q5, q6, q7, _⟩, qf⟩ := XB
                  obtain ⟨e0, e1, e2, e3, e4, e5, e6, e7, _⟩ := X5
                  have hs2 : (s1.toList == s2.toList) = true := by simpa using hs
                  have hs3 : (s1.toList != s2.toList) = false := by simpa using hs
                  clear hq
                  go_wp2
                  refine bodyPost_ret (v := .tuple #[pkV (f 0 / 64) (f 0 % 8) (f 1) (numK (fun j => f (4 + j)) 4) (numK (fun j => f (8 + j)) 4) (numK (fun j => f (24 + j)) 8) (numK (fun j => f (32 + j)) 8) (numK (fun j => f (40 + j)) 8), .int .i64 0]) (by simp [results, Tryz.results29, go_sem, R0, R1, R2, R3, R4, R5, R6, R7]) rfl ⟨fun _ => rfl, fun h => absurd h (by rw [hk.out]; simp), ?_⟩
                  go_light
                  (repeat' (first | (with_reducible exact Below.refl _ _) | (with_reducible assumption) | (with_reducible refine Below.trans ?_ (Below.mono (by with_reducible assumption) ?_)) | (with_reducible refine Below.alloc ?_ ?_ _) | (with_reducible refine Below.setCell ?_ ?_ _) | (with_reducible refine below_drewN ?_ _) | (with_reducible refine Below.drew ?_) | go_size))
end Go.Proofs.YtepdnkpmkhjlgaaGreat
