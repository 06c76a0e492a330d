/- packet.Decode (written by gen/pkdec.py). -/
import Derived.Test.YtepdnkpmkhjlgaaGreatM9H
import Derived.BigGuard
import Derived.BigGuardPart
import Derived.BigCall
set_option linter.unusedSimpArgs false
set_option linter.unusedVariables false
namespace Go.Proofs.YtepdnkpmkhjlgaaGreat
open Go.RowKit

theorem and7 (x : Int) (h0 : 0 ≤ x) (h1 : x ≤ 255) : bits .and .u8 x 7 = x % 8 := by
  obtain ⟨n, rfl⟩ := Int.eq_ofNat_of_zero_le h0
  have : ∀ n : Fin 256, bits .and .u8 (n.val : Int) 7 = (n.val : Int) % 8 := by decide +kernel
  exact this ⟨n, by omega⟩
/-- A packet in a block that may be written. -/
structure W8 (w : World) (b : Nat) (l m s d r o v t : Int) : Prop where
  x : Box8 w b l m s d r o v t
  f : ∀ j, w.frozen? ⟨b, j, none⟩ = false
theorem W8.below {w w' : World} {b B : Nat} {l m s d r o v t : Int} (h : W8 w b l m s d r o v t) (k : Below B w w') (hn : b < B) : W8 w' b l m s d r o v t := ⟨h.x.below k hn, fun j => (k.frozen (p := ⟨b, j, none⟩) hn).trans (h.f j)⟩
theorem W8.alloc {w : World} {b : Nat} {l m s d r o v t : Int} (h : W8 w b l m s d r o v t) (y : Obj) : W8 (w.alloc y) b l m s d r o v t := h.below ((Below.refl _ _).alloc (Nat.le_refl _) y) h.x.lt
theorem W8.drew {w : World} {b : Nat} {l m s d r o v t : Int} (h : W8 w b l m s d r o v t) : W8 w.drew b l m s d r o v t := ⟨h.x.drew, h.f⟩
theorem W8.new (w : World) (l m s d r o v t : Int) : W8 (w.alloc (pkO l m s d r o v t)) w.heap.size l m s d r o v t := ⟨Box8.new w l m s d r o v t, fun j => by simp⟩
abbrev st8 (w : World) (b : Nat) (l m s d r o v t : Int) : World :=
  (((((((w.setCell ⟨b, 0, none⟩ (.int .i64 l)).setCell ⟨b, 1, none⟩ (.int .i64 m)).setCell ⟨b, 2, none⟩ (.int .i64 s)).setCell ⟨b, 3, none⟩ (.int .i64 d)).setCell ⟨b, 4, none⟩ (.int .i64 r)).setCell ⟨b, 5, none⟩ (.int .u64 o)).setCell ⟨b, 6, none⟩ (.int .u64 v)).setCell ⟨b, 7, none⟩ (.int .u64 t)
theorem st8_cells {w : World} {b : Nat} {l m s d r o v t l' m' s' d' r' o' v' t' : Int} (h : Box8 w b l m s d r o v t) : Box8 (st8 w b l' m' s' d' r' o' v' t') b l' m' s' d' r' o' v' t' := by
  obtain ⟨c0, c1, c2, c3, c4, c5, c6, c7, lt⟩ := h
  have ne : ∀ {i j : Nat}, i ≠ j → (⟨b, j, none⟩ : Addr) ≠ ⟨b, i, none⟩ := fun hij e => hij (by injection e with _ e2; exact e2.symm)
  constructor
  all_goals first | (simp [st8, World.setCell] <;> exact lt) | skip
  · rw [World.cell?_setCell_other _ _ _ _ (by simp)]; rw [World.cell?_setCell_other _ _ _ _ (by simp)]; rw [World.cell?_setCell_other _ _ _ _ (by simp)]; rw [World.cell?_setCell_other _ _ _ _ (by simp)]; rw [World.cell?_setCell_other _ _ _ _ (by simp)]; rw [World.cell?_setCell_other _ _ _ _ (by simp)]; rw [World.cell?_setCell_other _ _ _ _ (by simp)]; exact World.cell?_setCell_same _ _ _ (c0)
  · rw [World.cell?_setCell_other _ _ _ _ (by simp)]; rw [World.cell?_setCell_other _ _ _ _ (by simp)]; rw [World.cell?_setCell_other _ _ _ _ (by simp)]; rw [World.cell?_setCell_other _ _ _ _ (by simp)]; rw [World.cell?_setCell_other _ _ _ _ (by simp)]; rw [World.cell?_setCell_other _ _ _ _ (by simp)]; exact World.cell?_setCell_same _ _ _ ((World.cell?_setCell_other _ _ _ _ (by simp)).trans (c1))
  · rw [World.cell?_setCell_other _ _ _ _ (by simp)]; rw [World.cell?_setCell_other _ _ _ _ (by simp)]; rw [World.cell?_setCell_other _ _ _ _ (by simp)]; rw [World.cell?_setCell_other _ _ _ _ (by simp)]; rw [World.cell?_setCell_other _ _ _ _ (by simp)]; exact World.cell?_setCell_same _ _ _ ((World.cell?_setCell_other _ _ _ _ (by simp)).trans ((World.cell?_setCell_other _ _ _ _ (by simp)).trans (c2)))
  · rw [World.cell?_setCell_other _ _ _ _ (by simp)]; rw [World.cell?_setCell_other _ _ _ _ (by simp)]; rw [World.cell?_setCell_other _ _ _ _ (by simp)]; rw [World.cell?_setCell_other _ _ _ _ (by simp)]; exact World.cell?_setCell_same _ _ _ ((World.cell?_setCell_other _ _ _ _ (by simp)).trans ((World.cell?_setCell_other _ _ _ _ (by simp)).trans ((World.cell?_setCell_other _ _ _ _ (by simp)).trans (c3))))
  · rw [World.cell?_setCell_other _ _ _ _ (by simp)]; rw [World.cell?_setCell_other _ _ _ _ (by simp)]; rw [World.cell?_setCell_other _ _ _ _ (by simp)]; exact World.cell?_setCell_same _ _ _ ((World.cell?_setCell_other _ _ _ _ (by simp)).trans ((World.cell?_setCell_other _ _ _ _ (by simp)).trans ((World.cell?_setCell_other _ _ _ _ (by simp)).trans ((World.cell?_setCell_other _ _ _ _ (by simp)).trans (c4)))))
  · rw [World.cell?_setCell_other _ _ _ _ (by simp)]; rw [World.cell?_setCell_other _ _ _ _ (by simp)]; exact World.cell?_setCell_same _ _ _ ((World.cell?_setCell_other _ _ _ _ (by simp)).trans ((World.cell?_setCell_other _ _ _ _ (by simp)).trans ((World.cell?_setCell_other _ _ _ _ (by simp)).trans ((World.cell?_setCell_other _ _ _ _ (by simp)).trans ((World.cell?_setCell_other _ _ _ _ (by simp)).trans (c5))))))
  · rw [World.cell?_setCell_other _ _ _ _ (by simp)]; exact World.cell?_setCell_same _ _ _ ((World.cell?_setCell_other _ _ _ _ (by simp)).trans ((World.cell?_setCell_other _ _ _ _ (by simp)).trans ((World.cell?_setCell_other _ _ _ _ (by simp)).trans ((World.cell?_setCell_other _ _ _ _ (by simp)).trans ((World.cell?_setCell_other _ _ _ _ (by simp)).trans ((World.cell?_setCell_other _ _ _ _ (by simp)).trans (c6)))))))
  · exact World.cell?_setCell_same _ _ _ ((World.cell?_setCell_other _ _ _ _ (by simp)).trans ((World.cell?_setCell_other _ _ _ _ (by simp)).trans ((World.cell?_setCell_other _ _ _ _ (by simp)).trans ((World.cell?_setCell_other _ _ _ _ (by simp)).trans ((World.cell?_setCell_other _ _ _ _ (by simp)).trans ((World.cell?_setCell_other _ _ _ _ (by simp)).trans ((World.cell?_setCell_other _ _ _ _ (by simp)).trans (c7))))))))
set_option maxHeartbeats 2000000 in
theorem pk_dec_len (A : Option Addr) (n c : Nat) (w : World) (hn : n ≤ maxLen) (h : n ≠ 48) :
    Calls Tryz.prog 39 #[.slice A n c] w fun e w' => e = .returned (.tuple #[pkV 0 0 0 0 0 0 0 0, .int .i64 (if n < 48 then 2 else 5)]) ∧ Below w.heap.size w w' := by
  have X := W8.new w 0 0 0 0 0 0 0 0
  unfold maxLen at hn
  have HR := Lib.hid (st8_cells (l' := 0) (m' := 0) (s' := 0) (d' := 0) (r' := 0) (o' := 0) (v' := 0) (t' := 0) X.x)
  rcases Nat.lt_or_ge n 48 with hl | hg
  · rw [if_pos hl]
    have h1 : decide ((n : Int) < 48) = true := by simp; omega
    clear X
    go_enter Tryz.func39, Tryz.ntmps39
    go_wp2
    refine bodyPost_ret (v := .tuple #[pkV 0 0 0 0 0 0 0 0, .int .i64 2]) (by simp [results, Tryz.results39, go_sem]) rfl ⟨rfl, ?_⟩
    go_light
    (repeat' (first | (with_reducible exact Below.refl _ _) | (with_reducible assumption) | (with_reducible refine Below.trans ?_ (Below.mono (by with_reducible assumption) ?_)) | (with_reducible refine Below.alloc ?_ ?_ _) | (with_reducible refine Below.setCell ?_ ?_ _) | (with_reducible refine below_drewN ?_ _) | (with_reducible refine Below.drew ?_) | go_size))
  · rw [if_neg (by omega)]
    have h1 : decide ((n : Int) < 48) = false := by simp; omega
    have h2 : decide ((48 : Int) < (n : Int)) = true := by simp; omega
    clear X
    go_enter Tryz.func39, Tryz.ntmps39
    go_wp2
    refine bodyPost_ret (v := .tuple #[pkV 0 0 0 0 0 0 0 0, .int .i64 5]) (by simp [results, Tryz.results39, go_sem]) rfl ⟨rfl, ?_⟩
    go_light
    (repeat' (first | (with_reducible exact Below.refl _ _) | (with_reducible assumption) | (with_reducible refine Below.trans ?_ (Below.mono (by with_reducible assumption) ?_)) | (with_reducible refine Below.alloc ?_ ?_ _) | (with_reducible refine Below.setCell ?_ ?_ _) | (with_reducible refine below_drewN ?_ _) | (with_reducible refine Below.drew ?_) | go_size))
/-- What 48 bytes tell: the fields. -/
def dL (f : Nat → Int) : Int := f 0 / 64
def dM (f : Nat → Int) : Int := f 0 % 8
def dD (f : Nat → Int) : Int := numK (fun j => f (4 + j)) 4
def dR (f : Nat → Int) : Int := numK (fun j => f (8 + j)) 4
def dO (f : Nat → Int) : Int := numK (fun j => f (24 + j)) 8
def dV (f : Nat → Int) : Int := numK (fun j => f (32 + j)) 8
def dT (f : Nat → Int) : Int := numK (fun j => f (40 + j)) 8
/-- Are these bytes a packet's? -/
def decOk (f : Nat → Int) : Bool := isP (dL f) (dM f) (f 1) (dD f) (dR f) && eqB 48 (encF (dL f) (dM f) (f 1) (dD f) (dR f) (dO f) (dV f) (dT f)) 48 f
theorem encF_byte (l m s d r o v t : Int) (h : isP l m s d r = true) (j : Nat) (hj : j < 48) : 0 ≤ encF l m s d r o v t j ∧ encF l m s d r o v t j ≤ 255 := by
  have b := isP_bd h
  unfold encF layF upd8
  repeat' split
  all_goals ((try dsimp only); constructor <;> omega)
set_option maxRecDepth 100000 in
set_option maxHeartbeats 8000000 in
theorem pk_dec (B O c : Nat) (f : Nat → Int) (w : World) (hB : B < w.heap.size) (h : ∀ j, j < 48 → w.cell? ⟨B, O + j, none⟩ = some (.int .u8 (f j))) (hb : ∀ j, j < 48 → 0 ≤ f j ∧ f j ≤ 255) (hc : 48 ≤ c) :
    Calls Tryz.prog 39 #[.slice (some ⟨B, O, none⟩) 48 c] w fun e w' => (decOk f = true → e = .returned (.tuple #[pkV (dL f) (dM f) (f 1) (dD f) (dR f) (dO f) (dV f) (dT f), .int .i64 0])) ∧ (decOk f = false → e = .returned (.tuple #[pkV 0 0 0 0 0 0 0 0, .int .i64 3])) ∧ Below w.heap.size w w' := by
  have hb0 := hb 0 (by omega)
  have hb1 := hb 1 (by omega)
  have a7 := and7 (f 0) hb0.1 hb0.2
  have nD : 0 ≤ dD f ∧ dD f < 4294967296 := numK_bd _ 4 (fun j hj => hb (4 + j) (by omega))
  have nR : 0 ≤ dR f ∧ dR f < 4294967296 := numK_bd _ 4 (fun j hj => hb (8 + j) (by omega))
  have nO : 0 ≤ dO f ∧ dO f < 18446744073709551616 := numK_bd _ 8 (fun j hj => hb (24 + j) (by omega))
  have nV : 0 ≤ dV f ∧ dV f < 18446744073709551616 := numK_bd _ 8 (fun j hj => hb (32 + j) (by omega))
  have nT : 0 ≤ dT f ∧ dT f < 18446744073709551616 := numK_bd _ 8 (fun j hj => hb (40 + j) (by omega))
  have X0 := Lib.hid (W8.new w 0 0 0 0 0 0 0 0)
  have HB0 : Hid (Below w.heap.size w (w.alloc (pkO 0 0 0 0 0 0 0 0))) := Lib.hid (by (repeat' (first | (with_reducible exact Below.refl _ _) | (with_reducible assumption) | (with_reducible refine Below.trans ?_ (Below.mono (by with_reducible assumption) ?_)) | (with_reducible refine Below.alloc ?_ ?_ _) | (with_reducible refine Below.setCell ?_ ?_ _) | (with_reducible refine below_drewN ?_ _) | (with_reducible refine Below.drew ?_) | go_size)))
  have Y0 : ∀ j, j < 48 → (w.alloc (pkO 0 0 0 0 0 0 0 0)).cell? ⟨B, O + j, none⟩ = some (.int .u8 (f j)) := fun j hj => (World.cell?_alloc_past _ B (O + j) hB).trans (h j hj)
  have HY0 := Lib.hid Y0
  have HBB := Lib.hid hb
  have C1 := Lib.hid (fun (W : World) (hh : ∀ j, j < 48 → W.cell? ⟨B, O + j, none⟩ = some (.int .u8 (f j))) => pk_take B (O + 4) 4 (c - 4) (fun j => f (4 + j)) W (fun j hj => by have := hh (4 + j) (by omega); rwa [← Nat.add_assoc] at this) (fun j hj => hb (4 + j) (by omega)) (by omega))
  have C2 := Lib.hid (fun (W : World) (hh : ∀ j, j < 48 → W.cell? ⟨B, O + j, none⟩ = some (.int .u8 (f j))) => pk_take B (O + 8) 4 (c - 8) (fun j => f (8 + j)) W (fun j hj => by have := hh (8 + j) (by omega); rwa [← Nat.add_assoc] at this) (fun j hj => hb (8 + j) (by omega)) (by omega))
  have C3 := Lib.hid (fun (W : World) (hh : ∀ j, j < 48 → W.cell? ⟨B, O + j, none⟩ = some (.int .u8 (f j))) => pk_take B (O + 24) 8 (c - 24) (fun j => f (24 + j)) W (fun j hj => by have := hh (24 + j) (by omega); rwa [← Nat.add_assoc] at this) (fun j hj => hb (24 + j) (by omega)) (by omega))
  have C4 := Lib.hid (fun (W : World) (hh : ∀ j, j < 48 → W.cell? ⟨B, O + j, none⟩ = some (.int .u8 (f j))) => pk_take B (O + 32) 8 (c - 32) (fun j => f (32 + j)) W (fun j hj => by have := hh (32 + j) (by omega); rwa [← Nat.add_assoc] at this) (fun j hj => hb (32 + j) (by omega)) (by omega))
  have C5 := Lib.hid (fun (W : World) (hh : ∀ j, j < 48 → W.cell? ⟨B, O + j, none⟩ = some (.int .u8 (f j))) => pk_take B (O + 40) 8 (c - 40) (fun j => f (40 + j)) W (fun j hj => by have := hh (40 + j) (by omega); rwa [← Nat.add_assoc] at this) (fun j hj => hb (40 + j) (by omega)) (by omega))
  have hc4 : (4 : Int) ≤ (c : Int) := by omega
  have hc8 : (8 : Int) ≤ (c : Int) := by omega
  have hc12 : (12 : Int) ≤ (c : Int) := by omega
  have hc24 : (24 : Int) ≤ (c : Int) := by omega
  have hc32 : (32 : Int) ≤ (c : Int) := by omega
  have hc40 : (40 : Int) ≤ (c : Int) := by omega
  have hc48 : (48 : Int) ≤ (c : Int) := by omega
  have cn4 : ¬ c = 4 := by omega
  have cn8 : ¬ c = 8 := by omega
  have cn24 : ¬ c = 24 := by omega
  have cn32 : ¬ c = 32 := by omega
  have cn40 : ¬ c = 40 := by omega
  have w1 : IntKind.i64.wrap (f 0 / 64) = f 0 / 64 := IntWalk.i64_in _ (by omega)
  have w2 : IntKind.i64.wrap (f 0 % 8) = f 0 % 8 := IntWalk.i64_in _ (by omega)
  have w3 : IntKind.i64.wrap (f 1) = f 1 := IntWalk.i64_in _ (by omega)
  have w4 : IntKind.i64.wrap (numK (fun j => f (4 + j)) 4) = numK (fun j => f (4 + j)) 4 := IntWalk.i64_in _ (by have := nD; unfold dD at this; omega)
  have w5 : IntKind.i64.wrap (numK (fun j => f (8 + j)) 4) = numK (fun j => f (8 + j)) 4 := IntWalk.i64_in _ (by have := nR; unfold dR at this; omega)
  clear h hb Y0
  go_enter Tryz.func39, Tryz.ntmps39
  go_wp2_with fail
  refine wp_region_held_drew (S := fun w' => w'.cell? ⟨B, O, none⟩ = some (.int .u8 (f 0)) ∧ w'.cell? ⟨B, O + 1, none⟩ = some (.int .u8 (f 1))) (by kernel_rfl) ?_ (fun hHeld => ?_)
  · exact ⟨HY0.out 0 (by omega), HY0.out 1 (by omega)⟩
  have X := X0.out.drew
  have HB := HB0.out.drew
  have HY : Hid (∀ j, j < 48 → (w.alloc (pkO 0 0 0 0 0 0 0 0)).drew.cell? ⟨B, O + j, none⟩ = some (.int .u8 (f j))) := HY0
  have lB : B < (w.alloc (pkO 0 0 0 0 0 0 0 0)).drew.heap.size := by show B < (w.alloc (pkO 0 0 0 0 0 0 0 0)).heap.size; simp; omega
  generalize (w.alloc (pkO 0 0 0 0 0 0 0 0)).drew = V at *
  clear X0 HB0 HY0
  have HYA : Hid (∀ j, j < 48 → (V.alloc (pkO 0 0 0 0 0 0 0 0)).cell? ⟨B, O + j, none⟩ = some (.int .u8 (f j))) := Lib.hid (fun j hj => (World.cell?_alloc_past _ B (O + j) lB).trans (HY.out j hj))
  refine wpAnyH_take (i := 0) (v := ?_) rfl (by kernel_rfl) (by kernel_rfl) (by kernel_rfl) (fun _ _ _ h => h) (Or.inl ⟨by rfl, ?_⟩) (by assumption) ?_
  rotate_left
  · intro w' hSw; (try dsimp only at hSw); go_simp; (try with_reducible rfl)
  (try simp only [Act.put, List.setIfInBounds_toArray, List.set_cons_zero, List.set_cons_succ, List.getElem_toArray, List.getElem_cons_succ, List.getElem_cons_zero])
  refine wpAnyH_take (i := 1) (v := ?_) rfl (by kernel_rfl) (by kernel_rfl) (by kernel_rfl) (fun _ _ _ h => h) (Or.inl ⟨by rfl, ?_⟩) (by assumption) ?_
  rotate_left
  · intro w' hSw; (try dsimp only at hSw); go_simp; (try with_reducible rfl)
  (try simp only [Act.put, List.setIfInBounds_toArray, List.set_cons_zero, List.set_cons_succ, List.getElem_toArray, List.getElem_cons_succ, List.getElem_cons_zero])
  refine wpAnyH_take (i := 2) (v := ?_) rfl (by kernel_rfl) (by kernel_rfl) (by kernel_rfl) (fun _ _ _ h => h) (Or.inl ⟨by rfl, ?_⟩) (by assumption) ?_
  rotate_left
  · intro w' hSw; (try dsimp only at hSw); go_simp; (try with_reducible rfl)
  (try simp only [Act.put, List.setIfInBounds_toArray, List.set_cons_zero, List.set_cons_succ, List.getElem_toArray, List.getElem_cons_succ, List.getElem_cons_zero])
  refine wpAnyH_take (i := 3) (v := ?_) rfl (by kernel_rfl) (by kernel_rfl) (by kernel_rfl) (fun _ _ _ h => h) (Or.inl ⟨by rfl, ?_⟩) (by assumption) ?_
  rotate_left
  · intro w' hSw; (try dsimp only at hSw); go_simp; (try with_reducible rfl)
  (try simp only [Act.put, List.setIfInBounds_toArray, List.set_cons_zero, List.set_cons_succ, List.getElem_toArray, List.getElem_cons_succ, List.getElem_cons_zero])
  refine wpAnyH_take (i := 4) (v := ?_) rfl (by kernel_rfl) (by kernel_rfl) (by kernel_rfl) (fun _ _ _ h => h) (Or.inl ⟨by rfl, ?_⟩) (by assumption) ?_
  rotate_left
  · intro w' hSw; (try dsimp only at hSw); go_simp; (try with_reducible rfl)
  (try simp only [Act.put, List.setIfInBounds_toArray, List.set_cons_zero, List.set_cons_succ, List.getElem_toArray, List.getElem_cons_succ, List.getElem_cons_zero])
  refine wpAnyH_take (i := 5) (v := ?_) rfl (by kernel_rfl) (by kernel_rfl) (by kernel_rfl) (fun _ _ _ h => h) (Or.inl ⟨by rfl, ?_⟩) (by assumption) ?_
  rotate_left
  · intro w' hSw; (try dsimp only at hSw); go_simp; (try with_reducible rfl)
  (try simp only [Act.put, List.setIfInBounds_toArray, List.set_cons_zero, List.set_cons_succ, List.getElem_toArray, List.getElem_cons_succ, List.getElem_cons_zero])
  refine wpAnyH_take (i := 6) (v := ?_) rfl (by kernel_rfl) (by kernel_rfl) (by kernel_rfl) (fun _ _ _ h => h) (Or.inl ⟨by rfl, ?_⟩) (by assumption) ?_
  rotate_left
  · intro w' hSw; (try dsimp only at hSw); go_simp; (try with_reducible rfl)
  (try simp only [Act.put, List.setIfInBounds_toArray, List.set_cons_zero, List.set_cons_succ, List.getElem_toArray, List.getElem_cons_succ, List.getElem_cons_zero])
  refine wpAnyH_take (i := 7) (v := ?_) rfl (by kernel_rfl) (by kernel_rfl) (by kernel_rfl) (fun _ _ _ h => h) (Or.inl ⟨by rfl, ?_⟩) (by assumption) ?_
  rotate_left
  · intro w' hSw; (try dsimp only at hSw); go_simp; (try with_reducible rfl)
  (try simp only [Act.put, List.setIfInBounds_toArray, List.set_cons_zero, List.set_cons_succ, List.getElem_toArray, List.getElem_cons_succ, List.getElem_cons_zero])
  refine wpAnyH_take (i := 8) (v := ?_) rfl (by kernel_rfl) (by kernel_rfl) (by kernel_rfl) (fun _ _ _ h => h) (Or.inl ⟨by rfl, ?_⟩) (by assumption) ?_
  rotate_left
  · intro w' hSw; (try dsimp only at hSw); go_simp; (try with_reducible rfl)
  (try simp only [Act.put, List.setIfInBounds_toArray, List.set_cons_zero, List.set_cons_succ, List.getElem_toArray, List.getElem_cons_succ, List.getElem_cons_zero])
  refine wpAnyH_take (i := 9) (v := ?_) rfl (by kernel_rfl) (by kernel_rfl) (by kernel_rfl) (fun _ _ _ h => h) (Or.inl ⟨by rfl, ?_⟩) (by assumption) ?_
  rotate_left
  · intro w' hSw; (try dsimp only at hSw); go_simp; (try with_reducible rfl)
  (try simp only [Act.put, List.setIfInBounds_toArray, List.set_cons_zero, List.set_cons_succ, List.getElem_toArray, List.getElem_cons_succ, List.getElem_cons_zero])
  refine wpAnyH_take (i := 10) (v := ?_) rfl (by kernel_rfl) (by kernel_rfl) (by kernel_rfl) (fun _ _ _ h => h) (Or.inl ⟨by rfl, ?_⟩) (by assumption) ?_
  rotate_left
  · intro w' hSw; (try dsimp only at hSw); go_simp; (try with_reducible rfl)
  (try simp only [Act.put, List.setIfInBounds_toArray, List.set_cons_zero, List.set_cons_succ, List.getElem_toArray, List.getElem_cons_succ, List.getElem_cons_zero])
  refine wpAnyH_take (i := 11) (v := ?_) rfl (by kernel_rfl) (by kernel_rfl) (by kernel_rfl) (fun _ _ _ h => h) (Or.inl ⟨by rfl, ?_⟩) (by assumption) ?_
  rotate_left
  · intro w' hSw; (try dsimp only at hSw); go_simp; (try with_reducible rfl)
  (try simp only [Act.put, List.setIfInBounds_toArray, List.set_cons_zero, List.set_cons_succ, List.getElem_toArray, List.getElem_cons_succ, List.getElem_cons_zero])
  refine wpAnyH_take (i := 12) (v := ?_) rfl (by kernel_rfl) (by kernel_rfl) (by kernel_rfl) (fun _ _ _ h => h) (Or.inl ⟨by rfl, ?_⟩) (by assumption) ?_
  rotate_left
  · intro w' hSw; (try dsimp only at hSw); go_simp; (try with_reducible rfl)
  (try simp only [Act.put, List.setIfInBounds_toArray, List.set_cons_zero, List.set_cons_succ, List.getElem_toArray, List.getElem_cons_succ, List.getElem_cons_zero])
  refine wpAnyH_take (i := 13) (v := ?_) rfl (by kernel_rfl) (by kernel_rfl) (by kernel_rfl) (fun _ _ _ h => h) (Or.inl ⟨by rfl, ?_⟩) (by assumption) ?_
  rotate_left
  · intro w' hSw; (try dsimp only at hSw); go_simp; (try with_reducible rfl)
  (try simp only [Act.put, List.setIfInBounds_toArray, List.set_cons_zero, List.set_cons_succ, List.getElem_toArray, List.getElem_cons_succ, List.getElem_cons_zero])
  refine wpAnyH_take (i := 14) (v := ?_) rfl (by kernel_rfl) (by kernel_rfl) (by kernel_rfl) (fun _ _ _ h => h) (Or.inl ⟨by rfl, ?_⟩) (by assumption) ?_
  rotate_left
  · intro w' hSw; (try dsimp only at hSw); go_simp; (try with_reducible rfl)
  (try simp only [Act.put, List.setIfInBounds_toArray, List.set_cons_zero, List.set_cons_succ, List.getElem_toArray, List.getElem_cons_succ, List.getElem_cons_zero])
  refine wpAnyH_take (i := 15) (v := ?_) rfl (by kernel_rfl) (by kernel_rfl) (by kernel_rfl) (fun _ _ _ h => h) (Or.inl ⟨by rfl, ?_⟩) (by assumption) ?_
  rotate_left
  · intro w' hSw; (try dsimp only at hSw); go_simp; (try with_reducible rfl)
  (try simp only [Act.put, List.setIfInBounds_toArray, List.set_cons_zero, List.set_cons_succ, List.getElem_toArray, List.getElem_cons_succ, List.getElem_cons_zero])
  refine wpAnyH_take (i := 18) (v := ?_) rfl (by kernel_rfl) (by kernel_rfl) (by kernel_rfl) (fun _ _ _ h => h) (Or.inl ⟨by rfl, ?_⟩) (by assumption) ?_
  rotate_left
  · intro w' hSw; (try dsimp only at hSw); go_simp; (try with_reducible rfl)
  (try simp only [Act.put, List.setIfInBounds_toArray, List.set_cons_zero, List.set_cons_succ, List.getElem_toArray, List.getElem_cons_succ, List.getElem_cons_zero])
  refine wpAnyH_take (i := 19) (v := ?_) rfl (by kernel_rfl) (by kernel_rfl) (by kernel_rfl) (fun _ _ _ h => h) (Or.inl ⟨by rfl, ?_⟩) (by assumption) ?_
  rotate_left
  · intro w' hSw; (try dsimp only at hSw); go_simp; (try with_reducible rfl)
  (try simp only [Act.put, List.setIfInBounds_toArray, List.set_cons_zero, List.set_cons_succ, List.getElem_toArray, List.getElem_cons_succ, List.getElem_cons_zero])
  refine wpAnyH_take (i := 22) (v := ?_) rfl (by kernel_rfl) (by kernel_rfl) (by kernel_rfl) (fun _ _ _ h => h) (Or.inl ⟨by rfl, ?_⟩) (by assumption) ?_
  rotate_left
  · intro w' hSw; (try dsimp only at hSw); go_simp; (try with_reducible rfl)
  (try simp only [Act.put, List.setIfInBounds_toArray, List.set_cons_zero, List.set_cons_succ, List.getElem_toArray, List.getElem_cons_succ, List.getElem_cons_zero])
  refine wpAnyH_take (i := 23) (v := ?_) rfl (by kernel_rfl) (by kernel_rfl) (by kernel_rfl) (fun _ _ _ h => h) (Or.inl ⟨by rfl, ?_⟩) (by assumption) ?_
  rotate_left
  · intro w' hSw; (try dsimp only at hSw); go_simp; (try with_reducible rfl)
  (try simp only [Act.put, List.setIfInBounds_toArray, List.set_cons_zero, List.set_cons_succ, List.getElem_toArray, List.getElem_cons_succ, List.getElem_cons_zero])
  refine wpAnyH_take (i := 25) (v := ?_) rfl (by kernel_rfl) (by kernel_rfl) (by kernel_rfl) (fun _ _ _ h => h) (Or.inl ⟨by rfl, ?_⟩) (by assumption) ?_
  rotate_left
  · intro w' hSw; (try dsimp only at hSw); go_simp; (try with_reducible rfl)
  (try simp only [Act.put, List.setIfInBounds_toArray, List.set_cons_zero, List.set_cons_succ, List.getElem_toArray, List.getElem_cons_succ, List.getElem_cons_zero])
  refine wpAnyH_take (i := 26) (v := ?_) rfl (by kernel_rfl) (by kernel_rfl) (by kernel_rfl) (fun _ _ _ h => h) (Or.inl ⟨by rfl, ?_⟩) (by assumption) ?_
  rotate_left
  · intro w' hSw; (try dsimp only at hSw); go_simp; (try with_reducible rfl)
  (try simp only [Act.put, List.setIfInBounds_toArray, List.set_cons_zero, List.set_cons_succ, List.getElem_toArray, List.getElem_cons_succ, List.getElem_cons_zero])
  refine wpAnyH_take (i := 28) (v := ?_) rfl (by kernel_rfl) (by kernel_rfl) (by kernel_rfl) (fun _ _ _ h => h) (Or.inl ⟨by rfl, ?_⟩) (by assumption) ?_
  rotate_left
  · intro w' hSw; (try dsimp only at hSw); go_simp; (try with_reducible rfl)
  (try simp only [Act.put, List.setIfInBounds_toArray, List.set_cons_zero, List.set_cons_succ, List.getElem_toArray, List.getElem_cons_succ, List.getElem_cons_zero])
  refine wpAnyH_take (i := 29) (v := ?_) rfl (by kernel_rfl) (by kernel_rfl) (by kernel_rfl) (fun _ _ _ h => h) (Or.inl ⟨by rfl, ?_⟩) (by assumption) ?_
  rotate_left
  · intro w' hSw; (try dsimp only at hSw); go_simp; (try with_reducible rfl)
  (try simp only [Act.put, List.setIfInBounds_toArray, List.set_cons_zero, List.set_cons_succ, List.getElem_toArray, List.getElem_cons_succ, List.getElem_cons_zero])
  refine wpAnyH_ready (rs := [16, 32]) (by kernel_rfl) (by simp) ?_
  refine AllReadyH.cons rfl (fun K hK => ?_) (AllReadyH.cons rfl (fun K hK => ?_) (AllReadyH.nil))
  · go_simp
    (go_at_call 65; refine (C1.out _ HY.out).mono ?_; rintro e w' ⟨rfl, rfl⟩)
    (try dsimp only)
    refine hK.out _ _ ?_ (fun hHeld => ?_)
    · exact ⟨HY.out 0 (by omega), HY.out 1 (by omega)⟩
    clear hK K
    (try simp only [Act.put, List.setIfInBounds_toArray, List.set_cons_zero, List.set_cons_succ, List.getElem_toArray, List.getElem_cons_succ, List.getElem_cons_zero])
    refine wpAnyH_take (i := 17) (v := ?_) rfl (by kernel_rfl) (by kernel_rfl) (by kernel_rfl) (fun _ _ _ h => h) (Or.inl ⟨by rfl, ?_⟩) (by assumption) ?_
    rotate_left
    · intro w' hSw; (try dsimp only at hSw); go_simp; (try with_reducible rfl)
    (try simp only [Act.put, List.setIfInBounds_toArray, List.set_cons_zero, List.set_cons_succ, List.getElem_toArray, List.getElem_cons_succ, List.getElem_cons_zero])
    refine wpAnyH_ready (rs := [20, 32]) (by kernel_rfl) (by simp) ?_
    refine AllReadyH.cons rfl (fun K hK => ?_) (AllReadyH.cons rfl (fun K hK => ?_) (AllReadyH.nil))
    · go_simp
      (go_at_call 65; refine (C2.out _ HY.out).mono ?_; rintro e w' ⟨rfl, rfl⟩)
      (try dsimp only)
      refine hK.out _ _ ?_ (fun hHeld => ?_)
      · exact ⟨HY.out 0 (by omega), HY.out 1 (by omega)⟩
      clear hK K
      (try simp only [Act.put, List.setIfInBounds_toArray, List.set_cons_zero, List.set_cons_succ, List.getElem_toArray, List.getElem_cons_succ, List.getElem_cons_zero])
      refine wpAnyH_take (i := 21) (v := ?_) rfl (by kernel_rfl) (by kernel_rfl) (by kernel_rfl) (fun _ _ _ h => h) (Or.inl ⟨by rfl, ?_⟩) (by assumption) ?_
      rotate_left
      · intro w' hSw; (try dsimp only at hSw); go_simp; (try with_reducible rfl)
      (try simp only [Act.put, List.setIfInBounds_toArray, List.set_cons_zero, List.set_cons_succ, List.getElem_toArray, List.getElem_cons_succ, List.getElem_cons_zero])
      refine wpAnyH_ready (rs := [24, 32]) (by kernel_rfl) (by simp) ?_
      refine AllReadyH.cons rfl (fun K hK => ?_) (AllReadyH.cons rfl (fun K hK => ?_) (AllReadyH.nil))
      · go_simp
        (go_at_call 65; refine (C3.out _ HY.out).mono ?_; rintro e w' ⟨rfl, rfl⟩)
        (try dsimp only)
        refine hK.out _ _ ?_ (fun hHeld => ?_)
        · exact ⟨HY.out 0 (by omega), HY.out 1 (by omega)⟩
        clear hK K
        (try simp only [Act.put, List.setIfInBounds_toArray, List.set_cons_zero, List.set_cons_succ, List.getElem_toArray, List.getElem_cons_succ, List.getElem_cons_zero])
        refine wpAnyH_ready (rs := [27, 32]) (by kernel_rfl) (by simp) ?_
        refine AllReadyH.cons rfl (fun K hK => ?_) (AllReadyH.cons rfl (fun K hK => ?_) (AllReadyH.nil))
        · go_simp
          (go_at_call 65; refine (C4.out _ HY.out).mono ?_; rintro e w' ⟨rfl, rfl⟩)
          (try dsimp only)
          refine hK.out _ _ ?_ (fun hHeld => ?_)
          · exact ⟨HY.out 0 (by omega), HY.out 1 (by omega)⟩
          clear hK K
          (try simp only [Act.put, List.setIfInBounds_toArray, List.set_cons_zero, List.set_cons_succ, List.getElem_toArray, List.getElem_cons_succ, List.getElem_cons_zero])
          refine wpAnyH_ready (rs := [30, 32]) (by kernel_rfl) (by simp) ?_
          refine AllReadyH.cons rfl (fun K hK => ?_) (AllReadyH.cons rfl (fun K hK => ?_) (AllReadyH.nil))
          · go_simp
            (go_at_call 65; refine (C5.out _ HY.out).mono ?_; rintro e w' ⟨rfl, rfl⟩)
            (try dsimp only)
            refine hK.out _ _ ?_ (fun hHeld => ?_)
            · exact ⟨HY.out 0 (by omega), HY.out 1 (by omega)⟩
            clear hK K
            (try simp only [Act.put, List.setIfInBounds_toArray, List.set_cons_zero, List.set_cons_succ, List.getElem_toArray, List.getElem_cons_succ, List.getElem_cons_zero])
            refine wpAnyH_take (i := 31) (v := ?_) rfl (by kernel_rfl) (by kernel_rfl) (by kernel_rfl) (fun _ _ _ h => h) (Or.inl ⟨by rfl, ?_⟩) (by assumption) ?_
            rotate_left
            · intro w' hSw; (try dsimp only at hSw); go_simp; (try with_reducible rfl)
            (try simp only [Act.put, List.setIfInBounds_toArray, List.set_cons_zero, List.set_cons_succ, List.getElem_toArray, List.getElem_cons_succ, List.getElem_cons_zero])
            refine wpAnyH_ready (rs := [32]) (by kernel_rfl) (by simp) ?_
            refine AllReadyH.cons rfl (fun K hK => ?_) (AllReadyH.nil)
            · go_simp
              (try dsimp only)
              refine hK.out _ _ ?_ (fun hHeld => ?_)
              · exact ⟨HYA.out 0 (by omega), HYA.out 1 (by omega)⟩
              clear hK K
              (try simp only [Act.put, List.setIfInBounds_toArray, List.set_cons_zero, List.set_cons_succ, List.getElem_toArray, List.getElem_cons_succ, List.getElem_cons_zero])
              refine wpAnyH_ready (rs := [33]) (by kernel_rfl) (by simp) ?_
              refine AllReadyH.cons rfl (fun K hK => ?_) AllReadyH.nil
              go_simp
              (try dsimp only)
              refine hK.out _ _ ?_ (fun hHeld => ?_)
              · exact ⟨(World.cell?_alloc_past _ B O lB).trans (HY.out 0 (by omega)), (World.cell?_alloc_past _ B (O + 1) lB).trans (HY.out 1 (by omega))⟩
              clear hK K
              (try simp only [Act.put, List.setIfInBounds_toArray, List.set_cons_zero, List.set_cons_succ, List.getElem_toArray, List.getElem_cons_succ, List.getElem_cons_zero])
              refine wpAnyH_done (by kernel_rfl) ?_ _
              have XA := X.alloc (pkO (f 0 / 64) (f 0 % 8) (f 1) (numK (fun j => f (4 + j)) 4) (numK (fun j => f (8 + j)) 4) (numK (fun j => f (24 + j)) 8) (numK (fun j => f (32 + j)) 8) (numK (fun j => f (40 + j)) 8))
              have HBA := HB.alloc HB.size (pkO (f 0 / 64) (f 0 % 8) (f 1) (numK (fun j => f (4 + j)) 4) (numK (fun j => f (8 + j)) 4) (numK (fun j => f (24 + j)) 8) (numK (fun j => f (32 + j)) 8) (numK (fun j => f (40 + j)) 8))
              have X4 := Box8.new V (f 0 / 64) (f 0 % 8) (f 1) (numK (fun j => f (4 + j)) 4) (numK (fun j => f (8 + j)) 4) (numK (fun j => f (24 + j)) 8) (numK (fun j => f (32 + j)) 8) (numK (fun j => f (40 + j)) 8)
              have BY : BytesAt (V.alloc (pkO (f 0 / 64) (f 0 % 8) (f 1) (numK (fun j => f (4 + j)) 4) (numK (fun j => f (8 + j)) 4) (numK (fun j => f (24 + j)) 8) (numK (fun j => f (32 + j)) 8) (numK (fun j => f (40 + j)) 8))) (some ⟨B, O, none⟩) 48 f := fun _ => ⟨B, O, rfl, by simp; omega, fun j hj => (World.cell?_alloc_past _ B (O + j) lB).trans (HY.out j hj)⟩
              have d0 := X4.c0
              have d1 := X4.c1
              have d2 := X4.c2
              have d3 := X4.c3
              have d4 := X4.c4
              have d5 := X4.c5
              have d6 := X4.c6
              have d7 := X4.c7
              have zA := HBA.size
              clear C1 C2 C3 C4 C5 w1 w2 w3 w4 w5 a7 HY HYA X HB lB
              generalize hVA : V.alloc (pkO (f 0 / 64) (f 0 % 8) (f 1) (numK (fun j => f (4 + j)) 4) (numK (fun j => f (8 + j)) 4) (numK (fun j => f (24 + j)) 8) (numK (fun j => f (32 + j)) 8) (numK (fun j => f (40 + j)) 8)) = VA at *
              generalize V.heap.size = b4 at *
              clear hVA
              cases hP : isP (f 0 / 64) (f 0 % 8) (f 1) (numK (fun j => f (4 + j)) 4) (numK (fun j => f (8 + j)) 4)
              · have CE := Lib.hid (pk_enc_no (f 0 / 64) (f 0 % 8) (f 1) (numK (fun j => f (4 + j)) 4) (numK (fun j => f (8 + j)) 4) (numK (fun j => f (24 + j)) 8) (numK (fun j => f (32 + j)) 8) (numK (fun j => f (40 + j)) 8) VA hP)
                have hk : Hid (decOk f = false) := Lib.hid (by show (isP (f 0 / 64) (f 0 % 8) (f 1) (numK (fun j => f (4 + j)) 4) (numK (fun j => f (8 + j)) 4) && _) = false; rw [hP]; rfl)
                have XAx := XA.x
                have XAf := XA.f
                clear hP
                go_wp2_with fail
                refine CE.out.mono ?_; rintro e w2 ⟨rfl, hb2⟩
                have XB := XA.below hb2 XAx.lt
                have HB2 := HBA.trans (hb2.mono zA)
                have z2 := HB2.size
                have R := st8_cells (l' := 0) (m' := 0) (s' := 0) (d' := 0) (r' := 0) (o' := 0) (v' := 0) (t' := 0) XB.x
                obtain ⟨R0, R1, R2, R3, R4, R5, R6, R7, _⟩ := R
                obtain ⟨⟨q0, q1, q2, q3, q4, q5, q6, q7, _⟩, qf⟩ := XB
                clear hb2 d0 d1 d2 d3 d4 d5 d6 d7 XAx XAf
                go_wp2
                refine bodyPost_ret (v := .tuple #[pkV 0 0 0 0 0 0 0 0, .int .i64 3]) (by simp [results, Tryz.results39, go_sem, R0, R1, R2, R3, R4, R5, R6, R7]) rfl ⟨fun h => absurd h (by rw [hk.out]; simp), fun _ => rfl, ?_⟩
                go_light
                (repeat' (first | (with_reducible exact Below.refl _ _) | (with_reducible assumption) | (with_reducible refine Below.trans ?_ (Below.mono (by with_reducible assumption) ?_)) | (with_reducible refine Below.alloc ?_ ?_ _) | (with_reducible refine Below.setCell ?_ ?_ _) | (with_reducible refine below_drewN ?_ _) | (with_reducible refine Below.drew ?_) | go_size))
              · have CE := Lib.hid (pk_enc_yes (f 0 / 64) (f 0 % 8) (f 1) (numK (fun j => f (4 + j)) 4) (numK (fun j => f (8 + j)) 4) (numK (fun j => f (24 + j)) 8) (numK (fun j => f (32 + j)) 8) (numK (fun j => f (40 + j)) 8) VA hP nO.1 nO.2 nV.1 nV.2 nT.1 nT.2)
                have HEB := Lib.hid (encF_byte (f 0 / 64) (f 0 % 8) (f 1) (numK (fun j => f (4 + j)) 4) (numK (fun j => f (8 + j)) 4) (numK (fun j => f (24 + j)) 8) (numK (fun j => f (32 + j)) 8) (numK (fun j => f (40 + j)) 8) hP)
                have XAx := XA.x
                have hP' : Hid (isP (dL f) (dM f) (f 1) (dD f) (dR f) = true) := Lib.hid hP
                clear hP
                go_wp2_with fail
                refine CE.out.mono ?_; rintro e w2 ⟨g, rfl, hg, hU, hb2⟩
                have XB := XA.below hb2 XAx.lt
                have X5 := X4.below hb2 X4.lt
                have BY2 := BY.below hb2
                have HB2 := HBA.trans (hb2.mono zA)
                have z2 := HB2.size
                have CQ := Lib.hid (equal6 (some ⟨g, 0, none⟩) 48 48 (encF (f 0 / 64) (f 0 % 8) (f 1) (numK (fun j => f (4 + j)) 4) (numK (fun j => f (8 + j)) 4) (numK (fun j => f (24 + j)) 8) (numK (fun j => f (32 + j)) 8) (numK (fun j => f (40 + j)) 8)) (some ⟨B, O, none⟩) 48 c f w2 hU.bytes BY2 HEB.out HBB.out)
                clear hb2 d0 d1 d2 d3 d4 d5 d6 d7 XAx hU BY BY2 X4 hg
                cases hq : eqB 48 (encF (f 0 / 64) (f 0 % 8) (f 1) (numK (fun j => f (4 + j)) 4) (numK (fun j => f (8 + j)) 4) (numK (fun j => f (24 + j)) 8) (numK (fun j => f (32 + j)) 8) (numK (fun j => f (40 + j)) 8)) 48 f
                · have hk : Hid (decOk f = false) := Lib.hid (by show (isP _ _ _ _ _ && eqB 48 (encF (f 0 / 64) (f 0 % 8) (f 1) (numK (fun j => f (4 + j)) 4) (numK (fun j => f (8 + j)) 4) (numK (fun j => f (24 + j)) 8) (numK (fun j => f (32 + j)) 8) (numK (fun j => f (40 + j)) 8)) 48 f) = false; rw [hq]; simp)
                  rw [hq] at CQ
                  have R := st8_cells (l' := 0) (m' := 0) (s' := 0) (d' := 0) (r' := 0) (o' := 0) (v' := 0) (t' := 0) XB.x
                  obtain ⟨R0, R1, R2, R3, R4, R5, R6, R7, _⟩ := R
                  obtain ⟨⟨q0, q1, q2, q3, q4, q5, q6, q7, _⟩, qf⟩ := XB
                  clear hq X5
                  go_wp2_with (go_at_call 66; refine CQ.out.mono ?_; rintro e w' ⟨rfl, rfl⟩)
                  refine bodyPost_ret (v := .tuple #[pkV 0 0 0 0 0 0 0 0, .int .i64 3]) (by simp [results, Tryz.results39, go_sem, R0, R1, R2, R3, R4, R5, R6, R7]) rfl ⟨fun h => absurd h (by rw [hk.out]; simp), fun _ => rfl, ?_⟩
                  go_light
                  (repeat' (first | (with_reducible exact Below.refl _ _) | (with_reducible assumption) | (with_reducible refine Below.trans ?_ (Below.mono (by with_reducible assumption) ?_)) | (with_reducible refine Below.alloc ?_ ?_ _) | (with_reducible refine Below.setCell ?_ ?_ _) | (with_reducible refine below_drewN ?_ _) | (with_reducible refine Below.drew ?_) | go_size))
                · have hk : Hid (decOk f = true) := Lib.hid (by show (isP (dL f) (dM f) (f 1) (dD f) (dR f) && eqB 48 (encF (f 0 / 64) (f 0 % 8) (f 1) (numK (fun j => f (4 + j)) 4) (numK (fun j => f (8 + j)) 4) (numK (fun j => f (24 + j)) 8) (numK (fun j => f (32 + j)) 8) (numK (fun j => f (40 + j)) 8)) 48 f) = true; rw [hq, hP'.out]; rfl)
                  rw [hq] at CQ
                  have R := st8_cells (l' := f 0 / 64) (m' := f 0 % 8) (s' := f 1) (d' := numK (fun j => f (4 + j)) 4) (r' := numK (fun j => f (8 + j)) 4) (o' := numK (fun j => f (24 + j)) 8) (v' := numK (fun j => f (32 + j)) 8) (t' := numK (fun j => f (40 + j)) 8) XB.x
                  obtain ⟨R0, R1, R2, R3, R4, R5, R6, R7, _⟩ := R
                  obtain ⟨⟨q0, q1, q2, q3, q4, q5, q6, q7, _⟩, qf⟩ := XB
                  obtain ⟨e0, e1, e2, e3, e4, e5, e6, e7, _⟩ := X5
                  clear hq
                  go_wp2_with (go_at_call 66; refine CQ.out.mono ?_; rintro e w' ⟨rfl, rfl⟩)
                  refine bodyPost_ret (v := .tuple #[pkV (f 0 / 64) (f 0 % 8) (f 1) (numK (fun j => f (4 + j)) 4) (numK (fun j => f (8 + j)) 4) (numK (fun j => f (24 + j)) 8) (numK (fun j => f (32 + j)) 8) (numK (fun j => f (40 + j)) 8), .int .i64 0]) (by simp [results, Tryz.results39, go_sem, R0, R1, R2, R3, R4, R5, R6, R7]) rfl ⟨fun _ => rfl, fun h => absurd h (by rw [hk.out]; simp), ?_⟩
                  go_light
                  (repeat' (first | (with_reducible exact Below.refl _ _) | (with_reducible assumption) | (with_reducible refine Below.trans ?_ (Below.mono (by with_reducible assumption) ?_)) | (with_reducible refine Below.alloc ?_ ?_ _) | (with_reducible refine Below.setCell ?_ ?_ _) | (with_reducible refine below_drewN ?_ _) | (with_reducible refine Below.drew ?_) | go_size))
          · go_simp
            (try dsimp only)
            refine hK.out _ _ ?_ (fun hHeld => ?_)
            · exact ⟨HYA.out 0 (by omega), HYA.out 1 (by omega)⟩
            clear hK K
            (try simp only [Act.put, List.setIfInBounds_toArray, List.set_cons_zero, List.set_cons_succ, List.getElem_toArray, List.getElem_cons_succ, List.getElem_cons_zero])
            refine wpAnyH_ready (rs := [30]) (by kernel_rfl) (by simp) ?_
            refine AllReadyH.cons rfl (fun K hK => ?_) (AllReadyH.nil)
            · go_simp
              (go_at_call 65; refine (C5.out _ HYA.out).mono ?_; rintro e w' ⟨rfl, rfl⟩)
              (try dsimp only)
              refine hK.out _ _ ?_ (fun hHeld => ?_)
              · exact ⟨HYA.out 0 (by omega), HYA.out 1 (by omega)⟩
              clear hK K
              (try simp only [Act.put, List.setIfInBounds_toArray, List.set_cons_zero, List.set_cons_succ, List.getElem_toArray, List.getElem_cons_succ, List.getElem_cons_zero])
              refine wpAnyH_take (i := 31) (v := ?_) rfl (by kernel_rfl) (by kernel_rfl) (by kernel_rfl) (fun _ _ _ h => h) (Or.inl ⟨by rfl, ?_⟩) (by assumption) ?_
              rotate_left
              · intro w' hSw; (try dsimp only at hSw); go_simp; (try with_reducible rfl)
              (try simp only [Act.put, List.setIfInBounds_toArray, List.set_cons_zero, List.set_cons_succ, List.getElem_toArray, List.getElem_cons_succ, List.getElem_cons_zero])
              refine wpAnyH_ready (rs := [33]) (by kernel_rfl) (by simp) ?_
              refine AllReadyH.cons rfl (fun K hK => ?_) AllReadyH.nil
              go_simp
              (try dsimp only)
              refine hK.out _ _ ?_ (fun hHeld => ?_)
              · exact ⟨(World.cell?_alloc_past _ B O lB).trans (HY.out 0 (by omega)), (World.cell?_alloc_past _ B (O + 1) lB).trans (HY.out 1 (by omega))⟩
              clear hK K
              (try simp only [Act.put, List.setIfInBounds_toArray, List.set_cons_zero, List.set_cons_succ, List.getElem_toArray, List.getElem_cons_succ, List.getElem_cons_zero])
              refine wpAnyH_done (by kernel_rfl) ?_ _
              have XA := X.alloc (pkO (f 0 / 64) (f 0 % 8) (f 1) (numK (fun j => f (4 + j)) 4) (numK (fun j => f (8 + j)) 4) (numK (fun j => f (24 + j)) 8) (numK (fun j => f (32 + j)) 8) (numK (fun j => f (40 + j)) 8))
              have HBA := HB.alloc HB.size (pkO (f 0 / 64) (f 0 % 8) (f 1) (numK (fun j => f (4 + j)) 4) (numK (fun j => f (8 + j)) 4) (numK (fun j => f (24 + j)) 8) (numK (fun j => f (32 + j)) 8) (numK (fun j => f (40 + j)) 8))
              have X4 := Box8.new V (f 0 / 64) (f 0 % 8) (f 1) (numK (fun j => f (4 + j)) 4) (numK (fun j => f (8 + j)) 4) (numK (fun j => f (24 + j)) 8) (numK (fun j => f (32 + j)) 8) (numK (fun j => f (40 + j)) 8)
              have BY : BytesAt (V.alloc (pkO (f 0 / 64) (f 0 % 8) (f 1) (numK (fun j => f (4 + j)) 4) (numK (fun j => f (8 + j)) 4) (numK (fun j => f (24 + j)) 8) (numK (fun j => f (32 + j)) 8) (numK (fun j => f (40 + j)) 8))) (some ⟨B, O, none⟩) 48 f := fun _ => ⟨B, O, rfl, by simp; omega, fun j hj => (World.cell?_alloc_past _ B (O + j) lB).trans (HY.out j hj)⟩
              have d0 := X4.c0
              have d1 := X4.c1
              have d2 := X4.c2
              have d3 := X4.c3
              have d4 := X4.c4
              have d5 := X4.c5
              have d6 := X4.c6
              have d7 := X4.c7
              have zA := HBA.size
              clear C1 C2 C3 C4 C5 w1 w2 w3 w4 w5 a7 HY HYA X HB lB
              generalize hVA : V.alloc (pkO (f 0 / 64) (f 0 % 8) (f 1) (numK (fun j => f (4 + j)) 4) (numK (fun j => f (8 + j)) 4) (numK (fun j => f (24 + j)) 8) (numK (fun j => f (32 + j)) 8) (numK (fun j => f (40 + j)) 8)) = VA at *
              generalize V.heap.size = b4 at *
              clear hVA
              cases hP : isP (f 0 / 64) (f 0 % 8) (f 1) (numK (fun j => f (4 + j)) 4) (numK (fun j => f (8 + j)) 4)
              · have CE := Lib.hid (pk_enc_no (f 0 / 64) (f 0 % 8) (f 1) (numK (fun j => f (4 + j)) 4) (numK (fun j => f (8 + j)) 4) (numK (fun j => f (24 + j)) 8) (numK (fun j => f (32 + j)) 8) (numK (fun j => f (40 + j)) 8) VA hP)
                have hk : Hid (decOk f = false) := Lib.hid (by show (isP (f 0 / 64) (f 0 % 8) (f 1) (numK (fun j => f (4 + j)) 4) (numK (fun j => f (8 + j)) 4) && _) = false; rw [hP]; rfl)
                have XAx := XA.x
                have XAf := XA.f
                clear hP
                go_wp2_with fail
                refine CE.out.mono ?_; rintro e w2 ⟨rfl, hb2⟩
                have XB := XA.below hb2 XAx.lt
                have HB2 := HBA.trans (hb2.mono zA)
                have z2 := HB2.size
                have R := st8_cells (l' := 0) (m' := 0) (s' := 0) (d' := 0) (r' := 0) (o' := 0) (v' := 0) (t' := 0) XB.x
                obtain ⟨R0, R1, R2, R3, R4, R5, R6, R7, _⟩ := R
                obtain ⟨⟨q0, q1, q2, q3, q4, q5, q6, q7, _⟩, qf⟩ := XB
                clear hb2 d0 d1 d2 d3 d4 d5 d6 d7 XAx XAf
                go_wp2
                refine bodyPost_ret (v := .tuple #[pkV 0 0 0 0 0 0 0 0, .int .i64 3]) (by simp [results, Tryz.results39, go_sem, R0, R1, R2, R3, R4, R5, R6, R7]) rfl ⟨fun h => absurd h (by rw [hk.out]; simp), fun _ => rfl, ?_⟩
                go_light
                (repeat' (first | (with_reducible exact Below.refl _ _) | (with_reducible assumption) | (with_reducible refine Below.trans ?_ (Below.mono (by with_reducible assumption) ?_)) | (with_reducible refine Below.alloc ?_ ?_ _) | (with_reducible refine Below.setCell ?_ ?_ _) | (with_reducible refine below_drewN ?_ _) | (with_reducible refine Below.drew ?_) | go_size))
              · have CE := Lib.hid (pk_enc_yes (f 0 / 64) (f 0 % 8) (f 1) (numK (fun j => f (4 + j)) 4) (numK (fun j => f (8 + j)) 4) (numK (fun j => f (24 + j)) 8) (numK (fun j => f (32 + j)) 8) (numK (fun j => f (40 + j)) 8) VA hP nO.1 nO.2 nV.1 nV.2 nT.1 nT.2)
                have HEB := Lib.hid (encF_byte (f 0 / 64) (f 0 % 8) (f 1) (numK (fun j => f (4 + j)) 4) (numK (fun j => f (8 + j)) 4) (numK (fun j => f (24 + j)) 8) (numK (fun j => f (32 + j)) 8) (numK (fun j => f (40 + j)) 8) hP)
                have XAx := XA.x
                have hP' : Hid (isP (dL f) (dM f) (f 1) (dD f) (dR f) = true) := Lib.hid hP
                clear hP
                go_wp2_with fail
                refine CE.out.mono ?_; rintro e w2 ⟨g, rfl, hg, hU, hb2⟩
                have XB := XA.below hb2 XAx.lt
                have X5 := X4.below hb2 X4.lt
                have BY2 := BY.below hb2
                have HB2 := HBA.trans (hb2.mono zA)
                have z2 := HB2.size
                have CQ := Lib.hid (equal6 (some ⟨g, 0, none⟩) 48 48 (encF (f 0 / 64) (f 0 % 8) (f 1) (numK (fun j => f (4 + j)) 4) (numK (fun j => f (8 + j)) 4) (numK (fun j => f (24 + j)) 8) (numK (fun j => f (32 + j)) 8) (numK (fun j => f (40 + j)) 8)) (some ⟨B, O, none⟩) 48 c f w2 hU.bytes BY2 HEB.out HBB.out)
                clear hb2 d0 d1 d2 d3 d4 d5 d6 d7 XAx hU BY BY2 X4 hg
                cases hq : eqB 48 (encF (f 0 / 64) (f 0 % 8) (f 1) (numK (fun j => f (4 + j)) 4) (numK (fun j => f (8 + j)) 4) (numK (fun j => f (24 + j)) 8) (numK (fun j => f (32 + j)) 8) (numK (fun j => f (40 + j)) 8)) 48 f
                · have hk : Hid (decOk f = false) := Lib.hid (by show (isP _ _ _ _ _ && eqB 48 (encF (f 0 / 64) (f 0 % 8) (f 1) (numK (fun j => f (4 + j)) 4) (numK (fun j => f (8 + j)) 4) (numK (fun j => f (24 + j)) 8) (numK (fun j => f (32 + j)) 8) (numK (fun j => f (40 + j)) 8)) 48 f) = false; rw [hq]; simp)
                  rw [hq] at CQ
                  have R := st8_cells (l' := 0) (m' := 0) (s' := 0) (d' := 0) (r' := 0) (o' := 0) (v' := 0) (t' := 0) XB.x
                  obtain ⟨R0, R1, R2, R3, R4, R5, R6, R7, _⟩ := R
                  obtain ⟨⟨q0, q1, q2, q3, q4, q5, q6, q7, _⟩, qf⟩ := XB
                  clear hq X5
                  go_wp2_with (go_at_call 66; refine CQ.out.mono ?_; rintro e w' ⟨rfl, rfl⟩)
                  refine bodyPost_ret (v := .tuple #[pkV 0 0 0 0 0 0 0 0, .int .i64 3]) (by simp [results, Tryz.results39, go_sem, R0, R1, R2, R3, R4, R5, R6, R7]) rfl ⟨fun h => absurd h (by rw [hk.out]; simp), fun _ => rfl, ?_⟩
                  go_light
                  (repeat' (first | (with_reducible exact Below.refl _ _) | (with_reducible assumption) | (with_reducible refine Below.trans ?_ (Below.mono (by with_reducible assumption) ?_)) | (with_reducible refine Below.alloc ?_ ?_ _) | (with_reducible refine Below.setCell ?_ ?_ _) | (with_reducible refine below_drewN ?_ _) | (with_reducible refine Below.drew ?_) | go_size))
                · have hk : Hid (decOk f = true) := Lib.hid (by show (isP (dL f) (dM f) (f 1) (dD f) (dR f) && eqB 48 (encF (f 0 / 64) (f 0 % 8) (f 1) (numK (fun j => f (4 + j)) 4) (numK (fun j => f (8 + j)) 4) (numK (fun j => f (24 + j)) 8) (numK (fun j => f (32 + j)) 8) (numK (fun j => f (40 + j)) 8)) 48 f) = true; rw [hq, hP'.out]; rfl)
                  rw [hq] at CQ
                  have R := st8_cells (l' := f 0 / 64) (m' := f 0 % 8) (s' := f 1) (d' := numK (fun j => f (4 + j)) 4) (r' := numK (fun j => f (8 + j)) 4) (o' := numK (fun j => f (24 + j)) 8) (v' := numK (fun j => f (32 + j)) 8) (t' := numK (fun j => f (40 + j)) 8) XB.x
                  obtain ⟨R0, R1, R2, R3, R4, R5, R6, R7, _⟩ := R
                  obtain ⟨⟨q0, q1, q2, q3, q4, q5, q6, q7, _⟩, qf⟩ := XB
                  obtain ⟨e0, e1, e2, e3, e4, e5, e6, e7, _⟩ := X5
                  clear hq
                  go_wp2_with (go_at_call 66; refine CQ.out.mono ?_; rintro e w' ⟨rfl, rfl⟩)
                  refine bodyPost_ret (v := .tuple #[pkV (f 0 / 64) (f 0 % 8) (f 1) (numK (fun j => f (4 + j)) 4) (numK (fun j => f (8 + j)) 4) (numK (fun j => f (24 + j)) 8) (numK (fun j => f (32 + j)) 8) (numK (fun j => f (40 + j)) 8), .int .i64 0]) (by simp [results, Tryz.results39, go_sem, R0, R1, R2, R3, R4, R5, R6, R7]) rfl ⟨fun _ => rfl, fun h => absurd h (by rw [hk.out]; simp), ?_⟩
                  go_light
                  (repeat' (first | (with_reducible exact Below.refl _ _) | (with_reducible assumption) | (with_reducible refine Below.trans ?_ (Below.mono (by with_reducible assumption) ?_)) | (with_reducible refine Below.alloc ?_ ?_ _) | (with_reducible refine Below.setCell ?_ ?_ _) | (with_reducible refine below_drewN ?_ _) | (with_reducible refine Below.drew ?_) | go_size))
        · go_simp
          (try dsimp only)
          refine hK.out _ _ ?_ (fun hHeld => ?_)
          · exact ⟨HYA.out 0 (by omega), HYA.out 1 (by omega)⟩
          clear hK K
          (try simp only [Act.put, List.setIfInBounds_toArray, List.set_cons_zero, List.set_cons_succ, List.getElem_toArray, List.getElem_cons_succ, List.getElem_cons_zero])
          refine wpAnyH_ready (rs := [27]) (by kernel_rfl) (by simp) ?_
          refine AllReadyH.cons rfl (fun K hK => ?_) (AllReadyH.nil)
          · go_simp
            (go_at_call 65; refine (C4.out _ HYA.out).mono ?_; rintro e w' ⟨rfl, rfl⟩)
            (try dsimp only)
            refine hK.out _ _ ?_ (fun hHeld => ?_)
            · exact ⟨HYA.out 0 (by omega), HYA.out 1 (by omega)⟩
            clear hK K
            (try simp only [Act.put, List.setIfInBounds_toArray, List.set_cons_zero, List.set_cons_succ, List.getElem_toArray, List.getElem_cons_succ, List.getElem_cons_zero])
            refine wpAnyH_ready (rs := [30]) (by kernel_rfl) (by simp) ?_
            refine AllReadyH.cons rfl (fun K hK => ?_) (AllReadyH.nil)
            · go_simp
              (go_at_call 65; refine (C5.out _ HYA.out).mono ?_; rintro e w' ⟨rfl, rfl⟩)
              (try dsimp only)
              refine hK.out _ _ ?_ (fun hHeld => ?_)
              · exact ⟨HYA.out 0 (by omega), HYA.out 1 (by omega)⟩
              clear hK K
              (try simp only [Act.put, List.setIfInBounds_toArray, List.set_cons_zero, List.set_cons_succ, List.getElem_toArray, List.getElem_cons_succ, List.getElem_cons_zero])
              refine wpAnyH_take (i := 31) (v := ?_) rfl (by kernel_rfl) (by kernel_rfl) (by kernel_rfl) (fun _ _ _ h => h) (Or.inl ⟨by rfl, ?_⟩) (by assumption) ?_
              rotate_left
              · intro w' hSw; (try dsimp only at hSw); go_simp; (try with_reducible rfl)
              (try simp only [Act.put, List.setIfInBounds_toArray, List.set_cons_zero, List.set_cons_succ, List.getElem_toArray, List.getElem_cons_succ, List.getElem_cons_zero])
              refine wpAnyH_ready (rs := [33]) (by kernel_rfl) (by simp) ?_
              refine AllReadyH.cons rfl (fun K hK => ?_) AllReadyH.nil
              go_simp
              (try dsimp only)
              refine hK.out _ _ ?_ (fun hHeld => ?_)
              · exact ⟨(World.cell?_alloc_past _ B O lB).trans (HY.out 0 (by omega)), (World.cell?_alloc_past _ B (O + 1) lB).trans (HY.out 1 (by omega))⟩
              clear hK K
              (try simp only [Act.put, List.setIfInBounds_toArray, List.set_cons_zero, List.set_cons_succ, List.getElem_toArray, List.getElem_cons_succ, List.getElem_cons_zero])
              refine wpAnyH_done (by kernel_rfl) ?_ _
              have XA := X.alloc (pkO (f 0 / 64) (f 0 % 8) (f 1) (numK (fun j => f (4 + j)) 4) (numK (fun j => f (8 + j)) 4) (numK (fun j => f (24 + j)) 8) (numK (fun j => f (32 + j)) 8) (numK (fun j => f (40 + j)) 8))
              have HBA := HB.alloc HB.size (pkO (f 0 / 64) (f 0 % 8) (f 1) (numK (fun j => f (4 + j)) 4) (numK (fun j => f (8 + j)) 4) (numK (fun j => f (24 + j)) 8) (numK (fun j => f (32 + j)) 8) (numK (fun j => f (40 + j)) 8))
              have X4 := Box8.new V (f 0 / 64) (f 0 % 8) (f 1) (numK (fun j => f (4 + j)) 4) (numK (fun j => f (8 + j)) 4) (numK (fun j => f (24 + j)) 8) (numK (fun j => f (32 + j)) 8) (numK (fun j => f (40 + j)) 8)
              have BY : BytesAt (V.alloc (pkO (f 0 / 64) (f 0 % 8) (f 1) (numK (fun j => f (4 + j)) 4) (numK (fun j => f (8 + j)) 4) (numK (fun j => f (24 + j)) 8) (numK (fun j => f (32 + j)) 8) (numK (fun j => f (40 + j)) 8))) (some ⟨B, O, none⟩) 48 f := fun _ => ⟨B, O, rfl, by simp; omega, fun j hj => (World.cell?_alloc_past _ B (O + j) lB).trans (HY.out j hj)⟩
              have d0 := X4.c0
              have d1 := X4.c1
              have d2 := X4.c2
              have d3 := X4.c3
              have d4 := X4.c4
              have d5 := X4.c5
              have d6 := X4.c6
              have d7 := X4.c7
              have zA := HBA.size
              clear C1 C2 C3 C4 C5 w1 w2 w3 w4 w5 a7 HY HYA X HB lB
              generalize hVA : V.alloc (pkO (f 0 / 64) (f 0 % 8) (f 1) (numK (fun j => f (4 + j)) 4) (numK (fun j => f (8 + j)) 4) (numK (fun j => f (24 + j)) 8) (numK (fun j => f (32 + j)) 8) (numK (fun j => f (40 + j)) 8)) = VA at *
              generalize V.heap.size = b4 at *
              clear hVA
              cases hP : isP (f 0 / 64) (f 0 % 8) (f 1) (numK (fun j => f (4 + j)) 4) (numK (fun j => f (8 + j)) 4)
              · have CE := Lib.hid (pk_enc_no (f 0 / 64) (f 0 % 8) (f 1) (numK (fun j => f (4 + j)) 4) (numK (fun j => f (8 + j)) 4) (numK (fun j => f (24 + j)) 8) (numK (fun j => f (32 + j)) 8) (numK (fun j => f (40 + j)) 8) VA hP)
                have hk : Hid (decOk f = false) := Lib.hid (by show (isP (f 0 / 64) (f 0 % 8) (f 1) (numK (fun j => f (4 + j)) 4) (numK (fun j => f (8 + j)) 4) && _) = false; rw [hP]; rfl)
                have XAx := XA.x
                have XAf := XA.f
                clear hP
                go_wp2_with fail
                refine CE.out.mono ?_; rintro e w2 ⟨rfl, hb2⟩
                have XB := XA.below hb2 XAx.lt
                have HB2 := HBA.trans (hb2.mono zA)
                have z2 := HB2.size
                have R := st8_cells (l' := 0) (m' := 0) (s' := 0) (d' := 0) (r' := 0) (o' := 0) (v' := 0) (t' := 0) XB.x
                obtain ⟨R0, R1, R2, R3, R4, R5, R6, R7, _⟩ := R
                obtain ⟨⟨q0, q1, q2, q3, q4, q5, q6, q7, _⟩, qf⟩ := XB
                clear hb2 d0 d1 d2 d3 d4 d5 d6 d7 XAx XAf
                go_wp2
                refine bodyPost_ret (v := .tuple #[pkV 0 0 0 0 0 0 0 0, .int .i64 3]) (by simp [results, Tryz.results39, go_sem, R0, R1, R2, R3, R4, R5, R6, R7]) rfl ⟨fun h => absurd h (by rw [hk.out]; simp), fun _ => rfl, ?_⟩
                go_light
                (repeat' (first | (with_reducible exact Below.refl _ _) | (with_reducible assumption) | (with_reducible refine Below.trans ?_ (Below.mono (by with_reducible assumption) ?_)) | (with_reducible refine Below.alloc ?_ ?_ _) | (with_reducible refine Below.setCell ?_ ?_ _) | (with_reducible refine below_drewN ?_ _) | (with_reducible refine Below.drew ?_) | go_size))
              · have CE := Lib.hid (pk_enc_yes (f 0 / 64) (f 0 % 8) (f 1) (numK (fun j => f (4 + j)) 4) (numK (fun j => f (8 + j)) 4) (numK (fun j => f (24 + j)) 8) (numK (fun j => f (32 + j)) 8) (numK (fun j => f (40 + j)) 8) VA hP nO.1 nO.2 nV.1 nV.2 nT.1 nT.2)
                have HEB := Lib.hid (encF_byte (f 0 / 64) (f 0 % 8) (f 1) (numK (fun j => f (4 + j)) 4) (numK (fun j => f (8 + j)) 4) (numK (fun j => f (24 + j)) 8) (numK (fun j => f (32 + j)) 8) (numK (fun j => f (40 + j)) 8) hP)
                have XAx := XA.x
                have hP' : Hid (isP (dL f) (dM f) (f 1) (dD f) (dR f) = true) := Lib.hid hP
                clear hP
                go_wp2_with fail
                refine CE.out.mono ?_; rintro e w2 ⟨g, rfl, hg, hU, hb2⟩
                have XB := XA.below hb2 XAx.lt
                have X5 := X4.below hb2 X4.lt
                have BY2 := BY.below hb2
                have HB2 := HBA.trans (hb2.mono zA)
                have z2 := HB2.size
                have CQ := Lib.hid (equal6 (some ⟨g, 0, none⟩) 48 48 (encF (f 0 / 64) (f 0 % 8) (f 1) (numK (fun j => f (4 + j)) 4) (numK (fun j => f (8 + j)) 4) (numK (fun j => f (24 + j)) 8) (numK (fun j => f (32 + j)) 8) (numK (fun j => f (40 + j)) 8)) (some ⟨B, O, none⟩) 48 c f w2 hU.bytes BY2 HEB.out HBB.out)
                clear hb2 d0 d1 d2 d3 d4 d5 d6 d7 XAx hU BY BY2 X4 hg
                cases hq : eqB 48 (encF (f 0 / 64) (f 0 % 8) (f 1) (numK (fun j => f (4 + j)) 4) (numK (fun j => f (8 + j)) 4) (numK (fun j => f (24 + j)) 8) (numK (fun j => f (32 + j)) 8) (numK (fun j => f (40 + j)) 8)) 48 f
                · have hk : Hid (decOk f = false) := Lib.hid (by show (isP _ _ _ _ _ && eqB 48 (encF (f 0 / 64) (f 0 % 8) (f 1) (numK (fun j => f (4 + j)) 4) (numK (fun j => f (8 + j)) 4) (numK (fun j => f (24 + j)) 8) (numK (fun j => f (32 + j)) 8) (numK (fun j => f (40 + j)) 8)) 48 f) = false; rw [hq]; simp)
                  rw [hq] at CQ
                  have R := st8_cells (l' := 0) (m' := 0) (s' := 0) (d' := 0) (r' := 0) (o' := 0) (v' := 0) (t' := 0) XB.x
                  obtain ⟨R0, R1, R2, R3, R4, R5, R6, R7, _⟩ := R
                  obtain ⟨⟨q0, q1, q2, q3, q4, q5, q6, q7, _⟩, qf⟩ := XB
                  clear hq X5
                  go_wp2_with (go_at_call 66; refine CQ.out.mono ?_; rintro e w' ⟨rfl, rfl⟩)
                  refine bodyPost_ret (v := .tuple #[pkV 0 0 0 0 0 0 0 0, .int .i64 3]) (by simp [results, Tryz.results39, go_sem, R0, R1, R2, R3, R4, R5, R6, R7]) rfl ⟨fun h => absurd h (by rw [hk.out]; simp), fun _ => rfl, ?_⟩
                  go_light
                  (repeat' (first | (with_reducible exact Below.refl _ _) | (with_reducible assumption) | (with_reducible refine Below.trans ?_ (Below.mono (by with_reducible assumption) ?_)) | (with_reducible refine Below.alloc ?_ ?_ _) | (with_reducible refine Below.setCell ?_ ?_ _) | (with_reducible refine below_drewN ?_ _) | (with_reducible refine Below.drew ?_) | go_size))
                · have hk : Hid (decOk f = true) := Lib.hid (by show (isP (dL f) (dM f) (f 1) (dD f) (dR f) && eqB 48 (encF (f 0 / 64) (f 0 % 8) (f 1) (numK (fun j => f (4 + j)) 4) (numK (fun j => f (8 + j)) 4) (numK (fun j => f (24 + j)) 8) (numK (fun j => f (32 + j)) 8) (numK (fun j => f (40 + j)) 8)) 48 f) = true; rw [hq, hP'.out]; rfl)
                  rw [hq] at CQ
                  have R := st8_cells (l' := f 0 / 64) (m' := f 0 % 8) (s' := f 1) (d' := numK (fun j => f (4 + j)) 4) (r' := numK (fun j => f (8 + j)) 4) (o' := numK (fun j => f (24 + j)) 8) (v' := numK (fun j => f (32 + j)) 8) (t' := numK (fun j => f (40 + j)) 8) XB.x
                  obtain ⟨R0, R1, R2, R3, R4, R5, R6, R7, _⟩ := R
                  obtain ⟨⟨q0, q1, q2, q3, q4, q5, q6, q7, _⟩, qf⟩ := XB
                  obtain ⟨e0, e1, e2, e3, e4, e5, e6, e7, _⟩ := X5
                  clear hq
                  go_wp2_with (go_at_call 66; refine CQ.out.mono ?_; rintro e w' ⟨rfl, rfl⟩)
                  refine bodyPost_ret (v := .tuple #[pkV (f 0 / 64) (f 0 % 8) (f 1) (numK (fun j => f (4 + j)) 4) (numK (fun j => f (8 + j)) 4) (numK (fun j => f (24 + j)) 8) (numK (fun j => f (32 + j)) 8) (numK (fun j => f (40 + j)) 8), .int .i64 0]) (by simp [results, Tryz.results39, go_sem, R0, R1, R2, R3, R4, R5, R6, R7]) rfl ⟨fun _ => rfl, fun h => absurd h (by rw [hk.out]; simp), ?_⟩
                  go_light
                  (repeat' (first | (with_reducible exact Below.refl _ _) | (with_reducible assumption) | (with_reducible refine Below.trans ?_ (Below.mono (by with_reducible assumption) ?_)) | (with_reducible refine Below.alloc ?_ ?_ _) | (with_reducible refine Below.setCell ?_ ?_ _) | (with_reducible refine below_drewN ?_ _) | (with_reducible refine Below.drew ?_) | go_size))
      · go_simp
        (try dsimp only)
        refine hK.out _ _ ?_ (fun hHeld => ?_)
        · exact ⟨HYA.out 0 (by omega), HYA.out 1 (by omega)⟩
        clear hK K
        (try simp only [Act.put, List.setIfInBounds_toArray, List.set_cons_zero, List.set_cons_succ, List.getElem_toArray, List.getElem_cons_succ, List.getElem_cons_zero])
        refine wpAnyH_ready (rs := [24]) (by kernel_rfl) (by simp) ?_
        refine AllReadyH.cons rfl (fun K hK => ?_) (AllReadyH.nil)
        · go_simp
          (go_at_call 65; refine (C3.out _ HYA.out).mono ?_; rintro e w' ⟨rfl, rfl⟩)
          (try dsimp only)
          refine hK.out _ _ ?_ (fun hHeld => ?_)
          · exact ⟨HYA.out 0 (by omega), HYA.out 1 (by omega)⟩
          clear hK K
          (try simp only [Act.put, List.setIfInBounds_toArray, List.set_cons_zero, List.set_cons_succ, List.getElem_toArray, List.getElem_cons_succ, List.getElem_cons_zero])
          refine wpAnyH_ready (rs := [27]) (by kernel_rfl) (by simp) ?_
          refine AllReadyH.cons rfl (fun K hK => ?_) (AllReadyH.nil)
          · go_simp
            (go_at_call 65; refine (C4.out _ HYA.out).mono ?_; rintro e w' ⟨rfl, rfl⟩)
            (try dsimp only)
            refine hK.out _ _ ?_ (fun hHeld => ?_)
            · exact ⟨HYA.out 0 (by omega), HYA.out 1 (by omega)⟩
            clear hK K
            (try simp only [Act.put, List.setIfInBounds_toArray, List.set_cons_zero, List.set_cons_succ, List.getElem_toArray, List.getElem_cons_succ, List.getElem_cons_zero])
            refine wpAnyH_ready (rs := [30]) (by kernel_rfl) (by simp) ?_
            refine AllReadyH.cons rfl (fun K hK => ?_) (AllReadyH.nil)
            · go_simp
              (go_at_call 65; refine (C5.out _ HYA.out).mono ?_; rintro e w' ⟨rfl, rfl⟩)
              (try dsimp only)
              refine hK.out _ _ ?_ (fun hHeld => ?_)
              · exact ⟨HYA.out 0 (by omega), HYA.out 1 (by omega)⟩
              clear hK K
              (try simp only [Act.put, List.setIfInBounds_toArray, List.set_cons_zero, List.set_cons_succ, List.getElem_toArray, List.getElem_cons_succ, List.getElem_cons_zero])
              refine wpAnyH_take (i := 31) (v := ?_) rfl (by kernel_rfl) (by kernel_rfl) (by kernel_rfl) (fun _ _ _ h => h) (Or.inl ⟨by rfl, ?_⟩) (by assumption) ?_
              rotate_left
              · intro w' hSw; (try dsimp only at hSw); go_simp; (try with_reducible rfl)
              (try simp only [Act.put, List.setIfInBounds_toArray, List.set_cons_zero, List.set_cons_succ, List.getElem_toArray, List.getElem_cons_succ, List.getElem_cons_zero])
              refine wpAnyH_ready (rs := [33]) (by kernel_rfl) (by simp) ?_
              refine AllReadyH.cons rfl (fun K hK => ?_) AllReadyH.nil
              go_simp
              (try dsimp only)
              refine hK.out _ _ ?_ (fun hHeld => ?_)
              · exact ⟨(World.cell?_alloc_past _ B O lB).trans (HY.out 0 (by omega)), (World.cell?_alloc_past _ B (O + 1) lB).trans (HY.out 1 (by omega))⟩
              clear hK K
              (try simp only [Act.put, List.setIfInBounds_toArray, List.set_cons_zero, List.set_cons_succ, List.getElem_toArray, List.getElem_cons_succ, List.getElem_cons_zero])
              refine wpAnyH_done (by kernel_rfl) ?_ _
              have XA := X.alloc (pkO (f 0 / 64) (f 0 % 8) (f 1) (numK (fun j => f (4 + j)) 4) (numK (fun j => f (8 + j)) 4) (numK (fun j => f (24 + j)) 8) (numK (fun j => f (32 + j)) 8) (numK (fun j => f (40 + j)) 8))
              have HBA := HB.alloc HB.size (pkO (f 0 / 64) (f 0 % 8) (f 1) (numK (fun j => f (4 + j)) 4) (numK (fun j => f (8 + j)) 4) (numK (fun j => f (24 + j)) 8) (numK (fun j => f (32 + j)) 8) (numK (fun j => f (40 + j)) 8))
              have X4 := Box8.new V (f 0 / 64) (f 0 % 8) (f 1) (numK (fun j => f (4 + j)) 4) (numK (fun j => f (8 + j)) 4) (numK (fun j => f (24 + j)) 8) (numK (fun j => f (32 + j)) 8) (numK (fun j => f (40 + j)) 8)
              have BY : BytesAt (V.alloc (pkO (f 0 / 64) (f 0 % 8) (f 1) (numK (fun j => f (4 + j)) 4) (numK (fun j => f (8 + j)) 4) (numK (fun j => f (24 + j)) 8) (numK (fun j => f (32 + j)) 8) (numK (fun j => f (40 + j)) 8))) (some ⟨B, O, none⟩) 48 f := fun _ => ⟨B, O, rfl, by simp; omega, fun j hj => (World.cell?_alloc_past _ B (O + j) lB).trans (HY.out j hj)⟩
              have d0 := X4.c0
              have d1 := X4.c1
              have d2 := X4.c2
              have d3 := X4.c3
              have d4 := X4.c4
              have d5 := X4.c5
              have d6 := X4.c6
              have d7 := X4.c7
              have zA := HBA.size
              clear C1 C2 C3 C4 C5 w1 w2 w3 w4 w5 a7 HY HYA X HB lB
              generalize hVA : V.alloc (pkO (f 0 / 64) (f 0 % 8) (f 1) (numK (fun j => f (4 + j)) 4) (numK (fun j => f (8 + j)) 4) (numK (fun j => f (24 + j)) 8) (numK (fun j => f (32 + j)) 8) (numK (fun j => f (40 + j)) 8)) = VA at *
              generalize V.heap.size = b4 at *
              clear hVA
              cases hP : isP (f 0 / 64) (f 0 % 8) (f 1) (numK (fun j => f (4 + j)) 4) (numK (fun j => f (8 + j)) 4)
              · have CE := Lib.hid (pk_enc_no (f 0 / 64) (f 0 % 8) (f 1) (numK (fun j => f (4 + j)) 4) (numK (fun j => f (8 + j)) 4) (numK (fun j => f (24 + j)) 8) (numK (fun j => f (32 + j)) 8) (numK (fun j => f (40 + j)) 8) VA hP)
                have hk : Hid (decOk f = false) := Lib.hid (by show (isP (f 0 / 64) (f 0 % 8) (f 1) (numK (fun j => f (4 + j)) 4) (numK (fun j => f (8 + j)) 4) && _) = false; rw [hP]; rfl)
                have XAx := XA.x
                have XAf := XA.f
                clear hP
                go_wp2_with fail
                refine CE.out.mono ?_; rintro e w2 ⟨rfl, hb2⟩
                have XB := XA.below hb2 XAx.lt
                have HB2 := HBA.trans (hb2.mono zA)
                have z2 := HB2.size
                have R := st8_cells (l' := 0) (m' := 0) (s' := 0) (d' := 0) (r' := 0) (o' := 0) (v' := 0) (t' := 0) XB.x
                obtain ⟨R0, R1, R2, R3, R4, R5, R6, R7, _⟩ := R
                obtain ⟨⟨q0, q1, q2, q3, q4, q5, q6, q7, _⟩, qf⟩ := XB
                clear hb2 d0 d1 d2 d3 d4 d5 d6 d7 XAx XAf
                go_wp2
                refine bodyPost_ret (v := .tuple #[pkV 0 0 0 0 0 0 0 0, .int .i64 3]) (by simp [results, Tryz.results39, go_sem, R0, R1, R2, R3, R4, R5, R6, R7]) rfl ⟨fun h => absurd h (by rw [hk.out]; simp), fun _ => rfl, ?_⟩
                go_light
                (repeat' (first | (with_reducible exact Below.refl _ _) | (with_reducible assumption) | (with_reducible refine Below.trans ?_ (Below.mono (by with_reducible assumption) ?_)) | (with_reducible refine Below.alloc ?_ ?_ _) | (with_reducible refine Below.setCell ?_ ?_ _) | (with_reducible refine below_drewN ?_ _) | (with_reducible refine Below.drew ?_) | go_size))
              · have CE := Lib.hid (pk_enc_yes (f 0 / 64) (f 0 % 8) (f 1) (numK (fun j => f (4 + j)) 4) (numK (fun j => f (8 + j)) 4) (numK (fun j => f (24 + j)) 8) (numK (fun j => f (32 + j)) 8) (numK (fun j => f (40 + j)) 8) VA hP nO.1 nO.2 nV.1 nV.2 nT.1 nT.2)
                have HEB := Lib.hid (encF_byte (f 0 / 64) (f 0 % 8) (f 1) (numK (fun j => f (4 + j)) 4) (numK (fun j => f (8 + j)) 4) (numK (fun j => f (24 + j)) 8) (numK (fun j => f (32 + j)) 8) (numK (fun j => f (40 + j)) 8) hP)
                have XAx := XA.x
                have hP' : Hid (isP (dL f) (dM f) (f 1) (dD f) (dR f) = true) := Lib.hid hP
                clear hP
                go_wp2_with fail
                refine CE.out.mono ?_; rintro e w2 ⟨g, rfl, hg, hU, hb2⟩
                have XB := XA.below hb2 XAx.lt
                have X5 := X4.below hb2 X4.lt
                have BY2 := BY.below hb2
                have HB2 := HBA.trans (hb2.mono zA)
                have z2 := HB2.size
                have CQ := Lib.hid (equal6 (some ⟨g, 0, none⟩) 48 48 (encF (f 0 / 64) (f 0 % 8) (f 1) (numK (fun j => f (4 + j)) 4) (numK (fun j => f (8 + j)) 4) (numK (fun j => f (24 + j)) 8) (numK (fun j => f (32 + j)) 8) (numK (fun j => f (40 + j)) 8)) (some ⟨B, O, none⟩) 48 c f w2 hU.bytes BY2 HEB.out HBB.out)
                clear hb2 d0 d1 d2 d3 d4 d5 d6 d7 XAx hU BY BY2 X4 hg
                cases hq : eqB 48 (encF (f 0 / 64) (f 0 % 8) (f 1) (numK (fun j => f (4 + j)) 4) (numK (fun j => f (8 + j)) 4) (numK (fun j => f (24 + j)) 8) (numK (fun j => f (32 + j)) 8) (numK (fun j => f (40 + j)) 8)) 48 f
                · have hk : Hid (decOk f = false) := Lib.hid (by show (isP _ _ _ _ _ && eqB 48 (encF (f 0 / 64) (f 0 % 8) (f 1) (numK (fun j => f (4 + j)) 4) (numK (fun j => f (8 + j)) 4) (numK (fun j => f (24 + j)) 8) (numK (fun j => f (32 + j)) 8) (numK (fun j => f (40 + j)) 8)) 48 f) = false; rw [hq]; simp)
                  rw [hq] at CQ
                  have R := st8_cells (l' := 0) (m' := 0) (s' := 0) (d' := 0) (r' := 0) (o' := 0) (v' := 0) (t' := 0) XB.x
                  obtain ⟨R0, R1, R2, R3, R4, R5, R6, R7, _⟩ := R
                  obtain ⟨⟨q0, q1, q2, q3, q4, q5, q6, q7, _⟩, qf⟩ := XB
                  clear hq X5
                  go_wp2_with (go_at_call 66; refine CQ.out.mono ?_; rintro e w' ⟨rfl, rfl⟩)
                  refine bodyPost_ret (v := .tuple #[pkV 0 0 0 0 0 0 0 0, .int .i64 3]) (by simp [results, Tryz.results39, go_sem, R0, R1, R2, R3, R4, R5, R6, R7]) rfl ⟨fun h => absurd h (by rw [hk.out]; simp), fun _ => rfl, ?_⟩
                  go_light
                  (repeat' (first | (with_reducible exact Below.refl _ _) | (with_reducible assumption) | (with_reducible refine Below.trans ?_ (Below.mono (by with_reducible assumption) ?_)) | (with_reducible refine Below.alloc ?_ ?_ _) | (with_reducible refine Below.setCell ?_ ?_ _) | (with_reducible refine below_drewN ?_ _) | (with_reducible refine Below.drew ?_) | go_size))
                · have hk : Hid (decOk f = true) := Lib.hid (by show (isP (dL f) (dM f) (f 1) (dD f) (dR f) && eqB 48 (encF (f 0 / 64) (f 0 % 8) (f 1) (numK (fun j => f (4 + j)) 4) (numK (fun j => f (8 + j)) 4) (numK (fun j => f (24 + j)) 8) (numK (fun j => f (32 + j)) 8) (numK (fun j => f (40 + j)) 8)) 48 f) = true; rw [hq, hP'.out]; rfl)
                  rw [hq] at CQ
                  have R := st8_cells (l' := f 0 / 64) (m' := f 0 % 8) (s' := f 1) (d' := numK (fun j => f (4 + j)) 4) (r' := numK (fun j => f (8 + j)) 4) (o' := numK (fun j => f (24 + j)) 8) (v' := numK (fun j => f (32 + j)) 8) (t' := numK (fun j => f (40 + j)) 8) XB.x
                  obtain ⟨R0, R1, R2, R3, R4, R5, R6, R7, _⟩ := R
                  obtain ⟨⟨q0, q1, q2, q3, q4, q5, q6, q7, _⟩, qf⟩ := XB
                  obtain ⟨e0, e1, e2, e3, e4, e5, e6, e7, _⟩ := X5
                  clear hq
                  go_wp2_with (go_at_call 66; refine CQ.out.mono ?_; rintro e w' ⟨rfl, rfl⟩)
                  refine bodyPost_ret (v := .tuple #[pkV (f 0 / 64) (f 0 % 8) (f 1) (numK (fun j => f (4 + j)) 4) (numK (fun j => f (8 + j)) 4) (numK (fun j => f (24 + j)) 8) (numK (fun j => f (32 + j)) 8) (numK (fun j => f (40 + j)) 8), .int .i64 0]) (by simp [results, Tryz.results39, go_sem, R0, R1, R2, R3, R4, R5, R6, R7]) rfl ⟨fun _ => rfl, fun h => absurd h (by rw [hk.out]; simp), ?_⟩
                  go_light
                  (repeat' (first | (with_reducible exact Below.refl _ _) | (with_reducible assumption) | (with_reducible refine Below.trans ?_ (Below.mono (by with_reducible assumption) ?_)) | (with_reducible refine Below.alloc ?_ ?_ _) | (with_reducible refine Below.setCell ?_ ?_ _) | (with_reducible refine below_drewN ?_ _) | (with_reducible refine Below.drew ?_) | go_size))
    · go_simp
      (try dsimp only)
      refine hK.out _ _ ?_ (fun hHeld => ?_)
      · exact ⟨HYA.out 0 (by omega), HYA.out 1 (by omega)⟩
      clear hK K
      (try simp only [Act.put, List.setIfInBounds_toArray, List.set_cons_zero, List.set_cons_succ, List.getElem_toArray, List.getElem_cons_succ, List.getElem_cons_zero])
      refine wpAnyH_ready (rs := [20]) (by kernel_rfl) (by simp) ?_
      refine AllReadyH.cons rfl (fun K hK => ?_) (AllReadyH.nil)
      · go_simp
        (go_at_call 65; refine (C2.out _ HYA.out).mono ?_; rintro e w' ⟨rfl, rfl⟩)
        (try dsimp only)
        refine hK.out _ _ ?_ (fun hHeld => ?_)
        · exact ⟨HYA.out 0 (by omega), HYA.out 1 (by omega)⟩
        clear hK K
        (try simp only [Act.put, List.setIfInBounds_toArray, List.set_cons_zero, List.set_cons_succ, List.getElem_toArray, List.getElem_cons_succ, List.getElem_cons_zero])
        refine wpAnyH_take (i := 21) (v := ?_) rfl (by kernel_rfl) (by kernel_rfl) (by kernel_rfl) (fun _ _ _ h => h) (Or.inl ⟨by rfl, ?_⟩) (by assumption) ?_
        rotate_left
        · intro w' hSw; (try dsimp only at hSw); go_simp; (try with_reducible rfl)
        (try simp only [Act.put, List.setIfInBounds_toArray, List.set_cons_zero, List.set_cons_succ, List.getElem_toArray, List.getElem_cons_succ, List.getElem_cons_zero])
        refine wpAnyH_ready (rs := [24]) (by kernel_rfl) (by simp) ?_
        refine AllReadyH.cons rfl (fun K hK => ?_) (AllReadyH.nil)
        · go_simp
          (go_at_call 65; refine (C3.out _ HYA.out).mono ?_; rintro e w' ⟨rfl, rfl⟩)
          (try dsimp only)
          refine hK.out _ _ ?_ (fun hHeld => ?_)
          · exact ⟨HYA.out 0 (by omega), HYA.out 1 (by omega)⟩
          clear hK K
          (try simp only [Act.put, List.setIfInBounds_toArray, List.set_cons_zero, List.set_cons_succ, List.getElem_toArray, List.getElem_cons_succ, List.getElem_cons_zero])
          refine wpAnyH_ready (rs := [27]) (by kernel_rfl) (by simp) ?_
          refine AllReadyH.cons rfl (fun K hK => ?_) (AllReadyH.nil)
          · go_simp
            (go_at_call 65; refine (C4.out _ HYA.out).mono ?_; rintro e w' ⟨rfl, rfl⟩)
            (try dsimp only)
            refine hK.out _ _ ?_ (fun hHeld => ?_)
            · exact ⟨HYA.out 0 (by omega), HYA.out 1 (by omega)⟩
            clear hK K
            (try simp only [Act.put, List.setIfInBounds_toArray, List.set_cons_zero, List.set_cons_succ, List.getElem_toArray, List.getElem_cons_succ, List.getElem_cons_zero])
            refine wpAnyH_ready (rs := [30]) (by kernel_rfl) (by simp) ?_
            refine AllReadyH.cons rfl (fun K hK => ?_) (AllReadyH.nil)
            · go_simp
              (go_at_call 65; refine (C5.out _ HYA.out).mono ?_; rintro e w' ⟨rfl, rfl⟩)
              (try dsimp only)
              refine hK.out _ _ ?_ (fun hHeld => ?_)
              · exact ⟨HYA.out 0 (by omega), HYA.out 1 (by omega)⟩
              clear hK K
              (try simp only [Act.put, List.setIfInBounds_toArray, List.set_cons_zero, List.set_cons_succ, List.getElem_toArray, List.getElem_cons_succ, List.getElem_cons_zero])
              refine wpAnyH_take (i := 31) (v := ?_) rfl (by kernel_rfl) (by kernel_rfl) (by kernel_rfl) (fun _ _ _ h => h) (Or.inl ⟨by rfl, ?_⟩) (by assumption) ?_
              rotate_left
              · intro w' hSw; (try dsimp only at hSw); go_simp; (try with_reducible rfl)
              (try simp only [Act.put, List.setIfInBounds_toArray, List.set_cons_zero, List.set_cons_succ, List.getElem_toArray, List.getElem_cons_succ, List.getElem_cons_zero])
              refine wpAnyH_ready (rs := [33]) (by kernel_rfl) (by simp) ?_
              refine AllReadyH.cons rfl (fun K hK => ?_) AllReadyH.nil
              go_simp
              (try dsimp only)
              refine hK.out _ _ ?_ (fun hHeld => ?_)
              · exact ⟨(World.cell?_alloc_past _ B O lB).trans (HY.out 0 (by omega)), (World.cell?_alloc_past _ B (O + 1) lB).trans (HY.out 1 (by omega))⟩
              clear hK K
              (try simp only [Act.put, List.setIfInBounds_toArray, List.set_cons_zero, List.set_cons_succ, List.getElem_toArray, List.getElem_cons_succ, List.getElem_cons_zero])
              refine wpAnyH_done (by kernel_rfl) ?_ _
              have XA := X.alloc (pkO (f 0 / 64) (f 0 % 8) (f 1) (numK (fun j => f (4 + j)) 4) (numK (fun j => f (8 + j)) 4) (numK (fun j => f (24 + j)) 8) (numK (fun j => f (32 + j)) 8) (numK (fun j => f (40 + j)) 8))
              have HBA := HB.alloc HB.size (pkO (f 0 / 64) (f 0 % 8) (f 1) (numK (fun j => f (4 + j)) 4) (numK (fun j => f (8 + j)) 4) (numK (fun j => f (24 + j)) 8) (numK (fun j => f (32 + j)) 8) (numK (fun j => f (40 + j)) 8))
              have X4 := Box8.new V (f 0 / 64) (f 0 % 8) (f 1) (numK (fun j => f (4 + j)) 4) (numK (fun j => f (8 + j)) 4) (numK (fun j => f (24 + j)) 8) (numK (fun j => f (32 + j)) 8) (numK (fun j => f (40 + j)) 8)
              have BY : BytesAt (V.alloc (pkO (f 0 / 64) (f 0 % 8) (f 1) (numK (fun j => f (4 + j)) 4) (numK (fun j => f (8 + j)) 4) (numK (fun j => f (24 + j)) 8) (numK (fun j => f (32 + j)) 8) (numK (fun j => f (40 + j)) 8))) (some ⟨B, O, none⟩) 48 f := fun _ => ⟨B, O, rfl, by simp; omega, fun j hj => (World.cell?_alloc_past _ B (O + j) lB).trans (HY.out j hj)⟩
              have d0 := X4.c0
              have d1 := X4.c1
              have d2 := X4.c2
              have d3 := X4.c3
              have d4 := X4.c4
              have d5 := X4.c5
              have d6 := X4.c6
              have d7 := X4.c7
              have zA := HBA.size
              clear C1 C2 C3 C4 C5 w1 w2 w3 w4 w5 a7 HY HYA X HB lB
              generalize hVA : V.alloc (pkO (f 0 / 64) (f 0 % 8) (f 1) (numK (fun j => f (4 + j)) 4) (numK (fun j => f (8 + j)) 4) (numK (fun j => f (24 + j)) 8) (numK (fun j => f (32 + j)) 8) (numK (fun j => f (40 + j)) 8)) = VA at *
              generalize V.heap.size = b4 at *
              clear hVA
              cases hP : isP (f 0 / 64) (f 0 % 8) (f 1) (numK (fun j => f (4 + j)) 4) (numK (fun j => f (8 + j)) 4)
              · have CE := Lib.hid (pk_enc_no (f 0 / 64) (f 0 % 8) (f 1) (numK (fun j => f (4 + j)) 4) (numK (fun j => f (8 + j)) 4) (numK (fun j => f (24 + j)) 8) (numK (fun j => f (32 + j)) 8) (numK (fun j => f (40 + j)) 8) VA hP)
                have hk : Hid (decOk f = false) := Lib.hid (by show (isP (f 0 / 64) (f 0 % 8) (f 1) (numK (fun j => f (4 + j)) 4) (numK (fun j => f (8 + j)) 4) && _) = false; rw [hP]; rfl)
                have XAx := XA.x
                have XAf := XA.f
                clear hP
                go_wp2_with fail
                refine CE.out.mono ?_; rintro e w2 ⟨rfl, hb2⟩
                have XB := XA.below hb2 XAx.lt
                have HB2 := HBA.trans (hb2.mono zA)
                have z2 := HB2.size
                have R := st8_cells (l' := 0) (m' := 0) (s' := 0) (d' := 0) (r' := 0) (o' := 0) (v' := 0) (t' := 0) XB.x
                obtain ⟨R0, R1, R2, R3, R4, R5, R6, R7, _⟩ := R
                obtain ⟨⟨q0, q1, q2, q3, q4, q5, q6, q7, _⟩, qf⟩ := XB
                clear hb2 d0 d1 d2 d3 d4 d5 d6 d7 XAx XAf
                go_wp2
                refine bodyPost_ret (v := .tuple #[pkV 0 0 0 0 0 0 0 0, .int .i64 3]) (by simp [results, Tryz.results39, go_sem, R0, R1, R2, R3, R4, R5, R6, R7]) rfl ⟨fun h => absurd h (by rw [hk.out]; simp), fun _ => rfl, ?_⟩
                go_light
                (repeat' (first | (with_reducible exact Below.refl _ _) | (with_reducible assumption) | (with_reducible refine Below.trans ?_ (Below.mono (by with_reducible assumption) ?_)) | (with_reducible refine Below.alloc ?_ ?_ _) | (with_reducible refine Below.setCell ?_ ?_ _) | (with_reducible refine below_drewN ?_ _) | (with_reducible refine Below.drew ?_) | go_size))
              · have CE := Lib.hid (pk_enc_yes (f 0 / 64) (f 0 % 8) (f 1) (numK (fun j => f (4 + j)) 4) (numK (fun j => f (8 + j)) 4) (numK (fun j => f (24 + j)) 8) (numK (fun j => f (32 + j)) 8) (numK (fun j => f (40 + j)) 8) VA hP nO.1 nO.2 nV.1 nV.2 nT.1 nT.2)
                have HEB := Lib.hid (encF_byte (f 0 / 64) (f 0 % 8) (f 1) (numK (fun j => f (4 + j)) 4) (numK (fun j => f (8 + j)) 4) (numK (fun j => f (24 + j)) 8) (numK (fun j => f (32 + j)) 8) (numK (fun j => f (40 + j)) 8) hP)
                have XAx := XA.x
                have hP' : Hid (isP (dL f) (dM f) (f 1) (dD f) (dR f) = true) := Lib.hid hP
                clear hP
                go_wp2_with fail
                refine CE.out.mono ?_; rintro e w2 ⟨g, rfl, hg, hU, hb2⟩
                have XB := XA.below hb2 XAx.lt
                have X5 := X4.below hb2 X4.lt
                have BY2 := BY.below hb2
                have HB2 := HBA.trans (hb2.mono zA)
                have z2 := HB2.size
                have CQ := Lib.hid (equal6 (some ⟨g, 0, none⟩) 48 48 (encF (f 0 / 64) (f 0 % 8) (f 1) (numK (fun j => f (4 + j)) 4) (numK (fun j => f (8 + j)) 4) (numK (fun j => f (24 + j)) 8) (numK (fun j => f (32 + j)) 8) (numK (fun j => f (40 + j)) 8)) (some ⟨B, O, none⟩) 48 c f w2 hU.bytes BY2 HEB.out HBB.out)
                clear hb2 d0 d1 d2 d3 d4 d5 d6 d7 XAx hU BY BY2 X4 hg
                cases hq : eqB 48 (encF (f 0 / 64) (f 0 % 8) (f 1) (numK (fun j => f (4 + j)) 4) (numK (fun j => f (8 + j)) 4) (numK (fun j => f (24 + j)) 8) (numK (fun j => f (32 + j)) 8) (numK (fun j => f (40 + j)) 8)) 48 f
                · have hk : Hid (decOk f = false) := Lib.hid (by show (isP _ _ _ _ _ && eqB 48 (encF (f 0 / 64) (f 0 % 8) (f 1) (numK (fun j => f (4 + j)) 4) (numK (fun j => f (8 + j)) 4) (numK (fun j => f (24 + j)) 8) (numK (fun j => f (32 + j)) 8) (numK (fun j => f (40 + j)) 8)) 48 f) = false; rw [hq]; simp)
                  rw [hq] at CQ
                  have R := st8_cells (l' := 0) (m' := 0) (s' := 0) (d' := 0) (r' := 0) (o' := 0) (v' := 0) (t' := 0) XB.x
                  obtain ⟨R0, R1, R2, R3, R4, R5, R6, R7, _⟩ := R
                  obtain ⟨⟨q0, q1, q2, q3, q4, q5, q6, q7, _⟩, qf⟩ := XB
                  clear hq X5
                  go_wp2_with (go_at_call 66; refine CQ.out.mono ?_; rintro e w' ⟨rfl, rfl⟩)
                  refine bodyPost_ret (v := .tuple #[pkV 0 0 0 0 0 0 0 0, .int .i64 3]) (by simp [results, Tryz.results39, go_sem, R0, R1, R2, R3, R4, R5, R6, R7]) rfl ⟨fun h => absurd h (by rw [hk.out]; simp), fun _ => rfl, ?_⟩
                  go_light
                  (repeat' (first | (with_reducible exact Below.refl _ _) | (with_reducible assumption) | (with_reducible refine Below.trans ?_ (Below.mono (by with_reducible assumption) ?_)) | (with_reducible refine Below.alloc ?_ ?_ _) | (with_reducible refine Below.setCell ?_ ?_ _) | (with_reducible refine below_drewN ?_ _) | (with_reducible refine Below.drew ?_) | go_size))
                · have hk : Hid (decOk f = true) := Lib.hid (by show (isP (dL f) (dM f) (f 1) (dD f) (dR f) && eqB 48 (encF (f 0 / 64) (f 0 % 8) (f 1) (numK (fun j => f (4 + j)) 4) (numK (fun j => f (8 + j)) 4) (numK (fun j => f (24 + j)) 8) (numK (fun j => f (32 + j)) 8) (numK (fun j => f (40 + j)) 8)) 48 f) = true; rw [hq, hP'.out]; rfl)
                  rw [hq] at CQ
                  have R := st8_cells (l' := f 0 / 64) (m' := f 0 % 8) (s' := f 1) (d' := numK (fun j => f (4 + j)) 4) (r' := numK (fun j => f (8 + j)) 4) (o' := numK (fun j => f (24 + j)) 8) (v' := numK (fun j => f (32 + j)) 8) (t' := numK (fun j => f (40 + j)) 8) XB.x
                  obtain ⟨R0, R1, R2, R3, R4, R5, R6, R7, _⟩ := R
                  obtain ⟨⟨q0, q1, q2, q3, q4, q5, q6, q7, _⟩, qf⟩ := XB
                  obtain ⟨e0, e1, e2, e3, e4, e5, e6, e7, _⟩ := X5
                  clear hq
                  go_wp2_with (go_at_call 66; refine CQ.out.mono ?_; rintro e w' ⟨rfl, rfl⟩)
                  refine bodyPost_ret (v := .tuple #[pkV (f 0 / 64) (f 0 % 8) (f 1) (numK (fun j => f (4 + j)) 4) (numK (fun j => f (8 + j)) 4) (numK (fun j => f (24 + j)) 8) (numK (fun j => f (32 + j)) 8) (numK (fun j => f (40 + j)) 8), .int .i64 0]) (by simp [results, Tryz.results39, go_sem, R0, R1, R2, R3, R4, R5, R6, R7]) rfl ⟨fun _ => rfl, fun h => absurd h (by rw [hk.out]; simp), ?_⟩
                  go_light
                  (repeat' (first | (with_reducible exact Below.refl _ _) | (with_reducible assumption) | (with_reducible refine Below.trans ?_ (Below.mono (by with_reducible assumption) ?_)) | (with_reducible refine Below.alloc ?_ ?_ _) | (with_reducible refine Below.setCell ?_ ?_ _) | (with_reducible refine below_drewN ?_ _) | (with_reducible refine Below.drew ?_) | go_size))
  · go_simp
    (try dsimp only)
    refine hK.out _ _ ?_ (fun hHeld => ?_)
    · exact ⟨HYA.out 0 (by omega), HYA.out 1 (by omega)⟩
    clear hK K
    (try simp only [Act.put, List.setIfInBounds_toArray, List.set_cons_zero, List.set_cons_succ, List.getElem_toArray, List.getElem_cons_succ, List.getElem_cons_zero])
    refine wpAnyH_ready (rs := [16]) (by kernel_rfl) (by simp) ?_
    refine AllReadyH.cons rfl (fun K hK => ?_) (AllReadyH.nil)
    · go_simp
      (go_at_call 65; refine (C1.out _ HYA.out).mono ?_; rintro e w' ⟨rfl, rfl⟩)
      (try dsimp only)
      refine hK.out _ _ ?_ (fun hHeld => ?_)
      · exact ⟨HYA.out 0 (by omega), HYA.out 1 (by omega)⟩
      clear hK K
      (try simp only [Act.put, List.setIfInBounds_toArray, List.set_cons_zero, List.set_cons_succ, List.getElem_toArray, List.getElem_cons_succ, List.getElem_cons_zero])
      refine wpAnyH_take (i := 17) (v := ?_) rfl (by kernel_rfl) (by kernel_rfl) (by kernel_rfl) (fun _ _ _ h => h) (Or.inl ⟨by rfl, ?_⟩) (by assumption) ?_
      rotate_left
      · intro w' hSw; (try dsimp only at hSw); go_simp; (try with_reducible rfl)
      (try simp only [Act.put, List.setIfInBounds_toArray, List.set_cons_zero, List.set_cons_succ, List.getElem_toArray, List.getElem_cons_succ, List.getElem_cons_zero])
      refine wpAnyH_ready (rs := [20]) (by kernel_rfl) (by simp) ?_
      refine AllReadyH.cons rfl (fun K hK => ?_) (AllReadyH.nil)
      · go_simp
        (go_at_call 65; refine (C2.out _ HYA.out).mono ?_; rintro e w' ⟨rfl, rfl⟩)
        (try dsimp only)
        refine hK.out _ _ ?_ (fun hHeld => ?_)
        · exact ⟨HYA.out 0 (by omega), HYA.out 1 (by omega)⟩
        clear hK K
        (try simp only [Act.put, List.setIfInBounds_toArray, List.set_cons_zero, List.set_cons_succ, List.getElem_toArray, List.getElem_cons_succ, List.getElem_cons_zero])
        refine wpAnyH_take (i := 21) (v := ?_) rfl (by kernel_rfl) (by kernel_rfl) (by kernel_rfl) (fun _ _ _ h => h) (Or.inl ⟨by rfl, ?_⟩) (by assumption) ?_
        rotate_left
        · intro w' hSw; (try dsimp only at hSw); go_simp; (try with_reducible rfl)
        (try simp only [Act.put, List.setIfInBounds_toArray, List.set_cons_zero, List.set_cons_succ, List.getElem_toArray, List.getElem_cons_succ, List.getElem_cons_zero])
        refine wpAnyH_ready (rs := [24]) (by kernel_rfl) (by simp) ?_
        refine AllReadyH.cons rfl (fun K hK => ?_) (AllReadyH.nil)
        · go_simp
          (go_at_call 65; refine (C3.out _ HYA.out).mono ?_; rintro e w' ⟨rfl, rfl⟩)
          (try dsimp only)
          refine hK.out _ _ ?_ (fun hHeld => ?_)
          · exact ⟨HYA.out 0 (by omega), HYA.out 1 (by omega)⟩
          clear hK K
          (try simp only [Act.put, List.setIfInBounds_toArray, List.set_cons_zero, List.set_cons_succ, List.getElem_toArray, List.getElem_cons_succ, List.getElem_cons_zero])
          refine wpAnyH_ready (rs := [27]) (by kernel_rfl) (by simp) ?_
          refine AllReadyH.cons rfl (fun K hK => ?_) (AllReadyH.nil)
          · go_simp
            (go_at_call 65; refine (C4.out _ HYA.out).mono ?_; rintro e w' ⟨rfl, rfl⟩)
            (try dsimp only)
            refine hK.out _ _ ?_ (fun hHeld => ?_)
            · exact ⟨HYA.out 0 (by omega), HYA.out 1 (by omega)⟩
            clear hK K
            (try simp only [Act.put, List.setIfInBounds_toArray, List.set_cons_zero, List.set_cons_succ, List.getElem_toArray, List.getElem_cons_succ, List.getElem_cons_zero])
            refine wpAnyH_ready (rs := [30]) (by kernel_rfl) (by simp) ?_
            refine AllReadyH.cons rfl (fun K hK => ?_) (AllReadyH.nil)
            · go_simp
              (go_at_call 65; refine (C5.out _ HYA.out).mono ?_; rintro e w' ⟨rfl, rfl⟩)
              (try dsimp only)
              refine hK.out _ _ ?_ (fun hHeld => ?_)
              · exact ⟨HYA.out 0 (by omega), HYA.out 1 (by omega)⟩
              clear hK K
              (try simp only [Act.put, List.setIfInBounds_toArray, List.set_cons_zero, List.set_cons_succ, List.getElem_toArray, List.getElem_cons_succ, List.getElem_cons_zero])
              refine wpAnyH_take (i := 31) (v := ?_) rfl (by kernel_rfl) (by kernel_rfl) (by kernel_rfl) (fun _ _ _ h => h) (Or.inl ⟨by rfl, ?_⟩) (by assumption) ?_
              rotate_left
              · intro w' hSw; (try dsimp only at hSw); go_simp; (try with_reducible rfl)
              (try simp only [Act.put, List.setIfInBounds_toArray, List.set_cons_zero, List.set_cons_succ, List.getElem_toArray, List.getElem_cons_succ, List.getElem_cons_zero])
              refine wpAnyH_ready (rs := [33]) (by kernel_rfl) (by simp) ?_
              refine AllReadyH.cons rfl (fun K hK => ?_) AllReadyH.nil
              go_simp
              (try dsimp only)
              refine hK.out _ _ ?_ (fun hHeld => ?_)
              · exact ⟨(World.cell?_alloc_past _ B O lB).trans (HY.out 0 (by omega)), (World.cell?_alloc_past _ B (O + 1) lB).trans (HY.out 1 (by omega))⟩
              clear hK K
              (try simp only [Act.put, List.setIfInBounds_toArray, List.set_cons_zero, List.set_cons_succ, List.getElem_toArray, List.getElem_cons_succ, List.getElem_cons_zero])
              refine wpAnyH_done (by kernel_rfl) ?_ _
              have XA := X.alloc (pkO (f 0 / 64) (f 0 % 8) (f 1) (numK (fun j => f (4 + j)) 4) (numK (fun j => f (8 + j)) 4) (numK (fun j => f (24 + j)) 8) (numK (fun j => f (32 + j)) 8) (numK (fun j => f (40 + j)) 8))
              have HBA := HB.alloc HB.size (pkO (f 0 / 64) (f 0 % 8) (f 1) (numK (fun j => f (4 + j)) 4) (numK (fun j => f (8 + j)) 4) (numK (fun j => f (24 + j)) 8) (numK (fun j => f (32 + j)) 8) (numK (fun j => f (40 + j)) 8))
              have X4 := Box8.new V (f 0 / 64) (f 0 % 8) (f 1) (numK (fun j => f (4 + j)) 4) (numK (fun j => f (8 + j)) 4) (numK (fun j => f (24 + j)) 8) (numK (fun j => f (32 + j)) 8) (numK (fun j => f (40 + j)) 8)
              have BY : BytesAt (V.alloc (pkO (f 0 / 64) (f 0 % 8) (f 1) (numK (fun j => f (4 + j)) 4) (numK (fun j => f (8 + j)) 4) (numK (fun j => f (24 + j)) 8) (numK (fun j => f (32 + j)) 8) (numK (fun j => f (40 + j)) 8))) (some ⟨B, O, none⟩) 48 f := fun _ => ⟨B, O, rfl, by simp; omega, fun j hj => (World.cell?_alloc_past _ B (O + j) lB).trans (HY.out j hj)⟩
              have d0 := X4.c0
              have d1 := X4.c1
              have d2 := X4.c2
              have d3 := X4.c3
              have d4 := X4.c4
              have d5 := X4.c5
              have d6 := X4.c6
              have d7 := X4.c7
              have zA := HBA.size
              clear C1 C2 C3 C4 C5 w1 w2 w3 w4 w5 a7 HY HYA X HB lB
              generalize hVA : V.alloc (pkO (f 0 / 64) (f 0 % 8) (f 1) (numK (fun j => f (4 + j)) 4) (numK (fun j => f (8 + j)) 4) (numK (fun j => f (24 + j)) 8) (numK (fun j => f (32 + j)) 8) (numK (fun j => f (40 + j)) 8)) = VA at *
              generalize V.heap.size = b4 at *
              clear hVA
              cases hP : isP (f 0 / 64) (f 0 % 8) (f 1) (numK (fun j => f (4 + j)) 4) (numK (fun j => f (8 + j)) 4)
              · have CE := Lib.hid (pk_enc_no (f 0 / 64) (f 0 % 8) (f 1) (numK (fun j => f (4 + j)) 4) (numK (fun j => f (8 + j)) 4) (numK (fun j => f (24 + j)) 8) (numK (fun j => f (32 + j)) 8) (numK (fun j => f (40 + j)) 8) VA hP)
                have hk : Hid (decOk f = false) := Lib.hid (by show (isP (f 0 / 64) (f 0 % 8) (f 1) (numK (fun j => f (4 + j)) 4) (numK (fun j => f (8 + j)) 4) && _) = false; rw [hP]; rfl)
                have XAx := XA.x
                have XAf := XA.f
                clear hP
                go_wp2_with fail
                refine CE.out.mono ?_; rintro e w2 ⟨rfl, hb2⟩
                have XB := XA.below hb2 XAx.lt
                have HB2 := HBA.trans (hb2.mono zA)
                have z2 := HB2.size
                have R := st8_cells (l' := 0) (m' := 0) (s' := 0) (d' := 0) (r' := 0) (o' := 0) (v' := 0) (t' := 0) XB.x
                obtain ⟨R0, R1, R2, R3, R4, R5, R6, R7, _⟩ := R
                obtain ⟨⟨q0, q1, q2, q3, q4, q5, q6, q7, _⟩, qf⟩ := XB
                clear hb2 d0 d1 d2 d3 d4 d5 d6 d7 XAx XAf
                go_wp2
                refine bodyPost_ret (v := .tuple #[pkV 0 0 0 0 0 0 0 0, .int .i64 3]) (by simp [results, Tryz.results39, go_sem, R0, R1, R2, R3, R4, R5, R6, R7]) rfl ⟨fun h => absurd h (by rw [hk.out]; simp), fun _ => rfl, ?_⟩
                go_light
                (repeat' (first | (with_reducible exact Below.refl _ _) | (with_reducible assumption) | (with_reducible refine Below.trans ?_ (Below.mono (by with_reducible assumption) ?_)) | (with_reducible refine Below.alloc ?_ ?_ _) | (with_reducible refine Below.setCell ?_ ?_ _) | (with_reducible refine below_drewN ?_ _) | (with_reducible refine Below.drew ?_) | go_size))
              · have CE := Lib.hid (pk_enc_yes (f 0 / 64) (f 0 % 8) (f 1) (numK (fun j => f (4 + j)) 4) (numK (fun j => f (8 + j)) 4) (numK (fun j => f (24 + j)) 8) (numK (fun j => f (32 + j)) 8) (numK (fun j => f (40 + j)) 8) VA hP nO.1 nO.2 nV.1 nV.2 nT.1 nT.2)
                have HEB := Lib.hid (encF_byte (f 0 / 64) (f 0 % 8) (f 1) (numK (fun j => f (4 + j)) 4) (numK (fun j => f (8 + j)) 4) (numK (fun j => f (24 + j)) 8) (numK (fun j => f (32 + j)) 8) (numK (fun j => f (40 + j)) 8) hP)
                have XAx := XA.x
                have hP' : Hid (isP (dL f) (dM f) (f 1) (dD f) (dR f) = true) := Lib.hid hP
                clear hP
                go_wp2_with fail
                refine CE.out.mono ?_; rintro e w2 ⟨g, rfl, hg, hU, hb2⟩
                have XB := XA.below hb2 XAx.lt
                have X5 := X4.below hb2 X4.lt
                have BY2 := BY.below hb2
                have HB2 := HBA.trans (hb2.mono zA)
                have z2 := HB2.size
                have CQ := Lib.hid (equal6 (some ⟨g, 0, none⟩) 48 48 (encF (f 0 / 64) (f 0 % 8) (f 1) (numK (fun j => f (4 + j)) 4) (numK (fun j => f (8 + j)) 4) (numK (fun j => f (24 + j)) 8) (numK (fun j => f (32 + j)) 8) (numK (fun j => f (40 + j)) 8)) (some ⟨B, O, none⟩) 48 c f w2 hU.bytes BY2 HEB.out HBB.out)
                clear hb2 d0 d1 d2 d3 d4 d5 d6 d7 XAx hU BY BY2 X4 hg
                cases hq : eqB 48 (encF (f 0 / 64) (f 0 % 8) (f 1) (numK (fun j => f (4 + j)) 4) (numK (fun j => f (8 + j)) 4) (numK (fun j => f (24 + j)) 8) (numK (fun j => f (32 + j)) 8) (numK (fun j => f (40 + j)) 8)) 48 f
                · have hk : Hid (decOk f = false) := Lib.hid (by show (isP _ _ _ _ _ && eqB 48 (encF (f 0 / 64) (f 0 % 8) (f 1) (numK (fun j => f (4 + j)) 4) (numK (fun j => f (8 + j)) 4) (numK (fun j => f (24 + j)) 8) (numK (fun j => f (32 + j)) 8) (numK (fun j => f (40 + j)) 8)) 48 f) = false; rw [hq]; simp)
                  rw [hq] at CQ
                  have R := st8_cells (l' := 0) (m' := 0) (s' := 0) (d' := 0) (r' := 0) (o' := 0) (v' := 0) (t' := 0) XB.x
                  obtain ⟨R0, R1, R2, R3, R4, R5, R6, R7, _⟩ := R
                  obtain ⟨⟨q0, q1, q2, q3, q4, q5, q6, q7, _⟩, qf⟩ := XB
                  clear hq X5
                  go_wp2_with (go_at_call 66; refine CQ.out.mono ?_; rintro e w' ⟨rfl, rfl⟩)
                  refine bodyPost_ret (v := .tuple #[pkV 0 0 0 0 0 0 0 0, .int .i64 3]) (by simp [results, Tryz.results39, go_sem, R0, R1, R2, R3, R4, R5, R6, R7]) rfl ⟨fun h => absurd h (by rw [hk.out]; simp), fun _ => rfl, ?_⟩
                  go_light
                  (repeat' (first | (with_reducible exact Below.refl _ _) | (with_reducible assumption) | (with_reducible refine Below.trans ?_ (Below.mono (by with_reducible assumption) ?_)) | (with_reducible refine Below.alloc ?_ ?_ _) | (with_reducible refine Below.setCell ?_ ?_ _) | (with_reducible refine below_drewN ?_ _) | (with_reducible refine Below.drew ?_) | go_size))
                · have hk : Hid (decOk f = true) := Lib.hid (by show (isP (dL f) (dM f) (f 1) (dD f) (dR f) && eqB 48 (encF (f 0 / 64) (f 0 % 8) (f 1) (numK (fun j => f (4 + j)) 4) (numK (fun j => f (8 + j)) 4) (numK (fun j => f (24 + j)) 8) (numK (fun j => f (32 + j)) 8) (numK (fun j => f (40 + j)) 8)) 48 f) = true; rw [hq, hP'.out]; rfl)
                  rw [hq] at CQ
                  have R := st8_cells (l' := f 0 / 64) (m' := f 0 % 8) (s' := f 1) (d' := numK (fun j => f (4 + j)) 4) (r' := numK (fun j => f (8 + j)) 4) (o' := numK (fun j => f (24 + j)) 8) (v' := numK (fun j => f (32 + j)) 8) (t' := numK (fun j => f (40 + j)) 8) XB.x
                  obtain ⟨R0, R1, R2, R3, R4, R5, R6, R7, _⟩ := R
                  obtain ⟨⟨q0, q1, q2, q3, q4, q5, q6, q7, _⟩, qf⟩ := XB
                  obtain ⟨e0, e1, e2, e3, e4, e5, e6, e7, _⟩ := X5
                  clear hq
                  go_wp2_with (go_at_call 66; refine CQ.out.mono ?_; rintro e w' ⟨rfl, rfl⟩)
                  refine bodyPost_ret (v := .tuple #[pkV (f 0 / 64) (f 0 % 8) (f 1) (numK (fun j => f (4 + j)) 4) (numK (fun j => f (8 + j)) 4) (numK (fun j => f (24 + j)) 8) (numK (fun j => f (32 + j)) 8) (numK (fun j => f (40 + j)) 8), .int .i64 0]) (by simp [results, Tryz.results39, go_sem, R0, R1, R2, R3, R4, R5, R6, R7]) rfl ⟨fun _ => rfl, fun h => absurd h (by rw [hk.out]; simp), ?_⟩
                  go_light
                  (repeat' (first | (with_reducible exact Below.refl _ _) | (with_reducible assumption) | (with_reducible refine Below.trans ?_ (Below.mono (by with_reducible assumption) ?_)) | (with_reducible refine Below.alloc ?_ ?_ _) | (with_reducible refine Below.setCell ?_ ?_ _) | (with_reducible refine below_drewN ?_ _) | (with_reducible refine Below.drew ?_) | go_size))
end Go.Proofs.YtepdnkpmkhjlgaaGreat
