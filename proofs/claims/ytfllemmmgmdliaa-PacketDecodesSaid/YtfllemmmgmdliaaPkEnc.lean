/- packet.Encode (written by gen/pkenc.py). -/
import Derived.Test.YtfllemmmgmdliaaPkLay
import Derived.BigGuard
import Derived.BigGuardPart
import Derived.BigCall
set_option linter.unusedSimpArgs false
set_option linter.unusedVariables false
namespace Go.Proofs.Ytfllemmmgmdliaa
open Go.RowKit

def inN (n lo hi : Int) : Bool := decide (lo ≤ n) && decide (n ≤ hi)
theorem pk_within (n lo hi : Int) (w : World) : Calls Try.prog 15 #[.int .i64 n, .int .i64 lo, .int .i64 hi] w fun e w' => e = .returned (.bool (inN n lo hi)) ∧ w = w' := by
  rcases (show n < lo ∨ (lo ≤ n ∧ n ≤ hi) ∨ (lo ≤ n ∧ hi < n) from by omega) with p | ⟨p, q⟩ | ⟨p, q⟩
  · have e : inN n lo hi = false := by simp [inN]; omega
    have E := Lib.hid e
    have t1 : decide (lo ≤ n) = false := by simp; omega
    clear e
    go_enter Try.func15, Try.ntmps15
    go_wp2
    go_ret
    exact ⟨by rw [E.out]; rfl, rfl⟩
  · have e : inN n lo hi = true := by simp [inN]; omega
    have E := Lib.hid e
    have t1 : decide (lo ≤ n) = true := by simpa using p
    have t2 : decide (n ≤ hi) = true := by simpa using q
    clear e
    go_enter Try.func15, Try.ntmps15
    go_wp2
    go_ret
    exact ⟨by rw [E.out]; rfl, rfl⟩
  · have e : inN n lo hi = false := by simp [inN]; omega
    have E := Lib.hid e
    have t1 : decide (lo ≤ n) = true := by simpa using p
    have t2 : decide (n ≤ hi) = false := by simp; omega
    clear e
    go_enter Try.func15, Try.ntmps15
    go_wp2
    go_ret
    exact ⟨by rw [E.out]; rfl, rfl⟩
/-- May these numbers be a packet's? -/
def isP (l m s d r : Int) : Bool := inN l 0 3 && (inN m 3 4 && (inN s 0 255 && (inN d 0 4294967295 && inN r 0 4294967295)))
abbrev pkV (l m s d r o v t : Int) : Value := .agg #[.int .i64 l, .int .i64 m, .int .i64 s, .int .i64 d, .int .i64 r, .int .u64 o, .int .u64 v, .int .u64 t]
abbrev pkO (l m s d r o v t : Int) : Obj := .cells #[.int .i64 l, .int .i64 m, .int .i64 s, .int .i64 d, .int .i64 r, .int .u64 o, .int .u64 v, .int .u64 t] 24
set_option maxHeartbeats 2000000 in
theorem pk_enc_no (l m s d r o v t : Int) (w : World) (h : isP l m s d r = false) : Calls Try.prog 7 #[pkV l m s d r o v t] w fun e w' => e = .returned (.tuple #[.slice none 0 0, .int .i64 1]) ∧ Below w.heap.size w w' := by
  unfold isP at h
  cases h1 : inN l 0 3
  · clear h
    go_enter Try.func7, Try.ntmps7
    go_wp2_with (go_at_call 15; refine (pk_within _ _ _ _).mono ?_; rintro e w' ⟨rfl, rfl⟩)
    go_ret2
    go_light
    exact ⟨rfl, by (repeat' (first | (with_reducible exact Below.refl _ _) | (with_reducible assumption) | (with_reducible refine Below.trans ?_ (Below.mono (by with_reducible assumption) ?_)) | (with_reducible refine Below.alloc ?_ ?_ _) | (with_reducible refine Below.setCell ?_ ?_ _) | (with_reducible refine below_drewN ?_ _) | (with_reducible refine Below.drew ?_) | go_size))⟩
  cases h2 : inN m 3 4
  · clear h
    go_enter Try.func7, Try.ntmps7
    go_wp2_with (go_at_call 15; refine (pk_within _ _ _ _).mono ?_; rintro e w' ⟨rfl, rfl⟩)
    go_ret2
    go_light
    exact ⟨rfl, by (repeat' (first | (with_reducible exact Below.refl _ _) | (with_reducible assumption) | (with_reducible refine Below.trans ?_ (Below.mono (by with_reducible assumption) ?_)) | (with_reducible refine Below.alloc ?_ ?_ _) | (with_reducible refine Below.setCell ?_ ?_ _) | (with_reducible refine below_drewN ?_ _) | (with_reducible refine Below.drew ?_) | go_size))⟩
  cases h3 : inN s 0 255
  · clear h
    go_enter Try.func7, Try.ntmps7
    go_wp2_with (go_at_call 15; refine (pk_within _ _ _ _).mono ?_; rintro e w' ⟨rfl, rfl⟩)
    go_ret2
    go_light
    exact ⟨rfl, by (repeat' (first | (with_reducible exact Below.refl _ _) | (with_reducible assumption) | (with_reducible refine Below.trans ?_ (Below.mono (by with_reducible assumption) ?_)) | (with_reducible refine Below.alloc ?_ ?_ _) | (with_reducible refine Below.setCell ?_ ?_ _) | (with_reducible refine below_drewN ?_ _) | (with_reducible refine Below.drew ?_) | go_size))⟩
  cases h4 : inN d 0 4294967295
  · clear h
    go_enter Try.func7, Try.ntmps7
    go_wp2_with (go_at_call 15; refine (pk_within _ _ _ _).mono ?_; rintro e w' ⟨rfl, rfl⟩)
    go_ret2
    go_light
    exact ⟨rfl, by (repeat' (first | (with_reducible exact Below.refl _ _) | (with_reducible assumption) | (with_reducible refine Below.trans ?_ (Below.mono (by with_reducible assumption) ?_)) | (with_reducible refine Below.alloc ?_ ?_ _) | (with_reducible refine Below.setCell ?_ ?_ _) | (with_reducible refine below_drewN ?_ _) | (with_reducible refine Below.drew ?_) | go_size))⟩
  have h5 : inN r 0 4294967295 = false := by simpa [h1, h2, h3, h4] using h
  clear h
  go_enter Try.func7, Try.ntmps7
  go_wp2_with (go_at_call 15; refine (pk_within _ _ _ _).mono ?_; rintro e w' ⟨rfl, rfl⟩)
  go_ret2
  go_light
  exact ⟨rfl, by (repeat' (first | (with_reducible exact Below.refl _ _) | (with_reducible assumption) | (with_reducible refine Below.trans ?_ (Below.mono (by with_reducible assumption) ?_)) | (with_reducible refine Below.alloc ?_ ?_ _) | (with_reducible refine Below.setCell ?_ ?_ _) | (with_reducible refine below_drewN ?_ _) | (with_reducible refine Below.drew ?_) | go_size))⟩
/-- A packet's bytes. -/
def encF (l m s d r o v t : Int) : Nat → Int :=
  layF (layF (layF (layF (layF (upd8 (upd8 (fun _ => 0) 0 (l * 64 + 32 + m)) 1 s) 4 4 d) 8 4 r) 24 8 o) 32 8 v) 40 8 t
/-- A packet in a block. -/
structure Box8 (w : World) (b : Nat) (l m s d r o v t : Int) : Prop where
  c0 : w.cell? ⟨b, 0, none⟩ = some (.int .i64 l)
  c1 : w.cell? ⟨b, 1, none⟩ = some (.int .i64 m)
  c2 : w.cell? ⟨b, 2, none⟩ = some (.int .i64 s)
  c3 : w.cell? ⟨b, 3, none⟩ = some (.int .i64 d)
  c4 : w.cell? ⟨b, 4, none⟩ = some (.int .i64 r)
  c5 : w.cell? ⟨b, 5, none⟩ = some (.int .u64 o)
  c6 : w.cell? ⟨b, 6, none⟩ = some (.int .u64 v)
  c7 : w.cell? ⟨b, 7, none⟩ = some (.int .u64 t)
  lt : b < w.heap.size
theorem Box8.cells {w w' : World} {b : Nat} {l m s d r o v t : Int} (h : Box8 w b l m s d r o v t) (hc : ∀ j, w'.cell? ⟨b, j, none⟩ = w.cell? ⟨b, j, none⟩) (hs : w.heap.size ≤ w'.heap.size) : Box8 w' b l m s d r o v t :=
  ⟨(hc 0).trans h.c0, (hc 1).trans h.c1, (hc 2).trans h.c2, (hc 3).trans h.c3, (hc 4).trans h.c4, (hc 5).trans h.c5, (hc 6).trans h.c6, (hc 7).trans h.c7, Nat.lt_of_lt_of_le h.lt hs⟩
theorem Box8.only {w w' : World} {b g : Nat} {l m s d r o v t : Int} (h : Box8 w b l m s d r o v t) (k : Only g w w') (hn : b ≠ g) : Box8 w' b l m s d r o v t := h.cells (fun j => k.cell b j h.lt hn) k.size
theorem Box8.below {w w' : World} {b B : Nat} {l m s d r o v t : Int} (h : Box8 w b l m s d r o v t) (k : Below B w w') (hn : b < B) : Box8 w' b l m s d r o v t := h.cells (fun j => k.cell (p := ⟨b, j, none⟩) hn) k.size
theorem Box8.alloc {w : World} {b : Nat} {l m s d r o v t : Int} (h : Box8 w b l m s d r o v t) (x : Obj) : Box8 (w.alloc x) b l m s d r o v t := h.below ((Below.refl _ _).alloc (Nat.le_refl _) x) h.lt
theorem Box8.drewN {w : World} {b : Nat} {l m s d r o v t : Int} (h : Box8 w b l m s d r o v t) (n : Nat) : Box8 (w.drewN n) b l m s d r o v t := ⟨h.c0, h.c1, h.c2, h.c3, h.c4, h.c5, h.c6, h.c7, h.lt⟩
theorem Box8.drew {w : World} {b : Nat} {l m s d r o v t : Int} (h : Box8 w b l m s d r o v t) : Box8 w.drew b l m s d r o v t := ⟨h.c0, h.c1, h.c2, h.c3, h.c4, h.c5, h.c6, h.c7, h.lt⟩
theorem Box8.other {w : World} {b : Nat} {l m s d r o v t : Int} (h : Box8 w b l m s d r o v t) {p : Addr} (hp : p.block ≠ b) (u : Value) : Box8 (w.setCell p u) b l m s d r o v t := h.cells (fun j => World.cell?_setCell_other _ _ _ _ (fun e => hp (by rw [e]))) (by simp [World.setCell])
theorem Box8.new (w : World) (l m s d r o v t : Int) : Box8 (w.alloc (pkO l m s d r o v t)) w.heap.size l m s d r o v t := by constructor <;> simp
def z48 : Array Value := Array.replicate 48 (.int .u8 0)
theorem make48 (w : World) : (Instr.makeSlice 25 (.int .i64 48) (.int .i64 48)).run Try.prog w = .ok (.slice (some ⟨w.heap.size, 0, none⟩) 48 48) (w.alloc (.cells z48 5)) := by kernel_rfl
theorem u8_new (w : World) : U8At (w.alloc (.cells z48 5)) w.heap.size 48 (fun _ => 0) := by
  constructor
  · intro j hj
    rw [World.cell?_alloc_new]
    simp [z48, hj]
  · intro q; simp
  · simp
theorem inN_bd {n lo hi : Int} (h : inN n lo hi = true) : lo ≤ n ∧ n ≤ hi := by simpa [inN] using h
theorem head_byte (l m : Int) (h1 : inN l 0 3 = true) (h2 : inN m 3 4 = true) : IntKind.u8.wrap (bits .or .i64 (bits .or .i64 (IntKind.i64.wrap (l * 64)) 32) m) = l * 64 + 32 + m := by
  have a := inN_bd h1
  have b := inN_bd h2
  rcases (show l = 0 ∨ l = 1 ∨ l = 2 ∨ l = 3 from by omega) with rfl | rfl | rfl | rfl <;> rcases (show m = 3 ∨ m = 4 from by omega) with rfl | rfl <;> decide
set_option maxRecDepth 100000 in
set_option maxHeartbeats 4000000 in
theorem pk_enc_yes (l m s d r o v t : Int) (w : World) (h : isP l m s d r = true) (o0 : 0 ≤ o) (o1 : o < 18446744073709551616) (v0 : 0 ≤ v) (v1 : v < 18446744073709551616) (t0 : 0 ≤ t) (t1 : t < 18446744073709551616) :
    Calls Try.prog 7 #[pkV l m s d r o v t] w fun e w' => ∃ g, e = .returned (.tuple #[.slice (some ⟨g, 0, none⟩) 48 48, .int .i64 0]) ∧ w.heap.size < g ∧ U8At w' g 48 (encF l m s d r o v t) ∧ Below w.heap.size w w' := by
  have hh := h
  unfold isP at hh
  simp only [Bool.and_eq_true] at hh
  obtain ⟨h1, h2, h3, h4, h5⟩ := hh
  have HH := Lib.hid (head_byte l m h1 h2)
  have b1 := inN_bd h1
  have b2 := inN_bd h2
  have b3 := inN_bd h3
  have b4 := inN_bd h4
  have b5 := inN_bd h5
  have hs8 : IntKind.u8.wrap s = s := by rw [u8_wrap]; omega
  have hd8 : IntKind.u64.wrap d = d := by simp [IntKind.wrap, IntKind.bits, IntKind.signed]; omega
  have hr8 : IntKind.u64.wrap r = r := by simp [IntKind.wrap, IntKind.bits, IntKind.signed]; omega
  have HE := Lib.hid (And.intro hs8 (And.intro hd8 hr8))
  have HX := Lib.hid (Box8.new w l m s d r o v t)
  have HB0 : Hid (Below w.heap.size w (w.alloc (pkO l m s d r o v t))) := Lib.hid (by (repeat' (first | (with_reducible exact Below.refl _ _) | (with_reducible assumption) | (with_reducible refine Below.trans ?_ (Below.mono (by with_reducible assumption) ?_)) | (with_reducible refine Below.alloc ?_ ?_ _) | (with_reducible refine Below.setCell ?_ ?_ _) | (with_reducible refine below_drewN ?_ _) | (with_reducible refine Below.drew ?_) | go_size)))
  have HM := Lib.hid (u8_new (w.alloc (pkO l m s d r o v t)))
  have hmk := make48
  clear h hs8 hd8 hr8
  go_enter Try.func7, Try.ntmps7
  go_wp2_with (go_at_call 15; refine (pk_within _ _ _ _).mono ?_; rintro e w' ⟨rfl, rfl⟩)
  obtain ⟨hs8, hd8, hr8⟩ := HE.out
  have hh := HH.out
  have HB1 : Below w.heap.size w ((w.alloc (pkO l m s d r o v t)).alloc (.cells z48 5)) := HB0.out.alloc (by simp) _
  have X1 := HX.out.alloc (.cells z48 5)
  have U1 := HM.out
  rw [World.size_alloc] at U1
  have hng : w.heap.size ≠ w.heap.size + 1 := by omega
  have hgg : w.heap.size < w.heap.size + 1 := by omega
  generalize (w.alloc (pkO l m s d r o v t)).alloc (.cells z48 5) = W1 at *
  generalize hbx : w.heap.size = bx at *
  generalize bx + 1 = g at *
  have HBX := Lib.hid hbx
  clear hbx hmk HX HM HB0
  refine wp_region_held_drew (S := fun w' => w'.cell? ⟨bx, 0, none⟩ = some (.int .i64 l) ∧ w'.cell? ⟨bx, 1, none⟩ = some (.int .i64 m) ∧ w'.cell? ⟨bx, 2, none⟩ = some (.int .i64 s)) (by kernel_rfl) ?_ (fun hHeld => ?_)
  · exact ⟨X1.c0, X1.c1, X1.c2⟩
  have X1d := X1.drew
  have U1d := U1.drew
  have HB1d := HB1.drew
  generalize W1.drew = V1 at *
  clear X1 U1 HB1
  refine wpAnyH_take (i := 0) (v := ?_) rfl (by kernel_rfl) (by kernel_rfl) (by kernel_rfl) (fun _ _ _ h => h) (Or.inl ⟨by rfl, ?_⟩) (by assumption) ?_
  rotate_left
  · intro w' hSw; (try dsimp only at hSw); go_simp; (try with_reducible rfl)
  (try simp only [Act.put, List.setIfInBounds_toArray, List.set_cons_zero, List.set_cons_succ, List.getElem_toArray, List.getElem_cons_succ, List.getElem_cons_zero])
  refine wpAnyH_take (i := 1) (v := ?_) rfl (by kernel_rfl) (by kernel_rfl) (by kernel_rfl) (fun _ _ _ h => h) (Or.inl ⟨by rfl, ?_⟩) (by assumption) ?_
  rotate_left
  · intro w' hSw; (try dsimp only at hSw); go_simp; (try with_reducible rfl)
  (try simp only [Act.put, List.setIfInBounds_toArray, List.set_cons_zero, List.set_cons_succ, List.getElem_toArray, List.getElem_cons_succ, List.getElem_cons_zero])
  refine wpAnyH_take (i := 2) (v := ?_) rfl (by kernel_rfl) (by kernel_rfl) (by kernel_rfl) (fun _ _ _ h => h) (Or.inl ⟨by rfl, ?_⟩) (by assumption) ?_
  rotate_left
  · intro w' hSw; (try dsimp only at hSw); go_simp; (try with_reducible rfl)
  (try simp only [Act.put, List.setIfInBounds_toArray, List.set_cons_zero, List.set_cons_succ, List.getElem_toArray, List.getElem_cons_succ, List.getElem_cons_zero])
  refine wpAnyH_take (i := 3) (v := ?_) rfl (by kernel_rfl) (by kernel_rfl) (by kernel_rfl) (fun _ _ _ h => h) (Or.inl ⟨by rfl, ?_⟩) (by assumption) ?_
  rotate_left
  · intro w' hSw; (try dsimp only at hSw); go_simp; (try with_reducible rfl)
  (try simp only [Act.put, List.setIfInBounds_toArray, List.set_cons_zero, List.set_cons_succ, List.getElem_toArray, List.getElem_cons_succ, List.getElem_cons_zero])
  refine wpAnyH_take (i := 4) (v := ?_) rfl (by kernel_rfl) (by kernel_rfl) (by kernel_rfl) (fun _ _ _ h => h) (Or.inl ⟨by rfl, ?_⟩) (by assumption) ?_
  rotate_left
  · intro w' hSw; (try dsimp only at hSw); go_simp; (try with_reducible rfl)
  (try simp only [Act.put, List.setIfInBounds_toArray, List.set_cons_zero, List.set_cons_succ, List.getElem_toArray, List.getElem_cons_succ, List.getElem_cons_zero])
  refine wpAnyH_take (i := 5) (v := ?_) rfl (by kernel_rfl) (by kernel_rfl) (by kernel_rfl) (fun _ _ _ h => h) (Or.inl ⟨by rfl, ?_⟩) (by assumption) ?_
  rotate_left
  · intro w' hSw; (try dsimp only at hSw); go_simp; (try with_reducible rfl)
  (try simp only [Act.put, List.setIfInBounds_toArray, List.set_cons_zero, List.set_cons_succ, List.getElem_toArray, List.getElem_cons_succ, List.getElem_cons_zero])
  refine wpAnyH_take (i := 6) (v := ?_) rfl (by kernel_rfl) (by kernel_rfl) (by kernel_rfl) (fun _ _ _ h => h) (Or.inl ⟨by rfl, ?_⟩) (by assumption) ?_
  rotate_left
  · intro w' hSw; (try dsimp only at hSw); go_simp; (try with_reducible rfl)
  (try simp only [Act.put, List.setIfInBounds_toArray, List.set_cons_zero, List.set_cons_succ, List.getElem_toArray, List.getElem_cons_succ, List.getElem_cons_zero])
  refine wpAnyH_take (i := 7) (v := ?_) rfl (by kernel_rfl) (by kernel_rfl) (by kernel_rfl) (fun _ _ _ h => h) (Or.inl ⟨by rfl, ?_⟩) (by assumption) ?_
  rotate_left
  · intro w' hSw; (try dsimp only at hSw); go_simp; (try with_reducible rfl)
  (try simp only [Act.put, List.setIfInBounds_toArray, List.set_cons_zero, List.set_cons_succ, List.getElem_toArray, List.getElem_cons_succ, List.getElem_cons_zero])
  refine wpAnyH_take (i := 8) (v := ?_) rfl (by kernel_rfl) (by kernel_rfl) (by kernel_rfl) (fun _ _ _ h => h) (Or.inl ⟨by rfl, ?_⟩) (by assumption) ?_
  rotate_left
  · intro w' hSw; (try dsimp only at hSw); go_simp; (try with_reducible rfl)
  (try simp only [Act.put, List.setIfInBounds_toArray, List.set_cons_zero, List.set_cons_succ, List.getElem_toArray, List.getElem_cons_succ, List.getElem_cons_zero])
  refine wpAnyH_take (i := 9) (v := ?_) rfl (by kernel_rfl) (by kernel_rfl) (by kernel_rfl) (fun _ _ _ h => h) (Or.inl ⟨by rfl, ?_⟩) (by assumption) ?_
  rotate_left
  · intro w' hSw; (try dsimp only at hSw); go_simp; (try with_reducible rfl)
  (try simp only [Act.put, List.setIfInBounds_toArray, List.set_cons_zero, List.set_cons_succ, List.getElem_toArray, List.getElem_cons_succ, List.getElem_cons_zero])
  refine wpAnyH_take (i := 10) (v := ?_) rfl (by kernel_rfl) (by kernel_rfl) (by kernel_rfl) (fun _ _ _ h => h) (Or.inl ⟨by rfl, ?_⟩) (by assumption) ?_
  rotate_left
  · intro w' hSw; (try dsimp only at hSw); go_simp; (try with_reducible rfl)
  (try simp only [Act.put, List.setIfInBounds_toArray, List.set_cons_zero, List.set_cons_succ, List.getElem_toArray, List.getElem_cons_succ, List.getElem_cons_zero])
  refine wpAnyH_take (i := 11) (v := ?_) rfl (by kernel_rfl) (by kernel_rfl) (by kernel_rfl) (fun _ _ _ h => h) (Or.inl ⟨by rfl, ?_⟩) (by assumption) ?_
  rotate_left
  · intro w' hSw; (try dsimp only at hSw); go_simp; (try with_reducible rfl)
  (try simp only [Act.put, List.setIfInBounds_toArray, List.set_cons_zero, List.set_cons_succ, List.getElem_toArray, List.getElem_cons_succ, List.getElem_cons_zero])
  refine wpAnyH_take (i := 12) (v := ?_) rfl (by kernel_rfl) (by kernel_rfl) (by kernel_rfl) (fun _ _ _ h => h) (Or.inl ⟨by rfl, ?_⟩) (by assumption) ?_
  rotate_left
  · intro w' hSw; (try dsimp only at hSw); go_simp; (try with_reducible rfl)
  (try simp only [Act.put, List.setIfInBounds_toArray, List.set_cons_zero, List.set_cons_succ, List.getElem_toArray, List.getElem_cons_succ, List.getElem_cons_zero])
  refine wpAnyH_take (i := 13) (v := ?_) rfl (by kernel_rfl) (by kernel_rfl) (by kernel_rfl) (fun _ _ _ h => h) (Or.inl ⟨by rfl, ?_⟩) (by assumption) ?_
  rotate_left
  · intro w' hSw; (try dsimp only at hSw); go_simp; (try with_reducible rfl)
  (try simp only [Act.put, List.setIfInBounds_toArray, List.set_cons_zero, List.set_cons_succ, List.getElem_toArray, List.getElem_cons_succ, List.getElem_cons_zero])
  have cc := U1d.c 0 (by omega)
  have ff := U1d.fz 0
  have cc1 := U1d.c 1 (by omega)
  have ff1 := U1d.fz 1
  refine wpAnyH_ready (rs := [14]) (by kernel_rfl) (by simp) ?_
  refine AllReadyH.cons rfl (fun K hK => ?_) AllReadyH.nil
  go_simp
  (try dsimp only)
  refine hK.out _ _ ?_ (fun hHeld => ?_)
  · exact ⟨(X1d.other (p := ⟨g, 0, none⟩) (Ne.symm hng) _).c0, (X1d.other (p := ⟨g, 0, none⟩) (Ne.symm hng) _).c1, (X1d.other (p := ⟨g, 0, none⟩) (Ne.symm hng) _).c2⟩
  clear hK K
  (try simp only [Act.put, List.setIfInBounds_toArray, List.set_cons_zero, List.set_cons_succ, List.getElem_toArray, List.getElem_cons_succ, List.getElem_cons_zero])
  have X2 := X1d.other (p := ⟨g, 0, none⟩) (Ne.symm hng) (.int .u8 (l * 64 + 32 + m))
  have U2 := U1d.set (i := 0) (by omega) (l * 64 + 32 + m)
  have HB2 : Below bx w (V1.setCell ⟨g, 0, none⟩ (.int .u8 (l * 64 + 32 + m))) := HB1d.setCell (by show bx ≤ g; omega) _
  generalize V1.setCell ⟨g, 0, none⟩ (.int .u8 (l * 64 + 32 + m)) = W2 at *
  clear X1d U1d HB1d cc ff cc1 ff1
  refine wpAnyH_take (i := 15) (v := ?_) rfl (by kernel_rfl) (by kernel_rfl) (by kernel_rfl) (fun _ _ _ h => h) (Or.inl ⟨by rfl, ?_⟩) (by assumption) ?_
  rotate_left
  · intro w' hSw; (try dsimp only at hSw); go_simp; (try with_reducible rfl)
  (try simp only [Act.put, List.setIfInBounds_toArray, List.set_cons_zero, List.set_cons_succ, List.getElem_toArray, List.getElem_cons_succ, List.getElem_cons_zero])
  have cc1 := U2.c 1 (by omega)
  have ff1 := U2.fz 1
  refine wpAnyH_ready (rs := [16]) (by kernel_rfl) (by simp) ?_
  refine AllReadyH.cons rfl (fun K hK => ?_) AllReadyH.nil
  go_simp
  (try dsimp only)
  refine hK.out _ _ ?_ (fun hHeld => ?_)
  · exact ⟨(X2.other (p := ⟨g, 1, none⟩) (Ne.symm hng) _).c0, (X2.other (p := ⟨g, 1, none⟩) (Ne.symm hng) _).c1, (X2.other (p := ⟨g, 1, none⟩) (Ne.symm hng) _).c2⟩
  clear hK K
  (try simp only [Act.put, List.setIfInBounds_toArray, List.set_cons_zero, List.set_cons_succ, List.getElem_toArray, List.getElem_cons_succ, List.getElem_cons_zero])
  have X3 := X2.other (p := ⟨g, 1, none⟩) (Ne.symm hng) (.int .u8 s)
  have U3 := U2.set (i := 1) (by omega) s
  have HB3 : Below bx w (W2.setCell ⟨g, 1, none⟩ (.int .u8 s)) := HB2.setCell (by show bx ≤ g; omega) _
  generalize W2.setCell ⟨g, 1, none⟩ (.int .u8 s) = W3 at *
  clear X2 U2 HB2 cc1 ff1
  refine wpAnyH_done (by kernel_rfl) ?_ _
  go_wp2_with fail
  refine wp_region_held_drew (S := fun w' => w'.cell? ⟨bx, 3, none⟩ = some (.int .i64 d)) (by kernel_rfl) ?_ (fun hHeld => ?_)
  · exact X3.c3
  have X3d := X3.drew
  have U3d := U3.drew
  have HB3d := HB3.drew
  generalize W3.drew = V3 at *
  clear X3 U3 HB3
  refine wpAnyH_take (i := 0) (v := ?_) rfl (by kernel_rfl) (by kernel_rfl) (by kernel_rfl) (fun _ _ _ h => h) (Or.inl ⟨by rfl, ?_⟩) (by assumption) ?_
  rotate_left
  · intro w' hSw; (try dsimp only at hSw); go_simp; (try with_reducible rfl)
  (try simp only [Act.put, List.setIfInBounds_toArray, List.set_cons_zero, List.set_cons_succ, List.getElem_toArray, List.getElem_cons_succ, List.getElem_cons_zero])
  refine wpAnyH_take (i := 1) (v := ?_) rfl (by kernel_rfl) (by kernel_rfl) (by kernel_rfl) (fun _ _ _ h => h) (Or.inl ⟨by rfl, ?_⟩) (by assumption) ?_
  rotate_left
  · intro w' hSw; (try dsimp only at hSw); go_simp; (try with_reducible rfl)
  (try simp only [Act.put, List.setIfInBounds_toArray, List.set_cons_zero, List.set_cons_succ, List.getElem_toArray, List.getElem_cons_succ, List.getElem_cons_zero])
  refine wpAnyH_take (i := 2) (v := ?_) rfl (by kernel_rfl) (by kernel_rfl) (by kernel_rfl) (fun _ _ _ h => h) (Or.inl ⟨by rfl, ?_⟩) (by assumption) ?_
  rotate_left
  · intro w' hSw; (try dsimp only at hSw); go_simp; (try with_reducible rfl)
  (try simp only [Act.put, List.setIfInBounds_toArray, List.set_cons_zero, List.set_cons_succ, List.getElem_toArray, List.getElem_cons_succ, List.getElem_cons_zero])
  refine wpAnyH_take (i := 3) (v := ?_) rfl (by kernel_rfl) (by kernel_rfl) (by kernel_rfl) (fun _ _ _ h => h) (Or.inl ⟨by rfl, ?_⟩) (by assumption) ?_
  rotate_left
  · intro w' hSw; (try dsimp only at hSw); go_simp; (try with_reducible rfl)
  (try simp only [Act.put, List.setIfInBounds_toArray, List.set_cons_zero, List.set_cons_succ, List.getElem_toArray, List.getElem_cons_succ, List.getElem_cons_zero])
  refine wpAnyH_take (i := 4) (v := ?_) rfl (by kernel_rfl) (by kernel_rfl) (by kernel_rfl) (fun _ _ _ h => h) (Or.inl ⟨by rfl, ?_⟩) (by assumption) ?_
  rotate_left
  · intro w' hSw; (try dsimp only at hSw); go_simp; (try with_reducible rfl)
  (try simp only [Act.put, List.setIfInBounds_toArray, List.set_cons_zero, List.set_cons_succ, List.getElem_toArray, List.getElem_cons_succ, List.getElem_cons_zero])
  refine wpAnyH_ready (rs := [5]) (by kernel_rfl) (by simp) ?_
  refine AllReadyH.cons rfl (fun K hK => ?_) AllReadyH.nil
  go_simp
  (go_at_call 16; refine (pk_lay g 48 4 4 _ _ d V3 U3d (by omega) (by omega) (by omega) (by omega)).mono ?_; rintro e W4 ⟨rfl, hO4, U4⟩)
  have X4 := X3d.only hO4 hng
  have HB4 : Below bx w W4 := HB3d.trans (hO4.below (by omega) (by have := HB3d.size; have := HBX.out; omega))
  (try dsimp only)
  refine hK.out _ _ ?_ (fun hHeld => ?_)
  · exact X4.c3
  clear hK K
  (try simp only [Act.put, List.setIfInBounds_toArray, List.set_cons_zero, List.set_cons_succ, List.getElem_toArray, List.getElem_cons_succ, List.getElem_cons_zero])
  refine wpAnyH_done (by kernel_rfl) ?_ _
  clear hO4 X3d U3d HB3d
  go_wp2_with fail
  refine wp_region_held_drew (S := fun w' => w'.cell? ⟨bx, 4, none⟩ = some (.int .i64 r)) (by kernel_rfl) ?_ (fun hHeld => ?_)
  · exact X4.c4
  have X4d := X4.drew
  have U4d := U4.drew
  have HB4d := HB4.drew
  generalize W4.drew = V4 at *
  clear X4 U4 HB4
  refine wpAnyH_take (i := 0) (v := ?_) rfl (by kernel_rfl) (by kernel_rfl) (by kernel_rfl) (fun _ _ _ h => h) (Or.inl ⟨by rfl, ?_⟩) (by assumption) ?_
  rotate_left
  · intro w' hSw; (try dsimp only at hSw); go_simp; (try with_reducible rfl)
  (try simp only [Act.put, List.setIfInBounds_toArray, List.set_cons_zero, List.set_cons_succ, List.getElem_toArray, List.getElem_cons_succ, List.getElem_cons_zero])
  refine wpAnyH_take (i := 1) (v := ?_) rfl (by kernel_rfl) (by kernel_rfl) (by kernel_rfl) (fun _ _ _ h => h) (Or.inl ⟨by rfl, ?_⟩) (by assumption) ?_
  rotate_left
  · intro w' hSw; (try dsimp only at hSw); go_simp; (try with_reducible rfl)
  (try simp only [Act.put, List.setIfInBounds_toArray, List.set_cons_zero, List.set_cons_succ, List.getElem_toArray, List.getElem_cons_succ, List.getElem_cons_zero])
  refine wpAnyH_take (i := 2) (v := ?_) rfl (by kernel_rfl) (by kernel_rfl) (by kernel_rfl) (fun _ _ _ h => h) (Or.inl ⟨by rfl, ?_⟩) (by assumption) ?_
  rotate_left
  · intro w' hSw; (try dsimp only at hSw); go_simp; (try with_reducible rfl)
  (try simp only [Act.put, List.setIfInBounds_toArray, List.set_cons_zero, List.set_cons_succ, List.getElem_toArray, List.getElem_cons_succ, List.getElem_cons_zero])
  refine wpAnyH_take (i := 3) (v := ?_) rfl (by kernel_rfl) (by kernel_rfl) (by kernel_rfl) (fun _ _ _ h => h) (Or.inl ⟨by rfl, ?_⟩) (by assumption) ?_
  rotate_left
  · intro w' hSw; (try dsimp only at hSw); go_simp; (try with_reducible rfl)
  (try simp only [Act.put, List.setIfInBounds_toArray, List.set_cons_zero, List.set_cons_succ, List.getElem_toArray, List.getElem_cons_succ, List.getElem_cons_zero])
  refine wpAnyH_take (i := 4) (v := ?_) rfl (by kernel_rfl) (by kernel_rfl) (by kernel_rfl) (fun _ _ _ h => h) (Or.inl ⟨by rfl, ?_⟩) (by assumption) ?_
  rotate_left
  · intro w' hSw; (try dsimp only at hSw); go_simp; (try with_reducible rfl)
  (try simp only [Act.put, List.setIfInBounds_toArray, List.set_cons_zero, List.set_cons_succ, List.getElem_toArray, List.getElem_cons_succ, List.getElem_cons_zero])
  refine wpAnyH_ready (rs := [5]) (by kernel_rfl) (by simp) ?_
  refine AllReadyH.cons rfl (fun K hK => ?_) AllReadyH.nil
  go_simp
  (go_at_call 16; refine (pk_lay g 48 8 4 _ _ r V4 U4d (by omega) (by omega) (by omega) (by omega)).mono ?_; rintro e W5 ⟨rfl, hO5, U5⟩)
  have X5 := X4d.only hO5 hng
  have HB5 : Below bx w W5 := HB4d.trans (hO5.below (by omega) (by have := HB4d.size; have := HBX.out; omega))
  (try dsimp only)
  refine hK.out _ _ ?_ (fun hHeld => ?_)
  · exact X5.c4
  clear hK K
  (try simp only [Act.put, List.setIfInBounds_toArray, List.set_cons_zero, List.set_cons_succ, List.getElem_toArray, List.getElem_cons_succ, List.getElem_cons_zero])
  refine wpAnyH_done (by kernel_rfl) ?_ _
  clear hO5 X4d U4d HB4d
  go_wp2_with fail
  refine wp_region_held_drew (S := fun w' => w'.cell? ⟨bx, 5, none⟩ = some (.int .u64 o)) (by kernel_rfl) ?_ (fun hHeld => ?_)
  · exact X5.c5
  have X5d := X5.drew
  have U5d := U5.drew
  have HB5d := HB5.drew
  generalize W5.drew = V5 at *
  clear X5 U5 HB5
  refine wpAnyH_take (i := 0) (v := ?_) rfl (by kernel_rfl) (by kernel_rfl) (by kernel_rfl) (fun _ _ _ h => h) (Or.inl ⟨by rfl, ?_⟩) (by assumption) ?_
  rotate_left
  · intro w' hSw; (try dsimp only at hSw); go_simp; (try with_reducible rfl)
  (try simp only [Act.put, List.setIfInBounds_toArray, List.set_cons_zero, List.set_cons_succ, List.getElem_toArray, List.getElem_cons_succ, List.getElem_cons_zero])
  refine wpAnyH_take (i := 1) (v := ?_) rfl (by kernel_rfl) (by kernel_rfl) (by kernel_rfl) (fun _ _ _ h => h) (Or.inl ⟨by rfl, ?_⟩) (by assumption) ?_
  rotate_left
  · intro w' hSw; (try dsimp only at hSw); go_simp; (try with_reducible rfl)
  (try simp only [Act.put, List.setIfInBounds_toArray, List.set_cons_zero, List.set_cons_succ, List.getElem_toArray, List.getElem_cons_succ, List.getElem_cons_zero])
  refine wpAnyH_take (i := 2) (v := ?_) rfl (by kernel_rfl) (by kernel_rfl) (by kernel_rfl) (fun _ _ _ h => h) (Or.inl ⟨by rfl, ?_⟩) (by assumption) ?_
  rotate_left
  · intro w' hSw; (try dsimp only at hSw); go_simp; (try with_reducible rfl)
  (try simp only [Act.put, List.setIfInBounds_toArray, List.set_cons_zero, List.set_cons_succ, List.getElem_toArray, List.getElem_cons_succ, List.getElem_cons_zero])
  refine wpAnyH_take (i := 3) (v := ?_) rfl (by kernel_rfl) (by kernel_rfl) (by kernel_rfl) (fun _ _ _ h => h) (Or.inl ⟨by rfl, ?_⟩) (by assumption) ?_
  rotate_left
  · intro w' hSw; (try dsimp only at hSw); go_simp; (try with_reducible rfl)
  (try simp only [Act.put, List.setIfInBounds_toArray, List.set_cons_zero, List.set_cons_succ, List.getElem_toArray, List.getElem_cons_succ, List.getElem_cons_zero])
  refine wpAnyH_ready (rs := [4]) (by kernel_rfl) (by simp) ?_
  refine AllReadyH.cons rfl (fun K hK => ?_) AllReadyH.nil
  go_simp
  (go_at_call 16; refine (pk_lay g 48 24 8 _ _ o V5 U5d (by omega) (by omega) (by omega) (by omega)).mono ?_; rintro e W6 ⟨rfl, hO6, U6⟩)
  have X6 := X5d.only hO6 hng
  have HB6 : Below bx w W6 := HB5d.trans (hO6.below (by omega) (by have := HB5d.size; have := HBX.out; omega))
  (try dsimp only)
  refine hK.out _ _ ?_ (fun hHeld => ?_)
  · exact X6.c5
  clear hK K
  (try simp only [Act.put, List.setIfInBounds_toArray, List.set_cons_zero, List.set_cons_succ, List.getElem_toArray, List.getElem_cons_succ, List.getElem_cons_zero])
  refine wpAnyH_done (by kernel_rfl) ?_ _
  clear hO6 X5d U5d HB5d
  go_wp2_with fail
  refine wp_region_held_drew (S := fun w' => w'.cell? ⟨bx, 6, none⟩ = some (.int .u64 v)) (by kernel_rfl) ?_ (fun hHeld => ?_)
  · exact X6.c6
  have X6d := X6.drew
  have U6d := U6.drew
  have HB6d := HB6.drew
  generalize W6.drew = V6 at *
  clear X6 U6 HB6
  refine wpAnyH_take (i := 0) (v := ?_) rfl (by kernel_rfl) (by kernel_rfl) (by kernel_rfl) (fun _ _ _ h => h) (Or.inl ⟨by rfl, ?_⟩) (by assumption) ?_
  rotate_left
  · intro w' hSw; (try dsimp only at hSw); go_simp; (try with_reducible rfl)
  (try simp only [Act.put, List.setIfInBounds_toArray, List.set_cons_zero, List.set_cons_succ, List.getElem_toArray, List.getElem_cons_succ, List.getElem_cons_zero])
  refine wpAnyH_take (i := 1) (v := ?_) rfl (by kernel_rfl) (by kernel_rfl) (by kernel_rfl) (fun _ _ _ h => h) (Or.inl ⟨by rfl, ?_⟩) (by assumption) ?_
  rotate_left
  · intro w' hSw; (try dsimp only at hSw); go_simp; (try with_reducible rfl)
  (try simp only [Act.put, List.setIfInBounds_toArray, List.set_cons_zero, List.set_cons_succ, List.getElem_toArray, List.getElem_cons_succ, List.getElem_cons_zero])
  refine wpAnyH_take (i := 2) (v := ?_) rfl (by kernel_rfl) (by kernel_rfl) (by kernel_rfl) (fun _ _ _ h => h) (Or.inl ⟨by rfl, ?_⟩) (by assumption) ?_
  rotate_left
  · intro w' hSw; (try dsimp only at hSw); go_simp; (try with_reducible rfl)
  (try simp only [Act.put, List.setIfInBounds_toArray, List.set_cons_zero, List.set_cons_succ, List.getElem_toArray, List.getElem_cons_succ, List.getElem_cons_zero])
  refine wpAnyH_take (i := 3) (v := ?_) rfl (by kernel_rfl) (by kernel_rfl) (by kernel_rfl) (fun _ _ _ h => h) (Or.inl ⟨by rfl, ?_⟩) (by assumption) ?_
  rotate_left
  · intro w' hSw; (try dsimp only at hSw); go_simp; (try with_reducible rfl)
  (try simp only [Act.put, List.setIfInBounds_toArray, List.set_cons_zero, List.set_cons_succ, List.getElem_toArray, List.getElem_cons_succ, List.getElem_cons_zero])
  refine wpAnyH_ready (rs := [4]) (by kernel_rfl) (by simp) ?_
  refine AllReadyH.cons rfl (fun K hK => ?_) AllReadyH.nil
  go_simp
  (go_at_call 16; refine (pk_lay g 48 32 8 _ _ v V6 U6d (by omega) (by omega) (by omega) (by omega)).mono ?_; rintro e W7 ⟨rfl, hO7, U7⟩)
  have X7 := X6d.only hO7 hng
  have HB7 : Below bx w W7 := HB6d.trans (hO7.below (by omega) (by have := HB6d.size; have := HBX.out; omega))
  (try dsimp only)
  refine hK.out _ _ ?_ (fun hHeld => ?_)
  · exact X7.c6
  clear hK K
  (try simp only [Act.put, List.setIfInBounds_toArray, List.set_cons_zero, List.set_cons_succ, List.getElem_toArray, List.getElem_cons_succ, List.getElem_cons_zero])
  refine wpAnyH_done (by kernel_rfl) ?_ _
  clear hO7 X6d U6d HB6d
  go_wp2_with fail
  refine wp_region_held_drew (S := fun w' => w'.cell? ⟨bx, 7, none⟩ = some (.int .u64 t)) (by kernel_rfl) ?_ (fun hHeld => ?_)
  · exact X7.c7
  have X7d := X7.drew
  have U7d := U7.drew
  have HB7d := HB7.drew
  generalize W7.drew = V7 at *
  clear X7 U7 HB7
  refine wpAnyH_take (i := 0) (v := ?_) rfl (by kernel_rfl) (by kernel_rfl) (by kernel_rfl) (fun _ _ _ h => h) (Or.inl ⟨by rfl, ?_⟩) (by assumption) ?_
  rotate_left
  · intro w' hSw; (try dsimp only at hSw); go_simp; (try with_reducible rfl)
  (try simp only [Act.put, List.setIfInBounds_toArray, List.set_cons_zero, List.set_cons_succ, List.getElem_toArray, List.getElem_cons_succ, List.getElem_cons_zero])
  refine wpAnyH_take (i := 1) (v := ?_) rfl (by kernel_rfl) (by kernel_rfl) (by kernel_rfl) (fun _ _ _ h => h) (Or.inl ⟨by rfl, ?_⟩) (by assumption) ?_
  rotate_left
  · intro w' hSw; (try dsimp only at hSw); go_simp; (try with_reducible rfl)
  (try simp only [Act.put, List.setIfInBounds_toArray, List.set_cons_zero, List.set_cons_succ, List.getElem_toArray, List.getElem_cons_succ, List.getElem_cons_zero])
  refine wpAnyH_take (i := 2) (v := ?_) rfl (by kernel_rfl) (by kernel_rfl) (by kernel_rfl) (fun _ _ _ h => h) (Or.inl ⟨by rfl, ?_⟩) (by assumption) ?_
  rotate_left
  · intro w' hSw; (try dsimp only at hSw); go_simp; (try with_reducible rfl)
  (try simp only [Act.put, List.setIfInBounds_toArray, List.set_cons_zero, List.set_cons_succ, List.getElem_toArray, List.getElem_cons_succ, List.getElem_cons_zero])
  refine wpAnyH_take (i := 3) (v := ?_) rfl (by kernel_rfl) (by kernel_rfl) (by kernel_rfl) (fun _ _ _ h => h) (Or.inl ⟨by rfl, ?_⟩) (by assumption) ?_
  rotate_left
  · intro w' hSw; (try dsimp only at hSw); go_simp; (try with_reducible rfl)
  (try simp only [Act.put, List.setIfInBounds_toArray, List.set_cons_zero, List.set_cons_succ, List.getElem_toArray, List.getElem_cons_succ, List.getElem_cons_zero])
  refine wpAnyH_ready (rs := [4]) (by kernel_rfl) (by simp) ?_
  refine AllReadyH.cons rfl (fun K hK => ?_) AllReadyH.nil
  go_simp
  (go_at_call 16; refine (pk_lay g 48 40 8 _ _ t V7 U7d (by omega) (by omega) (by omega) (by omega)).mono ?_; rintro e W8 ⟨rfl, hO8, U8⟩)
  have X8 := X7d.only hO8 hng
  have HB8 : Below bx w W8 := HB7d.trans (hO8.below (by omega) (by have := HB7d.size; have := HBX.out; omega))
  (try dsimp only)
  refine hK.out _ _ ?_ (fun hHeld => ?_)
  · exact X8.c7
  clear hK K
  (try simp only [Act.put, List.setIfInBounds_toArray, List.set_cons_zero, List.set_cons_succ, List.getElem_toArray, List.getElem_cons_succ, List.getElem_cons_zero])
  refine wpAnyH_done (by kernel_rfl) ?_ _
  clear hO8 X7d U7d HB7d
  have UF : Hid (U8At W8 g 48 (encF l m s d r o v t)) := Lib.hid U8
  clear U8
  go_wp2
  go_ret2
  exact ⟨g, rfl, by rw [HBX.out]; exact hgg, UF.out, by rw [HBX.out]; exact HB8⟩
end Go.Proofs.Ytfllemmmgmdliaa
