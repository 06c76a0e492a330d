/- The reference's lay. -/
import Derived.Test.YtepdnkpmkhjlgaaGreatOnly
import Derived.BigGuard
import Derived.BigGuardPart
import Derived.BigCall
import Derived.Test.YtepdnkpmkhjlgaaGreatLaw
import Derived.Test.YtepdnkpmkhjlgaaGreatEqL
import Derived.Laws.AppendOwn
import Derived.Laws.OwnMore
import Derived.Lib.AppendZerosOnto
import Derived.Deep.AppendLies
/- A block of bytes that may be written. -/
set_option linter.unusedSimpArgs false
set_option linter.unusedVariables false
namespace Go.Proofs.YtepdnkpmkhjlgaaGreat
open Go.RowKit

structure U8At (W : World) (g n : Nat) (f : Nat → Int) : Prop where
  c : ∀ j, j < n → W.cell? ⟨g, j, none⟩ = some (.int .u8 (f j))
  fz : ∀ o, W.frozen? ⟨g, o, none⟩ = false
  lt : g < W.heap.size
theorem U8At.only {w w' : World} {b g n : Nat} {f : Nat → Int} (h : U8At w g n f) (k : Only b w w') (hn : g ≠ b) : U8At w' g n f :=
  ⟨fun j hj => (k.cell g j h.lt hn).trans (h.c j hj), fun o => (k.frozen g o h.lt hn).trans (h.fz o), Nat.lt_of_lt_of_le h.lt k.size⟩
theorem U8At.below {w w' : World} {B g n : Nat} {f : Nat → Int} (h : U8At w g n f) (k : Below B w w') (hn : g < B) : U8At w' g n f :=
  ⟨fun j hj => (k.cell (p := ⟨g, j, none⟩) hn).trans (h.c j hj), fun o => (k.frozen (p := ⟨g, o, none⟩) hn).trans (h.fz o), Nat.lt_of_lt_of_le h.lt k.size⟩
theorem U8At.alloc {w : World} {g n : Nat} {f : Nat → Int} (h : U8At w g n f) (o : Obj) : U8At (w.alloc o) g n f := h.below ((Below.refl _ _).alloc (Nat.le_refl _) o) h.lt
theorem U8At.drew {w : World} {g n : Nat} {f : Nat → Int} (h : U8At w g n f) : U8At w.drew g n f := ⟨h.c, h.fz, h.lt⟩
theorem U8At.drewN {w : World} {g n : Nat} {f : Nat → Int} (h : U8At w g n f) (k : Nat) : U8At (w.drewN k) g n f := ⟨h.c, h.fz, h.lt⟩
theorem U8At.congr {w : World} {g n : Nat} {f f' : Nat → Int} (h : U8At w g n f) (e : ∀ j, j < n → f j = f' j) : U8At w g n f' := ⟨fun j hj => by rw [← e j hj]; exact h.c j hj, h.fz, h.lt⟩
def upd8 (f : Nat → Int) (i : Nat) (x : Int) (j : Nat) : Int := if j = i then x else f j
theorem U8At.set {w : World} {g n i : Nat} {f : Nat → Int} (h : U8At w g n f) (hi : i < n) (x : Int) : U8At (w.setCell ⟨g, i, none⟩ (.int .u8 x)) g n (upd8 f i x) := by
  refine ⟨fun j hj => ?_, fun o => by simpa using h.fz o, by simpa [World.setCell] using h.lt⟩
  unfold upd8
  by_cases e : j = i
  · subst e
    rw [if_pos rfl]
    exact World.cell?_setCell_same _ _ _ (h.c j hj)
  · rw [if_neg e, World.cell?_setCell_other _ _ _ _ (by simp; first | done | omega)]
    exact h.c j hj
theorem U8At.other {w : World} {g n : Nat} {f : Nat → Int} (h : U8At w g n f) {p : Addr} (hp : p.block ≠ g) (u : Value) : U8At (w.setCell p u) g n f :=
  ⟨fun j hj => (World.cell?_setCell_other _ _ _ _ (fun e => hp (by rw [e]))).trans (h.c j hj), fun o => by simpa using h.fz o, by simpa [World.setCell] using h.lt⟩
/-- A number's bytes in a row of k from o on, the highest first. -/
def layF (f : Nat → Int) (o k : Nat) (x : Int) (j : Nat) : Int := if o ≤ j ∧ j < o + k then (x / 256 ^ (o + k - 1 - j)) % 256 else f j
/-- The same, behind i rounds. -/
def layI (f : Nat → Int) (o k i : Nat) (x : Int) (j : Nat) : Int := if o + k - i ≤ j ∧ j < o + k then (x / 256 ^ (o + k - 1 - j)) % 256 else f j
theorem layI_succ (f : Nat → Int) (o k i : Nat) (x : Int) (h : i < k) (j : Nat) : upd8 (layI f o k i x) (o + (k - 1 - i)) (x / 256 ^ i % 256) j = layI f o k (i + 1) x j := by
  unfold upd8 layI
  by_cases e : j = o + (k - 1 - i)
  · subst e
    rw [if_pos rfl, if_pos (by omega), show o + k - 1 - (o + (k - 1 - i)) = i from by omega]
  · rw [if_neg e]
    by_cases h1 : o + k - i ≤ j ∧ j < o + k
    · rw [if_pos h1, if_pos (by omega)]
    · rw [if_neg h1, if_neg (by omega)]
theorem pow256_succ (x : Int) (i : Nat) : x / 256 ^ (i + 1) = x / 256 ^ i / 256 := by
  rw [Int.pow_succ, Int.ediv_ediv_of_nonneg (by exact Int.pow_nonneg (by omega))]
theorem u8_wrap (x : Int) : IntKind.u8.wrap x = x % 256 := by simp [IntKind.wrap, IntKind.bits, IntKind.signed]
end Go.Proofs.YtepdnkpmkhjlgaaGreat

/- packet.lay. -/
namespace Go.Proofs.YtepdnkpmkhjlgaaGreat
open Go.RowKit

set_option maxHeartbeats 1000000 in
theorem pk_lay (g n o k c : Nat) (f : Nat → Int) (x : Int) (w : World) (h : U8At w g n f) (hk : o + k ≤ n) (hk8 : k ≤ 8) (x0 : 0 ≤ x) (x1 : x < 18446744073709551616) :
    Calls Tryz.prog 81 #[.slice (some ⟨g, o, none⟩) k c, .int .u64 x] w fun e w' => e = .returned (.tuple #[]) ∧ Only g w w' ∧ U8At w' g n (layF f o k x) := by
  have hk' : (k : Int) ≤ 8 := by omega
  have H0 := Lib.hid (show U8At w g n (layI f o k 0 x) from h.congr (fun j _ => by unfold layI; rw [if_neg (by omega)]))
  clear h
  go_enter Tryz.func81, Tryz.ntmps81
  go_wp2
  go_loopw [1, 7] (fun t i wr => ∃ q : Nat, q ≤ k ∧ i = .int .i64 q ∧ t = .int .u64 (x / 256 ^ q) ∧ Only g w wr ∧ U8At wr g n (layI f o k q x)) (fun _ i _ => k - (intOf i).toNat)
  case atStart => exact ⟨0, Nat.zero_le _, rfl, by simp, Only.refl _ _, H0.out⟩
  case round =>
    obtain ⟨q, hq, rfl, rfl, hO, hU⟩ := hrel
    clear H0
    by_cases hlt : q < k
    · have lk : (q : Int) < (k : Int) := by omega
      have hp := pow256_succ x q
      have hy0 : 0 ≤ x / 256 ^ q := Int.ediv_nonneg x0 (Int.pow_nonneg (by omega))
      have hy1 : x / 256 ^ q < 18446744073709551616 := by
        have := Int.ediv_le_self (256 ^ q) x0
        omega
      have HP := Lib.hid hp
      have HS := Lib.hid (hU.set (i := o + (k - 1 - q)) (by omega) (x / 256 ^ q % 256))
      have HC := Lib.hid (layI_succ f o k q x hlt)
      have cc := hU.c (o + (k - 1 - q)) (by omega)
      have ff := hU.fz (o + (k - 1 - q))
      have e1 : ((k : Int) - 1 - (q : Int)) = ((k - 1 - q : Nat) : Int) := by omega
      have l1 : ((k - 1 - q : Nat) : Int) < (k : Int) := by omega
      clear hp hU
      generalize x / 256 ^ q = y at *
      generalize k - 1 - q = d at *
      go_wp2
      go_roundw
      case rel => exact ⟨q + 1, by omega, by go_num, by rw [HP.out], by (repeat' (first | (with_reducible exact Only.refl _ _) | (with_reducible assumption) | (with_reducible refine Only.alloc ?_ _) | (with_reducible refine Only.setB ?_ _) | (refine Only.setCell ?_ (Or.inr ?_) _) | (with_reducible refine Only.drewN ?_ _) | (with_reducible refine Only.drew ?_) | (with_reducible refine Only.trans ?_ (by with_reducible assumption)) | (with_reducible refine Only.trans ?_ (Only.of_below (by with_reducible assumption))) | go_size)), HS.out.congr (fun j _ => HC.out j)⟩
      case measure => simp [intOf]; omega
    · obtain rfl : q = k := by omega
      go_wp2
      exact bodyPost_end (by simp [results, Tryz.results81, go_sem]) rfl ⟨rfl, hO, hU.congr (fun j _ => by unfold layI layF; rw [show o + q - q = o from by omega])⟩
end Go.Proofs.YtepdnkpmkhjlgaaGreat

/- packet.Encode (written by gen/pkenc.py). -/
namespace Go.Proofs.YtepdnkpmkhjlgaaGreat
open Go.RowKit

def inN (n lo hi : Int) : Bool := decide (lo ≤ n) && decide (n ≤ hi)
theorem pk_within (n lo hi : Int) (w : World) : Calls Tryz.prog 80 #[.int .i64 n, .int .i64 lo, .int .i64 hi] w fun e w' => e = .returned (.bool (inN n lo hi)) ∧ w = w' := by
  rcases (show n < lo ∨ (lo ≤ n ∧ n ≤ hi) ∨ (lo ≤ n ∧ hi < n) from by omega) with p | ⟨p, q⟩ | ⟨p, q⟩
  · have e : inN n lo hi = false := by simp [inN]; omega
    have E := Lib.hid e
    have t1 : decide (lo ≤ n) = false := by simp; omega
    clear e
    go_enter Tryz.func80, Tryz.ntmps80
    go_wp2
    go_ret
    exact ⟨by rw [E.out]; rfl, rfl⟩
  · have e : inN n lo hi = true := by simp [inN]; omega
    have E := Lib.hid e
    have t1 : decide (lo ≤ n) = true := by simpa using p
    have t2 : decide (n ≤ hi) = true := by simpa using q
    clear e
    go_enter Tryz.func80, Tryz.ntmps80
    go_wp2
    go_ret
    exact ⟨by rw [E.out]; rfl, rfl⟩
  · have e : inN n lo hi = false := by simp [inN]; omega
    have E := Lib.hid e
    have t1 : decide (lo ≤ n) = true := by simpa using p
    have t2 : decide (n ≤ hi) = false := by simp; omega
    clear e
    go_enter Tryz.func80, Tryz.ntmps80
    go_wp2
    go_ret
    exact ⟨by rw [E.out]; rfl, rfl⟩
/-- May these numbers be a packet's? -/
def isP (l m s d r : Int) : Bool := inN l 0 3 && (inN m 3 4 && (inN s 0 255 && (inN d 0 4294967295 && inN r 0 4294967295)))
abbrev pkV (l m s d r o v t : Int) : Value := .agg #[.int .i64 l, .int .i64 m, .int .i64 s, .int .i64 d, .int .i64 r, .int .u64 o, .int .u64 v, .int .u64 t]
abbrev pkO (l m s d r o v t : Int) : Obj := .cells #[.int .i64 l, .int .i64 m, .int .i64 s, .int .i64 d, .int .i64 r, .int .u64 o, .int .u64 v, .int .u64 t] 93
set_option maxHeartbeats 2000000 in
theorem pk_enc_no (l m s d r o v t : Int) (w : World) (h : isP l m s d r = false) : Calls Tryz.prog 59 #[pkV l m s d r o v t] w fun e w' => e = .returned (.tuple #[.slice none 0 0, .int .i64 1]) ∧ Below w.heap.size w w' := by
  unfold isP at h
  cases h1 : inN l 0 3
  · clear h
    go_enter Tryz.func59, Tryz.ntmps59
    go_wp2_with (go_at_call 80; refine (pk_within _ _ _ _).mono ?_; rintro e w' ⟨rfl, rfl⟩)
    go_ret2
    go_light
    exact ⟨rfl, by (repeat' (first | (with_reducible exact Below.refl _ _) | (with_reducible assumption) | (with_reducible refine Below.trans ?_ (Below.mono (by with_reducible assumption) ?_)) | (with_reducible refine Below.alloc ?_ ?_ _) | (with_reducible refine Below.setCell ?_ ?_ _) | (with_reducible refine below_drewN ?_ _) | (with_reducible refine Below.drew ?_) | go_size))⟩
  cases h2 : inN m 3 4
  · clear h
    go_enter Tryz.func59, Tryz.ntmps59
    go_wp2_with (go_at_call 80; refine (pk_within _ _ _ _).mono ?_; rintro e w' ⟨rfl, rfl⟩)
    go_ret2
    go_light
    exact ⟨rfl, by (repeat' (first | (with_reducible exact Below.refl _ _) | (with_reducible assumption) | (with_reducible refine Below.trans ?_ (Below.mono (by with_reducible assumption) ?_)) | (with_reducible refine Below.alloc ?_ ?_ _) | (with_reducible refine Below.setCell ?_ ?_ _) | (with_reducible refine below_drewN ?_ _) | (with_reducible refine Below.drew ?_) | go_size))⟩
  cases h3 : inN s 0 255
  · clear h
    go_enter Tryz.func59, Tryz.ntmps59
    go_wp2_with (go_at_call 80; refine (pk_within _ _ _ _).mono ?_; rintro e w' ⟨rfl, rfl⟩)
    go_ret2
    go_light
    exact ⟨rfl, by (repeat' (first | (with_reducible exact Below.refl _ _) | (with_reducible assumption) | (with_reducible refine Below.trans ?_ (Below.mono (by with_reducible assumption) ?_)) | (with_reducible refine Below.alloc ?_ ?_ _) | (with_reducible refine Below.setCell ?_ ?_ _) | (with_reducible refine below_drewN ?_ _) | (with_reducible refine Below.drew ?_) | go_size))⟩
  cases h4 : inN d 0 4294967295
  · clear h
    go_enter Tryz.func59, Tryz.ntmps59
    go_wp2_with (go_at_call 80; refine (pk_within _ _ _ _).mono ?_; rintro e w' ⟨rfl, rfl⟩)
    go_ret2
    go_light
    exact ⟨rfl, by (repeat' (first | (with_reducible exact Below.refl _ _) | (with_reducible assumption) | (with_reducible refine Below.trans ?_ (Below.mono (by with_reducible assumption) ?_)) | (with_reducible refine Below.alloc ?_ ?_ _) | (with_reducible refine Below.setCell ?_ ?_ _) | (with_reducible refine below_drewN ?_ _) | (with_reducible refine Below.drew ?_) | go_size))⟩
  have h5 : inN r 0 4294967295 = false := by simpa [h1, h2, h3, h4] using h
  clear h
  go_enter Tryz.func59, Tryz.ntmps59
  go_wp2_with (go_at_call 80; refine (pk_within _ _ _ _).mono ?_; rintro e w' ⟨rfl, rfl⟩)
  go_ret2
  go_light
  exact ⟨rfl, by (repeat' (first | (with_reducible exact Below.refl _ _) | (with_reducible assumption) | (with_reducible refine Below.trans ?_ (Below.mono (by with_reducible assumption) ?_)) | (with_reducible refine Below.alloc ?_ ?_ _) | (with_reducible refine Below.setCell ?_ ?_ _) | (with_reducible refine below_drewN ?_ _) | (with_reducible refine Below.drew ?_) | go_size))⟩
/-- A packet's bytes. -/
def encF (l m s d r o v t : Int) : Nat → Int :=
  layF (layF (layF (layF (layF (upd8 (upd8 (fun _ => 0) 0 (l * 64 + 32 + m)) 1 s) 4 4 d) 8 4 r) 24 8 o) 32 8 v) 40 8 t
/-- A packet in a block. -/
structure Box8 (w : World) (b : Nat) (l m s d r o v t : Int) : Prop where
  c0 : w.cell? ⟨b, 0, none⟩ = some (.int .i64 l)
  c1 : w.cell? ⟨b, 1, none⟩ = some (.int .i64 m)
  c2 : w.cell? ⟨b, 2, none⟩ = some (.int .i64 s)
  c3 : w.cell? ⟨b, 3, none⟩ = some (.int .i64 d)
  c4 : w.cell? ⟨b, 4, none⟩ = some (.int .i64 r)
  c5 : w.cell? ⟨b, 5, none⟩ = some (.int .u64 o)
  c6 : w.cell? ⟨b, 6, none⟩ = some (.int .u64 v)
  c7 : w.cell? ⟨b, 7, none⟩ = some (.int .u64 t)
  lt : b < w.heap.size
theorem Box8.cells {w w' : World} {b : Nat} {l m s d r o v t : Int} (h : Box8 w b l m s d r o v t) (hc : ∀ j, w'.cell? ⟨b, j, none⟩ = w.cell? ⟨b, j, none⟩) (hs : w.heap.size ≤ w'.heap.size) : Box8 w' b l m s d r o v t :=
  ⟨(hc 0).trans h.c0, (hc 1).trans h.c1, (hc 2).trans h.c2, (hc 3).trans h.c3, (hc 4).trans h.c4, (hc 5).trans h.c5, (hc 6).trans h.c6, (hc 7).trans h.c7, Nat.lt_of_lt_of_le h.lt hs⟩
theorem Box8.only {w w' : World} {b g : Nat} {l m s d r o v t : Int} (h : Box8 w b l m s d r o v t) (k : Only g w w') (hn : b ≠ g) : Box8 w' b l m s d r o v t := h.cells (fun j => k.cell b j h.lt hn) k.size
theorem Box8.below {w w' : World} {b B : Nat} {l m s d r o v t : Int} (h : Box8 w b l m s d r o v t) (k : Below B w w') (hn : b < B) : Box8 w' b l m s d r o v t := h.cells (fun j => k.cell (p := ⟨b, j, none⟩) hn) k.size
theorem Box8.alloc {w : World} {b : Nat} {l m s d r o v t : Int} (h : Box8 w b l m s d r o v t) (x : Obj) : Box8 (w.alloc x) b l m s d r o v t := h.below ((Below.refl _ _).alloc (Nat.le_refl _) x) h.lt
theorem Box8.drewN {w : World} {b : Nat} {l m s d r o v t : Int} (h : Box8 w b l m s d r o v t) (n : Nat) : Box8 (w.drewN n) b l m s d r o v t := ⟨h.c0, h.c1, h.c2, h.c3, h.c4, h.c5, h.c6, h.c7, h.lt⟩
theorem Box8.drew {w : World} {b : Nat} {l m s d r o v t : Int} (h : Box8 w b l m s d r o v t) : Box8 w.drew b l m s d r o v t := ⟨h.c0, h.c1, h.c2, h.c3, h.c4, h.c5, h.c6, h.c7, h.lt⟩
theorem Box8.other {w : World} {b : Nat} {l m s d r o v t : Int} (h : Box8 w b l m s d r o v t) {p : Addr} (hp : p.block ≠ b) (u : Value) : Box8 (w.setCell p u) b l m s d r o v t := h.cells (fun j => World.cell?_setCell_other _ _ _ _ (fun e => hp (by rw [e]))) (by simp [World.setCell])
theorem Box8.new (w : World) (l m s d r o v t : Int) : Box8 (w.alloc (pkO l m s d r o v t)) w.heap.size l m s d r o v t := by constructor <;> simp
def z48 : Array Value := Array.replicate 48 (.int .u8 0)
theorem make48 (w : World) : (Instr.makeSlice 39 (.int .i64 48) (.int .i64 48)).run Tryz.prog w = .ok (.slice (some ⟨w.heap.size, 0, none⟩) 48 48) (w.alloc (.cells z48 5)) := by kernel_rfl
theorem u8_new (w : World) : U8At (w.alloc (.cells z48 5)) w.heap.size 48 (fun _ => 0) := by
  constructor
  · intro j hj
    rw [World.cell?_alloc_new]
    simp [z48, hj]
  · intro q; simp
  · simp
theorem inN_bd {n lo hi : Int} (h : inN n lo hi = true) : lo ≤ n ∧ n ≤ hi := by simpa [inN] using h
theorem head_byte (l m : Int) (h1 : inN l 0 3 = true) (h2 : inN m 3 4 = true) : IntKind.u8.wrap (bits .or .i64 (bits .or .i64 (IntKind.i64.wrap (l * 64)) 32) m) = l * 64 + 32 + m := by
  have a := inN_bd h1
  have b := inN_bd h2
  rcases (show l = 0 ∨ l = 1 ∨ l = 2 ∨ l = 3 from by omega) with rfl | rfl | rfl | rfl <;> rcases (show m = 3 ∨ m = 4 from by omega) with rfl | rfl <;> decide
set_option maxRecDepth 100000 in
set_option maxHeartbeats 4000000 in
theorem pk_enc_yes (l m s d r o v t : Int) (w : World) (h : isP l m s d r = true) (o0 : 0 ≤ o) (o1 : o < 18446744073709551616) (v0 : 0 ≤ v) (v1 : v < 18446744073709551616) (t0 : 0 ≤ t) (t1 : t < 18446744073709551616) :
    Calls Tryz.prog 59 #[pkV l m s d r o v t] w fun e w' => ∃ g, e = .returned (.tuple #[.slice (some ⟨g, 0, none⟩) 48 48, .int .i64 0]) ∧ w.heap.size < g ∧ U8At w' g 48 (encF l m s d r o v t) ∧ Below w.heap.size w w' := by
  have hh := h
  unfold isP at hh
  simp only [Bool.and_eq_true] at hh
  obtain ⟨h1, h2, h3, h4, h5⟩ := hh
  have HH := Lib.hid (head_byte l m h1 h2)
  have b1 := inN_bd h1
  have b2 := inN_bd h2
  have b3 := inN_bd h3
  have b4 := inN_bd h4
  have b5 := inN_bd h5
  have hs8 : IntKind.u8.wrap s = s := by rw [u8_wrap]; omega
  have hd8 : IntKind.u64.wrap d = d := by simp [IntKind.wrap, IntKind.bits, IntKind.signed]; omega
  have hr8 : IntKind.u64.wrap r = r := by simp [IntKind.wrap, IntKind.bits, IntKind.signed]; omega
  have HE := Lib.hid (And.intro hs8 (And.intro hd8 hr8))
  have HX := Lib.hid (Box8.new w l m s d r o v t)
  have HB0 : Hid (Below w.heap.size w (w.alloc (pkO l m s d r o v t))) := Lib.hid (by (repeat' (first | (with_reducible exact Below.refl _ _) | (with_reducible assumption) | (with_reducible refine Below.trans ?_ (Below.mono (by with_reducible assumption) ?_)) | (with_reducible refine Below.alloc ?_ ?_ _) | (with_reducible refine Below.setCell ?_ ?_ _) | (with_reducible refine below_drewN ?_ _) | (with_reducible refine Below.drew ?_) | go_size)))
  have HM := Lib.hid (u8_new (w.alloc (pkO l m s d r o v t)))
  have hmk := make48
  clear h hs8 hd8 hr8
  go_enter Tryz.func59, Tryz.ntmps59
  go_wp2_with (go_at_call 80; refine (pk_within _ _ _ _).mono ?_; rintro e w' ⟨rfl, rfl⟩)
  obtain ⟨hs8, hd8, hr8⟩ := HE.out
  have hh := HH.out
  have HB1 : Below w.heap.size w ((w.alloc (pkO l m s d r o v t)).alloc (.cells z48 5)) := HB0.out.alloc (by simp) _
  have X1 := HX.out.alloc (.cells z48 5)
  have U1 := HM.out
  rw [World.size_alloc] at U1
  have hng : w.heap.size ≠ w.heap.size + 1 := by omega
  have hgg : w.heap.size < w.heap.size + 1 := by omega
  generalize (w.alloc (pkO l m s d r o v t)).alloc (.cells z48 5) = W1 at *
  generalize hbx : w.heap.size = bx at *
  generalize bx + 1 = g at *
  have HBX := Lib.hid hbx
  clear hbx hmk HX HM HB0
  refine wp_region_held_drew (S := fun w' => w'.cell? ⟨bx, 0, none⟩ = some (.int .i64 l) ∧ w'.cell? ⟨bx, 1, none⟩ = some (.int .i64 m) ∧ w'.cell? ⟨bx, 2, none⟩ = some (.int .i64 s)) (by kernel_rfl) ?_ (fun hHeld => ?_)
  · exact ⟨X1.c0, X1.c1, X1.c2⟩
  have X1d := X1.drew
  have U1d := U1.drew
  have HB1d := HB1.drew
  generalize W1.drew = V1 at *
  clear X1 U1 HB1
  refine wpAnyH_take (i := 0) (v := ?_) rfl (by kernel_rfl) (by kernel_rfl) (by kernel_rfl) (fun _ _ _ h => h) (Or.inl ⟨by rfl, ?_⟩) (by assumption) ?_
  rotate_left
  · intro w' hSw; (try dsimp only at hSw); go_simp; (try with_reducible rfl)
  (try simp only [Act.put, List.setIfInBounds_toArray, List.set_cons_zero, List.set_cons_succ, List.getElem_toArray, List.getElem_cons_succ, List.getElem_cons_zero])
  refine wpAnyH_take (i := 1) (v := ?_) rfl (by kernel_rfl) (by kernel_rfl) (by kernel_rfl) (fun _ _ _ h => h) (Or.inl ⟨by rfl, ?_⟩) (by assumption) ?_
  rotate_left
  · intro w' hSw; (try dsimp only at hSw); go_simp; (try with_reducible rfl)
  (try simp only [Act.put, List.setIfInBounds_toArray, List.set_cons_zero, List.set_cons_succ, List.getElem_toArray, List.getElem_cons_succ, List.getElem_cons_zero])
  refine wpAnyH_take (i := 2) (v := ?_) rfl (by kernel_rfl) (by kernel_rfl) (by kernel_rfl) (fun _ _ _ h => h) (Or.inl ⟨by rfl, ?_⟩) (by assumption) ?_
  rotate_left
  · intro w' hSw; (try dsimp only at hSw); go_simp; (try with_reducible rfl)
  (try simp only [Act.put, List.setIfInBounds_toArray, List.set_cons_zero, List.set_cons_succ, List.getElem_toArray, List.getElem_cons_succ, List.getElem_cons_zero])
  refine wpAnyH_take (i := 3) (v := ?_) rfl (by kernel_rfl) (by kernel_rfl) (by kernel_rfl) (fun _ _ _ h => h) (Or.inl ⟨by rfl, ?_⟩) (by assumption) ?_
  rotate_left
  · intro w' hSw; (try dsimp only at hSw); go_simp; (try with_reducible rfl)
  (try simp only [Act.put, List.setIfInBounds_toArray, List.set_cons_zero, List.set_cons_succ, List.getElem_toArray, List.getElem_cons_succ, List.getElem_cons_zero])
  refine wpAnyH_take (i := 4) (v := ?_) rfl (by kernel_rfl) (by kernel_rfl) (by kernel_rfl) (fun _ _ _ h => h) (Or.inl ⟨by rfl, ?_⟩) (by assumption) ?_
  rotate_left
  · intro w' hSw; (try dsimp only at hSw); go_simp; (try with_reducible rfl)
  (try simp only [Act.put, List.setIfInBounds_toArray, List.set_cons_zero, List.set_cons_succ, List.getElem_toArray, List.getElem_cons_succ, List.getElem_cons_zero])
  refine wpAnyH_take (i := 5) (v := ?_) rfl (by kernel_rfl) (by kernel_rfl) (by kernel_rfl) (fun _ _ _ h => h) (Or.inl ⟨by rfl, ?_⟩) (by assumption) ?_
  rotate_left
  · intro w' hSw; (try dsimp only at hSw); go_simp; (try with_reducible rfl)
  (try simp only [Act.put, List.setIfInBounds_toArray, List.set_cons_zero, List.set_cons_succ, List.getElem_toArray, List.getElem_cons_succ, List.getElem_cons_zero])
  refine wpAnyH_take (i := 6) (v := ?_) rfl (by kernel_rfl) (by kernel_rfl) (by kernel_rfl) (fun _ _ _ h => h) (Or.inl ⟨by rfl, ?_⟩) (by assumption) ?_
  rotate_left
  · intro w' hSw; (try dsimp only at hSw); go_simp; (try with_reducible rfl)
  (try simp only [Act.put, List.setIfInBounds_toArray, List.set_cons_zero, List.set_cons_succ, List.getElem_toArray, List.getElem_cons_succ, List.getElem_cons_zero])
  refine wpAnyH_take (i := 7) (v := ?_) rfl (by kernel_rfl) (by kernel_rfl) (by kernel_rfl) (fun _ _ _ h => h) (Or.inl ⟨by rfl, ?_⟩) (by assumption) ?_
  rotate_left
  · intro w' hSw; (try dsimp only at hSw); go_simp; (try with_reducible rfl)
  (try simp only [Act.put, List.setIfInBounds_toArray, List.set_cons_zero, List.set_cons_succ, List.getElem_toArray, List.getElem_cons_succ, List.getElem_cons_zero])
  refine wpAnyH_take (i := 8) (v := ?_) rfl (by kernel_rfl) (by kernel_rfl) (by kernel_rfl) (fun _ _ _ h => h) (Or.inl ⟨by rfl, ?_⟩) (by assumption) ?_
  rotate_left
  · intro w' hSw; (try dsimp only at hSw); go_simp; (try with_reducible rfl)
  (try simp only [Act.put, List.setIfInBounds_toArray, List.set_cons_zero, List.set_cons_succ, List.getElem_toArray, List.getElem_cons_succ, List.getElem_cons_zero])
  refine wpAnyH_take (i := 9) (v := ?_) rfl (by kernel_rfl) (by kernel_rfl) (by kernel_rfl) (fun _ _ _ h => h) (Or.inl ⟨by rfl, ?_⟩) (by assumption) ?_
  rotate_left
  · intro w' hSw; (try dsimp only at hSw); go_simp; (try with_reducible rfl)
  (try simp only [Act.put, List.setIfInBounds_toArray, List.set_cons_zero, List.set_cons_succ, List.getElem_toArray, List.getElem_cons_succ, List.getElem_cons_zero])
  refine wpAnyH_take (i := 10) (v := ?_) rfl (by kernel_rfl) (by kernel_rfl) (by kernel_rfl) (fun _ _ _ h => h) (Or.inl ⟨by rfl, ?_⟩) (by assumption) ?_
  rotate_left
  · intro w' hSw; (try dsimp only at hSw); go_simp; (try with_reducible rfl)
  (try simp only [Act.put, List.setIfInBounds_toArray, List.set_cons_zero, List.set_cons_succ, List.getElem_toArray, List.getElem_cons_succ, List.getElem_cons_zero])
  refine wpAnyH_take (i := 11) (v := ?_) rfl (by kernel_rfl) (by kernel_rfl) (by kernel_rfl) (fun _ _ _ h => h) (Or.inl ⟨by rfl, ?_⟩) (by assumption) ?_
  rotate_left
  · intro w' hSw; (try dsimp only at hSw); go_simp; (try with_reducible rfl)
  (try simp only [Act.put, List.setIfInBounds_toArray, List.set_cons_zero, List.set_cons_succ, List.getElem_toArray, List.getElem_cons_succ, List.getElem_cons_zero])
  refine wpAnyH_take (i := 12) (v := ?_) rfl (by kernel_rfl) (by kernel_rfl) (by kernel_rfl) (fun _ _ _ h => h) (Or.inl ⟨by rfl, ?_⟩) (by assumption) ?_
  rotate_left
  · intro w' hSw; (try dsimp only at hSw); go_simp; (try with_reducible rfl)
  (try simp only [Act.put, List.setIfInBounds_toArray, List.set_cons_zero, List.set_cons_succ, List.getElem_toArray, List.getElem_cons_succ, List.getElem_cons_zero])
  refine wpAnyH_take (i := 13) (v := ?_) rfl (by kernel_rfl) (by kernel_rfl) (by kernel_rfl) (fun _ _ _ h => h) (Or.inl ⟨by rfl, ?_⟩) (by assumption) ?_
  rotate_left
  · intro w' hSw; (try dsimp only at hSw); go_simp; (try with_reducible rfl)
  (try simp only [Act.put, List.setIfInBounds_toArray, List.set_cons_zero, List.set_cons_succ, List.getElem_toArray, List.getElem_cons_succ, List.getElem_cons_zero])
  have cc := U1d.c 0 (by omega)
  have ff := U1d.fz 0
  have cc1 := U1d.c 1 (by omega)
  have ff1 := U1d.fz 1
  refine wpAnyH_ready (rs := [14]) (by kernel_rfl) (by simp) ?_
  refine AllReadyH.cons rfl (fun K hK => ?_) AllReadyH.nil
  go_simp
  (try dsimp only)
  refine hK.out _ _ ?_ (fun hHeld => ?_)
  · exact ⟨(X1d.other (p := ⟨g, 0, none⟩) (Ne.symm hng) _).c0, (X1d.other (p := ⟨g, 0, none⟩) (Ne.symm hng) _).c1, (X1d.other (p := ⟨g, 0, none⟩) (Ne.symm hng) _).c2⟩
  clear hK K
  (try simp only [Act.put, List.setIfInBounds_toArray, List.set_cons_zero, List.set_cons_succ, List.getElem_toArray, List.getElem_cons_succ, List.getElem_cons_zero])
  have X2 := X1d.other (p := ⟨g, 0, none⟩) (Ne.symm hng) (.int .u8 (l * 64 + 32 + m))
  have U2 := U1d.set (i := 0) (by omega) (l * 64 + 32 + m)
  have HB2 : Below bx w (V1.setCell ⟨g, 0, none⟩ (.int .u8 (l * 64 + 32 + m))) := HB1d.setCell (by show bx ≤ g; omega) _
  generalize V1.setCell ⟨g, 0, none⟩ (.int .u8 (l * 64 + 32 + m)) = W2 at *
  clear X1d U1d HB1d cc ff cc1 ff1
  refine wpAnyH_take (i := 15) (v := ?_) rfl (by kernel_rfl) (by kernel_rfl) (by kernel_rfl) (fun _ _ _ h => h) (Or.inl ⟨by rfl, ?_⟩) (by assumption) ?_
  rotate_left
  · intro w' hSw; (try dsimp only at hSw); go_simp; (try with_reducible rfl)
  (try simp only [Act.put, List.setIfInBounds_toArray, List.set_cons_zero, List.set_cons_succ, List.getElem_toArray, List.getElem_cons_succ, List.getElem_cons_zero])
  have cc1 := U2.c 1 (by omega)
  have ff1 := U2.fz 1
  refine wpAnyH_ready (rs := [16]) (by kernel_rfl) (by simp) ?_
  refine AllReadyH.cons rfl (fun K hK => ?_) AllReadyH.nil
  go_simp
  (try dsimp only)
  refine hK.out _ _ ?_ (fun hHeld => ?_)
  · exact ⟨(X2.other (p := ⟨g, 1, none⟩) (Ne.symm hng) _).c0, (X2.other (p := ⟨g, 1, none⟩) (Ne.symm hng) _).c1, (X2.other (p := ⟨g, 1, none⟩) (Ne.symm hng) _).c2⟩
  clear hK K
  (try simp only [Act.put, List.setIfInBounds_toArray, List.set_cons_zero, List.set_cons_succ, List.getElem_toArray, List.getElem_cons_succ, List.getElem_cons_zero])
  have X3 := X2.other (p := ⟨g, 1, none⟩) (Ne.symm hng) (.int .u8 s)
  have U3 := U2.set (i := 1) (by omega) s
  have HB3 : Below bx w (W2.setCell ⟨g, 1, none⟩ (.int .u8 s)) := HB2.setCell (by show bx ≤ g; omega) _
  generalize W2.setCell ⟨g, 1, none⟩ (.int .u8 s) = W3 at *
  clear X2 U2 HB2 cc1 ff1
  refine wpAnyH_done (by kernel_rfl) ?_ _
  go_wp2_with fail
  refine wp_region_held_drew (S := fun w' => w'.cell? ⟨bx, 3, none⟩ = some (.int .i64 d)) (by kernel_rfl) ?_ (fun hHeld => ?_)
  · exact X3.c3
  have X3d := X3.drew
  have U3d := U3.drew
  have HB3d := HB3.drew
  generalize W3.drew = V3 at *
  clear X3 U3 HB3
  refine wpAnyH_take (i := 0) (v := ?_) rfl (by kernel_rfl) (by kernel_rfl) (by kernel_rfl) (fun _ _ _ h => h) (Or.inl ⟨by rfl, ?_⟩) (by assumption) ?_
  rotate_left
  · intro w' hSw; (try dsimp only at hSw); go_simp; (try with_reducible rfl)
  (try simp only [Act.put, List.setIfInBounds_toArray, List.set_cons_zero, List.set_cons_succ, List.getElem_toArray, List.getElem_cons_succ, List.getElem_cons_zero])
  refine wpAnyH_take (i := 1) (v := ?_) rfl (by kernel_rfl) (by kernel_rfl) (by kernel_rfl) (fun _ _ _ h => h) (Or.inl ⟨by rfl, ?_⟩) (by assumption) ?_
  rotate_left
  · intro w' hSw; (try dsimp only at hSw); go_simp; (try with_reducible rfl)
  (try simp only [Act.put, List.setIfInBounds_toArray, List.set_cons_zero, List.set_cons_succ, List.getElem_toArray, List.getElem_cons_succ, List.getElem_cons_zero])
  refine wpAnyH_take (i := 2) (v := ?_) rfl (by kernel_rfl) (by kernel_rfl) (by kernel_rfl) (fun _ _ _ h => h) (Or.inl ⟨by rfl, ?_⟩) (by assumption) ?_
  rotate_left
  · intro w' hSw; (try dsimp only at hSw); go_simp; (try with_reducible rfl)
  (try simp only [Act.put, List.setIfInBounds_toArray, List.set_cons_zero, List.set_cons_succ, List.getElem_toArray, List.getElem_cons_succ, List.getElem_cons_zero])
  refine wpAnyH_take (i := 3) (v := ?_) rfl (by kernel_rfl) (by kernel_rfl) (by kernel_rfl) (fun _ _ _ h => h) (Or.inl ⟨by rfl, ?_⟩) (by assumption) ?_
  rotate_left
  · intro w' hSw; (try dsimp only at hSw); go_simp; (try with_reducible rfl)
  (try simp only [Act.put, List.setIfInBounds_toArray, List.set_cons_zero, List.set_cons_succ, List.getElem_toArray, List.getElem_cons_succ, List.getElem_cons_zero])
  refine wpAnyH_take (i := 4) (v := ?_) rfl (by kernel_rfl) (by kernel_rfl) (by kernel_rfl) (fun _ _ _ h => h) (Or.inl ⟨by rfl, ?_⟩) (by assumption) ?_
  rotate_left
  · intro w' hSw; (try dsimp only at hSw); go_simp; (try with_reducible rfl)
  (try simp only [Act.put, List.setIfInBounds_toArray, List.set_cons_zero, List.set_cons_succ, List.getElem_toArray, List.getElem_cons_succ, List.getElem_cons_zero])
  refine wpAnyH_ready (rs := [5]) (by kernel_rfl) (by simp) ?_
  refine AllReadyH.cons rfl (fun K hK => ?_) AllReadyH.nil
  go_simp
  (go_at_call 81; refine (pk_lay g 48 4 4 _ _ d V3 U3d (by omega) (by omega) (by omega) (by omega)).mono ?_; rintro e W4 ⟨rfl, hO4, U4⟩)
  have X4 := X3d.only hO4 hng
  have HB4 : Below bx w W4 := HB3d.trans (hO4.below (by omega) (by have := HB3d.size; have := HBX.out; omega))
  (try dsimp only)
  refine hK.out _ _ ?_ (fun hHeld => ?_)
  · exact X4.c3
  clear hK K
  (try simp only [Act.put, List.setIfInBounds_toArray, List.set_cons_zero, List.set_cons_succ, List.getElem_toArray, List.getElem_cons_succ, List.getElem_cons_zero])
  refine wpAnyH_done (by kernel_rfl) ?_ _
  clear hO4 X3d U3d HB3d
  go_wp2_with fail
  refine wp_region_held_drew (S := fun w' => w'.cell? ⟨bx, 4, none⟩ = some (.int .i64 r)) (by kernel_rfl) ?_ (fun hHeld => ?_)
  · exact X4.c4
  have X4d := X4.drew
  have U4d := U4.drew
  have HB4d := HB4.drew
  generalize W4.drew = V4 at *
  clear X4 U4 HB4
  refine wpAnyH_take (i := 0) (v := ?_) rfl (by kernel_rfl) (by kernel_rfl) (by kernel_rfl) (fun _ _ _ h => h) (Or.inl ⟨by rfl, ?_⟩) (by assumption) ?_
  rotate_left
  · intro w' hSw; (try dsimp only at hSw); go_simp; (try with_reducible rfl)
  (try simp only [Act.put, List.setIfInBounds_toArray, List.set_cons_zero, List.set_cons_succ, List.getElem_toArray, List.getElem_cons_succ, List.getElem_cons_zero])
  refine wpAnyH_take (i := 1) (v := ?_) rfl (by kernel_rfl) (by kernel_rfl) (by kernel_rfl) (fun _ _ _ h => h) (Or.inl ⟨by rfl, ?_⟩) (by assumption) ?_
  rotate_left
  · intro w' hSw; (try dsimp only at hSw); go_simp; (try with_reducible rfl)
  (try simp only [Act.put, List.setIfInBounds_toArray, List.set_cons_zero, List.set_cons_succ, List.getElem_toArray, List.getElem_cons_succ, List.getElem_cons_zero])
  refine wpAnyH_take (i := 2) (v := ?_) rfl (by kernel_rfl) (by kernel_rfl) (by kernel_rfl) (fun _ _ _ h => h) (Or.inl ⟨by rfl, ?_⟩) (by assumption) ?_
  rotate_left
  · intro w' hSw; (try dsimp only at hSw); go_simp; (try with_reducible rfl)
  (try simp only [Act.put, List.setIfInBounds_toArray, List.set_cons_zero, List.set_cons_succ, List.getElem_toArray, List.getElem_cons_succ, List.getElem_cons_zero])
  refine wpAnyH_take (i := 3) (v := ?_) rfl (by kernel_rfl) (by kernel_rfl) (by kernel_rfl) (fun _ _ _ h => h) (Or.inl ⟨by rfl, ?_⟩) (by assumption) ?_
  rotate_left
  · intro w' hSw; (try dsimp only at hSw); go_simp; (try with_reducible rfl)
  (try simp only [Act.put, List.setIfInBounds_toArray, List.set_cons_zero, List.set_cons_succ, List.getElem_toArray, List.getElem_cons_succ, List.getElem_cons_zero])
  refine wpAnyH_take (i := 4) (v := ?_) rfl (by kernel_rfl) (by kernel_rfl) (by kernel_rfl) (fun _ _ _ h => h) (Or.inl ⟨by rfl, ?_⟩) (by assumption) ?_
  rotate_left
  · intro w' hSw; (try dsimp only at hSw); go_simp; (try with_reducible rfl)
  (try simp only [Act.put, List.setIfInBounds_toArray, List.set_cons_zero, List.set_cons_succ, List.getElem_toArray, List.getElem_cons_succ, List.getElem_cons_zero])
  refine wpAnyH_ready (rs := [5]) (by kernel_rfl) (by simp) ?_
  refine AllReadyH.cons rfl (fun K hK => ?_) AllReadyH.nil
  go_simp
  (go_at_call 81; refine (pk_lay g 48 8 4 _ _ r V4 U4d (by omega) (by omega) (by omega) (by omega)).mono ?_; rintro e W5 ⟨rfl, hO5, U5⟩)
  have X5 := X4d.only hO5 hng
  have HB5 : Below bx w W5 := HB4d.trans (hO5.below (by omega) (by have := HB4d.size; have := HBX.out; omega))
  (try dsimp only)
  refine hK.out _ _ ?_ (fun hHeld => ?_)
  · exact X5.c4
  clear hK K
  (try simp only [Act.put, List.setIfInBounds_toArray, List.set_cons_zero, List.set_cons_succ, List.getElem_toArray, List.getElem_cons_succ, List.getElem_cons_zero])
  refine wpAnyH_done (by kernel_rfl) ?_ _
  clear hO5 X4d U4d HB4d
  go_wp2_with fail
  refine wp_region_held_drew (S := fun w' => w'.cell? ⟨bx, 5, none⟩ = some (.int .u64 o)) (by kernel_rfl) ?_ (fun hHeld => ?_)
  · exact X5.c5
  have X5d := X5.drew
  have U5d := U5.drew
  have HB5d := HB5.drew
  generalize W5.drew = V5 at *
  clear X5 U5 HB5
  refine wpAnyH_take (i := 0) (v := ?_) rfl (by kernel_rfl) (by kernel_rfl) (by kernel_rfl) (fun _ _ _ h => h) (Or.inl ⟨by rfl, ?_⟩) (by assumption) ?_
  rotate_left
  · intro w' hSw; (try dsimp only at hSw); go_simp; (try with_reducible rfl)
  (try simp only [Act.put, List.setIfInBounds_toArray, List.set_cons_zero, List.set_cons_succ, List.getElem_toArray, List.getElem_cons_succ, List.getElem_cons_zero])
  refine wpAnyH_take (i := 1) (v := ?_) rfl (by kernel_rfl) (by kernel_rfl) (by kernel_rfl) (fun _ _ _ h => h) (Or.inl ⟨by rfl, ?_⟩) (by assumption) ?_
  rotate_left
  · intro w' hSw; (try dsimp only at hSw); go_simp; (try with_reducible rfl)
  (try simp only [Act.put, List.setIfInBounds_toArray, List.set_cons_zero, List.set_cons_succ, List.getElem_toArray, List.getElem_cons_succ, List.getElem_cons_zero])
  refine wpAnyH_take (i := 2) (v := ?_) rfl (by kernel_rfl) (by kernel_rfl) (by kernel_rfl) (fun _ _ _ h => h) (Or.inl ⟨by rfl, ?_⟩) (by assumption) ?_
  rotate_left
  · intro w' hSw; (try dsimp only at hSw); go_simp; (try with_reducible rfl)
  (try simp only [Act.put, List.setIfInBounds_toArray, List.set_cons_zero, List.set_cons_succ, List.getElem_toArray, List.getElem_cons_succ, List.getElem_cons_zero])
  refine wpAnyH_take (i := 3) (v := ?_) rfl (by kernel_rfl) (by kernel_rfl) (by kernel_rfl) (fun _ _ _ h => h) (Or.inl ⟨by rfl, ?_⟩) (by assumption) ?_
  rotate_left
  · intro w' hSw; (try dsimp only at hSw); go_simp; (try with_reducible rfl)
  (try simp only [Act.put, List.setIfInBounds_toArray, List.set_cons_zero, List.set_cons_succ, List.getElem_toArray, List.getElem_cons_succ, List.getElem_cons_zero])
  refine wpAnyH_ready (rs := [4]) (by kernel_rfl) (by simp) ?_
  refine AllReadyH.cons rfl (fun K hK => ?_) AllReadyH.nil
  go_simp
  (go_at_call 81; refine (pk_lay g 48 24 8 _ _ o V5 U5d (by omega) (by omega) (by omega) (by omega)).mono ?_; rintro e W6 ⟨rfl, hO6, U6⟩)
  have X6 := X5d.only hO6 hng
  have HB6 : Below bx w W6 := HB5d.trans (hO6.below (by omega) (by have := HB5d.size; have := HBX.out; omega))
  (try dsimp only)
  refine hK.out _ _ ?_ (fun hHeld => ?_)
  · exact X6.c5
  clear hK K
  (try simp only [Act.put, List.setIfInBounds_toArray, List.set_cons_zero, List.set_cons_succ, List.getElem_toArray, List.getElem_cons_succ, List.getElem_cons_zero])
  refine wpAnyH_done (by kernel_rfl) ?_ _
  clear hO6 X5d U5d HB5d
  go_wp2_with fail
  refine wp_region_held_drew (S := fun w' => w'.cell? ⟨bx, 6, none⟩ = some (.int .u64 v)) (by kernel_rfl) ?_ (fun hHeld => ?_)
  · exact X6.c6
  have X6d := X6.drew
  have U6d := U6.drew
  have HB6d := HB6.drew
  generalize W6.drew = V6 at *
  clear X6 U6 HB6
  refine wpAnyH_take (i := 0) (v := ?_) rfl (by kernel_rfl) (by kernel_rfl) (by kernel_rfl) (fun _ _ _ h => h) (Or.inl ⟨by rfl, ?_⟩) (by assumption) ?_
  rotate_left
  · intro w' hSw; (try dsimp only at hSw); go_simp; (try with_reducible rfl)
  (try simp only [Act.put, List.setIfInBounds_toArray, List.set_cons_zero, List.set_cons_succ, List.getElem_toArray, List.getElem_cons_succ, List.getElem_cons_zero])
  refine wpAnyH_take (i := 1) (v := ?_) rfl (by kernel_rfl) (by kernel_rfl) (by kernel_rfl) (fun _ _ _ h => h) (Or.inl ⟨by rfl, ?_⟩) (by assumption) ?_
  rotate_left
  · intro w' hSw; (try dsimp only at hSw); go_simp; (try with_reducible rfl)
  (try simp only [Act.put, List.setIfInBounds_toArray, List.set_cons_zero, List.set_cons_succ, List.getElem_toArray, List.getElem_cons_succ, List.getElem_cons_zero])
  refine wpAnyH_take (i := 2) (v := ?_) rfl (by kernel_rfl) (by kernel_rfl) (by kernel_rfl) (fun _ _ _ h => h) (Or.inl ⟨by rfl, ?_⟩) (by assumption) ?_
  rotate_left
  · intro w' hSw; (try dsimp only at hSw); go_simp; (try with_reducible rfl)
  (try simp only [Act.put, List.setIfInBounds_toArray, List.set_cons_zero, List.set_cons_succ, List.getElem_toArray, List.getElem_cons_succ, List.getElem_cons_zero])
  refine wpAnyH_take (i := 3) (v := ?_) rfl (by kernel_rfl) (by kernel_rfl) (by kernel_rfl) (fun _ _ _ h => h) (Or.inl ⟨by rfl, ?_⟩) (by assumption) ?_
  rotate_left
  · intro w' hSw; (try dsimp only at hSw); go_simp; (try with_reducible rfl)
  (try simp only [Act.put, List.setIfInBounds_toArray, List.set_cons_zero, List.set_cons_succ, List.getElem_toArray, List.getElem_cons_succ, List.getElem_cons_zero])
  refine wpAnyH_ready (rs := [4]) (by kernel_rfl) (by simp) ?_
  refine AllReadyH.cons rfl (fun K hK => ?_) AllReadyH.nil
  go_simp
  (go_at_call 81; refine (pk_lay g 48 32 8 _ _ v V6 U6d (by omega) (by omega) (by omega) (by omega)).mono ?_; rintro e W7 ⟨rfl, hO7, U7⟩)
  have X7 := X6d.only hO7 hng
  have HB7 : Below bx w W7 := HB6d.trans (hO7.below (by omega) (by have := HB6d.size; have := HBX.out; omega))
  (try dsimp only)
  refine hK.out _ _ ?_ (fun hHeld => ?_)
  · exact X7.c6
  clear hK K
  (try simp only [Act.put, List.setIfInBounds_toArray, List.set_cons_zero, List.set_cons_succ, List.getElem_toArray, List.getElem_cons_succ, List.getElem_cons_zero])
  refine wpAnyH_done (by kernel_rfl) ?_ _
  clear hO7 X6d U6d HB6d
  go_wp2_with fail
  refine wp_region_held_drew (S := fun w' => w'.cell? ⟨bx, 7, none⟩ = some (.int .u64 t)) (by kernel_rfl) ?_ (fun hHeld => ?_)
  · exact X7.c7
  have X7d := X7.drew
  have U7d := U7.drew
  have HB7d := HB7.drew
  generalize W7.drew = V7 at *
  clear X7 U7 HB7
  refine wpAnyH_take (i := 0) (v := ?_) rfl (by kernel_rfl) (by kernel_rfl) (by kernel_rfl) (fun _ _ _ h => h) (Or.inl ⟨by rfl, ?_⟩) (by assumption) ?_
  rotate_left
  · intro w' hSw; (try dsimp only at hSw); go_simp; (try with_reducible rfl)
  (try simp only [Act.put, List.setIfInBounds_toArray, List.set_cons_zero, List.set_cons_succ, List.getElem_toArray, List.getElem_cons_succ, List.getElem_cons_zero])
  refine wpAnyH_take (i := 1) (v := ?_) rfl (by kernel_rfl) (by kernel_rfl) (by kernel_rfl) (fun _ _ _ h => h) (Or.inl ⟨by rfl, ?_⟩) (by assumption) ?_
  rotate_left
  · intro w' hSw; (try dsimp only at hSw); go_simp; (try with_reducible rfl)
  (try simp only [Act.put, List.setIfInBounds_toArray, List.set_cons_zero, List.set_cons_succ, List.getElem_toArray, List.getElem_cons_succ, List.getElem_cons_zero])
  refine wpAnyH_take (i := 2) (v := ?_) rfl (by kernel_rfl) (by kernel_rfl) (by kernel_rfl) (fun _ _ _ h => h) (Or.inl ⟨by rfl, ?_⟩) (by assumption) ?_
  rotate_left
  · intro w' hSw; (try dsimp only at hSw); go_simp; (try with_reducible rfl)
  (try simp only [Act.put, List.setIfInBounds_toArray, List.set_cons_zero, List.set_cons_succ, List.getElem_toArray, List.getElem_cons_succ, List.getElem_cons_zero])
  refine wpAnyH_take (i := 3) (v := ?_) rfl (by kernel_rfl) (by kernel_rfl) (by kernel_rfl) (fun _ _ _ h => h) (Or.inl ⟨by rfl, ?_⟩) (by assumption) ?_
  rotate_left
  · intro w' hSw; (try dsimp only at hSw); go_simp; (try with_reducible rfl)
  (try simp only [Act.put, List.setIfInBounds_toArray, List.set_cons_zero, List.set_cons_succ, List.getElem_toArray, List.getElem_cons_succ, List.getElem_cons_zero])
  refine wpAnyH_ready (rs := [4]) (by kernel_rfl) (by simp) ?_
  refine AllReadyH.cons rfl (fun K hK => ?_) AllReadyH.nil
  go_simp
  (go_at_call 81; refine (pk_lay g 48 40 8 _ _ t V7 U7d (by omega) (by omega) (by omega) (by omega)).mono ?_; rintro e W8 ⟨rfl, hO8, U8⟩)
  have X8 := X7d.only hO8 hng
  have HB8 : Below bx w W8 := HB7d.trans (hO8.below (by omega) (by have := HB7d.size; have := HBX.out; omega))
  (try dsimp only)
  refine hK.out _ _ ?_ (fun hHeld => ?_)
  · exact X8.c7
  clear hK K
  (try simp only [Act.put, List.setIfInBounds_toArray, List.set_cons_zero, List.set_cons_succ, List.getElem_toArray, List.getElem_cons_succ, List.getElem_cons_zero])
  refine wpAnyH_done (by kernel_rfl) ?_ _
  clear hO8 X7d U7d HB7d
  have UF : Hid (U8At W8 g 48 (encF l m s d r o v t)) := Lib.hid U8
  clear U8
  go_wp2
  go_ret2
  exact ⟨g, rfl, by rw [HBX.out]; exact hgg, UF.out, by rw [HBX.out]; exact HB8⟩
end Go.Proofs.YtepdnkpmkhjlgaaGreat

/- Rows of bytes that are read; same; what is known of stage 6. -/
namespace Go.Proofs.YtepdnkpmkhjlgaaGreat
open Go.RowKit

/-- n bytes at a slice's head. -/
def BytesAt (W : World) (A : Option Addr) (n : Nat) (f : Nat → Int) : Prop := 0 < n → ∃ B O, A = some ⟨B, O, none⟩ ∧ B < W.heap.size ∧ ∀ j, j < n → W.cell? ⟨B, O + j, none⟩ = some (.int .u8 (f j))
theorem BytesAt.below {W W' : World} {A : Option Addr} {n : Nat} {f : Nat → Int} (h : BytesAt W A n f) (k : Below W.heap.size W W') : BytesAt W' A n f := by
  intro h0
  obtain ⟨B, O, rfl, hB, hc⟩ := h h0
  exact ⟨B, O, rfl, Nat.lt_of_lt_of_le hB k.size, fun j hj => (k.cell (p := ⟨B, O + j, none⟩) hB).trans (hc j hj)⟩
theorem BytesAt.drewN {W : World} {A : Option Addr} {n : Nat} {f : Nat → Int} (h : BytesAt W A n f) (q : Nat) : BytesAt (W.drewN q) A n f := h
theorem U8At.bytes {W : World} {g n : Nat} {f : Nat → Int} (h : U8At W g n f) : BytesAt W (some ⟨g, 0, none⟩) n f := fun _ => ⟨g, 0, rfl, h.lt, fun j hj => by rw [Nat.zero_add]; exact h.c j hj⟩
theorem BytesAt.zero (W : World) (A : Option Addr) (f : Nat → Int) : BytesAt W A 0 f := fun h => absurd h (by omega)
/-- Are the first k the same? -/
def eqK (f f' : Nat → Int) : Nat → Bool
  | 0 => true
  | k + 1 => eqK f f' k && f k == f' k
theorem eqK_iff (f f' : Nat → Int) (n : Nat) : eqK f f' n = true ↔ ∀ j, j < n → f j = f' j := by
  induction n with
  | zero => simp [eqK]
  | succ n ih =>
    simp only [eqK, Bool.and_eq_true, ih, beq_iff_eq]
    constructor
    · rintro ⟨h1, h2⟩ j hj
      rcases (show j < n ∨ j = n from by omega) with q | rfl
      · exact h1 j q
      · exact h2
    · intro h
      exact ⟨fun j hj => h j (by omega), h n (by omega)⟩
def eqB (n : Nat) (f : Nat → Int) (n' : Nat) (f' : Nat → Int) : Bool := decide (n = n') && eqK f f' n
theorem known_enc : encF 3 4 0 0 0 0 0 258 0 = 228 ∧ encF 3 4 0 0 0 0 0 258 46 = 1 ∧ encF 3 4 0 0 0 0 0 258 47 = 2 := by decide
end Go.Proofs.YtepdnkpmkhjlgaaGreat

/- Stage 6: PacketApart. -/
namespace Go.Proofs.YtepdnkpmkhjlgaaGreat
open Go.ChangeShapes Go.WideShapes Go.ChangeAt Go.RowKit Go.Joins

theorem isP_bd {l m s d r : Int} (h : isP l m s d r = true) : (0 ≤ l ∧ l ≤ 3) ∧ (3 ≤ m ∧ m ≤ 4) ∧ (0 ≤ s ∧ s ≤ 255) ∧ (0 ≤ d ∧ d ≤ 4294967295) ∧ (0 ≤ r ∧ r ≤ 4294967295) := by
  unfold isP at h
  simp only [Bool.and_eq_true] at h
  obtain ⟨h1, h2, h3, h4, h5⟩ := h
  exact ⟨inN_bd h1, inN_bd h2, inN_bd h3, inN_bd h4, inN_bd h5⟩
theorem byte4 {x y : Int} (x0 : 0 ≤ x) (x1 : x < 4294967296) (y0 : 0 ≤ y) (y1 : y < 4294967296) (h0 : x / 256 ^ 3 % 256 = y / 256 ^ 3 % 256) (h1 : x / 256 ^ 2 % 256 = y / 256 ^ 2 % 256) (h2 : x / 256 ^ 1 % 256 = y / 256 ^ 1 % 256) (h3 : x / 256 ^ 0 % 256 = y / 256 ^ 0 % 256) : x = y := by
  simp only [show (256 : Int) ^ 3 = 16777216 from rfl, show (256 : Int) ^ 2 = 65536 from rfl, show (256 : Int) ^ 1 = 256 from rfl, show (256 : Int) ^ 0 = 1 from rfl] at h0 h1 h2 h3
  omega
theorem byte8 {x y : Int} (x0 : 0 ≤ x) (x1 : x < 18446744073709551616) (y0 : 0 ≤ y) (y1 : y < 18446744073709551616) (h : ∀ i, i < 8 → x / 256 ^ i % 256 = y / 256 ^ i % 256) : x = y := by
  have a : x / 4294967296 = y / 4294967296 := by
    refine byte4 (by omega) (by omega) (by omega) (by omega) ?_ ?_ ?_ ?_
    · have := h 7 (by omega); rw [show (256 : Int) ^ 7 = 4294967296 * 256 ^ 3 from rfl] at this; rwa [← Int.ediv_ediv_of_nonneg (by omega), ← Int.ediv_ediv_of_nonneg (by omega)] at this
    · have := h 6 (by omega); rw [show (256 : Int) ^ 6 = 4294967296 * 256 ^ 2 from rfl] at this; rwa [← Int.ediv_ediv_of_nonneg (by omega), ← Int.ediv_ediv_of_nonneg (by omega)] at this
    · have := h 5 (by omega); rw [show (256 : Int) ^ 5 = 4294967296 * 256 ^ 1 from rfl] at this; rwa [← Int.ediv_ediv_of_nonneg (by omega), ← Int.ediv_ediv_of_nonneg (by omega)] at this
    · have := h 4 (by omega); rw [show (256 : Int) ^ 4 = 4294967296 * 256 ^ 0 from rfl] at this; rwa [← Int.ediv_ediv_of_nonneg (by omega), ← Int.ediv_ediv_of_nonneg (by omega)] at this
  have b : x % 4294967296 = y % 4294967296 := by
    have h0 := h 0 (by omega)
    have h1 := h 1 (by omega)
    have h2 := h 2 (by omega)
    have h3 := h 3 (by omega)
    simp only [show (256 : Int) ^ 3 = 16777216 from rfl, show (256 : Int) ^ 2 = 65536 from rfl, show (256 : Int) ^ 1 = 256 from rfl, show (256 : Int) ^ 0 = 1 from rfl] at h0 h1 h2 h3
    omega
  omega
/-- Unlike packets have unlike bytes. -/
theorem encF_inj {l m s d r o v t l' m' s' d' r' o' v' t' : Int} (h : isP l m s d r = true) (h' : isP l' m' s' d' r' = true)
    (o0 : 0 ≤ o ∧ o < 18446744073709551616) (v0 : 0 ≤ v ∧ v < 18446744073709551616) (t0 : 0 ≤ t ∧ t < 18446744073709551616) (o0' : 0 ≤ o' ∧ o' < 18446744073709551616) (v0' : 0 ≤ v' ∧ v' < 18446744073709551616) (t0' : 0 ≤ t' ∧ t' < 18446744073709551616)
    (he : ∀ j, j < 48 → encF l m s d r o v t j = encF l' m' s' d' r' o' v' t' j) : l = l' ∧ m = m' ∧ s = s' ∧ d = d' ∧ r = r' ∧ o = o' ∧ v = v' ∧ t = t' := by
  have b := isP_bd h
  have b' := isP_bd h'
  have e0 : l * 64 + 32 + m = l' * 64 + 32 + m' := he 0 (by omega)
  have e1 : s = s' := he 1 (by omega)
  have ed : d = d' := byte4 (by omega) (by omega) (by omega) (by omega) (he 4 (by omega)) (he 5 (by omega)) (he 6 (by omega)) (he 7 (by omega))
  have er : r = r' := byte4 (by omega) (by omega) (by omega) (by omega) (he 8 (by omega)) (he 9 (by omega)) (he 10 (by omega)) (he 11 (by omega))
  have eo : o = o' := byte8 o0.1 o0.2 o0'.1 o0'.2 (fun i hi => by
    rcases (show i = 0 ∨ i = 1 ∨ i = 2 ∨ i = 3 ∨ i = 4 ∨ i = 5 ∨ i = 6 ∨ i = 7 from by omega) with rfl | rfl | rfl | rfl | rfl | rfl | rfl | rfl
    · exact he 31 (by omega)
    · exact he 30 (by omega)
    · exact he 29 (by omega)
    · exact he 28 (by omega)
    · exact he 27 (by omega)
    · exact he 26 (by omega)
    · exact he 25 (by omega)
    · exact he 24 (by omega))
  have ev : v = v' := byte8 v0.1 v0.2 v0'.1 v0'.2 (fun i hi => by
    rcases (show i = 0 ∨ i = 1 ∨ i = 2 ∨ i = 3 ∨ i = 4 ∨ i = 5 ∨ i = 6 ∨ i = 7 from by omega) with rfl | rfl | rfl | rfl | rfl | rfl | rfl | rfl
    · exact he 39 (by omega)
    · exact he 38 (by omega)
    · exact he 37 (by omega)
    · exact he 36 (by omega)
    · exact he 35 (by omega)
    · exact he 34 (by omega)
    · exact he 33 (by omega)
    · exact he 32 (by omega))
  have et : t = t' := byte8 t0.1 t0.2 t0'.1 t0'.2 (fun i hi => by
    rcases (show i = 0 ∨ i = 1 ∨ i = 2 ∨ i = 3 ∨ i = 4 ∨ i = 5 ∨ i = 6 ∨ i = 7 from by omega) with rfl | rfl | rfl | rfl | rfl | rfl | rfl | rfl
    · exact he 47 (by omega)
    · exact he 46 (by omega)
    · exact he 45 (by omega)
    · exact he 44 (by omega)
    · exact he 43 (by omega)
    · exact he 42 (by omega)
    · exact he 41 (by omega)
    · exact he 40 (by omega))
  exact ⟨by omega, by omega, e1, ed, er, eo, ev, et⟩
end Go.Proofs.YtepdnkpmkhjlgaaGreat

/- packet.take; bytes.Equal. -/
namespace Go.Proofs.YtepdnkpmkhjlgaaGreat
open Go.RowKit

/-- Bytes as a number, the highest first. -/
def numK (f : Nat → Int) : Nat → Int
  | 0 => 0
  | k + 1 => numK f k * 256 + f k
theorem numK_bd (f : Nat → Int) (k : Nat) (h : ∀ j, j < k → 0 ≤ f j ∧ f j ≤ 255) : 0 ≤ numK f k ∧ numK f k < 256 ^ k := by
  induction k with
  | zero => simp [numK]
  | succ k ih =>
    have h1 := ih (fun j hj => h j (by omega))
    have h2 := h k (by omega)
    have e : (256 : Int) ^ (k + 1) = 256 ^ k * 256 := Int.pow_succ 256 k
    unfold numK
    omega
theorem bits_or8 (m c : Int) (m0 : 0 ≤ m) (m1 : m ≤ 72057594037927935) (c0 : 0 ≤ c) (c1 : c ≤ 255) : bits .or .u64 (m * 256) c = m * 256 + c := by
  obtain ⟨m, rfl⟩ := Int.eq_ofNat_of_zero_le m0
  obtain ⟨c, rfl⟩ := Int.eq_ofNat_of_zero_le c0
  show IntKind.u64.wrap ((BitVec.ofInt 64 ((m : Int) * 256) ||| BitVec.ofInt 64 (c : Int)).toNat : Int) = _
  have e1 : (BitVec.ofInt 64 ((m : Int) * 256)).toNat = m * 256 := by
    rw [show ((m : Int) * 256) = ((m * 256 : Nat) : Int) from by omega, BitVec.ofInt_natCast, BitVec.toNat_ofNat]; exact Nat.mod_eq_of_lt (by omega)
  have e2 : (BitVec.ofInt 64 (c : Int)).toNat = c := by rw [BitVec.ofInt_natCast, BitVec.toNat_ofNat]; exact Nat.mod_eq_of_lt (by omega)
  have e3 : m * 256 ||| c = m * 256 + c := by
    have := Nat.two_pow_add_eq_or_of_lt (i := 8) (b := c) (by omega) m
    rw [show m * 256 = 2 ^ 8 * m from by omega]
    exact this.symm
  rw [BitVec.toNat_or, e1, e2, e3, IntWalk.u64_in _ (by omega)]
  omega
set_option maxHeartbeats 1000000 in
theorem pk_take (B O k c : Nat) (f : Nat → Int) (w : World) (h : ∀ j, j < k → w.cell? ⟨B, O + j, none⟩ = some (.int .u8 (f j))) (hb : ∀ j, j < k → 0 ≤ f j ∧ f j ≤ 255) (hk : k ≤ 8) :
    Calls Tryz.prog 65 #[.slice (some ⟨B, O, none⟩) k c] w fun e w' => e = .returned (.int .u64 (numK f k)) ∧ w = w' := by
  have hk' : (k : Int) ≤ 8 := by omega
  have HC := Lib.hid h
  have HB := Lib.hid hb
  clear h hb
  go_enter Tryz.func65, Tryz.ntmps65
  go_wp2
  go_loop [3, 8] (fun u i => ∃ q : Nat, q ≤ k ∧ i = .int .i64 q ∧ u = .int .u64 (numK f q)) (fun _ i => k - (intOf i).toNat)
  case atStart => exact ⟨0, Nat.zero_le _, rfl, rfl⟩
  case round =>
    obtain ⟨q, hq, rfl, rfl⟩ := hrel
    by_cases hlt : q < k
    · have x0 := HC.out q hlt
      have hb := HB.out q hlt
      have hbd := numK_bd f q (fun j hj => HB.out j (by omega))
      have hpow : (256 : Int) ^ q ≤ 72057594037927936 := by
        have : q ≤ 7 := by omega
        rcases (show q = 0 ∨ q = 1 ∨ q = 2 ∨ q = 3 ∨ q = 4 ∨ q = 5 ∨ q = 6 ∨ q = 7 from by omega) with rfl | rfl | rfl | rfl | rfl | rfl | rfl | rfl <;> decide
      have lk : (q : Int) < (k : Int) := by omega
      have m0 := hbd.1
      have m1 : numK f q ≤ 72057594037927935 := by omega
      have HS : Hid (numK f (q + 1) = numK f q * 256 + f q) := Lib.hid rfl
      have c0 := hb.1
      have c1 := hb.2
      clear hbd hpow hb
      generalize numK f q = m at *
      generalize f q = c' at *
      have hor := bits_or8 m c' m0 m1 c0 c1
      have hm : m * 256 < 18446744073709551616 := by omega
      go_wp2
      go_round
      case rel => exact ⟨q + 1, by omega, by go_num, by rw [HS.out]⟩
      case measure => simp [intOf]; omega
    · obtain rfl : q = k := by omega
      go_wp2
      go_ret
      exact ⟨rfl, rfl⟩
theorem eq_bytes (n : Nat) (f : Nat → Int) (n' : Nat) (f' : Nat → Int) (hf : ∀ j, j < n → 0 ≤ f j ∧ f j ≤ 255) (hf' : ∀ j, j < n' → 0 ≤ f' j ∧ f' j ≤ 255) :
    (Lib.bytesOf ((List.range n).map f) == Lib.bytesOf ((List.range n').map f')) = eqB n f n' f' := by
  rw [Bool.eq_iff_iff]
  simp only [beq_iff_eq, eqB, Bool.and_eq_true, decide_eq_true_eq, eqK_iff]
  constructor
  · intro h
    have hn : n = n' := by
      have := congrArg List.length h
      simpa [Lib.bytesOf] using this
    subst hn
    refine ⟨rfl, fun j hj => ?_⟩
    have h1 := congrArg (fun l : List UInt8 => l[j]?) h
    simp [Lib.bytesOf, hj] at h1
    have a := hf j hj
    have b := hf' j hj
    have h2 := congrArg UInt8.toNat h1
    rw [UInt8.toNat_ofNat', UInt8.toNat_ofNat', Nat.mod_eq_of_lt (by omega), Nat.mod_eq_of_lt (by omega)] at h2
    omega
  · rintro ⟨rfl, h⟩
    unfold Lib.bytesOf
    congr 1
    apply List.map_congr_left
    intro j hj
    exact h j (by simpa using hj)
theorem equal6 (A : Option Addr) (n c : Nat) (f : Nat → Int) (A' : Option Addr) (n' c' : Nat) (f' : Nat → Int) (w : World) (h : BytesAt w A n f) (h' : BytesAt w A' n' f') (hf : ∀ j, j < n → 0 ≤ f j ∧ f j ≤ 255) (hf' : ∀ j, j < n' → 0 ≤ f' j ∧ f' j ≤ 255) :
    Calls Tryz.prog 66 #[.slice A n c, .slice A' n' c'] w fun e w' => e = .returned (.bool (eqB n f n' f')) ∧ w = w' := by
  refine (Any.bytes_Equal_all Tryz.lays115 A A' n c n' c' ((List.range n).map f) ((List.range n').map f') w (by simp) (by simp) (fun h0 => ?_) (fun h0 => ?_)).mono ?_
  · obtain ⟨B, O, rfl, _, hc⟩ := h h0
    exact ⟨B, O, rfl, fun i hi => by rw [hc i hi]; simp [hi, List.getD_eq_getElem?_getD]⟩
  · obtain ⟨B, O, rfl, _, hc⟩ := h' h0
    exact ⟨B, O, rfl, fun i hi => by rw [hc i hi]; simp [hi, List.getD_eq_getElem?_getD]⟩
  · rintro e w' ⟨rfl, rfl⟩
    exact ⟨by rw [eq_bytes n f n' f' hf hf'], rfl⟩
end Go.Proofs.YtepdnkpmkhjlgaaGreat

/- An append of noughts onto a row of bytes. -/
namespace Go.Proofs.YtepdnkpmkhjlgaaGreat
open Go.ChangeShapes Go.WideShapes Go.ChangeAt Go.RowKit Go.Joins

theorem u8_info : (Tryz.prog.info? 5).map (fun i => (i.zero, i.size, i.bytes)) = some (some (.int .u8 0), 1, 1) := by kernel_rfl
def bytesC (f : Nat → Int) (n : Nat) : List Value := (List.range n).map fun j => .int .u8 (f j)
theorem bytesC_len (f : Nat → Int) (n : Nat) : (bytesC f n).length = n := by simp [bytesC]
theorem bytesC_succ (f : Nat → Int) (n : Nat) : bytesC f (n + 1) = bytesC f n ++ [.int .u8 (f n)] := by simp [bytesC, List.range_succ]
theorem bytesC_at (f : Nat → Int) (n j : Nat) (h : j < n) : (bytesC f n)[j]? = some (.int .u8 (f j)) := by simp [bytesC, h]
theorem bytesC_congr {f f' : Nat → Int} {n : Nat} (h : ∀ j, j < n → f j = f' j) : bytesC f n = bytesC f' n := by
  unfold bytesC
  apply List.map_congr_left
  intro j hj
  rw [h j (by simpa using hj)]
/-- A row of bytes that the call owns. -/
def BOwn (base : Nat) (W : World) (v : Value) (n : Nat) (f : Nat → Int) : Prop := W.ownsRow base 5 1 v n (bytesC f n)
theorem BOwn.congr {base : Nat} {W : World} {v : Value} {n : Nat} {f f' : Nat → Int} (h : BOwn base W v n f) (e : ∀ j, j < n → f j = f' j) : BOwn base W v n f' := by unfold BOwn; rw [← bytesC_congr e]; exact h
theorem BOwn.bytes {base : Nat} {W : World} {v : Value} {n : Nat} {f : Nat → Int} (h : BOwn base W v n f) : ∃ A c, v = .slice A n c ∧ BytesAt W A n f := by
  have hc0 := fun g hg => World.ownsRow.cells h (g := g) hg
  rcases h.2 with ⟨rfl, h0⟩ | ⟨g, cap, cur, rfl, hb', hh, _⟩
  · exact ⟨none, 0, by rw [h0], fun hn => absurd hn (by omega)⟩
  · refine ⟨_, _, rfl, fun hn => ⟨g, 0, rfl, (World.ownsRow.lt h g rfl).2, fun j hj => ?_⟩⟩
    have := hc0 g rfl j _ (bytesC_at f n j hj)
    rwa [show (Addr.mk g 0 none).add j = ⟨g, 0 + j, none⟩ from add_plain _ _ _] at this
/-- k noughts more. -/
theorem run_append_zeros (w : World) (base : Nat) (v : Value) (n k : Nat) (f : Nat → Int) (t tn ty : TypeId) (ht : Tryz.prog.underlying t = some (.slice 5)) (htn : Tryz.prog.underlying tn = some (.int .i64)) (h : BOwn base w v n f) (hb : base ≤ w.heap.size) (hn : n ≤ 1000) (hn0 : 0 < n) (hk0 : 0 < k) (hk : k ≤ 1000) :
    ∃ v' w', (Builtin.append_ #[t, tn] ty #[v, .int .i64 k]).run Tryz.prog w = .ok v' w' ∧ BOwn base w' v' (n + k) (fun j => if j < n then f j else 0) ∧ w.grownBy w' v.ownBlock := by
  obtain ⟨i, hi, hz, hs, hby⟩ := info_parts u8_info
  have hlen : (bytesC (fun j => if j < n then f j else 0) (n + k)).length = (n + k) * 1 := by rw [bytesC_len]; omega
  have hcells : bytesC (fun j => if j < n then f j else 0) (n + k) = bytesC f n ++ List.replicate k (.int .u8 0) := by
    apply List.ext_getElem?
    intro j
    rcases Nat.lt_or_ge j n with q | q
    · rw [bytesC_at _ _ _ (by omega), List.getElem?_append_left (by rw [bytesC_len]; exact q), bytesC_at _ _ _ q, if_pos q]
    · rw [List.getElem?_append_right (by rw [bytesC_len]; exact q), bytesC_len]
      rcases Nat.lt_or_ge j (n + k) with r | r
      · rw [bytesC_at _ _ _ r, if_neg (by omega), List.getElem?_replicate, if_pos (by omega)]
      · rw [List.getElem?_eq_none (by rw [bytesC_len]; exact r), List.getElem?_replicate, if_neg (by omega)]
  have hzc : (Builtin.zeroCells (Value.int .u8 0).cells k).toList = List.replicate k (.int .u8 0) := by
    apply List.ext_getElem
    · simp [Builtin.zeroCells, Value.cells]
    · intro j h1 h2
      simp [Builtin.zeroCells, Value.cells, Nat.mod_one]
  rcases h.2 with ⟨rfl, h0⟩ | ⟨g, cap, cur, rfl, hbg, hg, hnc, hcm, hcs, htake⟩
  · omega
  · by_cases hroom : n + k ≤ cap
    · have hw : IntKind.i64.wrap (k : Int) = k := by rw [IntKind.wrap_i64]; omega
      have hneg : ¬ ((k : Int) < 0) := by omega
      have h48i : ¬ (281474976710656 < (k : Int) * (i.bytes : Int)) := by rw [hby]; omega
      have hfit : n + (List.replicate k (Value.int .u8 0)).length ≤ cur.size := by simp; omega
      have hst := run_storeCells_at Tryz.prog g n 5 (List.replicate k (Value.int .u8 0)) 0 cur w hg (by simpa using hfit) (by intro u hu; simp at hu; rw [hu.2]; rfl)
      simp only [Nat.add_zero] at hst
      have hns : ¬ (k = 0) := by omega
      refine ⟨.slice (some ⟨g, 0, none⟩) (n + k) cap, w.setRow g (cur.toList.take n ++ List.replicate k (Value.int .u8 0) ++ cur.toList.drop (n + k)).toArray, ?_, ⟨hlen, .inr ⟨g, cap, _, rfl, hbg, setRow_heap w g cur _ 5 _ hg, hroom, hcm, ?_, ?_⟩⟩, ⟨rfl, rfl, rfl, by simp, fun q _ hq => setRow_other w g q _ (fun e => hq (by simp [Value.ownBlock, e]))⟩⟩
      · simp [Builtin.append_, run_underlying ht, run_underlying htn, sizeOf, typeInfo, zeroValue, hi, hz, hs, asInt, asIntOf, hw, hneg, h48i, hroom, hns, Addr.add_lit, hzc, hst]
      · simp only [List.size_toArray, List.length_append, List.length_take, List.length_drop, Array.length_toList, List.length_replicate]
        omega
      · have ht2 : cur.toList.take n = bytesC f n := by rw [← htake, Nat.mul_one]
        rw [hcells, ht2]
        have : (n + k) * 1 = (bytesC f n ++ List.replicate k (Value.int .u8 0)).length := by rw [List.length_append, bytesC_len, List.length_replicate]; omega
        rw [this]
        exact List.take_left
    · have hold := run_firstCells_some (P := Tryz.prog) w.drew i.size n ⟨g, 0, none⟩ n cap (bytesC f n) (by rw [bytesC_len, hs]; omega) (by have := World.ownsRow.cells h (g := g) rfl; simpa using this)
      have hr := Lib.run_append_grow_zeros (P := Tryz.prog) w t tn ty 5 i (.int .u8 0) .i64 .i64 ht htn hi hz (some ⟨g, 0, none⟩) n cap (bytesC f n) hold k hk0 (by rw [hs]; omega) (by omega) (by omega) (by rw [hby]; omega) (growslice_fits (by omega) (by rw [hby]; omega))
      have hge := grownCap_ge w (n + k) cap 5
      have hcm2 : grownCap w (n + k) cap 5 ≤ maxLen := grownCap_le_maxLen w (n + k) cap 5 (by unfold maxLen; omega)
      refine ⟨_, _, hr, ⟨hlen, .inr ⟨w.heap.size, _, _, rfl, hb, heap_alloc_new w.drew _, hge, hcm2, ?_, ?_⟩⟩, ⟨rfl, rfl, rfl, by simp, fun q hq hn => (World.grownBy_alloc w.drew _ _).block q hq hn⟩⟩
      · simp only [Array.size_append, List.size_toArray, size_zeroCells, bytesC_len]
        simp [Value.cells]
        omega
      · rw [hcells]
        simp only [Array.toList_append, List.append_assoc]
        rw [hzc, ← List.append_assoc]
        have : (n + k) * 1 = (bytesC f n ++ List.replicate k (Value.int .u8 0)).length := by rw [List.length_append, bytesC_len, List.length_replicate]; omega
        rw [this]
        exact List.take_left
end Go.Proofs.YtepdnkpmkhjlgaaGreat

/- The reference's lay. -/
namespace Go.Proofs.YtepdnkpmkhjlgaaGreat
open Go.RowKit

set_option maxHeartbeats 4000000 in
theorem ref6_lay (base n k : Nat) (f : Nat → Int) (x : Int) (v : Value) (w : World) (h : BOwn base w v n f) (hb : base ≤ w.heap.size) (hn : n ≤ 1000) (hk : k ≤ 8) (x0 : 0 ≤ x) (x1 : x < 18446744073709551616) :
    Calls Tryz.prog 46 #[v, .int .u64 x, .int .i64 k] w fun e w' => ∃ v', e = .returned v' ∧ BOwn base w' v' (n + k) (layF f n k x) ∧ Below base w w' := by
  obtain ⟨i0, hi, hz0, hz1, hz2⟩ := info_parts u8_info
  have H0 := Lib.hid (h.congr (f' := layF f n k x) (fun j hj => by unfold layF; rw [if_neg (by omega)]))
  have hk' : (k : Int) ≤ 8 := by omega
  clear h
  go_enter Tryz.func46, Tryz.ntmps46
  go_wp2
  go_loopw [0, 7] (fun u i wr => ∃ q : Nat, q ≤ k ∧ i = .int .i64 ((k : Int) - 1 - (q : Int)) ∧ BOwn base wr u (n + q) (layF f n k x) ∧ Below base w wr) (fun _ i _ => (intOf i + 1).toNat)
  case atStart => exact ⟨0, Nat.zero_le _, by simp, H0.out, Below.refl _ _⟩
  case round =>
    obtain ⟨q, hq, rfl, hB, hbl⟩ := hrel
    clear H0
    have zr := hbl.size
    by_cases hlt : q < k
    · have hbyte : layF f n k x (n + q) = x / 256 ^ (k - 1 - q) % 256 := by unfold layF; rw [if_pos (by omega), show n + k - 1 - (n + q) = k - 1 - q from by omega]
      have HBY := Lib.hid hbyte
      have hi0 : (k : Int) - 1 - (q : Int) = ((k - 1 - q : Nat) : Int) := by omega
      have hi8 : k - 1 - q ≤ 7 := by omega
      have HO := Lib.hid hB
      rw [hi0]
      clear hbyte hi0 hB
      generalize hii : k - 1 - q = ii at *
      have HII := Lib.hid hii
      clear hii
      have hl0 : base ≤ wr.heap.size := by omega
      rcases (show ii = 0 ∨ ii = 1 ∨ ii = 2 ∨ ii = 3 ∨ ii = 4 ∨ ii = 5 ∨ ii = 6 ∨ ii = 7 from by omega) with rfl | rfl | rfl | rfl | rfl | rfl | rfl | rfl
      · go_wp2_with (at_builtin; refine wpList_append_own _ rfl (.tmp 14) (.tmp 21) _ rfl base 5 i0 _ 1 1 Tryz.underlying39 hi hz0 hz1 hz2 rfl (by decide) u0 (n + q) _ rfl (World.ownsRow.alloc HO.out _) ⟨wr.heap.size, 0, none⟩ 1 1 [.int .u8 (x % 256)] rfl rfl (World.news_of_block (cs := #[.int .u8 (x % 256)]) (t := 5) (fr := (0, 0)) (heap_alloc_new wr _)) (by simp [Value.oneCell']) (by unfold maxLen; omega) (by omega) (by simp; omega) ?_; intro v1 w1 hown1 hg1 hat1)
        have hP1 : BOwn base w1 v1 (n + (q + 1)) (layF f n k x) := by
          unfold BOwn
          rw [← Nat.add_assoc, bytesC_succ, HBY.out]
          simpa using hown1
        have HP1 := Lib.hid hP1
        have HB1 : Below base w w1 := (hbl.alloc hl0 _).grown hg1 (by simp; omega) (fun b hb' => (World.ownsRow.lt HO.out b hb').1)
        have HE := HII.out
        clear hP1 hown1 hg1 hat1
        go_wp2
        go_roundw
        case rel => exact ⟨q + 1, by omega, by first | go_num | (congr 1; omega), HP1.out, HB1⟩
        case measure => first | (simp [intOf]; done) | (simp [intOf]; omega)
      · go_wp2_with (at_builtin; refine wpList_append_own _ rfl (.tmp 14) (.tmp 21) _ rfl base 5 i0 _ 1 1 Tryz.underlying39 hi hz0 hz1 hz2 rfl (by decide) u0 (n + q) _ rfl (World.ownsRow.alloc HO.out _) ⟨wr.heap.size, 0, none⟩ 1 1 [.int .u8 (x / 256 % 256)] rfl rfl (World.news_of_block (cs := #[.int .u8 (x / 256 % 256)]) (t := 5) (fr := (0, 0)) (heap_alloc_new wr _)) (by simp [Value.oneCell']) (by unfold maxLen; omega) (by omega) (by simp; omega) ?_; intro v1 w1 hown1 hg1 hat1)
        have hP1 : BOwn base w1 v1 (n + (q + 1)) (layF f n k x) := by
          unfold BOwn
          rw [← Nat.add_assoc, bytesC_succ, HBY.out]
          simpa using hown1
        have HP1 := Lib.hid hP1
        have HB1 : Below base w w1 := (hbl.alloc hl0 _).grown hg1 (by simp; omega) (fun b hb' => (World.ownsRow.lt HO.out b hb').1)
        have HE := HII.out
        clear hP1 hown1 hg1 hat1
        go_wp2
        go_roundw
        case rel => exact ⟨q + 1, by omega, by first | go_num | (congr 1; omega), HP1.out, HB1⟩
        case measure => first | (simp [intOf]; done) | (simp [intOf]; omega)
      · go_wp2_with (at_builtin; refine wpList_append_own _ rfl (.tmp 14) (.tmp 21) _ rfl base 5 i0 _ 1 1 Tryz.underlying39 hi hz0 hz1 hz2 rfl (by decide) u0 (n + q) _ rfl (World.ownsRow.alloc HO.out _) ⟨wr.heap.size, 0, none⟩ 1 1 [.int .u8 (x / 65536 % 256)] rfl rfl (World.news_of_block (cs := #[.int .u8 (x / 65536 % 256)]) (t := 5) (fr := (0, 0)) (heap_alloc_new wr _)) (by simp [Value.oneCell']) (by unfold maxLen; omega) (by omega) (by simp; omega) ?_; intro v1 w1 hown1 hg1 hat1)
        have hP1 : BOwn base w1 v1 (n + (q + 1)) (layF f n k x) := by
          unfold BOwn
          rw [← Nat.add_assoc, bytesC_succ, HBY.out]
          simpa using hown1
        have HP1 := Lib.hid hP1
        have HB1 : Below base w w1 := (hbl.alloc hl0 _).grown hg1 (by simp; omega) (fun b hb' => (World.ownsRow.lt HO.out b hb').1)
        have HE := HII.out
        clear hP1 hown1 hg1 hat1
        go_wp2
        go_roundw
        case rel => exact ⟨q + 1, by omega, by first | go_num | (congr 1; omega), HP1.out, HB1⟩
        case measure => first | (simp [intOf]; done) | (simp [intOf]; omega)
      · go_wp2_with (at_builtin; refine wpList_append_own _ rfl (.tmp 14) (.tmp 21) _ rfl base 5 i0 _ 1 1 Tryz.underlying39 hi hz0 hz1 hz2 rfl (by decide) u0 (n + q) _ rfl (World.ownsRow.alloc HO.out _) ⟨wr.heap.size, 0, none⟩ 1 1 [.int .u8 (x / 16777216 % 256)] rfl rfl (World.news_of_block (cs := #[.int .u8 (x / 16777216 % 256)]) (t := 5) (fr := (0, 0)) (heap_alloc_new wr _)) (by simp [Value.oneCell']) (by unfold maxLen; omega) (by omega) (by simp; omega) ?_; intro v1 w1 hown1 hg1 hat1)
        have hP1 : BOwn base w1 v1 (n + (q + 1)) (layF f n k x) := by
          unfold BOwn
          rw [← Nat.add_assoc, bytesC_succ, HBY.out]
          simpa using hown1
        have HP1 := Lib.hid hP1
        have HB1 : Below base w w1 := (hbl.alloc hl0 _).grown hg1 (by simp; omega) (fun b hb' => (World.ownsRow.lt HO.out b hb').1)
        have HE := HII.out
        clear hP1 hown1 hg1 hat1
        go_wp2
        go_roundw
        case rel => exact ⟨q + 1, by omega, by first | go_num | (congr 1; omega), HP1.out, HB1⟩
        case measure => first | (simp [intOf]; done) | (simp [intOf]; omega)
      · go_wp2_with (at_builtin; refine wpList_append_own _ rfl (.tmp 14) (.tmp 21) _ rfl base 5 i0 _ 1 1 Tryz.underlying39 hi hz0 hz1 hz2 rfl (by decide) u0 (n + q) _ rfl (World.ownsRow.alloc HO.out _) ⟨wr.heap.size, 0, none⟩ 1 1 [.int .u8 (x / 4294967296 % 256)] rfl rfl (World.news_of_block (cs := #[.int .u8 (x / 4294967296 % 256)]) (t := 5) (fr := (0, 0)) (heap_alloc_new wr _)) (by simp [Value.oneCell']) (by unfold maxLen; omega) (by omega) (by simp; omega) ?_; intro v1 w1 hown1 hg1 hat1)
        have hP1 : BOwn base w1 v1 (n + (q + 1)) (layF f n k x) := by
          unfold BOwn
          rw [← Nat.add_assoc, bytesC_succ, HBY.out]
          simpa using hown1
        have HP1 := Lib.hid hP1
        have HB1 : Below base w w1 := (hbl.alloc hl0 _).grown hg1 (by simp; omega) (fun b hb' => (World.ownsRow.lt HO.out b hb').1)
        have HE := HII.out
        clear hP1 hown1 hg1 hat1
        go_wp2
        go_roundw
        case rel => exact ⟨q + 1, by omega, by first | go_num | (congr 1; omega), HP1.out, HB1⟩
        case measure => first | (simp [intOf]; done) | (simp [intOf]; omega)
      · go_wp2_with (at_builtin; refine wpList_append_own _ rfl (.tmp 14) (.tmp 21) _ rfl base 5 i0 _ 1 1 Tryz.underlying39 hi hz0 hz1 hz2 rfl (by decide) u0 (n + q) _ rfl (World.ownsRow.alloc HO.out _) ⟨wr.heap.size, 0, none⟩ 1 1 [.int .u8 (x / 1099511627776 % 256)] rfl rfl (World.news_of_block (cs := #[.int .u8 (x / 1099511627776 % 256)]) (t := 5) (fr := (0, 0)) (heap_alloc_new wr _)) (by simp [Value.oneCell']) (by unfold maxLen; omega) (by omega) (by simp; omega) ?_; intro v1 w1 hown1 hg1 hat1)
        have hP1 : BOwn base w1 v1 (n + (q + 1)) (layF f n k x) := by
          unfold BOwn
          rw [← Nat.add_assoc, bytesC_succ, HBY.out]
          simpa using hown1
        have HP1 := Lib.hid hP1
        have HB1 : Below base w w1 := (hbl.alloc hl0 _).grown hg1 (by simp; omega) (fun b hb' => (World.ownsRow.lt HO.out b hb').1)
        have HE := HII.out
        clear hP1 hown1 hg1 hat1
        go_wp2
        go_roundw
        case rel => exact ⟨q + 1, by omega, by first | go_num | (congr 1; omega), HP1.out, HB1⟩
        case measure => first | (simp [intOf]; done) | (simp [intOf]; omega)
      · go_wp2_with (at_builtin; refine wpList_append_own _ rfl (.tmp 14) (.tmp 21) _ rfl base 5 i0 _ 1 1 Tryz.underlying39 hi hz0 hz1 hz2 rfl (by decide) u0 (n + q) _ rfl (World.ownsRow.alloc HO.out _) ⟨wr.heap.size, 0, none⟩ 1 1 [.int .u8 (x / 281474976710656 % 256)] rfl rfl (World.news_of_block (cs := #[.int .u8 (x / 281474976710656 % 256)]) (t := 5) (fr := (0, 0)) (heap_alloc_new wr _)) (by simp [Value.oneCell']) (by unfold maxLen; omega) (by omega) (by simp; omega) ?_; intro v1 w1 hown1 hg1 hat1)
        have hP1 : BOwn base w1 v1 (n + (q + 1)) (layF f n k x) := by
          unfold BOwn
          rw [← Nat.add_assoc, bytesC_succ, HBY.out]
          simpa using hown1
        have HP1 := Lib.hid hP1
        have HB1 : Below base w w1 := (hbl.alloc hl0 _).grown hg1 (by simp; omega) (fun b hb' => (World.ownsRow.lt HO.out b hb').1)
        have HE := HII.out
        clear hP1 hown1 hg1 hat1
        go_wp2
        go_roundw
        case rel => exact ⟨q + 1, by omega, by first | go_num | (congr 1; omega), HP1.out, HB1⟩
        case measure => first | (simp [intOf]; done) | (simp [intOf]; omega)
      · go_wp2_with (at_builtin; refine wpList_append_own _ rfl (.tmp 14) (.tmp 21) _ rfl base 5 i0 _ 1 1 Tryz.underlying39 hi hz0 hz1 hz2 rfl (by decide) u0 (n + q) _ rfl (World.ownsRow.alloc HO.out _) ⟨wr.heap.size, 0, none⟩ 1 1 [.int .u8 (x / 72057594037927936)] rfl rfl (World.news_of_block (cs := #[.int .u8 (x / 72057594037927936)]) (t := 5) (fr := (0, 0)) (heap_alloc_new wr _)) (by simp [Value.oneCell']) (by unfold maxLen; omega) (by omega) (by simp; omega) ?_; intro v1 w1 hown1 hg1 hat1)
        have hP1 : BOwn base w1 v1 (n + (q + 1)) (layF f n k x) := by
          unfold BOwn
          rw [← Nat.add_assoc, bytesC_succ, HBY.out, show x / 256 ^ 7 % 256 = x / 72057594037927936 from by rw [show (256 : Int) ^ 7 = 72057594037927936 from rfl]; omega]
          simpa using hown1
        have HP1 := Lib.hid hP1
        have HB1 : Below base w w1 := (hbl.alloc hl0 _).grown hg1 (by simp; omega) (fun b hb' => (World.ownsRow.lt HO.out b hb').1)
        have HE := HII.out
        clear hP1 hown1 hg1 hat1
        go_wp2
        go_roundw
        case rel => exact ⟨q + 1, by omega, by first | go_num | (congr 1; omega), HP1.out, HB1⟩
        case measure => first | (simp [intOf]; done) | (simp [intOf]; omega)
    · obtain rfl : q = k := by omega
      have HB := Lib.hid hB
      clear hB
      have e0 : ((q : Int) - 1 - (q : Int)) = -1 := by omega
      rw [e0]
      go_wp2
      go_ret
      exact ⟨u0, rfl, HB.out, hbl⟩
end Go.Proofs.YtepdnkpmkhjlgaaGreat

