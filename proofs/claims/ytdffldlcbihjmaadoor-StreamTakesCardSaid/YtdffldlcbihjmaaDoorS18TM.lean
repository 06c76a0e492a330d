/- Stage 18: StreamTakes: the claim. -/
import Derived.Test.YtdffldlcbihjmaaDoorArgInts
import Derived.Test.YtdffldlcbihjmaaDoorG17e
import Derived.Test.YtdffldlcbihjmaaDoorG18a
import Derived.Test.YtdffldlcbihjmaaDoorG18b
/- The reference's Own of a record (written by gen/stro.py). -/
set_option linter.unusedSimpArgs false
set_option linter.unusedVariables false
namespace Go.Proofs.YtdffldlcbihjmaaDoor
open Go.RowKit Go.Sort

theorem fz18_one (w : World) (cs : Array Value) (t : TypeId) (o2 o3 : Obj) (k : Nat) : (((w.alloc (.cells cs t)).alloc o2).alloc o3).frozen? ⟨w.heap.size, k, none⟩ = false := by
  rw [(((Below.refl _ (w.alloc (.cells cs t))).alloc (Nat.le_refl _) o2).alloc (by simp) o3).frozen (p := ⟨w.heap.size, k, none⟩) (by simp)]
  exact World.frozen?_alloc_at (w := w) cs t w.heap.size k rfl
theorem fz18_two (w : World) (o1 : Obj) (cs : Array Value) (t : TypeId) (o3 : Obj) (k : Nat) : (((w.alloc o1).alloc (.cells cs t)).alloc o3).frozen? ⟨w.heap.size + 1, k, none⟩ = false := by
  rw [((Below.refl _ ((w.alloc o1).alloc (.cells cs t))).alloc (Nat.le_refl _) o3).frozen (p := ⟨w.heap.size + 1, k, none⟩) (by simp)]
  exact World.frozen?_alloc_at (w := w.alloc o1) cs t (w.heap.size + 1) k (by simp)
theorem at18_one (w : World) (cs : Array Value) (t : TypeId) (o2 o3 : Obj) (k : Nat) : (((w.alloc (.cells cs t)).alloc o2).alloc o3).cell? ⟨w.heap.size, k, none⟩ = cs[k]? := by
  rw [World.cell?_alloc_past _ _ _ (by simp; omega), World.cell?_alloc_past _ _ _ (by simp)]
  simp
theorem at18_two (w : World) (o1 : Obj) (cs : Array Value) (t : TypeId) (o3 : Obj) (k : Nat) : (((w.alloc o1).alloc (.cells cs t)).alloc o3).cell? ⟨w.heap.size + 1, k, none⟩ = cs[k]? := by
  rw [World.cell?_alloc_past _ _ _ (by simp)]
  have h := World.cell?_alloc_at (w := w.alloc o1) cs t (w.heap.size + 1) k (by simp)
  exact h
theorem empty_loads18 : (∀ (ad : Addr) (w : World), (loadCellsFrom ad 0 0 #[]).run Tryd.prog w = .ok #[] w) ∧ (∀ (w : World) (p : Addr), (storeCells p []).run Tryd.prog w = .ok () w) := ⟨fun ad w => by simp [loadCellsFrom], fun w p => by simp [storeCells]⟩
/-- A record whose bytes are new. -/
def OwnR (r : Rc) (w w' : World) (e : Ending) : Prop := ∃ A1 c1, e = .returned (recV r.o r.s (strB r.key) r.ml r.ct r.vo A1 r.val.length c1 r.gone r.tt) ∧ (Mr.mk r A1 c1).At (fun i => w.heap.size ≤ i) w' ∧ Below w.heap.size w w'
theorem ownR_fin {o s : Int} {key : List Int} {ml ct vo : Int} {val : List Int} {gn : Bool} {tt : Int} {w w' : World} {A1 : Option Addr} {n c1 : Nat} (hn : val.length = n) (HR : w'.ownsRow (w.heap.size + 1 + 1) 5 1 (.slice A1 n c1) n (bC val)) (HF : Below w.heap.size w w') :
    OwnR ⟨o, s, key, ml, ct, vo, val, gn, tt⟩ w w' (.returned (recV o s (strB key) ml ct vo A1 n c1 gn tt)) := by
  subst hn
  obtain ⟨A2, c2, e2, _, hy, hz, hb⟩ := own8_shape HR
  injection e2 with q1 q2 q3
  subst q1 q3
  exact ⟨A1, c1, rfl, ⟨hy, hz, fun _ ad had => by have := (hb ad had).1; show w.heap.size ≤ ad.block; omega⟩, HF⟩
set_option maxRecDepth 100000 in
set_option maxHeartbeats 4000000 in
theorem ref_own18 (o s : Int) (key : List Int) (ml ct vo : Int) (val : List Int) (gn : Bool) (tt : Int) (A : Option Addr) (c : Nat) (w : World) (hp : ByL w A val) (hn : A = none → val.length = 0) (hl : val.length ≤ 100000) :
    Calls Tryd.prog 75 #[recV o s (strB key) ml ct vo A val.length c gn tt] w fun e w' => OwnR ⟨o, s, key, ml, ct, vo, val, gn, tt⟩ w w' e := by
  obtain ⟨i0, hi0, hz0, hz1, hz2⟩ := info_parts u8_info
  have HB0' : Below w.heap.size w (((w.alloc (recO o s (strB key) ml ct vo A val.length c gn tt)).alloc (recO 0 0 ⟨#[]⟩ 0 0 0 none 0 0 false 0)).alloc (.cells #[] 5)) := by (repeat' (first | (with_reducible exact Below.refl _ _) | (with_reducible assumption) | (with_reducible refine Below.trans ?_ (Below.mono (by with_reducible assumption) ?_)) | (with_reducible refine Below.alloc ?_ ?_ _) | (with_reducible refine Below.setCell ?_ ?_ _) | (with_reducible refine below_drewN ?_ _) | (with_reducible refine Below.drew ?_) | go_size))
  have hmade := World.ownsRow_made (base := w.heap.size + 1 + 1) (e := 5) (size := 1) ((w.alloc (recO o s (strB key) ml ct vo A val.length c gn tt)).alloc (recO 0 0 ⟨#[]⟩ 0 0 0 none 0 0 false 0)) #[] 0 (by simp) (Nat.zero_le _) rfl
  have hni : (val.length : Int) ≤ 100000 := Int.ofNat_le.2 hl
  have HP := Lib.hid (hp.below HB0')
  clear hp
  simp only [World.size_alloc] at hmade
  by_cases hp0 : 0 < val.length
  · obtain ⟨ad, rfl⟩ : ∃ ad, A = some ad := by
      cases A with
      | none => have : val.length = 0 := hn rfl; omega
      | some ad => exact ⟨ad, rfl⟩
    have hsrc := HP.out.cells
    have HBX : Hid (Below (w.heap.size + 1 + 1) (((w.alloc (recO o s (strB key) ml ct vo (some ad) val.length c gn tt)).alloc (recO 0 0 ⟨#[]⟩ 0 0 0 none 0 0 false 0)).alloc (.cells #[] 5)) (((w.alloc (recO o s (strB key) ml ct vo (some ad) val.length c gn tt)).alloc (recO 0 0 ⟨#[]⟩ 0 0 0 none 0 0 false 0)).alloc (.cells #[] 5))) := Lib.hid (Below.refl _ _)
    have lx0 : w.heap.size < w.heap.size + 1 + 1 := by omega
    have lx1 : w.heap.size + 1 < w.heap.size + 1 + 1 := by omega
    clear hn
    go_enter Tryd.func75, Tryd.ntmps75
    go_wp2_with (at_builtin; refine wpList_append_lies _ rfl (.tmp 3) (.tmp 6) _ rfl (w.heap.size + 1 + 1) 5 i0 _ 1 1 Tryd.underlying28 hi0 hz0 hz1 hz2 rfl (by decide) (.slice (some ⟨w.heap.size + 1 + 1, 0, none⟩) 0 0) 0 [] rfl hmade ad val.length c (bC val) rfl (by rw [bC_len]; omega) hsrc (bC_one _) hp0 (by unfold maxLen; omega) (by omega) (by simp) _ rfl ?_; intro g1 cap1 w1 hown0 hg1 hat1 hlt1; have hown1 : w1.ownsRow (w.heap.size + 1 + 1) 5 1 (.slice (some ⟨g1, 0, none⟩) val.length cap1) val.length (bC val) := (by simpa using hown0); clear hown0; have hb1 := HBX.out.grown hg1 (by simp) (fun k hk => by simp [Value.ownBlock] at hk; omega); have q0 : w1.cell? ⟨w.heap.size, 0, none⟩ = some (.int .i64 o) := (hb1.cell (p := ⟨w.heap.size, 0, none⟩) lx0).trans (at18_one _ _ _ _ _ _); have q1 : w1.cell? ⟨w.heap.size, 1, none⟩ = some (.int .i64 s) := (hb1.cell (p := ⟨w.heap.size, 1, none⟩) lx0).trans (at18_one _ _ _ _ _ _); have q2 : w1.cell? ⟨w.heap.size, 2, none⟩ = some (.string (strB key)) := (hb1.cell (p := ⟨w.heap.size, 2, none⟩) lx0).trans (at18_one _ _ _ _ _ _); have q3 : w1.cell? ⟨w.heap.size, 3, none⟩ = some (.int .i64 ml) := (hb1.cell (p := ⟨w.heap.size, 3, none⟩) lx0).trans (at18_one _ _ _ _ _ _); have q4 : w1.cell? ⟨w.heap.size, 4, none⟩ = some (.int .i64 ct) := (hb1.cell (p := ⟨w.heap.size, 4, none⟩) lx0).trans (at18_one _ _ _ _ _ _); have q5 : w1.cell? ⟨w.heap.size, 5, none⟩ = some (.int .i64 vo) := (hb1.cell (p := ⟨w.heap.size, 5, none⟩) lx0).trans (at18_one _ _ _ _ _ _); have q6 : w1.cell? ⟨w.heap.size, 6, none⟩ = some (.slice (some ad) val.length c) := (hb1.cell (p := ⟨w.heap.size, 6, none⟩) lx0).trans (at18_one _ _ _ _ _ _); have q7 : w1.cell? ⟨w.heap.size, 7, none⟩ = some (.bool gn) := (hb1.cell (p := ⟨w.heap.size, 7, none⟩) lx0).trans (at18_one _ _ _ _ _ _); have q8 : w1.cell? ⟨w.heap.size, 8, none⟩ = some (.int .i64 tt) := (hb1.cell (p := ⟨w.heap.size, 8, none⟩) lx0).trans (at18_one _ _ _ _ _ _); have r0 : w1.cell? ⟨w.heap.size + 1, 0, none⟩ = some (.int .i64 0) := (hb1.cell (p := ⟨w.heap.size + 1, 0, none⟩) lx1).trans (at18_two _ _ _ _ _ _); have r1 : w1.cell? ⟨w.heap.size + 1, 1, none⟩ = some (.int .i64 0) := (hb1.cell (p := ⟨w.heap.size + 1, 1, none⟩) lx1).trans (at18_two _ _ _ _ _ _); have r2 : w1.cell? ⟨w.heap.size + 1, 2, none⟩ = some (.string ⟨#[]⟩) := (hb1.cell (p := ⟨w.heap.size + 1, 2, none⟩) lx1).trans (at18_two _ _ _ _ _ _); have r3 : w1.cell? ⟨w.heap.size + 1, 3, none⟩ = some (.int .i64 0) := (hb1.cell (p := ⟨w.heap.size + 1, 3, none⟩) lx1).trans (at18_two _ _ _ _ _ _); have r4 : w1.cell? ⟨w.heap.size + 1, 4, none⟩ = some (.int .i64 0) := (hb1.cell (p := ⟨w.heap.size + 1, 4, none⟩) lx1).trans (at18_two _ _ _ _ _ _); have r5 : w1.cell? ⟨w.heap.size + 1, 5, none⟩ = some (.int .i64 0) := (hb1.cell (p := ⟨w.heap.size + 1, 5, none⟩) lx1).trans (at18_two _ _ _ _ _ _); have r6 : w1.cell? ⟨w.heap.size + 1, 6, none⟩ = some (.slice none 0 0) := (hb1.cell (p := ⟨w.heap.size + 1, 6, none⟩) lx1).trans (at18_two _ _ _ _ _ _); have r7 : w1.cell? ⟨w.heap.size + 1, 7, none⟩ = some (.bool false) := (hb1.cell (p := ⟨w.heap.size + 1, 7, none⟩) lx1).trans (at18_two _ _ _ _ _ _); have r8 : w1.cell? ⟨w.heap.size + 1, 8, none⟩ = some (.int .i64 0) := (hb1.cell (p := ⟨w.heap.size + 1, 8, none⟩) lx1).trans (at18_two _ _ _ _ _ _); have f6 : w1.frozen? ⟨w.heap.size, 6, none⟩ = false := (hb1.frozen (p := ⟨w.heap.size, 6, none⟩) lx0).trans (fz18_one _ _ _ _ _ _); have uf0 : w1.frozen? ⟨w.heap.size + 1, 0, none⟩ = false := (hb1.frozen (p := ⟨w.heap.size + 1, 0, none⟩) lx1).trans (fz18_two _ _ _ _ _ _); have uf1 : w1.frozen? ⟨w.heap.size + 1, 1, none⟩ = false := (hb1.frozen (p := ⟨w.heap.size + 1, 1, none⟩) lx1).trans (fz18_two _ _ _ _ _ _); have uf2 : w1.frozen? ⟨w.heap.size + 1, 2, none⟩ = false := (hb1.frozen (p := ⟨w.heap.size + 1, 2, none⟩) lx1).trans (fz18_two _ _ _ _ _ _); have uf3 : w1.frozen? ⟨w.heap.size + 1, 3, none⟩ = false := (hb1.frozen (p := ⟨w.heap.size + 1, 3, none⟩) lx1).trans (fz18_two _ _ _ _ _ _); have uf4 : w1.frozen? ⟨w.heap.size + 1, 4, none⟩ = false := (hb1.frozen (p := ⟨w.heap.size + 1, 4, none⟩) lx1).trans (fz18_two _ _ _ _ _ _); have uf5 : w1.frozen? ⟨w.heap.size + 1, 5, none⟩ = false := (hb1.frozen (p := ⟨w.heap.size + 1, 5, none⟩) lx1).trans (fz18_two _ _ _ _ _ _); have uf6 : w1.frozen? ⟨w.heap.size + 1, 6, none⟩ = false := (hb1.frozen (p := ⟨w.heap.size + 1, 6, none⟩) lx1).trans (fz18_two _ _ _ _ _ _); have uf7 : w1.frozen? ⟨w.heap.size + 1, 7, none⟩ = false := (hb1.frozen (p := ⟨w.heap.size + 1, 7, none⟩) lx1).trans (fz18_two _ _ _ _ _ _); have uf8 : w1.frozen? ⟨w.heap.size + 1, 8, none⟩ = false := (hb1.frozen (p := ⟨w.heap.size + 1, 8, none⟩) lx1).trans (fz18_two _ _ _ _ _ _); have hz := hg1.size; (try simp only [World.size_alloc] at hz); (try simp only [Nat.zero_add]))
    have HG : Hid (Below w.heap.size w w1) := Lib.hid (HB0'.grown hg1 (by simp; omega) (fun k hk => by simp [Value.ownBlock] at hk; omega))
    have HO := Lib.hid hown1
    clear hown1 hg1 hat1 hlt1 hsrc hmade HP HB0'
    (try go_wp2)
    have HF : Below w.heap.size w ((((((((((w1.setCell ⟨w.heap.size, 6, none⟩ (.slice (some ⟨g1, 0, none⟩) val.length cap1)).setCell ⟨w.heap.size + 1, 0, none⟩ (.int .i64 o)).setCell ⟨w.heap.size + 1, 1, none⟩ (.int .i64 s)).setCell ⟨w.heap.size + 1, 2, none⟩ (.string (strB key))).setCell ⟨w.heap.size + 1, 3, none⟩ (.int .i64 ml)).setCell ⟨w.heap.size + 1, 4, none⟩ (.int .i64 ct)).setCell ⟨w.heap.size + 1, 5, none⟩ (.int .i64 vo)).setCell ⟨w.heap.size + 1, 6, none⟩ (.slice (some ⟨g1, 0, none⟩) val.length cap1)).setCell ⟨w.heap.size + 1, 7, none⟩ (.bool gn)).setCell ⟨w.heap.size + 1, 8, none⟩ (.int .i64 tt)) := by
      have h0 := HG.out
      clear HG HO
      (repeat' (first | (with_reducible exact Below.refl _ _) | (with_reducible assumption) | (with_reducible refine Below.trans ?_ (Below.mono (by with_reducible assumption) ?_)) | (with_reducible refine Below.alloc ?_ ?_ _) | (with_reducible refine Below.setCell ?_ ?_ _) | (with_reducible refine below_drewN ?_ _) | (with_reducible refine Below.drew ?_) | go_size))
    have HR := own_far HO.out ((by (repeat' (first | (with_reducible exact But.refl _ _) | (with_reducible assumption) | (with_reducible refine But.setCell ?_ (fun _ => ?_) _) | (with_reducible refine But.alloc ?_ _) | (with_reducible refine But.drewN ?_ _) | (with_reducible refine But.drew ?_) | (show _ < _; simp only [World.size_alloc, World.size_setCell, World.heap_drewN]; omega) | go_size))) : But (fun i => i < w.heap.size + 1 + 1) w1 ((((((((((w1.setCell ⟨w.heap.size, 6, none⟩ (.slice (some ⟨g1, 0, none⟩) val.length cap1)).setCell ⟨w.heap.size + 1, 0, none⟩ (.int .i64 o)).setCell ⟨w.heap.size + 1, 1, none⟩ (.int .i64 s)).setCell ⟨w.heap.size + 1, 2, none⟩ (.string (strB key))).setCell ⟨w.heap.size + 1, 3, none⟩ (.int .i64 ml)).setCell ⟨w.heap.size + 1, 4, none⟩ (.int .i64 ct)).setCell ⟨w.heap.size + 1, 5, none⟩ (.int .i64 vo)).setCell ⟨w.heap.size + 1, 6, none⟩ (.slice (some ⟨g1, 0, none⟩) val.length cap1)).setCell ⟨w.heap.size + 1, 7, none⟩ (.bool gn)).setCell ⟨w.heap.size + 1, 8, none⟩ (.int .i64 tt)))
    refine bodyPost_ret (v := recV o s (strB key) ml ct vo (some ⟨g1, 0, none⟩) val.length cap1 gn tt) (by simp [results, Tryd.results75, go_sem, q0, q1, q2, q3, q4, q5, q6, q7, q8, r0, r1, r2, r3, r4, r5, r6, r7, r8]) rfl (ownR_fin rfl HR HF)
  · have hp1 : val = [] := List.length_eq_zero_iff.1 (by omega)
    subst hp1
    have hld := empty_loads18.1
    have hst := empty_loads18.2
    have hA : A = none ∨ ∃ ad, A = some ad := by cases A <;> simp
    clear hp0 hn HP
    have HM := Lib.hid hmade
    have HB := Lib.hid HB0'
    clear hmade HB0'
    rcases hA with rfl | ⟨ad, rfl⟩
    · skip
      go_enter Tryd.func75, Tryd.ntmps75
      go_wp2
      have HF : Below w.heap.size w (((w.alloc (.cells #[.int .i64 o, .int .i64 s, .string (strB key), .int .i64 ml, .int .i64 ct, .int .i64 vo, .slice (some ⟨w.heap.size + 1 + 1, 0, none⟩) 0 0, .bool gn, .int .i64 tt] 89)).alloc (.cells #[.int .i64 o, .int .i64 s, .string (strB key), .int .i64 ml, .int .i64 ct, .int .i64 vo, .slice (some ⟨w.heap.size + 1 + 1, 0, none⟩) 0 0, .bool gn, .int .i64 tt] 89)).alloc (.cells #[] 5)) := by (repeat' (first | (with_reducible exact Below.refl _ _) | (with_reducible assumption) | (with_reducible refine Below.trans ?_ (Below.mono (by with_reducible assumption) ?_)) | (with_reducible refine Below.alloc ?_ ?_ _) | (with_reducible refine Below.setCell ?_ ?_ _) | (with_reducible refine below_drewN ?_ _) | (with_reducible refine Below.drew ?_) | go_size))
      have HR : (((w.alloc (.cells #[.int .i64 o, .int .i64 s, .string (strB key), .int .i64 ml, .int .i64 ct, .int .i64 vo, .slice (some ⟨w.heap.size + 1 + 1, 0, none⟩) 0 0, .bool gn, .int .i64 tt] 89)).alloc (.cells #[.int .i64 o, .int .i64 s, .string (strB key), .int .i64 ml, .int .i64 ct, .int .i64 vo, .slice (some ⟨w.heap.size + 1 + 1, 0, none⟩) 0 0, .bool gn, .int .i64 tt] 89)).alloc (.cells #[] 5)).ownsRow (w.heap.size + 1 + 1) 5 1 (.slice (some ⟨w.heap.size + 1 + 1, 0, none⟩) 0 0) 0 (bC []) := by
        have hm := World.ownsRow_made (base := w.heap.size + 1 + 1) (e := 5) (size := 1) ((w.alloc (.cells #[.int .i64 o, .int .i64 s, .string (strB key), .int .i64 ml, .int .i64 ct, .int .i64 vo, .slice (some ⟨w.heap.size + 1 + 1, 0, none⟩) 0 0, .bool gn, .int .i64 tt] 89)).alloc (.cells #[.int .i64 o, .int .i64 s, .string (strB key), .int .i64 ml, .int .i64 ct, .int .i64 vo, .slice (some ⟨w.heap.size + 1 + 1, 0, none⟩) 0 0, .bool gn, .int .i64 tt] 89)) #[] 0 (by simp) (Nat.zero_le _) rfl
        simp only [World.size_alloc] at hm
        exact hm
      have r0 : (((w.alloc (.cells #[.int .i64 o, .int .i64 s, .string (strB key), .int .i64 ml, .int .i64 ct, .int .i64 vo, .slice (some ⟨w.heap.size + 1 + 1, 0, none⟩) 0 0, .bool gn, .int .i64 tt] 89)).alloc (.cells #[.int .i64 o, .int .i64 s, .string (strB key), .int .i64 ml, .int .i64 ct, .int .i64 vo, .slice (some ⟨w.heap.size + 1 + 1, 0, none⟩) 0 0, .bool gn, .int .i64 tt] 89)).alloc (.cells #[] 5)).cell? ⟨w.heap.size + 1, 0, none⟩ = some (.int .i64 o) := at18_two _ _ _ _ _ _
      have r1 : (((w.alloc (.cells #[.int .i64 o, .int .i64 s, .string (strB key), .int .i64 ml, .int .i64 ct, .int .i64 vo, .slice (some ⟨w.heap.size + 1 + 1, 0, none⟩) 0 0, .bool gn, .int .i64 tt] 89)).alloc (.cells #[.int .i64 o, .int .i64 s, .string (strB key), .int .i64 ml, .int .i64 ct, .int .i64 vo, .slice (some ⟨w.heap.size + 1 + 1, 0, none⟩) 0 0, .bool gn, .int .i64 tt] 89)).alloc (.cells #[] 5)).cell? ⟨w.heap.size + 1, 1, none⟩ = some (.int .i64 s) := at18_two _ _ _ _ _ _
      have r2 : (((w.alloc (.cells #[.int .i64 o, .int .i64 s, .string (strB key), .int .i64 ml, .int .i64 ct, .int .i64 vo, .slice (some ⟨w.heap.size + 1 + 1, 0, none⟩) 0 0, .bool gn, .int .i64 tt] 89)).alloc (.cells #[.int .i64 o, .int .i64 s, .string (strB key), .int .i64 ml, .int .i64 ct, .int .i64 vo, .slice (some ⟨w.heap.size + 1 + 1, 0, none⟩) 0 0, .bool gn, .int .i64 tt] 89)).alloc (.cells #[] 5)).cell? ⟨w.heap.size + 1, 2, none⟩ = some (.string (strB key)) := at18_two _ _ _ _ _ _
      have r3 : (((w.alloc (.cells #[.int .i64 o, .int .i64 s, .string (strB key), .int .i64 ml, .int .i64 ct, .int .i64 vo, .slice (some ⟨w.heap.size + 1 + 1, 0, none⟩) 0 0, .bool gn, .int .i64 tt] 89)).alloc (.cells #[.int .i64 o, .int .i64 s, .string (strB key), .int .i64 ml, .int .i64 ct, .int .i64 vo, .slice (some ⟨w.heap.size + 1 + 1, 0, none⟩) 0 0, .bool gn, .int .i64 tt] 89)).alloc (.cells #[] 5)).cell? ⟨w.heap.size + 1, 3, none⟩ = some (.int .i64 ml) := at18_two _ _ _ _ _ _
      have r4 : (((w.alloc (.cells #[.int .i64 o, .int .i64 s, .string (strB key), .int .i64 ml, .int .i64 ct, .int .i64 vo, .slice (some ⟨w.heap.size + 1 + 1, 0, none⟩) 0 0, .bool gn, .int .i64 tt] 89)).alloc (.cells #[.int .i64 o, .int .i64 s, .string (strB key), .int .i64 ml, .int .i64 ct, .int .i64 vo, .slice (some ⟨w.heap.size + 1 + 1, 0, none⟩) 0 0, .bool gn, .int .i64 tt] 89)).alloc (.cells #[] 5)).cell? ⟨w.heap.size + 1, 4, none⟩ = some (.int .i64 ct) := at18_two _ _ _ _ _ _
      have r5 : (((w.alloc (.cells #[.int .i64 o, .int .i64 s, .string (strB key), .int .i64 ml, .int .i64 ct, .int .i64 vo, .slice (some ⟨w.heap.size + 1 + 1, 0, none⟩) 0 0, .bool gn, .int .i64 tt] 89)).alloc (.cells #[.int .i64 o, .int .i64 s, .string (strB key), .int .i64 ml, .int .i64 ct, .int .i64 vo, .slice (some ⟨w.heap.size + 1 + 1, 0, none⟩) 0 0, .bool gn, .int .i64 tt] 89)).alloc (.cells #[] 5)).cell? ⟨w.heap.size + 1, 5, none⟩ = some (.int .i64 vo) := at18_two _ _ _ _ _ _
      have r6 : (((w.alloc (.cells #[.int .i64 o, .int .i64 s, .string (strB key), .int .i64 ml, .int .i64 ct, .int .i64 vo, .slice (some ⟨w.heap.size + 1 + 1, 0, none⟩) 0 0, .bool gn, .int .i64 tt] 89)).alloc (.cells #[.int .i64 o, .int .i64 s, .string (strB key), .int .i64 ml, .int .i64 ct, .int .i64 vo, .slice (some ⟨w.heap.size + 1 + 1, 0, none⟩) 0 0, .bool gn, .int .i64 tt] 89)).alloc (.cells #[] 5)).cell? ⟨w.heap.size + 1, 6, none⟩ = some (.slice (some ⟨w.heap.size + 1 + 1, 0, none⟩) 0 0) := at18_two _ _ _ _ _ _
      have r7 : (((w.alloc (.cells #[.int .i64 o, .int .i64 s, .string (strB key), .int .i64 ml, .int .i64 ct, .int .i64 vo, .slice (some ⟨w.heap.size + 1 + 1, 0, none⟩) 0 0, .bool gn, .int .i64 tt] 89)).alloc (.cells #[.int .i64 o, .int .i64 s, .string (strB key), .int .i64 ml, .int .i64 ct, .int .i64 vo, .slice (some ⟨w.heap.size + 1 + 1, 0, none⟩) 0 0, .bool gn, .int .i64 tt] 89)).alloc (.cells #[] 5)).cell? ⟨w.heap.size + 1, 7, none⟩ = some (.bool gn) := at18_two _ _ _ _ _ _
      have r8 : (((w.alloc (.cells #[.int .i64 o, .int .i64 s, .string (strB key), .int .i64 ml, .int .i64 ct, .int .i64 vo, .slice (some ⟨w.heap.size + 1 + 1, 0, none⟩) 0 0, .bool gn, .int .i64 tt] 89)).alloc (.cells #[.int .i64 o, .int .i64 s, .string (strB key), .int .i64 ml, .int .i64 ct, .int .i64 vo, .slice (some ⟨w.heap.size + 1 + 1, 0, none⟩) 0 0, .bool gn, .int .i64 tt] 89)).alloc (.cells #[] 5)).cell? ⟨w.heap.size + 1, 8, none⟩ = some (.int .i64 tt) := at18_two _ _ _ _ _ _
      generalize (((w.alloc (.cells #[.int .i64 o, .int .i64 s, .string (strB key), .int .i64 ml, .int .i64 ct, .int .i64 vo, .slice (some ⟨w.heap.size + 1 + 1, 0, none⟩) 0 0, .bool gn, .int .i64 tt] 89)).alloc (.cells #[.int .i64 o, .int .i64 s, .string (strB key), .int .i64 ml, .int .i64 ct, .int .i64 vo, .slice (some ⟨w.heap.size + 1 + 1, 0, none⟩) 0 0, .bool gn, .int .i64 tt] 89)).alloc (.cells #[] 5)) = w1 at *
      refine bodyPost_ret (v := recV o s (strB key) ml ct vo (some ⟨w.heap.size + 1 + 1, 0, none⟩) 0 0 gn tt) (by simp [results, Tryd.results75, go_sem, r0, r1, r2, r3, r4, r5, r6, r7, r8]) rfl (ownR_fin rfl HR HF)
    · skip
      go_enter Tryd.func75, Tryd.ntmps75
      go_wp2
      have HF : Below w.heap.size w (((w.alloc (.cells #[.int .i64 o, .int .i64 s, .string (strB key), .int .i64 ml, .int .i64 ct, .int .i64 vo, .slice (some ⟨w.heap.size + 1 + 1, 0, none⟩) 0 0, .bool gn, .int .i64 tt] 89)).alloc (.cells #[.int .i64 o, .int .i64 s, .string (strB key), .int .i64 ml, .int .i64 ct, .int .i64 vo, .slice (some ⟨w.heap.size + 1 + 1, 0, none⟩) 0 0, .bool gn, .int .i64 tt] 89)).alloc (.cells #[] 5)) := by (repeat' (first | (with_reducible exact Below.refl _ _) | (with_reducible assumption) | (with_reducible refine Below.trans ?_ (Below.mono (by with_reducible assumption) ?_)) | (with_reducible refine Below.alloc ?_ ?_ _) | (with_reducible refine Below.setCell ?_ ?_ _) | (with_reducible refine below_drewN ?_ _) | (with_reducible refine Below.drew ?_) | go_size))
      have HR : (((w.alloc (.cells #[.int .i64 o, .int .i64 s, .string (strB key), .int .i64 ml, .int .i64 ct, .int .i64 vo, .slice (some ⟨w.heap.size + 1 + 1, 0, none⟩) 0 0, .bool gn, .int .i64 tt] 89)).alloc (.cells #[.int .i64 o, .int .i64 s, .string (strB key), .int .i64 ml, .int .i64 ct, .int .i64 vo, .slice (some ⟨w.heap.size + 1 + 1, 0, none⟩) 0 0, .bool gn, .int .i64 tt] 89)).alloc (.cells #[] 5)).ownsRow (w.heap.size + 1 + 1) 5 1 (.slice (some ⟨w.heap.size + 1 + 1, 0, none⟩) 0 0) 0 (bC []) := by
        have hm := World.ownsRow_made (base := w.heap.size + 1 + 1) (e := 5) (size := 1) ((w.alloc (.cells #[.int .i64 o, .int .i64 s, .string (strB key), .int .i64 ml, .int .i64 ct, .int .i64 vo, .slice (some ⟨w.heap.size + 1 + 1, 0, none⟩) 0 0, .bool gn, .int .i64 tt] 89)).alloc (.cells #[.int .i64 o, .int .i64 s, .string (strB key), .int .i64 ml, .int .i64 ct, .int .i64 vo, .slice (some ⟨w.heap.size + 1 + 1, 0, none⟩) 0 0, .bool gn, .int .i64 tt] 89)) #[] 0 (by simp) (Nat.zero_le _) rfl
        simp only [World.size_alloc] at hm
        exact hm
      have r0 : (((w.alloc (.cells #[.int .i64 o, .int .i64 s, .string (strB key), .int .i64 ml, .int .i64 ct, .int .i64 vo, .slice (some ⟨w.heap.size + 1 + 1, 0, none⟩) 0 0, .bool gn, .int .i64 tt] 89)).alloc (.cells #[.int .i64 o, .int .i64 s, .string (strB key), .int .i64 ml, .int .i64 ct, .int .i64 vo, .slice (some ⟨w.heap.size + 1 + 1, 0, none⟩) 0 0, .bool gn, .int .i64 tt] 89)).alloc (.cells #[] 5)).cell? ⟨w.heap.size + 1, 0, none⟩ = some (.int .i64 o) := at18_two _ _ _ _ _ _
      have r1 : (((w.alloc (.cells #[.int .i64 o, .int .i64 s, .string (strB key), .int .i64 ml, .int .i64 ct, .int .i64 vo, .slice (some ⟨w.heap.size + 1 + 1, 0, none⟩) 0 0, .bool gn, .int .i64 tt] 89)).alloc (.cells #[.int .i64 o, .int .i64 s, .string (strB key), .int .i64 ml, .int .i64 ct, .int .i64 vo, .slice (some ⟨w.heap.size + 1 + 1, 0, none⟩) 0 0, .bool gn, .int .i64 tt] 89)).alloc (.cells #[] 5)).cell? ⟨w.heap.size + 1, 1, none⟩ = some (.int .i64 s) := at18_two _ _ _ _ _ _
      have r2 : (((w.alloc (.cells #[.int .i64 o, .int .i64 s, .string (strB key), .int .i64 ml, .int .i64 ct, .int .i64 vo, .slice (some ⟨w.heap.size + 1 + 1, 0, none⟩) 0 0, .bool gn, .int .i64 tt] 89)).alloc (.cells #[.int .i64 o, .int .i64 s, .string (strB key), .int .i64 ml, .int .i64 ct, .int .i64 vo, .slice (some ⟨w.heap.size + 1 + 1, 0, none⟩) 0 0, .bool gn, .int .i64 tt] 89)).alloc (.cells #[] 5)).cell? ⟨w.heap.size + 1, 2, none⟩ = some (.string (strB key)) := at18_two _ _ _ _ _ _
      have r3 : (((w.alloc (.cells #[.int .i64 o, .int .i64 s, .string (strB key), .int .i64 ml, .int .i64 ct, .int .i64 vo, .slice (some ⟨w.heap.size + 1 + 1, 0, none⟩) 0 0, .bool gn, .int .i64 tt] 89)).alloc (.cells #[.int .i64 o, .int .i64 s, .string (strB key), .int .i64 ml, .int .i64 ct, .int .i64 vo, .slice (some ⟨w.heap.size + 1 + 1, 0, none⟩) 0 0, .bool gn, .int .i64 tt] 89)).alloc (.cells #[] 5)).cell? ⟨w.heap.size + 1, 3, none⟩ = some (.int .i64 ml) := at18_two _ _ _ _ _ _
      have r4 : (((w.alloc (.cells #[.int .i64 o, .int .i64 s, .string (strB key), .int .i64 ml, .int .i64 ct, .int .i64 vo, .slice (some ⟨w.heap.size + 1 + 1, 0, none⟩) 0 0, .bool gn, .int .i64 tt] 89)).alloc (.cells #[.int .i64 o, .int .i64 s, .string (strB key), .int .i64 ml, .int .i64 ct, .int .i64 vo, .slice (some ⟨w.heap.size + 1 + 1, 0, none⟩) 0 0, .bool gn, .int .i64 tt] 89)).alloc (.cells #[] 5)).cell? ⟨w.heap.size + 1, 4, none⟩ = some (.int .i64 ct) := at18_two _ _ _ _ _ _
      have r5 : (((w.alloc (.cells #[.int .i64 o, .int .i64 s, .string (strB key), .int .i64 ml, .int .i64 ct, .int .i64 vo, .slice (some ⟨w.heap.size + 1 + 1, 0, none⟩) 0 0, .bool gn, .int .i64 tt] 89)).alloc (.cells #[.int .i64 o, .int .i64 s, .string (strB key), .int .i64 ml, .int .i64 ct, .int .i64 vo, .slice (some ⟨w.heap.size + 1 + 1, 0, none⟩) 0 0, .bool gn, .int .i64 tt] 89)).alloc (.cells #[] 5)).cell? ⟨w.heap.size + 1, 5, none⟩ = some (.int .i64 vo) := at18_two _ _ _ _ _ _
      have r6 : (((w.alloc (.cells #[.int .i64 o, .int .i64 s, .string (strB key), .int .i64 ml, .int .i64 ct, .int .i64 vo, .slice (some ⟨w.heap.size + 1 + 1, 0, none⟩) 0 0, .bool gn, .int .i64 tt] 89)).alloc (.cells #[.int .i64 o, .int .i64 s, .string (strB key), .int .i64 ml, .int .i64 ct, .int .i64 vo, .slice (some ⟨w.heap.size + 1 + 1, 0, none⟩) 0 0, .bool gn, .int .i64 tt] 89)).alloc (.cells #[] 5)).cell? ⟨w.heap.size + 1, 6, none⟩ = some (.slice (some ⟨w.heap.size + 1 + 1, 0, none⟩) 0 0) := at18_two _ _ _ _ _ _
      have r7 : (((w.alloc (.cells #[.int .i64 o, .int .i64 s, .string (strB key), .int .i64 ml, .int .i64 ct, .int .i64 vo, .slice (some ⟨w.heap.size + 1 + 1, 0, none⟩) 0 0, .bool gn, .int .i64 tt] 89)).alloc (.cells #[.int .i64 o, .int .i64 s, .string (strB key), .int .i64 ml, .int .i64 ct, .int .i64 vo, .slice (some ⟨w.heap.size + 1 + 1, 0, none⟩) 0 0, .bool gn, .int .i64 tt] 89)).alloc (.cells #[] 5)).cell? ⟨w.heap.size + 1, 7, none⟩ = some (.bool gn) := at18_two _ _ _ _ _ _
      have r8 : (((w.alloc (.cells #[.int .i64 o, .int .i64 s, .string (strB key), .int .i64 ml, .int .i64 ct, .int .i64 vo, .slice (some ⟨w.heap.size + 1 + 1, 0, none⟩) 0 0, .bool gn, .int .i64 tt] 89)).alloc (.cells #[.int .i64 o, .int .i64 s, .string (strB key), .int .i64 ml, .int .i64 ct, .int .i64 vo, .slice (some ⟨w.heap.size + 1 + 1, 0, none⟩) 0 0, .bool gn, .int .i64 tt] 89)).alloc (.cells #[] 5)).cell? ⟨w.heap.size + 1, 8, none⟩ = some (.int .i64 tt) := at18_two _ _ _ _ _ _
      generalize (((w.alloc (.cells #[.int .i64 o, .int .i64 s, .string (strB key), .int .i64 ml, .int .i64 ct, .int .i64 vo, .slice (some ⟨w.heap.size + 1 + 1, 0, none⟩) 0 0, .bool gn, .int .i64 tt] 89)).alloc (.cells #[.int .i64 o, .int .i64 s, .string (strB key), .int .i64 ml, .int .i64 ct, .int .i64 vo, .slice (some ⟨w.heap.size + 1 + 1, 0, none⟩) 0 0, .bool gn, .int .i64 tt] 89)).alloc (.cells #[] 5)) = w1 at *
      refine bodyPost_ret (v := recV o s (strB key) ml ct vo (some ⟨w.heap.size + 1 + 1, 0, none⟩) 0 0 gn tt) (by simp [results, Tryd.results75, go_sem, r0, r1, r2, r3, r4, r5, r6, r7, r8]) rfl (ownR_fin rfl HR HF)
end Go.Proofs.YtdffldlcbihjmaaDoor

/- stream, the reference: Take (written by gen/strt.py). -/
namespace Go.Proofs.YtdffldlcbihjmaaDoor
open Go.RowKit Go.Sort

set_option maxRecDepth 100000 in
set_option maxHeartbeats 8000000 in
theorem ref_take (b : Nat) (f o a : Int) (A : Option Addr) (c : Nat) (L : List Mr) (w : World) (h : XB w b (inC f o a)) (hrow : RowAt w (.slice A L.length c) L) (hat : ∀ m ∈ L, m.At (fun _ => True) w) (hl : L.length ≤ 100000) (ha : 0 ≤ a ∧ a ≤ 1099511627776) :
    Calls Tryd.prog 41 #[.pointer (some ⟨b, 0, none⟩), .slice A L.length c] w fun e w' => TakeR o a (L.map Mr.r) w w' e := by
  obtain ⟨i0, hi0, hz0, hz1, hz2⟩ := info_parts rec_info
  obtain ⟨A', c', he', hc⟩ := hrow.ex
  obtain ⟨rfl, rfl⟩ : A = A' ∧ c = c' := by injection he' with q1 q2 q3; exact ⟨q1, q3⟩
  have hni : (L.length : Int) ≤ 100000 := by omega
  have HC := Lib.hid hc
  have HA := Lib.hid hat
  have HX := Lib.hid h
  have hal := ha.1
  have hah := ha.2
  have e1 : IntKind.i64.wrap (a + 1) = a + 1 := IntWalk.i64_in _ (by omega)
  clear h hrow hat hl he' hc ha
  go_enter Tryd.func41, Tryd.ntmps41
  go_wp2
  go_loopw [5, 6] (fun v i wr => ∃ (j k : Nat) (Z : List Mr), j ≤ L.length ∧ k ≤ j ∧ i = .int .i64 j ∧ TL w wr v k Z ∧ Hid (takeS o a [] (L.map Mr.r) = takeS o a (Z.map Mr.r) ((L.map Mr.r).drop j))) (fun _ i _ => L.length - (intOf i).toNat)
  case atStart => exact ⟨0, 0, [], Nat.zero_le _, Nat.le_refl _, rfl, TL.start w, Lib.hid rfl⟩
  case round =>
    obtain ⟨j, k, Z, hj, hkj, rfl, hT, hE⟩ := hrel
    obtain ⟨Av, cv, rfl⟩ := hT.shape
    have HT := Lib.hid hT
    have hBB := hT.bel
    clear hT
    by_cases hlt : j < L.length
    · have lk : (j : Int) < (L.length : Int) := by omega
      have hi1 : ((j : Int).toNat) = j := by simp
      obtain ⟨B, O, rfl, hBl, hcell⟩ := HC.out (by omega)
      have hx : L[j]? = some L[j] := List.getElem?_eq_getElem hlt
      have hm := HA.out L[j] (List.getElem_mem hlt)
      have hdr : (L.map Mr.r).drop j = L[j].r :: (L.map Mr.r).drop (j + 1) := by
        rw [List.drop_eq_getElem_cons (by simpa using hlt)]
        simp
      have hEE := hE.out
      rw [hdr] at hEE
      generalize L[j] = x at *
      have a0 : wr.cell? ⟨B, O + j * 9, none⟩ = some (.int .i64 x.r.o) := (hBB.cell (p := ⟨B, O + j * 9, none⟩) hBl).trans (hcell (j * 9) _ (by have := rowM_at hx 0 (by omega); rwa [Nat.add_zero] at this))
      have a1 : wr.cell? ⟨B, O + j * 9 + 1, none⟩ = some (.int .i64 x.r.s) := by rw [Nat.add_assoc]; exact (hBB.cell (p := ⟨B, O + (j * 9 + 1), none⟩) hBl).trans (hcell _ _ (rowM_at hx 1 (by omega)))
      have a2 : wr.cell? ⟨B, O + j * 9 + 2, none⟩ = some (.string (strB x.r.key)) := by rw [Nat.add_assoc]; exact (hBB.cell (p := ⟨B, O + (j * 9 + 2), none⟩) hBl).trans (hcell _ _ (rowM_at hx 2 (by omega)))
      have a3 : wr.cell? ⟨B, O + j * 9 + 3, none⟩ = some (.int .i64 x.r.ml) := by rw [Nat.add_assoc]; exact (hBB.cell (p := ⟨B, O + (j * 9 + 3), none⟩) hBl).trans (hcell _ _ (rowM_at hx 3 (by omega)))
      have a4 : wr.cell? ⟨B, O + j * 9 + 4, none⟩ = some (.int .i64 x.r.ct) := by rw [Nat.add_assoc]; exact (hBB.cell (p := ⟨B, O + (j * 9 + 4), none⟩) hBl).trans (hcell _ _ (rowM_at hx 4 (by omega)))
      have a5 : wr.cell? ⟨B, O + j * 9 + 5, none⟩ = some (.int .i64 x.r.vo) := by rw [Nat.add_assoc]; exact (hBB.cell (p := ⟨B, O + (j * 9 + 5), none⟩) hBl).trans (hcell _ _ (rowM_at hx 5 (by omega)))
      have a6 : wr.cell? ⟨B, O + j * 9 + 6, none⟩ = some (.slice x.A x.r.val.length x.c) := by rw [Nat.add_assoc]; exact (hBB.cell (p := ⟨B, O + (j * 9 + 6), none⟩) hBl).trans (hcell _ _ (rowM_at hx 6 (by omega)))
      have a7 : wr.cell? ⟨B, O + j * 9 + 7, none⟩ = some (.bool x.r.gone) := by rw [Nat.add_assoc]; exact (hBB.cell (p := ⟨B, O + (j * 9 + 7), none⟩) hBl).trans (hcell _ _ (rowM_at hx 7 (by omega)))
      have a8 : wr.cell? ⟨B, O + j * 9 + 8, none⟩ = some (.int .i64 x.r.tt) := by rw [Nat.add_assoc]; exact (hBB.cell (p := ⟨B, O + (j * 9 + 8), none⟩) hBl).trans (hcell _ _ (rowM_at hx 8 (by omega)))
      have HOK : Hid (okR x.r = okN x.r.o x.r.s (strB x.r.key).size x.r.ml x.r.ct x.r.vo x.r.val.length x.r.gone x.r.tt) := Lib.hid (by rw [okR_n, strB_size])
      have Y6 := HX.out.below hBB
      have HM := Lib.hid (hm.below hBB)
      have HCON : Hid (∀ W, Calls Tryd.prog 46 #[recV x.r.o x.r.s (strB x.r.key) x.r.ml x.r.ct x.r.vo x.A x.r.val.length x.c x.r.gone x.r.tt] W fun e w' => e = .returned (.bool (okR x.r)) ∧ Below W.heap.size W w') := Lib.hid (fun W => by rw [HOK.out]; exact ref_is x.r.o x.r.s (strB x.r.key) x.r.ml x.r.ct x.r.vo x.A x.r.val.length x.c x.r.gone x.r.tt W)
      have HEE := Lib.hid hEE
      have hZ := HT.out.len
      have HZ : Hid ((Z.map Mr.r).length = k) := Lib.hid (by simpa using hZ)
      have e2 : IntKind.i64.wrap (a + 1 + (k : Int)) = a + 1 + (k : Int) := IntWalk.i64_in _ (by omega)
      have r0 := fun d os => cell_regrown a0 d os
      have r1 := fun d os => cell_regrown a1 d os
      have r2 := fun d os => cell_regrown a2 d os
      have r3 := fun d os => cell_regrown a3 d os
      have r4 := fun d os => cell_regrown a4 d os
      have r5 := fun d os => cell_regrown a5 d os
      have r6 := fun d os => cell_regrown a6 d os
      have r7 := fun d os => cell_regrown a7 d os
      have r8 := fun d os => cell_regrown a8 d os
      have y1 := fun d os => cell_regrown (Y6.c 1 _ rfl) d os
      have y2 := fun d os => cell_regrown (Y6.c 2 _ rfl) d os
      have AC := Lib.hid fun (d' : Nat) (os : Array Obj) => Calls.regrown_of (HCON.out (grow (redrawn wr d') os))
      clear HCON hEE hE hdr hx hm hcell hBB hlt HOK hZ Y6 a0 a1 a2 a3 a4 a5 a6 a7 a8
      go_wp2_with fail
      by_cases hs : x.r.s = a + 1 + (k : Int)
      rotate_left
      · have t2 : (x.r.s == a + 1 + (k : Int)) = false := by simpa using hs
        have HNO : Hid (¬ (okR x.r = true ∧ x.r.o = o ∧ x.r.s = a + 1 + ((Z.map Mr.r).length : Int))) := Lib.hid (by rw [HZ.out]; exact fun q => hs q.2.2)
        clear hs
        refine wp_region_quiet_below (by kernel_rfl) (by kernel_rfl) ?_
        repeat (go_big_quiet_step ((go_at_call 46; exact AC.out _ _)))
        refine wpQuiet_nil ?_
        intro _ hw'
        obtain ⟨⟨dq, osq⟩, hw''⟩ := hw'
        subst hw''
        have hq := below_regrown wr dq osq
        have HK7 : Hid (Below wr.heap.size wr (grow (redrawn wr dq) osq)) := Lib.hid hq
        clear hq AC r0 r1 r2 r3 r4 r5 r6 r7 r8 y1 y2
        generalize hgw : grow (redrawn wr dq) osq = W7 at *
        clear hgw
        have HT7 := Lib.hid (HT.out.below HK7.out)
        by_cases hk0 : k = 0
        · have HNX := Lib.hid (HEE.out.trans (takeS_skip HNO.out (by rw [HZ.out]; exact hk0)))
          subst hk0
          go_wp2
          go_roundw
          case rel => exact ⟨j + 1, 0, Z, by omega, by omega, by go_num, HT7.out, Lib.hid HNX.out⟩
          case measure => simp [intOf]; omega
        · have hkp : 0 < k := by omega
          have HNX := Lib.hid (HEE.out.trans (takeS_stop HNO.out (by rw [HZ.out]; exact hk0)))
          have HLK := Lib.hid HT7.out.len
          clear hk0
          go_wp2
          go_ret
          exact ⟨_, Z, rfl, by rw [HLK.out]; exact HT7.out, HNX.out.symm⟩
      have t2 : (x.r.s == a + 1 + (k : Int)) = true := by simpa using hs
      by_cases ho : x.r.o = o
      rotate_left
      · have t1 : (x.r.o == o) = false := by simpa using ho
        have HNO : Hid (¬ (okR x.r = true ∧ x.r.o = o ∧ x.r.s = a + 1 + ((Z.map Mr.r).length : Int))) := Lib.hid (by rw [HZ.out]; exact fun q => ho q.2.1)
        clear hs ho
        refine wp_region_quiet_below (by kernel_rfl) (by kernel_rfl) ?_
        repeat (go_big_quiet_step ((go_at_call 46; exact AC.out _ _)))
        refine wpQuiet_nil ?_
        intro _ hw'
        obtain ⟨⟨dq, osq⟩, hw''⟩ := hw'
        subst hw''
        have hq := below_regrown wr dq osq
        have HK7 : Hid (Below wr.heap.size wr (grow (redrawn wr dq) osq)) := Lib.hid hq
        clear hq AC r0 r1 r2 r3 r4 r5 r6 r7 r8 y1 y2
        generalize hgw : grow (redrawn wr dq) osq = W7 at *
        clear hgw
        have HT7 := Lib.hid (HT.out.below HK7.out)
        by_cases hk0 : k = 0
        · have HNX := Lib.hid (HEE.out.trans (takeS_skip HNO.out (by rw [HZ.out]; exact hk0)))
          subst hk0
          go_wp2
          go_roundw
          case rel => exact ⟨j + 1, 0, Z, by omega, by omega, by go_num, HT7.out, Lib.hid HNX.out⟩
          case measure => simp [intOf]; omega
        · have hkp : 0 < k := by omega
          have HNX := Lib.hid (HEE.out.trans (takeS_stop HNO.out (by rw [HZ.out]; exact hk0)))
          have HLK := Lib.hid HT7.out.len
          clear hk0
          go_wp2
          go_ret
          exact ⟨_, Z, rfl, by rw [HLK.out]; exact HT7.out, HNX.out.symm⟩
      have t1 : (x.r.o == o) = true := by simpa using ho
      cases hok : okR x.r
      · rw [hok] at AC
        have HNO : Hid (¬ (okR x.r = true ∧ x.r.o = o ∧ x.r.s = a + 1 + ((Z.map Mr.r).length : Int))) := Lib.hid (by rw [HZ.out]; exact fun q => by have := q.1; rw [hok] at this; cases this)
        clear hs ho hok
        refine wp_region_quiet_below (by kernel_rfl) (by kernel_rfl) ?_
        repeat (go_big_quiet_step ((go_at_call 46; exact AC.out _ _)))
        refine wpQuiet_nil ?_
        intro _ hw'
        obtain ⟨⟨dq, osq⟩, hw''⟩ := hw'
        subst hw''
        have hq := below_regrown wr dq osq
        have HK7 : Hid (Below wr.heap.size wr (grow (redrawn wr dq) osq)) := Lib.hid hq
        clear hq AC r0 r1 r2 r3 r4 r5 r6 r7 r8 y1 y2
        generalize hgw : grow (redrawn wr dq) osq = W7 at *
        clear hgw
        have HT7 := Lib.hid (HT.out.below HK7.out)
        by_cases hk0 : k = 0
        · have HNX := Lib.hid (HEE.out.trans (takeS_skip HNO.out (by rw [HZ.out]; exact hk0)))
          subst hk0
          go_wp2
          go_roundw
          case rel => exact ⟨j + 1, 0, Z, by omega, by omega, by go_num, HT7.out, Lib.hid HNX.out⟩
          case measure => simp [intOf]; omega
        · have hkp : 0 < k := by omega
          have HNX := Lib.hid (HEE.out.trans (takeS_stop HNO.out (by rw [HZ.out]; exact hk0)))
          have HLK := Lib.hid HT7.out.len
          clear hk0
          go_wp2
          go_ret
          exact ⟨_, Z, rfl, by rw [HLK.out]; exact HT7.out, HNX.out.symm⟩
      rw [hok] at AC
      have HYS : Hid (okR x.r = true ∧ x.r.o = o ∧ x.r.s = a + 1 + ((Z.map Mr.r).length : Int)) := Lib.hid (by rw [HZ.out]; exact ⟨hok, ho, hs⟩)
      have HVL : Hid (x.r.val.length ≤ 100000) := Lib.hid (by have := ((ok_iff _).1 hok).v1; omega)
      clear hok ho hs
      refine wp_region_quiet_below (by kernel_rfl) (by kernel_rfl) ?_
      repeat (go_big_quiet_step ((go_at_call 46; exact AC.out _ _)))
      refine wpQuiet_nil ?_
      intro _ hw'
      obtain ⟨⟨dq, osq⟩, hw''⟩ := hw'
      subst hw''
      have hq := below_regrown wr dq osq
      have HK7 : Hid (Below wr.heap.size wr (grow (redrawn wr dq) osq)) := Lib.hid hq
      have q0 := r0 dq osq
      have q1 := r1 dq osq
      have q2 := r2 dq osq
      have q3 := r3 dq osq
      have q4 := r4 dq osq
      have q5 := r5 dq osq
      have q6 := r6 dq osq
      have q7 := r7 dq osq
      have q8 := r8 dq osq
      clear hq AC r0 r1 r2 r3 r4 r5 r6 r7 r8 y1 y2
      generalize hgw : grow (redrawn wr dq) osq = W7 at *
      clear hgw
      have HOW : Hid (Calls Tryd.prog 75 #[recV x.r.o x.r.s (strB x.r.key) x.r.ml x.r.ct x.r.vo x.A x.r.val.length x.c x.r.gone x.r.tt] W7 fun e w' => OwnR x.r W7 w' e) := Lib.hid (ref_own18 x.r.o x.r.s x.r.key x.r.ml x.r.ct x.r.vo x.r.val x.r.gone x.r.tt x.A x.c W7 (HM.out.below HK7.out).b HM.out.n HVL.out)
      go_wp2_with fail
      refine HOW.out.mono ?_; rintro e W8 ⟨A1, c1, rfl, hm8, k8⟩
      have HM8 := Lib.hid hm8
      have HKB := Lib.hid (HK7.out.trans (k8.mono HK7.out.size))
      have kB : Below W8.heap.size W8 (W8.alloc (.cells #[.int .i64 x.r.o, .int .i64 x.r.s, .string (strB x.r.key), .int .i64 x.r.ml, .int .i64 x.r.ct, .int .i64 x.r.vo, .slice A1 x.r.val.length c1, .bool x.r.gone, .int .i64 x.r.tt] 89)) := (Below.refl _ _).alloc (Nat.le_refl _) _
      have HKC := Lib.hid (HKB.out.trans (kB.mono HKB.out.size))
      have HM10 := Lib.hid (HM8.out.below kB)
      have hrow := ((HT.out.below HKB.out).below kB).row
      have HNEWS := Lib.hid (World.news_of_block (cs := #[.int .i64 x.r.o, .int .i64 x.r.s, .string (strB x.r.key), .int .i64 x.r.ml, .int .i64 x.r.ct, .int .i64 x.r.vo, .slice A1 x.r.val.length c1, .bool x.r.gone, .int .i64 x.r.tt]) (t := 89) (fr := (0, 0)) (heap_alloc_new W8 (.cells #[.int .i64 x.r.o, .int .i64 x.r.s, .string (strB x.r.key), .int .i64 x.r.ml, .int .i64 x.r.ct, .int .i64 x.r.vo, .slice A1 x.r.val.length c1, .bool x.r.gone, .int .i64 x.r.tt] 89)))
      have hzw := HT.out.bel.size
      have hz7 : wr.heap.size ≤ W7.heap.size := HK7.out.size
      have hz8 : W7.heap.size ≤ W8.heap.size := k8.size
      clear hm8 k8 kB HOW q0 q1 q2 q3 q4 q5 q6 q7 q8
      go_wp2_with (at_builtin; refine wpList_append_lies _ rfl (.tmp 49) (.tmp 55) _ rfl w.heap.size 89 i0 _ 9 96 Tryd.underlying24 hi0 hz0 hz1 hz2 rfl (by decide) (.slice Av k cv) k _ rfl hrow ⟨W8.heap.size, 0, none⟩ 1 1 [.int .i64 x.r.o, .int .i64 x.r.s, .string (strB x.r.key), .int .i64 x.r.ml, .int .i64 x.r.ct, .int .i64 x.r.vo, .slice A1 x.r.val.length c1, .bool x.r.gone, .int .i64 x.r.tt] rfl rfl HNEWS.out (by simp [Value.oneCell']) (by omega) (by unfold maxLen; omega) (by omega) (by simp; omega) _ rfl ?_; intro g2 cap2 W5 hown2 hg2 hat2 hlt2)
      have HTf := Lib.hid (HT.out.app (HM10.out.mono (fun i _ hq => by omega)) HKC.out hg2 (by exact hown2) (hat2.imp_right (fun e => Nat.le_of_eq e.symm)))
      have HNX : Hid (takeS o a [] (L.map Mr.r) = takeS o a ((Z ++ [Mr.mk x.r A1 c1]).map Mr.r) ((L.map Mr.r).drop (j + 1))) := Lib.hid (by rw [HEE.out, takeS_yes HYS.out, List.map_append]; rfl)
      clear hown2 hg2 hat2 hlt2 hrow
      go_wp2
      go_roundw
      case rel => exact ⟨j + 1, k + 1, Z ++ [Mr.mk x.r A1 c1], by omega, by omega, by go_num, HTf.out, Lib.hid HNX.out⟩
      case measure => simp [intOf]; omega
    · obtain rfl : j = L.length := by omega
      have HNX : Hid (takeS o a [] (L.map Mr.r) = Z.map Mr.r) := Lib.hid (by rw [hE.out, List.drop_of_length_le (by simp)]; rfl)
      have HLK := Lib.hid HT.out.len
      clear hlt hE
      go_wp2
      go_ret
      exact ⟨_, Z, by first | rfl | trivial, by rw [HLK.out]; exact HT.out, by rw [HNX.out]⟩
end Go.Proofs.YtdffldlcbihjmaaDoor

/- An argument that is a slice of rows of records. -/
namespace Go.Proofs.YtdffldlcbihjmaaDoor
open Go.ChangeShapes Go.WideShapes Go.ChangeAt Go.RowKit Go.Joins Go.Deep

structure Rw where
  L : List Mr
  A : Option Addr
  c : Nat
abbrev Rw.v (r : Rw) : Value := .slice r.A r.L.length r.c
structure RwIn (w : World) (r : Rw) : Prop where
  row : RowAt w r.v r.L
  ins : ∀ m ∈ r.L, MrIn w m
  mx : r.L.length ≤ maxLen
  nn : r.A = none → r.L.length = 0 ∧ r.c = 0
theorem RwIn.below {w w' : World} {r : Rw} (h : RwIn w r) (k : Below w.heap.size w w') : RwIn w' r := ⟨h.row.below k, fun m hm => ⟨(h.ins m hm).at_.below k, (h.ins m hm).key, (h.ins m hm).val⟩, h.mx, h.nn⟩
/-- Rows in memory. -/
def RowsAt (w : World) (A : Option Addr) (R : List Rw) : Prop := 0 < R.length → ∃ B O, A = some ⟨B, O, none⟩ ∧ B < w.heap.size ∧ ∀ j r, R[j]? = some r → w.cell? ⟨B, O + j, none⟩ = some r.v
theorem RowsAt.below {w w' : World} {A : Option Addr} {R : List Rw} (h : RowsAt w A R) (k : Below w.heap.size w w') : RowsAt w' A R := fun h0 => by
  obtain ⟨B, O, e, hB, hc⟩ := h h0
  exact ⟨B, O, e, Nat.lt_of_lt_of_le hB k.size, fun j r hr => (k.cell (p := ⟨B, O + j, none⟩) hB).trans (hc j r hr)⟩
theorem row_cells : Tryd.prog.cellsOf 24 = 1 := by kernel_rfl
set_option maxRecDepth 100000 in
theorem open_rows {H : Type} {enc : TypeId × Value → H} {w : World} {r : Reach} {b0 base : Nat} {sp : Nat → Bool} {v : Value} {d : DataW H} {p : List MemPlace} (hv : Value.okWide Tryd.prog w r b0 69 v) (h : DataW.Trod enc Tryd.prog w base sp true 69 v d p) :
    ∃ (R : List Rw) (A : Option Addr) (c : Nat), v = .slice A R.length c ∧ R.length ≤ maxLen ∧ RowsAt w A R ∧ (∀ x ∈ R, RwIn w x) ∧ (∀ M, (∀ n ∈ d.weights Tryd.prog 69, n ≤ M) → ∀ x ∈ R, ∀ m ∈ x.L, m.r.val.length ≤ M ∧ m.r.key.length ≤ M) := by
  obtain ⟨a0, len, cap, rfl⟩ := okWide_slice Tryd.underlying69 hv
  obtain ⟨fuel, hf⟩ := h
  rcases Go.Deep.open_slice Tryd.underlying69 hf with ⟨hcs, _⟩ | ⟨a, len', cap', mm, k, D, Pl, hcs, _, hl, hmx, hmm, hx, hi⟩
  · simp [Value.cells] at hcs
    obtain ⟨rfl, rfl, rfl⟩ := hcs
    exact ⟨[], none, 0, rfl, by simp, fun h => absurd h (by simp), fun m hm => (by cases hm), fun M _ m hm => (by cases hm)⟩
  · simp [Value.cells] at hcs
    obtain ⟨rfl, rfl, rfl⟩ := hcs
    rw [row_cells] at hi
    have hlm : len ≤ mm := by rw [hmm]; split <;> omega
    have hex : ∀ i, ∃ m : Rw, i < len → w.cell? ((a.add (i * 1)).add 0) = some m.v ∧ RwIn w m ∧ (∀ M, (∀ n ∈ (D i).weights Tryd.prog 24, n ≤ M) → ∀ y ∈ m.L, y.r.val.length ≤ M ∧ y.r.key.length ≤ M) := fun i => by
      by_cases hil : i < len
      · obtain ⟨cs', hc, ht⟩ := hi i (by omega)
        obtain ⟨_, hcl, hat⟩ := World.cells?_some hc
        obtain ⟨L, A, c, hm, hmx', hrow, hin, hnn, hw⟩ := open_recs_trod ht
        refine ⟨⟨L, A, c⟩, fun _ => ⟨?_, ⟨hrow, hin, hmx', hnn⟩, hw⟩⟩
        rw [hat 0 (by omega), hm]
        rfl
      · exact ⟨⟨[], none, 0⟩, fun h => absurd h hil⟩
    have hF : ∃ F : Nat → Rw, ∀ i, i < len → w.cell? ((a.add (i * 1)).add 0) = some (F i).v ∧ RwIn w (F i) ∧ (∀ M, (∀ n ∈ (D i).weights Tryd.prog 24, n ≤ M) → ∀ y ∈ (F i).L, y.r.val.length ≤ M ∧ y.r.key.length ≤ M) := ⟨fun i => Classical.choose (hex i), fun i => Classical.choose_spec (hex i)⟩
    obtain ⟨F, hF⟩ := hF
    have hLl : ((List.range len).map F).length = len := by simp
    have hLa : ∀ i, i < len → ((List.range len).map F)[i]? = some (F i) := fun i hi => by simp [hi]
    refine ⟨(List.range len).map F, some a, cap, by rw [hLl], by rw [hLl]; omega, fun h0 => ?_, fun m hm => ?_, fun M hM m hm => ?_⟩
    · rw [hLl] at h0
      obtain ⟨B, O, spot⟩ := a
      have h00 := (hF 0 h0).1
      have hspot : spot = none := by simpa [Addr.add] using World.cell?_spot h00
      subst hspot
      rw [add_plain, add_plain] at h00
      refine ⟨B, O, rfl, cell_lt' h00, fun j u hu => ?_⟩
      have hj : j < len := by
        have := (List.getElem?_eq_some_iff.1 hu).1
        rwa [hLl] at this
      rw [hLa j hj] at hu
      injection hu with hu
      subst hu
      have h3 := (hF j hj).1
      rw [add_plain, add_plain, Nat.mul_one, Nat.add_zero] at h3
      exact h3
    · obtain ⟨i, hi', rfl⟩ := List.mem_map.1 hm
      exact (hF i (List.mem_range.1 hi')).2.1
    · obtain ⟨i, hi', rfl⟩ := List.mem_map.1 hm
      have hil := List.mem_range.1 hi'
      refine (hF i hil).2.2 M (fun n hn => hM n ?_)
      injection hx with hx1 _
      rw [hx1]
      simp only [DataW.weights, Tryd.underlying69]
      exact List.mem_cons_of_mem _ (List.mem_append_left _ (weightsAll_mem (List.mem_map.2 ⟨i, List.mem_range.2 hil, rfl⟩) n hn))
end Go.Proofs.YtdffldlcbihjmaaDoor

/- Stage 18: StreamTakes: which records of every row are taken, and what is said (written by gen/s18t.py). -/
namespace Go.Proofs.YtdffldlcbihjmaaDoor
open Go.RowKit Go.Sort

theorem takeS_len {o a : Int} : ∀ {rs acc : List Rc}, (takeS o a acc rs).length ≤ acc.length + rs.length
  | [], acc => by simp [takeS]
  | r :: t, acc => by
    rw [takeS]
    split
    · have := takeS_len (o := o) (a := a) (rs := t) (acc := acc ++ [r])
      simp at this ⊢
      omega
    · split
      · have := takeS_len (o := o) (a := a) (rs := t) (acc := [])
        simp at this ⊢
        omega
      · simp
theorem ends_place {f t a : Int} (h : newOk f t a = true) : (0 ≤ t ∧ t < 5) ∧ 0 ≤ a ∧ a ≤ 1099511627776 := by
  simp [newOk, placesB] at h
  omega
set_option maxRecDepth 100000 in
set_option maxHeartbeats 16000000 in
theorem law_takes (f o a : Int) (A : Option Addr) (c : Nat) (R : List Rw) (DA : Option Addr) (dn dc : Nat) (dz : Nat → Int) (w : World) (ht : Nib w) (hR : RowsAt w A R) (hin : ∀ x ∈ R, RwIn w x) (hsz : ∀ x ∈ R, ∀ m ∈ x.L, m.r.val.length ≤ 281474976710656 ∧ m.r.key.length ≤ 281474976710656) (hD : IntsAt w DA dn dz) :
    Calls Tryd.prog 6 #[.int .i64 f, .int .i64 o, .int .i64 a, .slice A R.length c, .slice DA dn dc] w fun e w' => e = .returned (.bool true) ∧ Below w.heap.size w w' := by
  obtain ⟨i0, hi0, hz0, hz1, hz2⟩ := info_parts rec_info
  have HR := Lib.hid hR
  have HIN : Hid (∀ (i : Nat) (x : Rw), R[i]? = some x → RwIn w x ∧ ∀ m ∈ x.L, m.r.val.length ≤ 281474976710656 ∧ m.r.key.length ≤ 281474976710656) := Lib.hid (fun i x hx => ⟨hin x (List.mem_of_getElem? hx), hsz x (List.mem_of_getElem? hx)⟩)
  have HD := Lib.hid hD
  have HT := Lib.hid (fun (W : World) (q : Below w.heap.size w W) => ht.below q)
  clear hR hin hsz hD ht
  go_enter Tryd.func6, Tryd.ntmps6
  go_wp2
  go_loopw [11, 12] (fun n i wr => ∃ (j m : Nat), j ≤ R.length ∧ j ≤ 40 ∧ n = .int .i64 m ∧ i = .int .i64 j ∧ m ≤ 400 ∧ Below w.heap.size w wr ∧ Hid (∀ i x, i < j → R[i]? = some x → x.L.length ≤ 400)) (fun _ i _ => R.length - (intOf i).toNat)
  case atStart => exact ⟨0, 0, Nat.zero_le _, by omega, rfl, rfl, by omega, Below.refl _ _, Lib.hid (fun i x h => absurd h (by omega))⟩
  case round =>
    obtain ⟨j, m, hj, hj40, rfl, rfl, hm, hB, HO⟩ := hrel
    have HB := Lib.hid hB
    clear hB
    by_cases hlt : j < R.length
    · have lk : (j : Int) < (R.length : Int) := by omega
      by_cases h40 : j < 40
      · have l40 : (j : Int) < 40 := by omega
        have l40d : decide ((j : Int) < 40) = true := decide_eq_true l40
        have hi1 : ((j : Int).toNat) = j := by simp
        obtain ⟨B, O, rfl, hBl, hcell⟩ := HR.out (by omega)
        have hx : R[j]? = some R[j] := List.getElem?_eq_getElem hlt
        generalize R[j] = x at *
        obtain ⟨hxi, hxs⟩ := HIN.out j x hx
        have hrc : wr.cell? ⟨B, O + j, none⟩ = some (.slice x.A x.L.length x.c) := (HB.out.cell (p := ⟨B, O + j, none⟩) hBl).trans (hcell j x hx)
        have HH := Lib.hid (law_heavy18 x.v x.L wr (hxi.below HB.out).row hxs hxi.mx)
        have HX := Lib.hid hx
        have HBL := Lib.hid hBl
        have HCC := Lib.hid (hcell j x hx)
        clear hxi hxs hx hBl hcell hlt h40
        go_wp2_with fail
        refine HH.out.mono ?_; rintro e w1 ⟨⟨b1, rfl, hb1⟩, q1, hq1⟩
        have k1 : Below wr.heap.size wr w1 := by rw [hq1]; exact below_drewN (Below.refl _ _) q1
        have HB1 := Lib.hid (HB.out.trans (k1.mono HB.out.size))
        clear HH hq1 k1 hrc
        cases b1
        rotate_left
        · clear hb1
          go_wp2_with fail
          refine (known18 w1).mono ?_; rintro e w2 ⟨rfl, k2⟩
          have HB2 := Lib.hid (HB1.out.trans (k2.mono HB1.out.size))
          clear k2
          go_wp2
          go_ret
          exact ⟨rfl, HB2.out⟩
        have hl4 := hb1 rfl
        have e2 : IntKind.i64.wrap ((m : Int) + (x.L.length : Int)) = (m : Int) + (x.L.length : Int) := IntWalk.i64_in _ (by omega)
        have hrc : w1.cell? ⟨B, O + j, none⟩ = some (.slice x.A x.L.length x.c) := (HB1.out.cell (p := ⟨B, O + j, none⟩) HBL.out).trans HCC.out
        clear hb1
        by_cases hg : 400 < m + x.L.length
        · have hg' : (400 : Int) < (m : Int) + (x.L.length : Int) := by omega
          clear hg
          go_wp2_with fail
          refine (known18 w1).mono ?_; rintro e w2 ⟨rfl, k2⟩
          have HB2 := Lib.hid (HB1.out.trans (k2.mono HB1.out.size))
          clear k2
          go_wp2
          go_ret
          exact ⟨rfl, HB2.out⟩
        · have hg' : ¬ (400 : Int) < (m : Int) + (x.L.length : Int) := by omega
          go_wp2
          go_roundw
          case rel => exact ⟨j + 1, m + x.L.length, by omega, by omega, by go_num, by go_num, by omega, HB1.out, Lib.hid (fun i y hi hy => by
            rcases Nat.lt_succ_iff_lt_or_eq.1 hi with h | rfl
            · exact HO.out i y h hy
            · have e := HX.out.symm.trans hy
              injection e with e
              subst e
              exact hl4)⟩
          case measure => simp [intOf]; omega
      · have l40 : ¬ (j : Int) < 40 := by omega
        have l40d : decide ((j : Int) < 40) = false := decide_eq_false l40
        have HL4 : Hid (∀ i x, i < R.length → i < 40 → R[i]? = some x → x.L.length ≤ 400) := Lib.hid (fun i x _ h hx => HO.out i x (by omega) hx)
        clear hlt h40 HO
        go_wp2_with fail
        refine (st_new_in f o a wr).mono ?_; rintro e w1 (⟨hk, rfl, k1⟩ | ⟨hk, b, rfl, hb, hxi, k1⟩)
        · have HK := Lib.hid hk
          have HB1 := Lib.hid (HB.out.trans (k1.mono HB.out.size))
          clear k1 hk
          go_wp2_with fail
          refine (ref_new_in f o a w1).mono ?_; rintro e w2 (⟨_, rfl, k2⟩ | ⟨hk2, _⟩)
          rotate_left
          · exact absurd (HK.out.symm.trans hk2) (by decide)
          have HB2 := Lib.hid (HB1.out.trans (k2.mono HB1.out.size))
          clear k2
          go_wp2_with fail
          refine (known18 w2).mono ?_; rintro e w3 ⟨rfl, k3⟩
          have HB3 := Lib.hid (HB2.out.trans (k3.mono HB2.out.size))
          clear k3
          go_wp2
          go_ret
          exact ⟨rfl, HB3.out⟩
        have HK := Lib.hid hk
        have HX1 := Lib.hid hxi
        have hbw : w.heap.size ≤ b := Nat.le_trans HB.out.size hb
        have HB1 := Lib.hid (HB.out.trans (k1.mono HB.out.size))
        clear k1 hk hxi hb HB
        go_wp2_with fail
        refine (ref_new_in f o a w1).mono ?_; rintro e w2 (⟨hk2, _⟩ | ⟨_, bx, rfl, hbx, hxx, k2⟩)
        · exact absurd (HK.out.symm.trans hk2) (by decide)
        have HEP := Lib.hid (ends_place HK.out)
        have HNE : Hid (b ≠ bx ∧ w.heap.size ≤ bx) := Lib.hid ⟨by have := HX1.out.lt; omega, Nat.le_trans HB1.out.size hbx⟩
        have HX2 := Lib.hid (HX1.out.below k2)
        have HY2 := Lib.hid hxx
        have HB2 := Lib.hid (HB1.out.trans (k2.mono HB1.out.size))
        clear k2 hxx hbx HX1 HB1 lk
        go_wp2
        go_loopw [17] (fun i wr => ∃ (j : Nat) (q : Int), j ≤ R.length ∧ j ≤ 40 ∧ i = .int .i64 j ∧ 0 ≤ q ∧ q ≤ 1099511627776 ∧ XB wr b (inC f o q) ∧ XB wr bx (inC f o q) ∧ Below w.heap.size w wr) (fun i _ => R.length - (intOf i).toNat)
        case atStart => exact ⟨0, a, Nat.zero_le _, by omega, rfl, HEP.out.2.1, HEP.out.2.2, HX2.out, HY2.out, HB2.out⟩
        case round =>
          obtain ⟨j2, q, hj2, hj240, rfl, hq0, hq1, hX, hY, hB⟩ := hrel
          have HX := Lib.hid hX
          have HY := Lib.hid hY
          have HB := Lib.hid hB
          clear hX hY hB HX2 HY2 HB2
          by_cases hlt : j2 < R.length
          rotate_left
          · have lk : ¬ (j2 : Int) < (R.length : Int) := by omega
            clear hlt
            go_wp2_with fail
            refine (known18 _).mono ?_; rintro e w3 ⟨rfl, k3⟩
            have HB3 := Lib.hid (HB.out.trans (k3.mono HB.out.size))
            clear k3
            go_wp2
            go_ret
            exact ⟨rfl, HB3.out⟩
          have lk : (j2 : Int) < (R.length : Int) := by omega
          by_cases h40 : j2 < 40
          rotate_left
          · have l40 : ¬ (j2 : Int) < 40 := by omega
            have l40d : decide ((j2 : Int) < 40) = false := decide_eq_false l40
            clear hlt h40
            go_wp2_with fail
            refine (known18 _).mono ?_; rintro e w3 ⟨rfl, k3⟩
            have HB3 := Lib.hid (HB.out.trans (k3.mono HB.out.size))
            clear k3
            go_wp2
            go_ret
            exact ⟨rfl, HB3.out⟩
          have l40 : (j2 : Int) < 40 := by omega
          have l40d : decide ((j2 : Int) < 40) = true := decide_eq_true l40
          have hi1 : ((j2 : Int).toNat) = j2 := by simp
          obtain ⟨B, O, rfl, hBl, hcell⟩ := HR.out (by omega)
          have hx : R[j2]? = some R[j2] := List.getElem?_eq_getElem hlt
          have hl4 := HL4.out j2 _ hlt h40 hx
          generalize R[j2] = x at *
          obtain ⟨xL, xA, xc⟩ := x
          have HXI := Lib.hid (HIN.out j2 _ hx).1
          have hl4' : xL.length ≤ 400 := hl4
          have HBL := Lib.hid hBl
          have HCC : Hid (w.cell? ⟨B, O + j2, none⟩ = some (.slice xA xL.length xc)) := Lib.hid (hcell j2 _ hx)
          have HB3 := Lib.hid (HB.out.alloc HB.out.size (.cells #[] 89))
          have hrc : (wr.alloc (.cells #[] 89)).cell? ⟨B, O + j2, none⟩ = some (.slice xA xL.length xc) := (HB3.out.cell (p := ⟨B, O + j2, none⟩) HBL.out).trans HCC.out
          have HBX : Hid (Below wr.heap.size wr (wr.alloc (.cells #[] 89))) := Lib.hid (by (repeat' (first | (with_reducible exact Below.refl _ _) | (with_reducible assumption) | (with_reducible refine Below.trans ?_ (Below.mono (by with_reducible assumption) ?_)) | (with_reducible refine Below.alloc ?_ ?_ _) | (with_reducible refine Below.setCell ?_ ?_ _) | (with_reducible refine below_drewN ?_ _) | (with_reducible refine Below.drew ?_) | go_size)))
          have hmade := World.ownsRow_made (base := w.heap.size) (e := 89) (size := 9) wr #[] 0 HB.out.size (Nat.zero_le _) rfl
          have hbz := HB.out.size
          clear hx hcell hBl hl4
          by_cases hp0 : 0 < xL.length
          · obtain ⟨A', c', he', hc⟩ := HXI.out.row.ex
            have he2 : (Value.slice xA xL.length xc) = .slice A' xL.length c' := he'
            obtain ⟨rfl, rfl⟩ : xA = A' ∧ xc = c' := by injection he2 with q1 q2 q3; exact ⟨q1, q3⟩
            obtain ⟨Bx, Ox, rfl, hBx, hcx⟩ := hc hp0
            have hsrc : ∀ j u, (rowM xL)[j]? = some u → (wr.alloc (.cells #[] 89)).cell? ((⟨Bx, Ox, none⟩ : Addr).add j) = some u := fun j u hu => by
              rw [at_add]
              exact (HB3.out.cell (p := ⟨Bx, Ox + j, none⟩) hBx).trans (hcx j u hu)
            clear hcx hc he' he2
            go_wp2_with (at_builtin; refine wpList_append_lies _ rfl (.tmp 85) (.tmp 89) _ rfl w.heap.size 89 i0 _ 9 96 Tryd.underlying24 hi0 hz0 hz1 hz2 rfl (by decide) (.slice (some ⟨wr.heap.size, 0, none⟩) 0 0) 0 [] rfl hmade ⟨Bx, Ox, none⟩ xL.length xc (rowM xL) rfl (rowM_len xL) hsrc (rowM_one1 xL) (by omega) (by unfold maxLen; omega) (by omega) (by simp; omega) _ rfl ?_; intro g cap w3 hown0 hg2 hat2 hlt2)
            have HR3 : Hid (RowAt w3 (.slice (some ⟨g, 0, none⟩) xL.length cap) xL) := Lib.hid (RowAt.of (base := w.heap.size) (by simpa using hown0))
            have HK3 : Hid (Below wr.heap.size wr w3) := Lib.hid (HBX.out.grown hg2 HBX.out.size (fun k hk => by simp [Value.ownBlock] at hk; omega))
            clear hown0 hg2 hat2 hlt2 hmade hsrc HB3 HBX hrc
            have HB4 := Lib.hid (HB.out.trans (HK3.out.mono HB.out.size))
            have HX4 := Lib.hid (HX.out.below HK3.out)
            have HY4 := Lib.hid (HY.out.below HK3.out)
            have HTK : Hid (Calls Tryd.prog 40 #[.pointer (some ⟨b, 0, none⟩), .slice (some ⟨g, 0, none⟩) xL.length cap] w3 fun e w' => TakeR o q (xL.map Mr.r) w3 w' e) := Lib.hid (st_take b f o q _ _ xL w3 HX4.out HR3.out (fun m hm => ((HXI.out.ins m hm).at_.below HB4.out)) (by first | omega | simp) ⟨hq0, hq1⟩)
            clear HX HY HB HK3 HR3
            refine HTK.out.mono ?_; rintro e w4 ⟨v4, Z, rfl, hT4, hZ⟩
            have HB5 := Lib.hid (HB4.out.trans (hT4.bel.mono HB4.out.size))
            have HX5 := Lib.hid (HX4.out.below hT4.bel)
            have HY5 := Lib.hid (HY4.out.below hT4.bel)
            have HT4 := Lib.hid hT4
            have HZ := Lib.hid hZ
            obtain ⟨A4, c4, rfl⟩ := hT4.shape
            have hrc : w4.cell? ⟨B, O + j2, none⟩ = some (.slice (some ⟨Bx, Ox, none⟩) xL.length xc) := (HB5.out.cell (p := ⟨B, O + j2, none⟩) HBL.out).trans HCC.out
            have HTR : Hid (Calls Tryd.prog 41 #[.pointer (some ⟨bx, 0, none⟩), .slice (some ⟨Bx, Ox, none⟩) xL.length xc] w4 fun e w' => TakeR o q (xL.map Mr.r) w4 w' e) := Lib.hid (ref_take bx f o q _ _ xL w4 HY5.out (HXI.out.below HB5.out).row (fun m hm => ((HXI.out.ins m hm).at_.below HB5.out)) (by first | omega | simp) ⟨hq0, hq1⟩)
            clear hT4 hZ HTK HX4 HY4 HB4
            go_wp2_with fail
            refine HTR.out.mono ?_; rintro e w5 ⟨v5, Y, rfl, hT5, hY⟩
            have HB6 := Lib.hid (HB5.out.trans (hT5.bel.mono HB5.out.size))
            have HX6 := Lib.hid (HX5.out.below hT5.bel)
            have HY6 := Lib.hid (HY5.out.below hT5.bel)
            have hT45 := HT4.out.below hT5.bel
            have HYL : Hid (Y.length ≤ 400) := Lib.hid (by
              have h := takeS_len (o := o) (a := q) (rs := xL.map Mr.r) (acc := [])
              rw [← hY] at h
              simp only [List.length_map, List.length_nil] at h
              omega)
            have hby : ∀ (Q : List Mr), Q.map Mr.r = takeS o q [] (xL.map Mr.r) → ∀ m ∈ Q, isBy m.r.key ∧ isBy m.r.val := fun Q hQ m hm => by
              have h := List.mem_map_of_mem (f := Mr.r) hm
              rw [hQ] at h
              rcases takeS_mem h with h | h
              · cases h
              · obtain ⟨m', hm', e⟩ := List.mem_map.1 h
                rw [← e]
                exact ⟨(HXI.out.ins m' hm').key, (HXI.out.ins m' hm').val⟩
            have HEQ : Hid (Z.map Mr.r = Y.map Mr.r) := Lib.hid (HZ.out.trans hY.symm)
            have HRC := Lib.hid (law_recs18 (.slice A4 Z.length c4) v5 Z Y w5 hT45.rowAt hT5.rowAt hT45.at_ hT5.at_ (fun m hm => (hby Z HZ.out m hm).2) (fun m hm => (hby Z HZ.out m hm).1) (hby Y hY) (by have h := congrArg List.length HEQ.out; simp only [List.length_map] at h; have := HYL.out; omega))
            obtain ⟨A5, c5, rfl⟩ := hT5.shape
            clear hT5 hY hT45 hby HTR HX5 HY5 HB5 hrc HT4 HZ
            go_wp2_with fail
            refine HRC.out.mono ?_; rintro e w6 ⟨⟨b6, rfl, hb6⟩, k6⟩
            obtain rfl : b6 = true := hb6.2 HEQ.out
            have HB7 := Lib.hid (HB6.out.trans (k6.mono HB6.out.size))
            have HX7 := Lib.hid (HX6.out.below k6)
            have HY7 := Lib.hid (HY6.out.below k6)
            have y2 := HY7.out.c 2 _ rfl
            have hyl := HYL.out
            have e3 : IntKind.i64.wrap (q + (Y.length : Int)) = q + (Y.length : Int) := IntWalk.i64_in _ (by omega)
            clear hb6 k6 HRC HEQ HX6 HY6 HB6
            by_cases hd : j2 < dn
            · have hd' : (j2 : Int) < (dn : Int) := by omega
              obtain ⟨DB, DO, rfl, hDB, hdc⟩ := HD.out (by omega)
              have hdv : w6.cell? ⟨DB, DO + j2, none⟩ = some (.int .i64 (dz j2)) := (HB7.out.cell (p := ⟨DB, DO + j2, none⟩) hDB).trans (hdc j2 hd).1
              clear hdc hDB
              generalize dz j2 = d at *
              obtain ⟨z, hzz⟩ : ∃ z, doneM q d = z := ⟨_, rfl⟩
              have hzb := doneM_bd (a := q) (q := d) ⟨hq0, hq1⟩
              rw [hzz] at hzb
              have HDN : Hid (∀ W, XB W b (inC f o q) → Below w.heap.size w W → Calls Tryd.prog 43 #[.pointer (some ⟨b, 0, none⟩), .int .i64 d] W fun e w' => DoneRes b f o z W w' e) := Lib.hid (fun W q1 q2 => by
                subst hzz
                exact st_done b f o q d W q1 HEP.out.1 ⟨hq0, hq1⟩ (fun W' k => HT.out _ (q2.trans (k.below hbw q2.size))))
              have HDR : Hid (∀ W, XB W bx (inC f o q) → Calls Tryd.prog 44 #[.pointer (some ⟨bx, 0, none⟩), .int .i64 d] W fun e w' => DoneRes bx f o z W w' e) := Lib.hid (fun W q1 => by
                subst hzz
                exact ref_done bx f o q d W q1 HEP.out.1 ⟨hq0, hq1⟩)
              have HZB := Lib.hid hzb
              have HNB : Hid (b ≠ bx ∧ w.heap.size ≤ bx ∧ w.heap.size ≤ b) := Lib.hid ⟨HNE.out.1, HNE.out.2, hbw⟩
              have hzn : (z != z) = false := by simp
              clear hzz hzb
              go_upto_region 26 with fail
              clear y2 e3 hyl hd'
              have kd : Below w6.heap.size w6 w6.drew := (Below.refl _ _).drew
              have HX8 := Lib.hid (HX7.out.below kd)
              have HY8 := Lib.hid (HY7.out.below kd)
              have HB8 := Lib.hid (HB7.out.trans (kd.mono HB7.out.size))
              clear kd HX7 HY7 HB7
              refine wp_region_held_drew (S := fun _ => True) (by kernel_rfl) trivial (fun hHeld => ?_)
              generalize w6.drew = V at *
              refine wpAnyH_take (i := 0) (v := ?_) rfl (by kernel_rfl) (by kernel_rfl) (by kernel_rfl) (fun _ _ _ h => h) (Or.inl ⟨by rfl, ?_⟩) (by assumption) ?_
              rotate_left
              · intro w' hSw; (try dsimp only at hSw); go_simp; (try with_reducible rfl)
              (try simp only [Act.put, List.setIfInBounds_toArray, List.set_cons_zero, List.set_cons_succ, List.getElem_toArray, List.getElem_cons_succ, List.getElem_cons_zero])
              refine wpAnyH_take (i := 1) (v := ?_) rfl (by kernel_rfl) (by kernel_rfl) (by kernel_rfl) (fun _ _ _ h => h) (Or.inl ⟨by rfl, ?_⟩) (by assumption) ?_
              rotate_left
              · intro w' hSw; (try dsimp only at hSw); go_simp; (try with_reducible rfl)
              (try simp only [Act.put, List.setIfInBounds_toArray, List.set_cons_zero, List.set_cons_succ, List.getElem_toArray, List.getElem_cons_succ, List.getElem_cons_zero])
              refine wpAnyH_take (i := 3) (v := ?_) rfl (by kernel_rfl) (by kernel_rfl) (by kernel_rfl) (fun _ _ _ h => h) (Or.inl ⟨by rfl, ?_⟩) (by assumption) ?_
              rotate_left
              · intro w' hSw; (try dsimp only at hSw); go_simp; (try with_reducible rfl)
              (try simp only [Act.put, List.setIfInBounds_toArray, List.set_cons_zero, List.set_cons_succ, List.getElem_toArray, List.getElem_cons_succ, List.getElem_cons_zero])
              refine wpAnyH_take (i := 4) (v := ?_) rfl (by kernel_rfl) (by kernel_rfl) (by kernel_rfl) (fun _ _ _ h => h) (Or.inl ⟨by rfl, ?_⟩) (by assumption) ?_
              rotate_left
              · intro w' hSw; (try dsimp only at hSw); go_simp; (try with_reducible rfl)
              (try simp only [Act.put, List.setIfInBounds_toArray, List.set_cons_zero, List.set_cons_succ, List.getElem_toArray, List.getElem_cons_succ, List.getElem_cons_zero])
              refine wpAnyH_ready (rs := [2]) (by kernel_rfl) (by simp) ?_
              refine AllReadyH.cons rfl (fun K hK => ?_) (AllReadyH.nil)
              go_simp
              go_at_call 43
              refine (HDN.out _ HX8.out HB8.out).mono ?_; rintro e V1 ⟨vA, rfl, hmA, hpA⟩
              obtain ⟨BA, cA, rfl⟩ := hmA.shape
              have HXa := Lib.hid hpA.xb
              have HYa := Lib.hid (HY8.out.only hpA.only HNB.out.1.symm)
              have HBa := Lib.hid (HB8.out.trans (hpA.only.below HNB.out.2.2 HB8.out.size))
              have HMa := Lib.hid hmA
              have HLT : Hid (bx < V.heap.size) := Lib.hid HY8.out.lt
              clear hmA hpA HX8 HY8 HB8
              (try dsimp only)
              refine hK.out _ _ ?_ (fun hHeld => ?_)
              · exact trivial
              clear hK K
              (try simp only [Act.put, List.setIfInBounds_toArray, List.set_cons_zero, List.set_cons_succ, List.getElem_toArray, List.getElem_cons_succ, List.getElem_cons_zero])
              refine wpAnyH_ready (rs := [5]) (by kernel_rfl) (by simp) ?_
              refine AllReadyH.cons rfl (fun K hK => ?_) (AllReadyH.nil)
              go_simp
              go_at_call 44
              refine (HDR.out _ HYa.out).mono ?_; rintro e V2 ⟨vC, rfl, hmC, hpC⟩
              obtain ⟨BC, cC, rfl⟩ := hmC.shape
              have HYb := Lib.hid hpC.xb
              have HXb := Lib.hid (HXa.out.only hpC.only HNB.out.1)
              have HBb := Lib.hid (HBa.out.trans (hpC.only.below HNB.out.2.1 HBa.out.size))
              have HMA := Lib.hid (HMa.out.only hpC.only HLT.out)
              have HMC := Lib.hid hmC
              clear hmC hpC HXa HYa HBa HMa HLT
              (try dsimp only)
              refine hK.out _ _ ?_ (fun hHeld => ?_)
              · exact trivial
              clear hK K
              (try simp only [Act.put, List.setIfInBounds_toArray, List.set_cons_zero, List.set_cons_succ, List.getElem_toArray, List.getElem_cons_succ, List.getElem_cons_zero])
              have HMS := Lib.hid (law_messages _ _ f o (ackE o z) V2 HMA.out HMC.out)
              refine wpAnyH_ready (rs := [6]) (by kernel_rfl) (by simp) ?_
              refine AllReadyH.cons rfl (fun K hK => ?_) (AllReadyH.nil)
              go_simp
              go_at_call 36
              refine HMS.out.mono ?_; rintro e V3 ⟨rfl, k3⟩
              have HXc := Lib.hid (HXb.out.below k3)
              have HYc := Lib.hid (HYb.out.below k3)
              have HBc := Lib.hid (HBb.out.trans (k3.mono HBb.out.size))
              have y2 := HYc.out.c 2 _ rfl
              clear k3 HMS HMA HMC HXb HYb HBb
              (try dsimp only)
              refine hK.out _ _ ?_ (fun hHeld => ?_)
              · exact trivial
              clear hK K
              (try simp only [Act.put, List.setIfInBounds_toArray, List.set_cons_zero, List.set_cons_succ, List.getElem_toArray, List.getElem_cons_succ, List.getElem_cons_zero])
              refine wpAnyH_take (i := 7) (v := ?_) rfl (by kernel_rfl) (by kernel_rfl) (by kernel_rfl) (fun _ _ _ h => h) (Or.inl ⟨by rfl, ?_⟩) (by assumption) ?_
              rotate_left
              · intro w' hSw; (try dsimp only at hSw); go_simp; (try with_reducible rfl)
              (try simp only [Act.put, List.setIfInBounds_toArray, List.set_cons_zero, List.set_cons_succ, List.getElem_toArray, List.getElem_cons_succ, List.getElem_cons_zero])
              refine wpAnyH_take (i := 8) (v := ?_) rfl (by kernel_rfl) (by kernel_rfl) (by kernel_rfl) (fun _ _ _ h => h) (Or.inl ⟨by rfl, ?_⟩) (by assumption) ?_
              rotate_left
              · intro w' hSw; (try dsimp only at hSw); go_simp; (try with_reducible rfl)
              (try simp only [Act.put, List.setIfInBounds_toArray, List.set_cons_zero, List.set_cons_succ, List.getElem_toArray, List.getElem_cons_succ, List.getElem_cons_zero])
              refine wpAnyH_take (i := 9) (v := ?_) rfl (by kernel_rfl) (by kernel_rfl) (by kernel_rfl) (fun _ _ _ h => h) (Or.inl ⟨by rfl, ?_⟩) (by assumption) ?_
              rotate_left
              · intro w' hSw; (try dsimp only at hSw); go_simp; (try with_reducible rfl)
              (try simp only [Act.put, List.setIfInBounds_toArray, List.set_cons_zero, List.set_cons_succ, List.getElem_toArray, List.getElem_cons_succ, List.getElem_cons_zero])
              refine wpAnyH_take (i := 11) (v := ?_) rfl (by kernel_rfl) (by kernel_rfl) (by kernel_rfl) (fun _ _ _ h => h) (Or.inl ⟨by rfl, ?_⟩) (by assumption) ?_
              rotate_left
              · intro w' hSw; (try dsimp only at hSw); go_simp; (try with_reducible rfl)
              (try simp only [Act.put, List.setIfInBounds_toArray, List.set_cons_zero, List.set_cons_succ, List.getElem_toArray, List.getElem_cons_succ, List.getElem_cons_zero])
              refine wpAnyH_take (i := 12) (v := ?_) rfl (by kernel_rfl) (by kernel_rfl) (by kernel_rfl) (fun _ _ _ h => h) (Or.inl ⟨by rfl, ?_⟩) (by assumption) ?_
              rotate_left
              · intro w' hSw; (try dsimp only at hSw); go_simp; (try with_reducible rfl)
              (try simp only [Act.put, List.setIfInBounds_toArray, List.set_cons_zero, List.set_cons_succ, List.getElem_toArray, List.getElem_cons_succ, List.getElem_cons_zero])
              refine wpAnyH_take (i := 13) (v := ?_) rfl (by kernel_rfl) (by kernel_rfl) (by kernel_rfl) (fun _ _ _ h => h) (Or.inl ⟨by rfl, ?_⟩) (by assumption) ?_
              rotate_left
              · intro w' hSw; (try dsimp only at hSw); go_simp; (try with_reducible rfl)
              (try simp only [Act.put, List.setIfInBounds_toArray, List.set_cons_zero, List.set_cons_succ, List.getElem_toArray, List.getElem_cons_succ, List.getElem_cons_zero])
              refine wpAnyH_ready (rs := [10, 14]) (by kernel_rfl) (by simp) ?_
              refine AllReadyH.cons rfl (fun K hK => ?_) (AllReadyH.cons rfl (fun K hK => ?_) (AllReadyH.nil))
              · skip
                go_simp
                go_at_call 45
                refine (st_applied b f o z V3 HXc.out).mono ?_; rintro e w' ⟨rfl, rfl⟩
                (try dsimp only)
                refine hK.out _ _ ?_ (fun hHeld => ?_)
                · exact trivial
                clear hK K
                (try simp only [Act.put, List.setIfInBounds_toArray, List.set_cons_zero, List.set_cons_succ, List.getElem_toArray, List.getElem_cons_succ, List.getElem_cons_zero])
                refine wpAnyH_ready (rs := [14]) (by kernel_rfl) (by simp) ?_
                refine AllReadyH.cons rfl (fun K hK => ?_) (AllReadyH.nil)
                go_simp
                (try dsimp only)
                refine hK.out _ _ ?_ (fun hHeld => ?_)
                · exact trivial
                clear hK K
                (try simp only [Act.put, List.setIfInBounds_toArray, List.set_cons_zero, List.set_cons_succ, List.getElem_toArray, List.getElem_cons_succ, List.getElem_cons_zero])
                refine wpAnyH_take (i := 15) (v := ?_) rfl (by kernel_rfl) (by kernel_rfl) (by kernel_rfl) (fun _ _ _ h => h) (Or.inl ⟨by rfl, ?_⟩) (by assumption) ?_
                rotate_left
                · intro w' hSw; (try dsimp only at hSw); go_simp; (try with_reducible rfl)
                (try simp only [Act.put, List.setIfInBounds_toArray, List.set_cons_zero, List.set_cons_succ, List.getElem_toArray, List.getElem_cons_succ, List.getElem_cons_zero])
                refine wpAnyH_take (i := 16) (v := ?_) rfl (by kernel_rfl) (by kernel_rfl) (by kernel_rfl) (fun _ _ _ h => h) (Or.inl ⟨by rfl, ?_⟩) (by assumption) ?_
                rotate_left
                · intro w' hSw; (try dsimp only at hSw); go_simp; (try with_reducible rfl)
                (try simp only [Act.put, List.setIfInBounds_toArray, List.set_cons_zero, List.set_cons_succ, List.getElem_toArray, List.getElem_cons_succ, List.getElem_cons_zero])
                refine wpAnyH_done (by kernel_rfl) ?_ _
                go_wp2
                go_roundw
                case rel => exact ⟨j2 + 1, z, by omega, by omega, by go_num, HZB.out.1, HZB.out.2, HXc.out, HYc.out, HBc.out⟩
                case measure => simp [intOf]; omega
              · skip
                go_simp
                (try dsimp only)
                refine hK.out _ _ ?_ (fun hHeld => ?_)
                · exact trivial
                clear hK K
                (try simp only [Act.put, List.setIfInBounds_toArray, List.set_cons_zero, List.set_cons_succ, List.getElem_toArray, List.getElem_cons_succ, List.getElem_cons_zero])
                refine wpAnyH_ready (rs := [10]) (by kernel_rfl) (by simp) ?_
                refine AllReadyH.cons rfl (fun K hK => ?_) (AllReadyH.nil)
                go_simp
                go_at_call 45
                refine (st_applied b f o z V3 HXc.out).mono ?_; rintro e w' ⟨rfl, rfl⟩
                (try dsimp only)
                refine hK.out _ _ ?_ (fun hHeld => ?_)
                · exact trivial
                clear hK K
                (try simp only [Act.put, List.setIfInBounds_toArray, List.set_cons_zero, List.set_cons_succ, List.getElem_toArray, List.getElem_cons_succ, List.getElem_cons_zero])
                refine wpAnyH_take (i := 15) (v := ?_) rfl (by kernel_rfl) (by kernel_rfl) (by kernel_rfl) (fun _ _ _ h => h) (Or.inl ⟨by rfl, ?_⟩) (by assumption) ?_
                rotate_left
                · intro w' hSw; (try dsimp only at hSw); go_simp; (try with_reducible rfl)
                (try simp only [Act.put, List.setIfInBounds_toArray, List.set_cons_zero, List.set_cons_succ, List.getElem_toArray, List.getElem_cons_succ, List.getElem_cons_zero])
                refine wpAnyH_take (i := 16) (v := ?_) rfl (by kernel_rfl) (by kernel_rfl) (by kernel_rfl) (fun _ _ _ h => h) (Or.inl ⟨by rfl, ?_⟩) (by assumption) ?_
                rotate_left
                · intro w' hSw; (try dsimp only at hSw); go_simp; (try with_reducible rfl)
                (try simp only [Act.put, List.setIfInBounds_toArray, List.set_cons_zero, List.set_cons_succ, List.getElem_toArray, List.getElem_cons_succ, List.getElem_cons_zero])
                refine wpAnyH_done (by kernel_rfl) ?_ _
                go_wp2
                go_roundw
                case rel => exact ⟨j2 + 1, z, by omega, by omega, by go_num, HZB.out.1, HZB.out.2, HXc.out, HYc.out, HBc.out⟩
                case measure => simp [intOf]; omega
            · have hd' : ¬ (j2 : Int) < (dn : Int) := by omega
              obtain ⟨z, hzz⟩ : ∃ z, doneM q (q + (Y.length : Int)) = z := ⟨_, rfl⟩
              have hzb := doneM_bd (a := q) (q := q + (Y.length : Int)) ⟨hq0, hq1⟩
              rw [hzz] at hzb
              have HDN : Hid (∀ W, XB W b (inC f o q) → Below w.heap.size w W → Calls Tryd.prog 43 #[.pointer (some ⟨b, 0, none⟩), .int .i64 (q + (Y.length : Int))] W fun e w' => DoneRes b f o z W w' e) := Lib.hid (fun W q1 q2 => by
                subst hzz
                exact st_done b f o q (q + (Y.length : Int)) W q1 HEP.out.1 ⟨hq0, hq1⟩ (fun W' k => HT.out _ (q2.trans (k.below hbw q2.size))))
              have HDR : Hid (∀ W, XB W bx (inC f o q) → Calls Tryd.prog 44 #[.pointer (some ⟨bx, 0, none⟩), .int .i64 (q + (Y.length : Int))] W fun e w' => DoneRes bx f o z W w' e) := Lib.hid (fun W q1 => by
                subst hzz
                exact ref_done bx f o q (q + (Y.length : Int)) W q1 HEP.out.1 ⟨hq0, hq1⟩)
              have HZB := Lib.hid hzb
              have HNB : Hid (b ≠ bx ∧ w.heap.size ≤ bx ∧ w.heap.size ≤ b) := Lib.hid ⟨HNE.out.1, HNE.out.2, hbw⟩
              have hzn : (z != z) = false := by simp
              clear hzz hzb
              go_upto_region 26 with fail
              clear y2 e3 hyl hd'
              have kd : Below w6.heap.size w6 w6.drew := (Below.refl _ _).drew
              have HX8 := Lib.hid (HX7.out.below kd)
              have HY8 := Lib.hid (HY7.out.below kd)
              have HB8 := Lib.hid (HB7.out.trans (kd.mono HB7.out.size))
              clear kd HX7 HY7 HB7
              refine wp_region_held_drew (S := fun _ => True) (by kernel_rfl) trivial (fun hHeld => ?_)
              generalize w6.drew = V at *
              refine wpAnyH_take (i := 0) (v := ?_) rfl (by kernel_rfl) (by kernel_rfl) (by kernel_rfl) (fun _ _ _ h => h) (Or.inl ⟨by rfl, ?_⟩) (by assumption) ?_
              rotate_left
              · intro w' hSw; (try dsimp only at hSw); go_simp; (try with_reducible rfl)
              (try simp only [Act.put, List.setIfInBounds_toArray, List.set_cons_zero, List.set_cons_succ, List.getElem_toArray, List.getElem_cons_succ, List.getElem_cons_zero])
              refine wpAnyH_take (i := 1) (v := ?_) rfl (by kernel_rfl) (by kernel_rfl) (by kernel_rfl) (fun _ _ _ h => h) (Or.inl ⟨by rfl, ?_⟩) (by assumption) ?_
              rotate_left
              · intro w' hSw; (try dsimp only at hSw); go_simp; (try with_reducible rfl)
              (try simp only [Act.put, List.setIfInBounds_toArray, List.set_cons_zero, List.set_cons_succ, List.getElem_toArray, List.getElem_cons_succ, List.getElem_cons_zero])
              refine wpAnyH_take (i := 3) (v := ?_) rfl (by kernel_rfl) (by kernel_rfl) (by kernel_rfl) (fun _ _ _ h => h) (Or.inl ⟨by rfl, ?_⟩) (by assumption) ?_
              rotate_left
              · intro w' hSw; (try dsimp only at hSw); go_simp; (try with_reducible rfl)
              (try simp only [Act.put, List.setIfInBounds_toArray, List.set_cons_zero, List.set_cons_succ, List.getElem_toArray, List.getElem_cons_succ, List.getElem_cons_zero])
              refine wpAnyH_take (i := 4) (v := ?_) rfl (by kernel_rfl) (by kernel_rfl) (by kernel_rfl) (fun _ _ _ h => h) (Or.inl ⟨by rfl, ?_⟩) (by assumption) ?_
              rotate_left
              · intro w' hSw; (try dsimp only at hSw); go_simp; (try with_reducible rfl)
              (try simp only [Act.put, List.setIfInBounds_toArray, List.set_cons_zero, List.set_cons_succ, List.getElem_toArray, List.getElem_cons_succ, List.getElem_cons_zero])
              refine wpAnyH_ready (rs := [2]) (by kernel_rfl) (by simp) ?_
              refine AllReadyH.cons rfl (fun K hK => ?_) (AllReadyH.nil)
              go_simp
              go_at_call 43
              refine (HDN.out _ HX8.out HB8.out).mono ?_; rintro e V1 ⟨vA, rfl, hmA, hpA⟩
              obtain ⟨BA, cA, rfl⟩ := hmA.shape
              have HXa := Lib.hid hpA.xb
              have HYa := Lib.hid (HY8.out.only hpA.only HNB.out.1.symm)
              have HBa := Lib.hid (HB8.out.trans (hpA.only.below HNB.out.2.2 HB8.out.size))
              have HMa := Lib.hid hmA
              have HLT : Hid (bx < V.heap.size) := Lib.hid HY8.out.lt
              clear hmA hpA HX8 HY8 HB8
              (try dsimp only)
              refine hK.out _ _ ?_ (fun hHeld => ?_)
              · exact trivial
              clear hK K
              (try simp only [Act.put, List.setIfInBounds_toArray, List.set_cons_zero, List.set_cons_succ, List.getElem_toArray, List.getElem_cons_succ, List.getElem_cons_zero])
              refine wpAnyH_ready (rs := [5]) (by kernel_rfl) (by simp) ?_
              refine AllReadyH.cons rfl (fun K hK => ?_) (AllReadyH.nil)
              go_simp
              go_at_call 44
              refine (HDR.out _ HYa.out).mono ?_; rintro e V2 ⟨vC, rfl, hmC, hpC⟩
              obtain ⟨BC, cC, rfl⟩ := hmC.shape
              have HYb := Lib.hid hpC.xb
              have HXb := Lib.hid (HXa.out.only hpC.only HNB.out.1)
              have HBb := Lib.hid (HBa.out.trans (hpC.only.below HNB.out.2.1 HBa.out.size))
              have HMA := Lib.hid (HMa.out.only hpC.only HLT.out)
              have HMC := Lib.hid hmC
              clear hmC hpC HXa HYa HBa HMa HLT
              (try dsimp only)
              refine hK.out _ _ ?_ (fun hHeld => ?_)
              · exact trivial
              clear hK K
              (try simp only [Act.put, List.setIfInBounds_toArray, List.set_cons_zero, List.set_cons_succ, List.getElem_toArray, List.getElem_cons_succ, List.getElem_cons_zero])
              have HMS := Lib.hid (law_messages _ _ f o (ackE o z) V2 HMA.out HMC.out)
              refine wpAnyH_ready (rs := [6]) (by kernel_rfl) (by simp) ?_
              refine AllReadyH.cons rfl (fun K hK => ?_) (AllReadyH.nil)
              go_simp
              go_at_call 36
              refine HMS.out.mono ?_; rintro e V3 ⟨rfl, k3⟩
              have HXc := Lib.hid (HXb.out.below k3)
              have HYc := Lib.hid (HYb.out.below k3)
              have HBc := Lib.hid (HBb.out.trans (k3.mono HBb.out.size))
              have y2 := HYc.out.c 2 _ rfl
              clear k3 HMS HMA HMC HXb HYb HBb
              (try dsimp only)
              refine hK.out _ _ ?_ (fun hHeld => ?_)
              · exact trivial
              clear hK K
              (try simp only [Act.put, List.setIfInBounds_toArray, List.set_cons_zero, List.set_cons_succ, List.getElem_toArray, List.getElem_cons_succ, List.getElem_cons_zero])
              refine wpAnyH_take (i := 7) (v := ?_) rfl (by kernel_rfl) (by kernel_rfl) (by kernel_rfl) (fun _ _ _ h => h) (Or.inl ⟨by rfl, ?_⟩) (by assumption) ?_
              rotate_left
              · intro w' hSw; (try dsimp only at hSw); go_simp; (try with_reducible rfl)
              (try simp only [Act.put, List.setIfInBounds_toArray, List.set_cons_zero, List.set_cons_succ, List.getElem_toArray, List.getElem_cons_succ, List.getElem_cons_zero])
              refine wpAnyH_take (i := 8) (v := ?_) rfl (by kernel_rfl) (by kernel_rfl) (by kernel_rfl) (fun _ _ _ h => h) (Or.inl ⟨by rfl, ?_⟩) (by assumption) ?_
              rotate_left
              · intro w' hSw; (try dsimp only at hSw); go_simp; (try with_reducible rfl)
              (try simp only [Act.put, List.setIfInBounds_toArray, List.set_cons_zero, List.set_cons_succ, List.getElem_toArray, List.getElem_cons_succ, List.getElem_cons_zero])
              refine wpAnyH_take (i := 9) (v := ?_) rfl (by kernel_rfl) (by kernel_rfl) (by kernel_rfl) (fun _ _ _ h => h) (Or.inl ⟨by rfl, ?_⟩) (by assumption) ?_
              rotate_left
              · intro w' hSw; (try dsimp only at hSw); go_simp; (try with_reducible rfl)
              (try simp only [Act.put, List.setIfInBounds_toArray, List.set_cons_zero, List.set_cons_succ, List.getElem_toArray, List.getElem_cons_succ, List.getElem_cons_zero])
              refine wpAnyH_take (i := 11) (v := ?_) rfl (by kernel_rfl) (by kernel_rfl) (by kernel_rfl) (fun _ _ _ h => h) (Or.inl ⟨by rfl, ?_⟩) (by assumption) ?_
              rotate_left
              · intro w' hSw; (try dsimp only at hSw); go_simp; (try with_reducible rfl)
              (try simp only [Act.put, List.setIfInBounds_toArray, List.set_cons_zero, List.set_cons_succ, List.getElem_toArray, List.getElem_cons_succ, List.getElem_cons_zero])
              refine wpAnyH_take (i := 12) (v := ?_) rfl (by kernel_rfl) (by kernel_rfl) (by kernel_rfl) (fun _ _ _ h => h) (Or.inl ⟨by rfl, ?_⟩) (by assumption) ?_
              rotate_left
              · intro w' hSw; (try dsimp only at hSw); go_simp; (try with_reducible rfl)
              (try simp only [Act.put, List.setIfInBounds_toArray, List.set_cons_zero, List.set_cons_succ, List.getElem_toArray, List.getElem_cons_succ, List.getElem_cons_zero])
              refine wpAnyH_take (i := 13) (v := ?_) rfl (by kernel_rfl) (by kernel_rfl) (by kernel_rfl) (fun _ _ _ h => h) (Or.inl ⟨by rfl, ?_⟩) (by assumption) ?_
              rotate_left
              · intro w' hSw; (try dsimp only at hSw); go_simp; (try with_reducible rfl)
              (try simp only [Act.put, List.setIfInBounds_toArray, List.set_cons_zero, List.set_cons_succ, List.getElem_toArray, List.getElem_cons_succ, List.getElem_cons_zero])
              refine wpAnyH_ready (rs := [10, 14]) (by kernel_rfl) (by simp) ?_
              refine AllReadyH.cons rfl (fun K hK => ?_) (AllReadyH.cons rfl (fun K hK => ?_) (AllReadyH.nil))
              · skip
                go_simp
                go_at_call 45
                refine (st_applied b f o z V3 HXc.out).mono ?_; rintro e w' ⟨rfl, rfl⟩
                (try dsimp only)
                refine hK.out _ _ ?_ (fun hHeld => ?_)
                · exact trivial
                clear hK K
                (try simp only [Act.put, List.setIfInBounds_toArray, List.set_cons_zero, List.set_cons_succ, List.getElem_toArray, List.getElem_cons_succ, List.getElem_cons_zero])
                refine wpAnyH_ready (rs := [14]) (by kernel_rfl) (by simp) ?_
                refine AllReadyH.cons rfl (fun K hK => ?_) (AllReadyH.nil)
                go_simp
                (try dsimp only)
                refine hK.out _ _ ?_ (fun hHeld => ?_)
                · exact trivial
                clear hK K
                (try simp only [Act.put, List.setIfInBounds_toArray, List.set_cons_zero, List.set_cons_succ, List.getElem_toArray, List.getElem_cons_succ, List.getElem_cons_zero])
                refine wpAnyH_take (i := 15) (v := ?_) rfl (by kernel_rfl) (by kernel_rfl) (by kernel_rfl) (fun _ _ _ h => h) (Or.inl ⟨by rfl, ?_⟩) (by assumption) ?_
                rotate_left
                · intro w' hSw; (try dsimp only at hSw); go_simp; (try with_reducible rfl)
                (try simp only [Act.put, List.setIfInBounds_toArray, List.set_cons_zero, List.set_cons_succ, List.getElem_toArray, List.getElem_cons_succ, List.getElem_cons_zero])
                refine wpAnyH_take (i := 16) (v := ?_) rfl (by kernel_rfl) (by kernel_rfl) (by kernel_rfl) (fun _ _ _ h => h) (Or.inl ⟨by rfl, ?_⟩) (by assumption) ?_
                rotate_left
                · intro w' hSw; (try dsimp only at hSw); go_simp; (try with_reducible rfl)
                (try simp only [Act.put, List.setIfInBounds_toArray, List.set_cons_zero, List.set_cons_succ, List.getElem_toArray, List.getElem_cons_succ, List.getElem_cons_zero])
                refine wpAnyH_done (by kernel_rfl) ?_ _
                go_wp2
                go_roundw
                case rel => exact ⟨j2 + 1, z, by omega, by omega, by go_num, HZB.out.1, HZB.out.2, HXc.out, HYc.out, HBc.out⟩
                case measure => simp [intOf]; omega
              · skip
                go_simp
                (try dsimp only)
                refine hK.out _ _ ?_ (fun hHeld => ?_)
                · exact trivial
                clear hK K
                (try simp only [Act.put, List.setIfInBounds_toArray, List.set_cons_zero, List.set_cons_succ, List.getElem_toArray, List.getElem_cons_succ, List.getElem_cons_zero])
                refine wpAnyH_ready (rs := [10]) (by kernel_rfl) (by simp) ?_
                refine AllReadyH.cons rfl (fun K hK => ?_) (AllReadyH.nil)
                go_simp
                go_at_call 45
                refine (st_applied b f o z V3 HXc.out).mono ?_; rintro e w' ⟨rfl, rfl⟩
                (try dsimp only)
                refine hK.out _ _ ?_ (fun hHeld => ?_)
                · exact trivial
                clear hK K
                (try simp only [Act.put, List.setIfInBounds_toArray, List.set_cons_zero, List.set_cons_succ, List.getElem_toArray, List.getElem_cons_succ, List.getElem_cons_zero])
                refine wpAnyH_take (i := 15) (v := ?_) rfl (by kernel_rfl) (by kernel_rfl) (by kernel_rfl) (fun _ _ _ h => h) (Or.inl ⟨by rfl, ?_⟩) (by assumption) ?_
                rotate_left
                · intro w' hSw; (try dsimp only at hSw); go_simp; (try with_reducible rfl)
                (try simp only [Act.put, List.setIfInBounds_toArray, List.set_cons_zero, List.set_cons_succ, List.getElem_toArray, List.getElem_cons_succ, List.getElem_cons_zero])
                refine wpAnyH_take (i := 16) (v := ?_) rfl (by kernel_rfl) (by kernel_rfl) (by kernel_rfl) (fun _ _ _ h => h) (Or.inl ⟨by rfl, ?_⟩) (by assumption) ?_
                rotate_left
                · intro w' hSw; (try dsimp only at hSw); go_simp; (try with_reducible rfl)
                (try simp only [Act.put, List.setIfInBounds_toArray, List.set_cons_zero, List.set_cons_succ, List.getElem_toArray, List.getElem_cons_succ, List.getElem_cons_zero])
                refine wpAnyH_done (by kernel_rfl) ?_ _
                go_wp2
                go_roundw
                case rel => exact ⟨j2 + 1, z, by omega, by omega, by go_num, HZB.out.1, HZB.out.2, HXc.out, HYc.out, HBc.out⟩
                case measure => simp [intOf]; omega
          · obtain rfl : xL = [] := List.length_eq_zero_iff.1 (by omega)
            have hld := empty_loads18.1
            have hst := empty_loads18.2
            have hA : xA = none ∨ ∃ ad, xA = some ad := by cases xA <;> simp
            have HK3 : Hid (Below wr.heap.size wr (wr.alloc (.cells #[] 89))) := HBX
            have HR3 : Hid (RowAt (wr.alloc (.cells #[] 89)) (.slice (some ⟨wr.heap.size, 0, none⟩) ([] : List Mr).length 0) []) := Lib.hid ⟨_, _, rfl, fun h => absurd h (by simp)⟩
            clear hp0 hmade HB3 HBX
            rcases hA with rfl | ⟨ad, rfl⟩
            · skip
              go_wp2_with fail
              generalize hw3 : wr.alloc (.cells #[] 89) = w3 at *
              clear hw3
              have HB4 := Lib.hid (HB.out.trans (HK3.out.mono HB.out.size))
              have HX4 := Lib.hid (HX.out.below HK3.out)
              have HY4 := Lib.hid (HY.out.below HK3.out)
              have HTK : Hid (Calls Tryd.prog 40 #[.pointer (some ⟨b, 0, none⟩), .slice (some ⟨wr.heap.size, 0, none⟩) 0 0] w3 fun e w' => TakeR o q (([] : List Mr).map Mr.r) w3 w' e) := Lib.hid (st_take b f o q _ _ ([] : List Mr) w3 HX4.out HR3.out (fun m hm => ((HXI.out.ins m hm).at_.below HB4.out)) (by first | omega | simp) ⟨hq0, hq1⟩)
              clear HX HY HB HK3 HR3
              refine HTK.out.mono ?_; rintro e w4 ⟨v4, Z, rfl, hT4, hZ⟩
              have HB5 := Lib.hid (HB4.out.trans (hT4.bel.mono HB4.out.size))
              have HX5 := Lib.hid (HX4.out.below hT4.bel)
              have HY5 := Lib.hid (HY4.out.below hT4.bel)
              have HT4 := Lib.hid hT4
              have HZ := Lib.hid hZ
              obtain ⟨A4, c4, rfl⟩ := hT4.shape
              have hrc : w4.cell? ⟨B, O + j2, none⟩ = some (.slice none ([] : List Mr).length xc) := (HB5.out.cell (p := ⟨B, O + j2, none⟩) HBL.out).trans HCC.out
              have HTR : Hid (Calls Tryd.prog 41 #[.pointer (some ⟨bx, 0, none⟩), .slice none ([] : List Mr).length xc] w4 fun e w' => TakeR o q (([] : List Mr).map Mr.r) w4 w' e) := Lib.hid (ref_take bx f o q _ _ ([] : List Mr) w4 HY5.out (HXI.out.below HB5.out).row (fun m hm => ((HXI.out.ins m hm).at_.below HB5.out)) (by first | omega | simp) ⟨hq0, hq1⟩)
              clear hT4 hZ HTK HX4 HY4 HB4
              go_wp2_with fail
              refine HTR.out.mono ?_; rintro e w5 ⟨v5, Y, rfl, hT5, hY⟩
              have HB6 := Lib.hid (HB5.out.trans (hT5.bel.mono HB5.out.size))
              have HX6 := Lib.hid (HX5.out.below hT5.bel)
              have HY6 := Lib.hid (HY5.out.below hT5.bel)
              have hT45 := HT4.out.below hT5.bel
              have HYL : Hid (Y.length ≤ 400) := Lib.hid (by
                have h := takeS_len (o := o) (a := q) (rs := ([] : List Mr).map Mr.r) (acc := [])
                rw [← hY] at h
                simp only [List.length_map, List.length_nil] at h
                omega)
              have hby : ∀ (Q : List Mr), Q.map Mr.r = takeS o q [] (([] : List Mr).map Mr.r) → ∀ m ∈ Q, isBy m.r.key ∧ isBy m.r.val := fun Q hQ m hm => by
                have h := List.mem_map_of_mem (f := Mr.r) hm
                rw [hQ] at h
                rcases takeS_mem h with h | h
                · cases h
                · obtain ⟨m', hm', e⟩ := List.mem_map.1 h
                  rw [← e]
                  exact ⟨(HXI.out.ins m' hm').key, (HXI.out.ins m' hm').val⟩
              have HEQ : Hid (Z.map Mr.r = Y.map Mr.r) := Lib.hid (HZ.out.trans hY.symm)
              have HRC := Lib.hid (law_recs18 (.slice A4 Z.length c4) v5 Z Y w5 hT45.rowAt hT5.rowAt hT45.at_ hT5.at_ (fun m hm => (hby Z HZ.out m hm).2) (fun m hm => (hby Z HZ.out m hm).1) (hby Y hY) (by have h := congrArg List.length HEQ.out; simp only [List.length_map] at h; have := HYL.out; omega))
              obtain ⟨A5, c5, rfl⟩ := hT5.shape
              clear hT5 hY hT45 hby HTR HX5 HY5 HB5 hrc HT4 HZ
              go_wp2_with fail
              refine HRC.out.mono ?_; rintro e w6 ⟨⟨b6, rfl, hb6⟩, k6⟩
              obtain rfl : b6 = true := hb6.2 HEQ.out
              have HB7 := Lib.hid (HB6.out.trans (k6.mono HB6.out.size))
              have HX7 := Lib.hid (HX6.out.below k6)
              have HY7 := Lib.hid (HY6.out.below k6)
              have y2 := HY7.out.c 2 _ rfl
              have hyl := HYL.out
              have e3 : IntKind.i64.wrap (q + (Y.length : Int)) = q + (Y.length : Int) := IntWalk.i64_in _ (by omega)
              clear hb6 k6 HRC HEQ HX6 HY6 HB6
              by_cases hd : j2 < dn
              · have hd' : (j2 : Int) < (dn : Int) := by omega
                obtain ⟨DB, DO, rfl, hDB, hdc⟩ := HD.out (by omega)
                have hdv : w6.cell? ⟨DB, DO + j2, none⟩ = some (.int .i64 (dz j2)) := (HB7.out.cell (p := ⟨DB, DO + j2, none⟩) hDB).trans (hdc j2 hd).1
                clear hdc hDB
                generalize dz j2 = d at *
                obtain ⟨z, hzz⟩ : ∃ z, doneM q d = z := ⟨_, rfl⟩
                have hzb := doneM_bd (a := q) (q := d) ⟨hq0, hq1⟩
                rw [hzz] at hzb
                have HDN : Hid (∀ W, XB W b (inC f o q) → Below w.heap.size w W → Calls Tryd.prog 43 #[.pointer (some ⟨b, 0, none⟩), .int .i64 d] W fun e w' => DoneRes b f o z W w' e) := Lib.hid (fun W q1 q2 => by
                  subst hzz
                  exact st_done b f o q d W q1 HEP.out.1 ⟨hq0, hq1⟩ (fun W' k => HT.out _ (q2.trans (k.below hbw q2.size))))
                have HDR : Hid (∀ W, XB W bx (inC f o q) → Calls Tryd.prog 44 #[.pointer (some ⟨bx, 0, none⟩), .int .i64 d] W fun e w' => DoneRes bx f o z W w' e) := Lib.hid (fun W q1 => by
                  subst hzz
                  exact ref_done bx f o q d W q1 HEP.out.1 ⟨hq0, hq1⟩)
                have HZB := Lib.hid hzb
                have HNB : Hid (b ≠ bx ∧ w.heap.size ≤ bx ∧ w.heap.size ≤ b) := Lib.hid ⟨HNE.out.1, HNE.out.2, hbw⟩
                have hzn : (z != z) = false := by simp
                clear hzz hzb
                go_upto_region 26 with fail
                clear y2 e3 hyl hd'
                have kd : Below w6.heap.size w6 w6.drew := (Below.refl _ _).drew
                have HX8 := Lib.hid (HX7.out.below kd)
                have HY8 := Lib.hid (HY7.out.below kd)
                have HB8 := Lib.hid (HB7.out.trans (kd.mono HB7.out.size))
                clear kd HX7 HY7 HB7
                refine wp_region_held_drew (S := fun _ => True) (by kernel_rfl) trivial (fun hHeld => ?_)
                generalize w6.drew = V at *
                refine wpAnyH_take (i := 0) (v := ?_) rfl (by kernel_rfl) (by kernel_rfl) (by kernel_rfl) (fun _ _ _ h => h) (Or.inl ⟨by rfl, ?_⟩) (by assumption) ?_
                rotate_left
                · intro w' hSw; (try dsimp only at hSw); go_simp; (try with_reducible rfl)
                (try simp only [Act.put, List.setIfInBounds_toArray, List.set_cons_zero, List.set_cons_succ, List.getElem_toArray, List.getElem_cons_succ, List.getElem_cons_zero])
                refine wpAnyH_take (i := 1) (v := ?_) rfl (by kernel_rfl) (by kernel_rfl) (by kernel_rfl) (fun _ _ _ h => h) (Or.inl ⟨by rfl, ?_⟩) (by assumption) ?_
                rotate_left
                · intro w' hSw; (try dsimp only at hSw); go_simp; (try with_reducible rfl)
                (try simp only [Act.put, List.setIfInBounds_toArray, List.set_cons_zero, List.set_cons_succ, List.getElem_toArray, List.getElem_cons_succ, List.getElem_cons_zero])
                refine wpAnyH_take (i := 3) (v := ?_) rfl (by kernel_rfl) (by kernel_rfl) (by kernel_rfl) (fun _ _ _ h => h) (Or.inl ⟨by rfl, ?_⟩) (by assumption) ?_
                rotate_left
                · intro w' hSw; (try dsimp only at hSw); go_simp; (try with_reducible rfl)
                (try simp only [Act.put, List.setIfInBounds_toArray, List.set_cons_zero, List.set_cons_succ, List.getElem_toArray, List.getElem_cons_succ, List.getElem_cons_zero])
                refine wpAnyH_take (i := 4) (v := ?_) rfl (by kernel_rfl) (by kernel_rfl) (by kernel_rfl) (fun _ _ _ h => h) (Or.inl ⟨by rfl, ?_⟩) (by assumption) ?_
                rotate_left
                · intro w' hSw; (try dsimp only at hSw); go_simp; (try with_reducible rfl)
                (try simp only [Act.put, List.setIfInBounds_toArray, List.set_cons_zero, List.set_cons_succ, List.getElem_toArray, List.getElem_cons_succ, List.getElem_cons_zero])
                refine wpAnyH_ready (rs := [2]) (by kernel_rfl) (by simp) ?_
                refine AllReadyH.cons rfl (fun K hK => ?_) (AllReadyH.nil)
                go_simp
                go_at_call 43
                refine (HDN.out _ HX8.out HB8.out).mono ?_; rintro e V1 ⟨vA, rfl, hmA, hpA⟩
                obtain ⟨BA, cA, rfl⟩ := hmA.shape
                have HXa := Lib.hid hpA.xb
                have HYa := Lib.hid (HY8.out.only hpA.only HNB.out.1.symm)
                have HBa := Lib.hid (HB8.out.trans (hpA.only.below HNB.out.2.2 HB8.out.size))
                have HMa := Lib.hid hmA
                have HLT : Hid (bx < V.heap.size) := Lib.hid HY8.out.lt
                clear hmA hpA HX8 HY8 HB8
                (try dsimp only)
                refine hK.out _ _ ?_ (fun hHeld => ?_)
                · exact trivial
                clear hK K
                (try simp only [Act.put, List.setIfInBounds_toArray, List.set_cons_zero, List.set_cons_succ, List.getElem_toArray, List.getElem_cons_succ, List.getElem_cons_zero])
                refine wpAnyH_ready (rs := [5]) (by kernel_rfl) (by simp) ?_
                refine AllReadyH.cons rfl (fun K hK => ?_) (AllReadyH.nil)
                go_simp
                go_at_call 44
                refine (HDR.out _ HYa.out).mono ?_; rintro e V2 ⟨vC, rfl, hmC, hpC⟩
                obtain ⟨BC, cC, rfl⟩ := hmC.shape
                have HYb := Lib.hid hpC.xb
                have HXb := Lib.hid (HXa.out.only hpC.only HNB.out.1)
                have HBb := Lib.hid (HBa.out.trans (hpC.only.below HNB.out.2.1 HBa.out.size))
                have HMA := Lib.hid (HMa.out.only hpC.only HLT.out)
                have HMC := Lib.hid hmC
                clear hmC hpC HXa HYa HBa HMa HLT
                (try dsimp only)
                refine hK.out _ _ ?_ (fun hHeld => ?_)
                · exact trivial
                clear hK K
                (try simp only [Act.put, List.setIfInBounds_toArray, List.set_cons_zero, List.set_cons_succ, List.getElem_toArray, List.getElem_cons_succ, List.getElem_cons_zero])
                have HMS := Lib.hid (law_messages _ _ f o (ackE o z) V2 HMA.out HMC.out)
                refine wpAnyH_ready (rs := [6]) (by kernel_rfl) (by simp) ?_
                refine AllReadyH.cons rfl (fun K hK => ?_) (AllReadyH.nil)
                go_simp
                go_at_call 36
                refine HMS.out.mono ?_; rintro e V3 ⟨rfl, k3⟩
                have HXc := Lib.hid (HXb.out.below k3)
                have HYc := Lib.hid (HYb.out.below k3)
                have HBc := Lib.hid (HBb.out.trans (k3.mono HBb.out.size))
                have y2 := HYc.out.c 2 _ rfl
                clear k3 HMS HMA HMC HXb HYb HBb
                (try dsimp only)
                refine hK.out _ _ ?_ (fun hHeld => ?_)
                · exact trivial
                clear hK K
                (try simp only [Act.put, List.setIfInBounds_toArray, List.set_cons_zero, List.set_cons_succ, List.getElem_toArray, List.getElem_cons_succ, List.getElem_cons_zero])
                refine wpAnyH_take (i := 7) (v := ?_) rfl (by kernel_rfl) (by kernel_rfl) (by kernel_rfl) (fun _ _ _ h => h) (Or.inl ⟨by rfl, ?_⟩) (by assumption) ?_
                rotate_left
                · intro w' hSw; (try dsimp only at hSw); go_simp; (try with_reducible rfl)
                (try simp only [Act.put, List.setIfInBounds_toArray, List.set_cons_zero, List.set_cons_succ, List.getElem_toArray, List.getElem_cons_succ, List.getElem_cons_zero])
                refine wpAnyH_take (i := 8) (v := ?_) rfl (by kernel_rfl) (by kernel_rfl) (by kernel_rfl) (fun _ _ _ h => h) (Or.inl ⟨by rfl, ?_⟩) (by assumption) ?_
                rotate_left
                · intro w' hSw; (try dsimp only at hSw); go_simp; (try with_reducible rfl)
                (try simp only [Act.put, List.setIfInBounds_toArray, List.set_cons_zero, List.set_cons_succ, List.getElem_toArray, List.getElem_cons_succ, List.getElem_cons_zero])
                refine wpAnyH_take (i := 9) (v := ?_) rfl (by kernel_rfl) (by kernel_rfl) (by kernel_rfl) (fun _ _ _ h => h) (Or.inl ⟨by rfl, ?_⟩) (by assumption) ?_
                rotate_left
                · intro w' hSw; (try dsimp only at hSw); go_simp; (try with_reducible rfl)
                (try simp only [Act.put, List.setIfInBounds_toArray, List.set_cons_zero, List.set_cons_succ, List.getElem_toArray, List.getElem_cons_succ, List.getElem_cons_zero])
                refine wpAnyH_take (i := 11) (v := ?_) rfl (by kernel_rfl) (by kernel_rfl) (by kernel_rfl) (fun _ _ _ h => h) (Or.inl ⟨by rfl, ?_⟩) (by assumption) ?_
                rotate_left
                · intro w' hSw; (try dsimp only at hSw); go_simp; (try with_reducible rfl)
                (try simp only [Act.put, List.setIfInBounds_toArray, List.set_cons_zero, List.set_cons_succ, List.getElem_toArray, List.getElem_cons_succ, List.getElem_cons_zero])
                refine wpAnyH_take (i := 12) (v := ?_) rfl (by kernel_rfl) (by kernel_rfl) (by kernel_rfl) (fun _ _ _ h => h) (Or.inl ⟨by rfl, ?_⟩) (by assumption) ?_
                rotate_left
                · intro w' hSw; (try dsimp only at hSw); go_simp; (try with_reducible rfl)
                (try simp only [Act.put, List.setIfInBounds_toArray, List.set_cons_zero, List.set_cons_succ, List.getElem_toArray, List.getElem_cons_succ, List.getElem_cons_zero])
                refine wpAnyH_take (i := 13) (v := ?_) rfl (by kernel_rfl) (by kernel_rfl) (by kernel_rfl) (fun _ _ _ h => h) (Or.inl ⟨by rfl, ?_⟩) (by assumption) ?_
                rotate_left
                · intro w' hSw; (try dsimp only at hSw); go_simp; (try with_reducible rfl)
                (try simp only [Act.put, List.setIfInBounds_toArray, List.set_cons_zero, List.set_cons_succ, List.getElem_toArray, List.getElem_cons_succ, List.getElem_cons_zero])
                refine wpAnyH_ready (rs := [10, 14]) (by kernel_rfl) (by simp) ?_
                refine AllReadyH.cons rfl (fun K hK => ?_) (AllReadyH.cons rfl (fun K hK => ?_) (AllReadyH.nil))
                · skip
                  go_simp
                  go_at_call 45
                  refine (st_applied b f o z V3 HXc.out).mono ?_; rintro e w' ⟨rfl, rfl⟩
                  (try dsimp only)
                  refine hK.out _ _ ?_ (fun hHeld => ?_)
                  · exact trivial
                  clear hK K
                  (try simp only [Act.put, List.setIfInBounds_toArray, List.set_cons_zero, List.set_cons_succ, List.getElem_toArray, List.getElem_cons_succ, List.getElem_cons_zero])
                  refine wpAnyH_ready (rs := [14]) (by kernel_rfl) (by simp) ?_
                  refine AllReadyH.cons rfl (fun K hK => ?_) (AllReadyH.nil)
                  go_simp
                  (try dsimp only)
                  refine hK.out _ _ ?_ (fun hHeld => ?_)
                  · exact trivial
                  clear hK K
                  (try simp only [Act.put, List.setIfInBounds_toArray, List.set_cons_zero, List.set_cons_succ, List.getElem_toArray, List.getElem_cons_succ, List.getElem_cons_zero])
                  refine wpAnyH_take (i := 15) (v := ?_) rfl (by kernel_rfl) (by kernel_rfl) (by kernel_rfl) (fun _ _ _ h => h) (Or.inl ⟨by rfl, ?_⟩) (by assumption) ?_
                  rotate_left
                  · intro w' hSw; (try dsimp only at hSw); go_simp; (try with_reducible rfl)
                  (try simp only [Act.put, List.setIfInBounds_toArray, List.set_cons_zero, List.set_cons_succ, List.getElem_toArray, List.getElem_cons_succ, List.getElem_cons_zero])
                  refine wpAnyH_take (i := 16) (v := ?_) rfl (by kernel_rfl) (by kernel_rfl) (by kernel_rfl) (fun _ _ _ h => h) (Or.inl ⟨by rfl, ?_⟩) (by assumption) ?_
                  rotate_left
                  · intro w' hSw; (try dsimp only at hSw); go_simp; (try with_reducible rfl)
                  (try simp only [Act.put, List.setIfInBounds_toArray, List.set_cons_zero, List.set_cons_succ, List.getElem_toArray, List.getElem_cons_succ, List.getElem_cons_zero])
                  refine wpAnyH_done (by kernel_rfl) ?_ _
                  go_wp2
                  go_roundw
                  case rel => exact ⟨j2 + 1, z, by omega, by omega, by go_num, HZB.out.1, HZB.out.2, HXc.out, HYc.out, HBc.out⟩
                  case measure => simp [intOf]; omega
                · skip
                  go_simp
                  (try dsimp only)
                  refine hK.out _ _ ?_ (fun hHeld => ?_)
                  · exact trivial
                  clear hK K
                  (try simp only [Act.put, List.setIfInBounds_toArray, List.set_cons_zero, List.set_cons_succ, List.getElem_toArray, List.getElem_cons_succ, List.getElem_cons_zero])
                  refine wpAnyH_ready (rs := [10]) (by kernel_rfl) (by simp) ?_
                  refine AllReadyH.cons rfl (fun K hK => ?_) (AllReadyH.nil)
                  go_simp
                  go_at_call 45
                  refine (st_applied b f o z V3 HXc.out).mono ?_; rintro e w' ⟨rfl, rfl⟩
                  (try dsimp only)
                  refine hK.out _ _ ?_ (fun hHeld => ?_)
                  · exact trivial
                  clear hK K
                  (try simp only [Act.put, List.setIfInBounds_toArray, List.set_cons_zero, List.set_cons_succ, List.getElem_toArray, List.getElem_cons_succ, List.getElem_cons_zero])
                  refine wpAnyH_take (i := 15) (v := ?_) rfl (by kernel_rfl) (by kernel_rfl) (by kernel_rfl) (fun _ _ _ h => h) (Or.inl ⟨by rfl, ?_⟩) (by assumption) ?_
                  rotate_left
                  · intro w' hSw; (try dsimp only at hSw); go_simp; (try with_reducible rfl)
                  (try simp only [Act.put, List.setIfInBounds_toArray, List.set_cons_zero, List.set_cons_succ, List.getElem_toArray, List.getElem_cons_succ, List.getElem_cons_zero])
                  refine wpAnyH_take (i := 16) (v := ?_) rfl (by kernel_rfl) (by kernel_rfl) (by kernel_rfl) (fun _ _ _ h => h) (Or.inl ⟨by rfl, ?_⟩) (by assumption) ?_
                  rotate_left
                  · intro w' hSw; (try dsimp only at hSw); go_simp; (try with_reducible rfl)
                  (try simp only [Act.put, List.setIfInBounds_toArray, List.set_cons_zero, List.set_cons_succ, List.getElem_toArray, List.getElem_cons_succ, List.getElem_cons_zero])
                  refine wpAnyH_done (by kernel_rfl) ?_ _
                  go_wp2
                  go_roundw
                  case rel => exact ⟨j2 + 1, z, by omega, by omega, by go_num, HZB.out.1, HZB.out.2, HXc.out, HYc.out, HBc.out⟩
                  case measure => simp [intOf]; omega
              · have hd' : ¬ (j2 : Int) < (dn : Int) := by omega
                obtain ⟨z, hzz⟩ : ∃ z, doneM q (q + (Y.length : Int)) = z := ⟨_, rfl⟩
                have hzb := doneM_bd (a := q) (q := q + (Y.length : Int)) ⟨hq0, hq1⟩
                rw [hzz] at hzb
                have HDN : Hid (∀ W, XB W b (inC f o q) → Below w.heap.size w W → Calls Tryd.prog 43 #[.pointer (some ⟨b, 0, none⟩), .int .i64 (q + (Y.length : Int))] W fun e w' => DoneRes b f o z W w' e) := Lib.hid (fun W q1 q2 => by
                  subst hzz
                  exact st_done b f o q (q + (Y.length : Int)) W q1 HEP.out.1 ⟨hq0, hq1⟩ (fun W' k => HT.out _ (q2.trans (k.below hbw q2.size))))
                have HDR : Hid (∀ W, XB W bx (inC f o q) → Calls Tryd.prog 44 #[.pointer (some ⟨bx, 0, none⟩), .int .i64 (q + (Y.length : Int))] W fun e w' => DoneRes bx f o z W w' e) := Lib.hid (fun W q1 => by
                  subst hzz
                  exact ref_done bx f o q (q + (Y.length : Int)) W q1 HEP.out.1 ⟨hq0, hq1⟩)
                have HZB := Lib.hid hzb
                have HNB : Hid (b ≠ bx ∧ w.heap.size ≤ bx ∧ w.heap.size ≤ b) := Lib.hid ⟨HNE.out.1, HNE.out.2, hbw⟩
                have hzn : (z != z) = false := by simp
                clear hzz hzb
                go_upto_region 26 with fail
                clear y2 e3 hyl hd'
                have kd : Below w6.heap.size w6 w6.drew := (Below.refl _ _).drew
                have HX8 := Lib.hid (HX7.out.below kd)
                have HY8 := Lib.hid (HY7.out.below kd)
                have HB8 := Lib.hid (HB7.out.trans (kd.mono HB7.out.size))
                clear kd HX7 HY7 HB7
                refine wp_region_held_drew (S := fun _ => True) (by kernel_rfl) trivial (fun hHeld => ?_)
                generalize w6.drew = V at *
                refine wpAnyH_take (i := 0) (v := ?_) rfl (by kernel_rfl) (by kernel_rfl) (by kernel_rfl) (fun _ _ _ h => h) (Or.inl ⟨by rfl, ?_⟩) (by assumption) ?_
                rotate_left
                · intro w' hSw; (try dsimp only at hSw); go_simp; (try with_reducible rfl)
                (try simp only [Act.put, List.setIfInBounds_toArray, List.set_cons_zero, List.set_cons_succ, List.getElem_toArray, List.getElem_cons_succ, List.getElem_cons_zero])
                refine wpAnyH_take (i := 1) (v := ?_) rfl (by kernel_rfl) (by kernel_rfl) (by kernel_rfl) (fun _ _ _ h => h) (Or.inl ⟨by rfl, ?_⟩) (by assumption) ?_
                rotate_left
                · intro w' hSw; (try dsimp only at hSw); go_simp; (try with_reducible rfl)
                (try simp only [Act.put, List.setIfInBounds_toArray, List.set_cons_zero, List.set_cons_succ, List.getElem_toArray, List.getElem_cons_succ, List.getElem_cons_zero])
                refine wpAnyH_take (i := 3) (v := ?_) rfl (by kernel_rfl) (by kernel_rfl) (by kernel_rfl) (fun _ _ _ h => h) (Or.inl ⟨by rfl, ?_⟩) (by assumption) ?_
                rotate_left
                · intro w' hSw; (try dsimp only at hSw); go_simp; (try with_reducible rfl)
                (try simp only [Act.put, List.setIfInBounds_toArray, List.set_cons_zero, List.set_cons_succ, List.getElem_toArray, List.getElem_cons_succ, List.getElem_cons_zero])
                refine wpAnyH_take (i := 4) (v := ?_) rfl (by kernel_rfl) (by kernel_rfl) (by kernel_rfl) (fun _ _ _ h => h) (Or.inl ⟨by rfl, ?_⟩) (by assumption) ?_
                rotate_left
                · intro w' hSw; (try dsimp only at hSw); go_simp; (try with_reducible rfl)
                (try simp only [Act.put, List.setIfInBounds_toArray, List.set_cons_zero, List.set_cons_succ, List.getElem_toArray, List.getElem_cons_succ, List.getElem_cons_zero])
                refine wpAnyH_ready (rs := [2]) (by kernel_rfl) (by simp) ?_
                refine AllReadyH.cons rfl (fun K hK => ?_) (AllReadyH.nil)
                go_simp
                go_at_call 43
                refine (HDN.out _ HX8.out HB8.out).mono ?_; rintro e V1 ⟨vA, rfl, hmA, hpA⟩
                obtain ⟨BA, cA, rfl⟩ := hmA.shape
                have HXa := Lib.hid hpA.xb
                have HYa := Lib.hid (HY8.out.only hpA.only HNB.out.1.symm)
                have HBa := Lib.hid (HB8.out.trans (hpA.only.below HNB.out.2.2 HB8.out.size))
                have HMa := Lib.hid hmA
                have HLT : Hid (bx < V.heap.size) := Lib.hid HY8.out.lt
                clear hmA hpA HX8 HY8 HB8
                (try dsimp only)
                refine hK.out _ _ ?_ (fun hHeld => ?_)
                · exact trivial
                clear hK K
                (try simp only [Act.put, List.setIfInBounds_toArray, List.set_cons_zero, List.set_cons_succ, List.getElem_toArray, List.getElem_cons_succ, List.getElem_cons_zero])
                refine wpAnyH_ready (rs := [5]) (by kernel_rfl) (by simp) ?_
                refine AllReadyH.cons rfl (fun K hK => ?_) (AllReadyH.nil)
                go_simp
                go_at_call 44
                refine (HDR.out _ HYa.out).mono ?_; rintro e V2 ⟨vC, rfl, hmC, hpC⟩
                obtain ⟨BC, cC, rfl⟩ := hmC.shape
                have HYb := Lib.hid hpC.xb
                have HXb := Lib.hid (HXa.out.only hpC.only HNB.out.1)
                have HBb := Lib.hid (HBa.out.trans (hpC.only.below HNB.out.2.1 HBa.out.size))
                have HMA := Lib.hid (HMa.out.only hpC.only HLT.out)
                have HMC := Lib.hid hmC
                clear hmC hpC HXa HYa HBa HMa HLT
                (try dsimp only)
                refine hK.out _ _ ?_ (fun hHeld => ?_)
                · exact trivial
                clear hK K
                (try simp only [Act.put, List.setIfInBounds_toArray, List.set_cons_zero, List.set_cons_succ, List.getElem_toArray, List.getElem_cons_succ, List.getElem_cons_zero])
                have HMS := Lib.hid (law_messages _ _ f o (ackE o z) V2 HMA.out HMC.out)
                refine wpAnyH_ready (rs := [6]) (by kernel_rfl) (by simp) ?_
                refine AllReadyH.cons rfl (fun K hK => ?_) (AllReadyH.nil)
                go_simp
                go_at_call 36
                refine HMS.out.mono ?_; rintro e V3 ⟨rfl, k3⟩
                have HXc := Lib.hid (HXb.out.below k3)
                have HYc := Lib.hid (HYb.out.below k3)
                have HBc := Lib.hid (HBb.out.trans (k3.mono HBb.out.size))
                have y2 := HYc.out.c 2 _ rfl
                clear k3 HMS HMA HMC HXb HYb HBb
                (try dsimp only)
                refine hK.out _ _ ?_ (fun hHeld => ?_)
                · exact trivial
                clear hK K
                (try simp only [Act.put, List.setIfInBounds_toArray, List.set_cons_zero, List.set_cons_succ, List.getElem_toArray, List.getElem_cons_succ, List.getElem_cons_zero])
                refine wpAnyH_take (i := 7) (v := ?_) rfl (by kernel_rfl) (by kernel_rfl) (by kernel_rfl) (fun _ _ _ h => h) (Or.inl ⟨by rfl, ?_⟩) (by assumption) ?_
                rotate_left
                · intro w' hSw; (try dsimp only at hSw); go_simp; (try with_reducible rfl)
                (try simp only [Act.put, List.setIfInBounds_toArray, List.set_cons_zero, List.set_cons_succ, List.getElem_toArray, List.getElem_cons_succ, List.getElem_cons_zero])
                refine wpAnyH_take (i := 8) (v := ?_) rfl (by kernel_rfl) (by kernel_rfl) (by kernel_rfl) (fun _ _ _ h => h) (Or.inl ⟨by rfl, ?_⟩) (by assumption) ?_
                rotate_left
                · intro w' hSw; (try dsimp only at hSw); go_simp; (try with_reducible rfl)
                (try simp only [Act.put, List.setIfInBounds_toArray, List.set_cons_zero, List.set_cons_succ, List.getElem_toArray, List.getElem_cons_succ, List.getElem_cons_zero])
                refine wpAnyH_take (i := 9) (v := ?_) rfl (by kernel_rfl) (by kernel_rfl) (by kernel_rfl) (fun _ _ _ h => h) (Or.inl ⟨by rfl, ?_⟩) (by assumption) ?_
                rotate_left
                · intro w' hSw; (try dsimp only at hSw); go_simp; (try with_reducible rfl)
                (try simp only [Act.put, List.setIfInBounds_toArray, List.set_cons_zero, List.set_cons_succ, List.getElem_toArray, List.getElem_cons_succ, List.getElem_cons_zero])
                refine wpAnyH_take (i := 11) (v := ?_) rfl (by kernel_rfl) (by kernel_rfl) (by kernel_rfl) (fun _ _ _ h => h) (Or.inl ⟨by rfl, ?_⟩) (by assumption) ?_
                rotate_left
                · intro w' hSw; (try dsimp only at hSw); go_simp; (try with_reducible rfl)
                (try simp only [Act.put, List.setIfInBounds_toArray, List.set_cons_zero, List.set_cons_succ, List.getElem_toArray, List.getElem_cons_succ, List.getElem_cons_zero])
                refine wpAnyH_take (i := 12) (v := ?_) rfl (by kernel_rfl) (by kernel_rfl) (by kernel_rfl) (fun _ _ _ h => h) (Or.inl ⟨by rfl, ?_⟩) (by assumption) ?_
                rotate_left
                · intro w' hSw; (try dsimp only at hSw); go_simp; (try with_reducible rfl)
                (try simp only [Act.put, List.setIfInBounds_toArray, List.set_cons_zero, List.set_cons_succ, List.getElem_toArray, List.getElem_cons_succ, List.getElem_cons_zero])
                refine wpAnyH_take (i := 13) (v := ?_) rfl (by kernel_rfl) (by kernel_rfl) (by kernel_rfl) (fun _ _ _ h => h) (Or.inl ⟨by rfl, ?_⟩) (by assumption) ?_
                rotate_left
                · intro w' hSw; (try dsimp only at hSw); go_simp; (try with_reducible rfl)
                (try simp only [Act.put, List.setIfInBounds_toArray, List.set_cons_zero, List.set_cons_succ, List.getElem_toArray, List.getElem_cons_succ, List.getElem_cons_zero])
                refine wpAnyH_ready (rs := [10, 14]) (by kernel_rfl) (by simp) ?_
                refine AllReadyH.cons rfl (fun K hK => ?_) (AllReadyH.cons rfl (fun K hK => ?_) (AllReadyH.nil))
                · skip
                  go_simp
                  go_at_call 45
                  refine (st_applied b f o z V3 HXc.out).mono ?_; rintro e w' ⟨rfl, rfl⟩
                  (try dsimp only)
                  refine hK.out _ _ ?_ (fun hHeld => ?_)
                  · exact trivial
                  clear hK K
                  (try simp only [Act.put, List.setIfInBounds_toArray, List.set_cons_zero, List.set_cons_succ, List.getElem_toArray, List.getElem_cons_succ, List.getElem_cons_zero])
                  refine wpAnyH_ready (rs := [14]) (by kernel_rfl) (by simp) ?_
                  refine AllReadyH.cons rfl (fun K hK => ?_) (AllReadyH.nil)
                  go_simp
                  (try dsimp only)
                  refine hK.out _ _ ?_ (fun hHeld => ?_)
                  · exact trivial
                  clear hK K
                  (try simp only [Act.put, List.setIfInBounds_toArray, List.set_cons_zero, List.set_cons_succ, List.getElem_toArray, List.getElem_cons_succ, List.getElem_cons_zero])
                  refine wpAnyH_take (i := 15) (v := ?_) rfl (by kernel_rfl) (by kernel_rfl) (by kernel_rfl) (fun _ _ _ h => h) (Or.inl ⟨by rfl, ?_⟩) (by assumption) ?_
                  rotate_left
                  · intro w' hSw; (try dsimp only at hSw); go_simp; (try with_reducible rfl)
                  (try simp only [Act.put, List.setIfInBounds_toArray, List.set_cons_zero, List.set_cons_succ, List.getElem_toArray, List.getElem_cons_succ, List.getElem_cons_zero])
                  refine wpAnyH_take (i := 16) (v := ?_) rfl (by kernel_rfl) (by kernel_rfl) (by kernel_rfl) (fun _ _ _ h => h) (Or.inl ⟨by rfl, ?_⟩) (by assumption) ?_
                  rotate_left
                  · intro w' hSw; (try dsimp only at hSw); go_simp; (try with_reducible rfl)
                  (try simp only [Act.put, List.setIfInBounds_toArray, List.set_cons_zero, List.set_cons_succ, List.getElem_toArray, List.getElem_cons_succ, List.getElem_cons_zero])
                  refine wpAnyH_done (by kernel_rfl) ?_ _
                  go_wp2
                  go_roundw
                  case rel => exact ⟨j2 + 1, z, by omega, by omega, by go_num, HZB.out.1, HZB.out.2, HXc.out, HYc.out, HBc.out⟩
                  case measure => simp [intOf]; omega
                · skip
                  go_simp
                  (try dsimp only)
                  refine hK.out _ _ ?_ (fun hHeld => ?_)
                  · exact trivial
                  clear hK K
                  (try simp only [Act.put, List.setIfInBounds_toArray, List.set_cons_zero, List.set_cons_succ, List.getElem_toArray, List.getElem_cons_succ, List.getElem_cons_zero])
                  refine wpAnyH_ready (rs := [10]) (by kernel_rfl) (by simp) ?_
                  refine AllReadyH.cons rfl (fun K hK => ?_) (AllReadyH.nil)
                  go_simp
                  go_at_call 45
                  refine (st_applied b f o z V3 HXc.out).mono ?_; rintro e w' ⟨rfl, rfl⟩
                  (try dsimp only)
                  refine hK.out _ _ ?_ (fun hHeld => ?_)
                  · exact trivial
                  clear hK K
                  (try simp only [Act.put, List.setIfInBounds_toArray, List.set_cons_zero, List.set_cons_succ, List.getElem_toArray, List.getElem_cons_succ, List.getElem_cons_zero])
                  refine wpAnyH_take (i := 15) (v := ?_) rfl (by kernel_rfl) (by kernel_rfl) (by kernel_rfl) (fun _ _ _ h => h) (Or.inl ⟨by rfl, ?_⟩) (by assumption) ?_
                  rotate_left
                  · intro w' hSw; (try dsimp only at hSw); go_simp; (try with_reducible rfl)
                  (try simp only [Act.put, List.setIfInBounds_toArray, List.set_cons_zero, List.set_cons_succ, List.getElem_toArray, List.getElem_cons_succ, List.getElem_cons_zero])
                  refine wpAnyH_take (i := 16) (v := ?_) rfl (by kernel_rfl) (by kernel_rfl) (by kernel_rfl) (fun _ _ _ h => h) (Or.inl ⟨by rfl, ?_⟩) (by assumption) ?_
                  rotate_left
                  · intro w' hSw; (try dsimp only at hSw); go_simp; (try with_reducible rfl)
                  (try simp only [Act.put, List.setIfInBounds_toArray, List.set_cons_zero, List.set_cons_succ, List.getElem_toArray, List.getElem_cons_succ, List.getElem_cons_zero])
                  refine wpAnyH_done (by kernel_rfl) ?_ _
                  go_wp2
                  go_roundw
                  case rel => exact ⟨j2 + 1, z, by omega, by omega, by go_num, HZB.out.1, HZB.out.2, HXc.out, HYc.out, HBc.out⟩
                  case measure => simp [intOf]; omega
            · skip
              go_wp2_with fail
              generalize hw3 : wr.alloc (.cells #[] 89) = w3 at *
              clear hw3
              have HB4 := Lib.hid (HB.out.trans (HK3.out.mono HB.out.size))
              have HX4 := Lib.hid (HX.out.below HK3.out)
              have HY4 := Lib.hid (HY.out.below HK3.out)
              have HTK : Hid (Calls Tryd.prog 40 #[.pointer (some ⟨b, 0, none⟩), .slice (some ⟨wr.heap.size, 0, none⟩) 0 0] w3 fun e w' => TakeR o q (([] : List Mr).map Mr.r) w3 w' e) := Lib.hid (st_take b f o q _ _ ([] : List Mr) w3 HX4.out HR3.out (fun m hm => ((HXI.out.ins m hm).at_.below HB4.out)) (by first | omega | simp) ⟨hq0, hq1⟩)
              clear HX HY HB HK3 HR3
              refine HTK.out.mono ?_; rintro e w4 ⟨v4, Z, rfl, hT4, hZ⟩
              have HB5 := Lib.hid (HB4.out.trans (hT4.bel.mono HB4.out.size))
              have HX5 := Lib.hid (HX4.out.below hT4.bel)
              have HY5 := Lib.hid (HY4.out.below hT4.bel)
              have HT4 := Lib.hid hT4
              have HZ := Lib.hid hZ
              obtain ⟨A4, c4, rfl⟩ := hT4.shape
              have hrc : w4.cell? ⟨B, O + j2, none⟩ = some (.slice (some ad) ([] : List Mr).length xc) := (HB5.out.cell (p := ⟨B, O + j2, none⟩) HBL.out).trans HCC.out
              have HTR : Hid (Calls Tryd.prog 41 #[.pointer (some ⟨bx, 0, none⟩), .slice (some ad) ([] : List Mr).length xc] w4 fun e w' => TakeR o q (([] : List Mr).map Mr.r) w4 w' e) := Lib.hid (ref_take bx f o q _ _ ([] : List Mr) w4 HY5.out (HXI.out.below HB5.out).row (fun m hm => ((HXI.out.ins m hm).at_.below HB5.out)) (by first | omega | simp) ⟨hq0, hq1⟩)
              clear hT4 hZ HTK HX4 HY4 HB4
              go_wp2_with fail
              refine HTR.out.mono ?_; rintro e w5 ⟨v5, Y, rfl, hT5, hY⟩
              have HB6 := Lib.hid (HB5.out.trans (hT5.bel.mono HB5.out.size))
              have HX6 := Lib.hid (HX5.out.below hT5.bel)
              have HY6 := Lib.hid (HY5.out.below hT5.bel)
              have hT45 := HT4.out.below hT5.bel
              have HYL : Hid (Y.length ≤ 400) := Lib.hid (by
                have h := takeS_len (o := o) (a := q) (rs := ([] : List Mr).map Mr.r) (acc := [])
                rw [← hY] at h
                simp only [List.length_map, List.length_nil] at h
                omega)
              have hby : ∀ (Q : List Mr), Q.map Mr.r = takeS o q [] (([] : List Mr).map Mr.r) → ∀ m ∈ Q, isBy m.r.key ∧ isBy m.r.val := fun Q hQ m hm => by
                have h := List.mem_map_of_mem (f := Mr.r) hm
                rw [hQ] at h
                rcases takeS_mem h with h | h
                · cases h
                · obtain ⟨m', hm', e⟩ := List.mem_map.1 h
                  rw [← e]
                  exact ⟨(HXI.out.ins m' hm').key, (HXI.out.ins m' hm').val⟩
              have HEQ : Hid (Z.map Mr.r = Y.map Mr.r) := Lib.hid (HZ.out.trans hY.symm)
              have HRC := Lib.hid (law_recs18 (.slice A4 Z.length c4) v5 Z Y w5 hT45.rowAt hT5.rowAt hT45.at_ hT5.at_ (fun m hm => (hby Z HZ.out m hm).2) (fun m hm => (hby Z HZ.out m hm).1) (hby Y hY) (by have h := congrArg List.length HEQ.out; simp only [List.length_map] at h; have := HYL.out; omega))
              obtain ⟨A5, c5, rfl⟩ := hT5.shape
              clear hT5 hY hT45 hby HTR HX5 HY5 HB5 hrc HT4 HZ
              go_wp2_with fail
              refine HRC.out.mono ?_; rintro e w6 ⟨⟨b6, rfl, hb6⟩, k6⟩
              obtain rfl : b6 = true := hb6.2 HEQ.out
              have HB7 := Lib.hid (HB6.out.trans (k6.mono HB6.out.size))
              have HX7 := Lib.hid (HX6.out.below k6)
              have HY7 := Lib.hid (HY6.out.below k6)
              have y2 := HY7.out.c 2 _ rfl
              have hyl := HYL.out
              have e3 : IntKind.i64.wrap (q + (Y.length : Int)) = q + (Y.length : Int) := IntWalk.i64_in _ (by omega)
              clear hb6 k6 HRC HEQ HX6 HY6 HB6
              by_cases hd : j2 < dn
              · have hd' : (j2 : Int) < (dn : Int) := by omega
                obtain ⟨DB, DO, rfl, hDB, hdc⟩ := HD.out (by omega)
                have hdv : w6.cell? ⟨DB, DO + j2, none⟩ = some (.int .i64 (dz j2)) := (HB7.out.cell (p := ⟨DB, DO + j2, none⟩) hDB).trans (hdc j2 hd).1
                clear hdc hDB
                generalize dz j2 = d at *
                obtain ⟨z, hzz⟩ : ∃ z, doneM q d = z := ⟨_, rfl⟩
                have hzb := doneM_bd (a := q) (q := d) ⟨hq0, hq1⟩
                rw [hzz] at hzb
                have HDN : Hid (∀ W, XB W b (inC f o q) → Below w.heap.size w W → Calls Tryd.prog 43 #[.pointer (some ⟨b, 0, none⟩), .int .i64 d] W fun e w' => DoneRes b f o z W w' e) := Lib.hid (fun W q1 q2 => by
                  subst hzz
                  exact st_done b f o q d W q1 HEP.out.1 ⟨hq0, hq1⟩ (fun W' k => HT.out _ (q2.trans (k.below hbw q2.size))))
                have HDR : Hid (∀ W, XB W bx (inC f o q) → Calls Tryd.prog 44 #[.pointer (some ⟨bx, 0, none⟩), .int .i64 d] W fun e w' => DoneRes bx f o z W w' e) := Lib.hid (fun W q1 => by
                  subst hzz
                  exact ref_done bx f o q d W q1 HEP.out.1 ⟨hq0, hq1⟩)
                have HZB := Lib.hid hzb
                have HNB : Hid (b ≠ bx ∧ w.heap.size ≤ bx ∧ w.heap.size ≤ b) := Lib.hid ⟨HNE.out.1, HNE.out.2, hbw⟩
                have hzn : (z != z) = false := by simp
                clear hzz hzb
                go_upto_region 26 with fail
                clear y2 e3 hyl hd'
                have kd : Below w6.heap.size w6 w6.drew := (Below.refl _ _).drew
                have HX8 := Lib.hid (HX7.out.below kd)
                have HY8 := Lib.hid (HY7.out.below kd)
                have HB8 := Lib.hid (HB7.out.trans (kd.mono HB7.out.size))
                clear kd HX7 HY7 HB7
                refine wp_region_held_drew (S := fun _ => True) (by kernel_rfl) trivial (fun hHeld => ?_)
                generalize w6.drew = V at *
                refine wpAnyH_take (i := 0) (v := ?_) rfl (by kernel_rfl) (by kernel_rfl) (by kernel_rfl) (fun _ _ _ h => h) (Or.inl ⟨by rfl, ?_⟩) (by assumption) ?_
                rotate_left
                · intro w' hSw; (try dsimp only at hSw); go_simp; (try with_reducible rfl)
                (try simp only [Act.put, List.setIfInBounds_toArray, List.set_cons_zero, List.set_cons_succ, List.getElem_toArray, List.getElem_cons_succ, List.getElem_cons_zero])
                refine wpAnyH_take (i := 1) (v := ?_) rfl (by kernel_rfl) (by kernel_rfl) (by kernel_rfl) (fun _ _ _ h => h) (Or.inl ⟨by rfl, ?_⟩) (by assumption) ?_
                rotate_left
                · intro w' hSw; (try dsimp only at hSw); go_simp; (try with_reducible rfl)
                (try simp only [Act.put, List.setIfInBounds_toArray, List.set_cons_zero, List.set_cons_succ, List.getElem_toArray, List.getElem_cons_succ, List.getElem_cons_zero])
                refine wpAnyH_take (i := 3) (v := ?_) rfl (by kernel_rfl) (by kernel_rfl) (by kernel_rfl) (fun _ _ _ h => h) (Or.inl ⟨by rfl, ?_⟩) (by assumption) ?_
                rotate_left
                · intro w' hSw; (try dsimp only at hSw); go_simp; (try with_reducible rfl)
                (try simp only [Act.put, List.setIfInBounds_toArray, List.set_cons_zero, List.set_cons_succ, List.getElem_toArray, List.getElem_cons_succ, List.getElem_cons_zero])
                refine wpAnyH_take (i := 4) (v := ?_) rfl (by kernel_rfl) (by kernel_rfl) (by kernel_rfl) (fun _ _ _ h => h) (Or.inl ⟨by rfl, ?_⟩) (by assumption) ?_
                rotate_left
                · intro w' hSw; (try dsimp only at hSw); go_simp; (try with_reducible rfl)
                (try simp only [Act.put, List.setIfInBounds_toArray, List.set_cons_zero, List.set_cons_succ, List.getElem_toArray, List.getElem_cons_succ, List.getElem_cons_zero])
                refine wpAnyH_ready (rs := [2]) (by kernel_rfl) (by simp) ?_
                refine AllReadyH.cons rfl (fun K hK => ?_) (AllReadyH.nil)
                go_simp
                go_at_call 43
                refine (HDN.out _ HX8.out HB8.out).mono ?_; rintro e V1 ⟨vA, rfl, hmA, hpA⟩
                obtain ⟨BA, cA, rfl⟩ := hmA.shape
                have HXa := Lib.hid hpA.xb
                have HYa := Lib.hid (HY8.out.only hpA.only HNB.out.1.symm)
                have HBa := Lib.hid (HB8.out.trans (hpA.only.below HNB.out.2.2 HB8.out.size))
                have HMa := Lib.hid hmA
                have HLT : Hid (bx < V.heap.size) := Lib.hid HY8.out.lt
                clear hmA hpA HX8 HY8 HB8
                (try dsimp only)
                refine hK.out _ _ ?_ (fun hHeld => ?_)
                · exact trivial
                clear hK K
                (try simp only [Act.put, List.setIfInBounds_toArray, List.set_cons_zero, List.set_cons_succ, List.getElem_toArray, List.getElem_cons_succ, List.getElem_cons_zero])
                refine wpAnyH_ready (rs := [5]) (by kernel_rfl) (by simp) ?_
                refine AllReadyH.cons rfl (fun K hK => ?_) (AllReadyH.nil)
                go_simp
                go_at_call 44
                refine (HDR.out _ HYa.out).mono ?_; rintro e V2 ⟨vC, rfl, hmC, hpC⟩
                obtain ⟨BC, cC, rfl⟩ := hmC.shape
                have HYb := Lib.hid hpC.xb
                have HXb := Lib.hid (HXa.out.only hpC.only HNB.out.1)
                have HBb := Lib.hid (HBa.out.trans (hpC.only.below HNB.out.2.1 HBa.out.size))
                have HMA := Lib.hid (HMa.out.only hpC.only HLT.out)
                have HMC := Lib.hid hmC
                clear hmC hpC HXa HYa HBa HMa HLT
                (try dsimp only)
                refine hK.out _ _ ?_ (fun hHeld => ?_)
                · exact trivial
                clear hK K
                (try simp only [Act.put, List.setIfInBounds_toArray, List.set_cons_zero, List.set_cons_succ, List.getElem_toArray, List.getElem_cons_succ, List.getElem_cons_zero])
                have HMS := Lib.hid (law_messages _ _ f o (ackE o z) V2 HMA.out HMC.out)
                refine wpAnyH_ready (rs := [6]) (by kernel_rfl) (by simp) ?_
                refine AllReadyH.cons rfl (fun K hK => ?_) (AllReadyH.nil)
                go_simp
                go_at_call 36
                refine HMS.out.mono ?_; rintro e V3 ⟨rfl, k3⟩
                have HXc := Lib.hid (HXb.out.below k3)
                have HYc := Lib.hid (HYb.out.below k3)
                have HBc := Lib.hid (HBb.out.trans (k3.mono HBb.out.size))
                have y2 := HYc.out.c 2 _ rfl
                clear k3 HMS HMA HMC HXb HYb HBb
                (try dsimp only)
                refine hK.out _ _ ?_ (fun hHeld => ?_)
                · exact trivial
                clear hK K
                (try simp only [Act.put, List.setIfInBounds_toArray, List.set_cons_zero, List.set_cons_succ, List.getElem_toArray, List.getElem_cons_succ, List.getElem_cons_zero])
                refine wpAnyH_take (i := 7) (v := ?_) rfl (by kernel_rfl) (by kernel_rfl) (by kernel_rfl) (fun _ _ _ h => h) (Or.inl ⟨by rfl, ?_⟩) (by assumption) ?_
                rotate_left
                · intro w' hSw; (try dsimp only at hSw); go_simp; (try with_reducible rfl)
                (try simp only [Act.put, List.setIfInBounds_toArray, List.set_cons_zero, List.set_cons_succ, List.getElem_toArray, List.getElem_cons_succ, List.getElem_cons_zero])
                refine wpAnyH_take (i := 8) (v := ?_) rfl (by kernel_rfl) (by kernel_rfl) (by kernel_rfl) (fun _ _ _ h => h) (Or.inl ⟨by rfl, ?_⟩) (by assumption) ?_
                rotate_left
                · intro w' hSw; (try dsimp only at hSw); go_simp; (try with_reducible rfl)
                (try simp only [Act.put, List.setIfInBounds_toArray, List.set_cons_zero, List.set_cons_succ, List.getElem_toArray, List.getElem_cons_succ, List.getElem_cons_zero])
                refine wpAnyH_take (i := 9) (v := ?_) rfl (by kernel_rfl) (by kernel_rfl) (by kernel_rfl) (fun _ _ _ h => h) (Or.inl ⟨by rfl, ?_⟩) (by assumption) ?_
                rotate_left
                · intro w' hSw; (try dsimp only at hSw); go_simp; (try with_reducible rfl)
                (try simp only [Act.put, List.setIfInBounds_toArray, List.set_cons_zero, List.set_cons_succ, List.getElem_toArray, List.getElem_cons_succ, List.getElem_cons_zero])
                refine wpAnyH_take (i := 11) (v := ?_) rfl (by kernel_rfl) (by kernel_rfl) (by kernel_rfl) (fun _ _ _ h => h) (Or.inl ⟨by rfl, ?_⟩) (by assumption) ?_
                rotate_left
                · intro w' hSw; (try dsimp only at hSw); go_simp; (try with_reducible rfl)
                (try simp only [Act.put, List.setIfInBounds_toArray, List.set_cons_zero, List.set_cons_succ, List.getElem_toArray, List.getElem_cons_succ, List.getElem_cons_zero])
                refine wpAnyH_take (i := 12) (v := ?_) rfl (by kernel_rfl) (by kernel_rfl) (by kernel_rfl) (fun _ _ _ h => h) (Or.inl ⟨by rfl, ?_⟩) (by assumption) ?_
                rotate_left
                · intro w' hSw; (try dsimp only at hSw); go_simp; (try with_reducible rfl)
                (try simp only [Act.put, List.setIfInBounds_toArray, List.set_cons_zero, List.set_cons_succ, List.getElem_toArray, List.getElem_cons_succ, List.getElem_cons_zero])
                refine wpAnyH_take (i := 13) (v := ?_) rfl (by kernel_rfl) (by kernel_rfl) (by kernel_rfl) (fun _ _ _ h => h) (Or.inl ⟨by rfl, ?_⟩) (by assumption) ?_
                rotate_left
                · intro w' hSw; (try dsimp only at hSw); go_simp; (try with_reducible rfl)
                (try simp only [Act.put, List.setIfInBounds_toArray, List.set_cons_zero, List.set_cons_succ, List.getElem_toArray, List.getElem_cons_succ, List.getElem_cons_zero])
                refine wpAnyH_ready (rs := [10, 14]) (by kernel_rfl) (by simp) ?_
                refine AllReadyH.cons rfl (fun K hK => ?_) (AllReadyH.cons rfl (fun K hK => ?_) (AllReadyH.nil))
                · skip
                  go_simp
                  go_at_call 45
                  refine (st_applied b f o z V3 HXc.out).mono ?_; rintro e w' ⟨rfl, rfl⟩
                  (try dsimp only)
                  refine hK.out _ _ ?_ (fun hHeld => ?_)
                  · exact trivial
                  clear hK K
                  (try simp only [Act.put, List.setIfInBounds_toArray, List.set_cons_zero, List.set_cons_succ, List.getElem_toArray, List.getElem_cons_succ, List.getElem_cons_zero])
                  refine wpAnyH_ready (rs := [14]) (by kernel_rfl) (by simp) ?_
                  refine AllReadyH.cons rfl (fun K hK => ?_) (AllReadyH.nil)
                  go_simp
                  (try dsimp only)
                  refine hK.out _ _ ?_ (fun hHeld => ?_)
                  · exact trivial
                  clear hK K
                  (try simp only [Act.put, List.setIfInBounds_toArray, List.set_cons_zero, List.set_cons_succ, List.getElem_toArray, List.getElem_cons_succ, List.getElem_cons_zero])
                  refine wpAnyH_take (i := 15) (v := ?_) rfl (by kernel_rfl) (by kernel_rfl) (by kernel_rfl) (fun _ _ _ h => h) (Or.inl ⟨by rfl, ?_⟩) (by assumption) ?_
                  rotate_left
                  · intro w' hSw; (try dsimp only at hSw); go_simp; (try with_reducible rfl)
                  (try simp only [Act.put, List.setIfInBounds_toArray, List.set_cons_zero, List.set_cons_succ, List.getElem_toArray, List.getElem_cons_succ, List.getElem_cons_zero])
                  refine wpAnyH_take (i := 16) (v := ?_) rfl (by kernel_rfl) (by kernel_rfl) (by kernel_rfl) (fun _ _ _ h => h) (Or.inl ⟨by rfl, ?_⟩) (by assumption) ?_
                  rotate_left
                  · intro w' hSw; (try dsimp only at hSw); go_simp; (try with_reducible rfl)
                  (try simp only [Act.put, List.setIfInBounds_toArray, List.set_cons_zero, List.set_cons_succ, List.getElem_toArray, List.getElem_cons_succ, List.getElem_cons_zero])
                  refine wpAnyH_done (by kernel_rfl) ?_ _
                  go_wp2
                  go_roundw
                  case rel => exact ⟨j2 + 1, z, by omega, by omega, by go_num, HZB.out.1, HZB.out.2, HXc.out, HYc.out, HBc.out⟩
                  case measure => simp [intOf]; omega
                · skip
                  go_simp
                  (try dsimp only)
                  refine hK.out _ _ ?_ (fun hHeld => ?_)
                  · exact trivial
                  clear hK K
                  (try simp only [Act.put, List.setIfInBounds_toArray, List.set_cons_zero, List.set_cons_succ, List.getElem_toArray, List.getElem_cons_succ, List.getElem_cons_zero])
                  refine wpAnyH_ready (rs := [10]) (by kernel_rfl) (by simp) ?_
                  refine AllReadyH.cons rfl (fun K hK => ?_) (AllReadyH.nil)
                  go_simp
                  go_at_call 45
                  refine (st_applied b f o z V3 HXc.out).mono ?_; rintro e w' ⟨rfl, rfl⟩
                  (try dsimp only)
                  refine hK.out _ _ ?_ (fun hHeld => ?_)
                  · exact trivial
                  clear hK K
                  (try simp only [Act.put, List.setIfInBounds_toArray, List.set_cons_zero, List.set_cons_succ, List.getElem_toArray, List.getElem_cons_succ, List.getElem_cons_zero])
                  refine wpAnyH_take (i := 15) (v := ?_) rfl (by kernel_rfl) (by kernel_rfl) (by kernel_rfl) (fun _ _ _ h => h) (Or.inl ⟨by rfl, ?_⟩) (by assumption) ?_
                  rotate_left
                  · intro w' hSw; (try dsimp only at hSw); go_simp; (try with_reducible rfl)
                  (try simp only [Act.put, List.setIfInBounds_toArray, List.set_cons_zero, List.set_cons_succ, List.getElem_toArray, List.getElem_cons_succ, List.getElem_cons_zero])
                  refine wpAnyH_take (i := 16) (v := ?_) rfl (by kernel_rfl) (by kernel_rfl) (by kernel_rfl) (fun _ _ _ h => h) (Or.inl ⟨by rfl, ?_⟩) (by assumption) ?_
                  rotate_left
                  · intro w' hSw; (try dsimp only at hSw); go_simp; (try with_reducible rfl)
                  (try simp only [Act.put, List.setIfInBounds_toArray, List.set_cons_zero, List.set_cons_succ, List.getElem_toArray, List.getElem_cons_succ, List.getElem_cons_zero])
                  refine wpAnyH_done (by kernel_rfl) ?_ _
                  go_wp2
                  go_roundw
                  case rel => exact ⟨j2 + 1, z, by omega, by omega, by go_num, HZB.out.1, HZB.out.2, HXc.out, HYc.out, HBc.out⟩
                  case measure => simp [intOf]; omega
              · have hd' : ¬ (j2 : Int) < (dn : Int) := by omega
                obtain ⟨z, hzz⟩ : ∃ z, doneM q (q + (Y.length : Int)) = z := ⟨_, rfl⟩
                have hzb := doneM_bd (a := q) (q := q + (Y.length : Int)) ⟨hq0, hq1⟩
                rw [hzz] at hzb
                have HDN : Hid (∀ W, XB W b (inC f o q) → Below w.heap.size w W → Calls Tryd.prog 43 #[.pointer (some ⟨b, 0, none⟩), .int .i64 (q + (Y.length : Int))] W fun e w' => DoneRes b f o z W w' e) := Lib.hid (fun W q1 q2 => by
                  subst hzz
                  exact st_done b f o q (q + (Y.length : Int)) W q1 HEP.out.1 ⟨hq0, hq1⟩ (fun W' k => HT.out _ (q2.trans (k.below hbw q2.size))))
                have HDR : Hid (∀ W, XB W bx (inC f o q) → Calls Tryd.prog 44 #[.pointer (some ⟨bx, 0, none⟩), .int .i64 (q + (Y.length : Int))] W fun e w' => DoneRes bx f o z W w' e) := Lib.hid (fun W q1 => by
                  subst hzz
                  exact ref_done bx f o q (q + (Y.length : Int)) W q1 HEP.out.1 ⟨hq0, hq1⟩)
                have HZB := Lib.hid hzb
                have HNB : Hid (b ≠ bx ∧ w.heap.size ≤ bx ∧ w.heap.size ≤ b) := Lib.hid ⟨HNE.out.1, HNE.out.2, hbw⟩
                have hzn : (z != z) = false := by simp
                clear hzz hzb
                go_upto_region 26 with fail
                clear y2 e3 hyl hd'
                have kd : Below w6.heap.size w6 w6.drew := (Below.refl _ _).drew
                have HX8 := Lib.hid (HX7.out.below kd)
                have HY8 := Lib.hid (HY7.out.below kd)
                have HB8 := Lib.hid (HB7.out.trans (kd.mono HB7.out.size))
                clear kd HX7 HY7 HB7
                refine wp_region_held_drew (S := fun _ => True) (by kernel_rfl) trivial (fun hHeld => ?_)
                generalize w6.drew = V at *
                refine wpAnyH_take (i := 0) (v := ?_) rfl (by kernel_rfl) (by kernel_rfl) (by kernel_rfl) (fun _ _ _ h => h) (Or.inl ⟨by rfl, ?_⟩) (by assumption) ?_
                rotate_left
                · intro w' hSw; (try dsimp only at hSw); go_simp; (try with_reducible rfl)
                (try simp only [Act.put, List.setIfInBounds_toArray, List.set_cons_zero, List.set_cons_succ, List.getElem_toArray, List.getElem_cons_succ, List.getElem_cons_zero])
                refine wpAnyH_take (i := 1) (v := ?_) rfl (by kernel_rfl) (by kernel_rfl) (by kernel_rfl) (fun _ _ _ h => h) (Or.inl ⟨by rfl, ?_⟩) (by assumption) ?_
                rotate_left
                · intro w' hSw; (try dsimp only at hSw); go_simp; (try with_reducible rfl)
                (try simp only [Act.put, List.setIfInBounds_toArray, List.set_cons_zero, List.set_cons_succ, List.getElem_toArray, List.getElem_cons_succ, List.getElem_cons_zero])
                refine wpAnyH_take (i := 3) (v := ?_) rfl (by kernel_rfl) (by kernel_rfl) (by kernel_rfl) (fun _ _ _ h => h) (Or.inl ⟨by rfl, ?_⟩) (by assumption) ?_
                rotate_left
                · intro w' hSw; (try dsimp only at hSw); go_simp; (try with_reducible rfl)
                (try simp only [Act.put, List.setIfInBounds_toArray, List.set_cons_zero, List.set_cons_succ, List.getElem_toArray, List.getElem_cons_succ, List.getElem_cons_zero])
                refine wpAnyH_take (i := 4) (v := ?_) rfl (by kernel_rfl) (by kernel_rfl) (by kernel_rfl) (fun _ _ _ h => h) (Or.inl ⟨by rfl, ?_⟩) (by assumption) ?_
                rotate_left
                · intro w' hSw; (try dsimp only at hSw); go_simp; (try with_reducible rfl)
                (try simp only [Act.put, List.setIfInBounds_toArray, List.set_cons_zero, List.set_cons_succ, List.getElem_toArray, List.getElem_cons_succ, List.getElem_cons_zero])
                refine wpAnyH_ready (rs := [2]) (by kernel_rfl) (by simp) ?_
                refine AllReadyH.cons rfl (fun K hK => ?_) (AllReadyH.nil)
                go_simp
                go_at_call 43
                refine (HDN.out _ HX8.out HB8.out).mono ?_; rintro e V1 ⟨vA, rfl, hmA, hpA⟩
                obtain ⟨BA, cA, rfl⟩ := hmA.shape
                have HXa := Lib.hid hpA.xb
                have HYa := Lib.hid (HY8.out.only hpA.only HNB.out.1.symm)
                have HBa := Lib.hid (HB8.out.trans (hpA.only.below HNB.out.2.2 HB8.out.size))
                have HMa := Lib.hid hmA
                have HLT : Hid (bx < V.heap.size) := Lib.hid HY8.out.lt
                clear hmA hpA HX8 HY8 HB8
                (try dsimp only)
                refine hK.out _ _ ?_ (fun hHeld => ?_)
                · exact trivial
                clear hK K
                (try simp only [Act.put, List.setIfInBounds_toArray, List.set_cons_zero, List.set_cons_succ, List.getElem_toArray, List.getElem_cons_succ, List.getElem_cons_zero])
                refine wpAnyH_ready (rs := [5]) (by kernel_rfl) (by simp) ?_
                refine AllReadyH.cons rfl (fun K hK => ?_) (AllReadyH.nil)
                go_simp
                go_at_call 44
                refine (HDR.out _ HYa.out).mono ?_; rintro e V2 ⟨vC, rfl, hmC, hpC⟩
                obtain ⟨BC, cC, rfl⟩ := hmC.shape
                have HYb := Lib.hid hpC.xb
                have HXb := Lib.hid (HXa.out.only hpC.only HNB.out.1)
                have HBb := Lib.hid (HBa.out.trans (hpC.only.below HNB.out.2.1 HBa.out.size))
                have HMA := Lib.hid (HMa.out.only hpC.only HLT.out)
                have HMC := Lib.hid hmC
                clear hmC hpC HXa HYa HBa HMa HLT
                (try dsimp only)
                refine hK.out _ _ ?_ (fun hHeld => ?_)
                · exact trivial
                clear hK K
                (try simp only [Act.put, List.setIfInBounds_toArray, List.set_cons_zero, List.set_cons_succ, List.getElem_toArray, List.getElem_cons_succ, List.getElem_cons_zero])
                have HMS := Lib.hid (law_messages _ _ f o (ackE o z) V2 HMA.out HMC.out)
                refine wpAnyH_ready (rs := [6]) (by kernel_rfl) (by simp) ?_
                refine AllReadyH.cons rfl (fun K hK => ?_) (AllReadyH.nil)
                go_simp
                go_at_call 36
                refine HMS.out.mono ?_; rintro e V3 ⟨rfl, k3⟩
                have HXc := Lib.hid (HXb.out.below k3)
                have HYc := Lib.hid (HYb.out.below k3)
                have HBc := Lib.hid (HBb.out.trans (k3.mono HBb.out.size))
                have y2 := HYc.out.c 2 _ rfl
                clear k3 HMS HMA HMC HXb HYb HBb
                (try dsimp only)
                refine hK.out _ _ ?_ (fun hHeld => ?_)
                · exact trivial
                clear hK K
                (try simp only [Act.put, List.setIfInBounds_toArray, List.set_cons_zero, List.set_cons_succ, List.getElem_toArray, List.getElem_cons_succ, List.getElem_cons_zero])
                refine wpAnyH_take (i := 7) (v := ?_) rfl (by kernel_rfl) (by kernel_rfl) (by kernel_rfl) (fun _ _ _ h => h) (Or.inl ⟨by rfl, ?_⟩) (by assumption) ?_
                rotate_left
                · intro w' hSw; (try dsimp only at hSw); go_simp; (try with_reducible rfl)
                (try simp only [Act.put, List.setIfInBounds_toArray, List.set_cons_zero, List.set_cons_succ, List.getElem_toArray, List.getElem_cons_succ, List.getElem_cons_zero])
                refine wpAnyH_take (i := 8) (v := ?_) rfl (by kernel_rfl) (by kernel_rfl) (by kernel_rfl) (fun _ _ _ h => h) (Or.inl ⟨by rfl, ?_⟩) (by assumption) ?_
                rotate_left
                · intro w' hSw; (try dsimp only at hSw); go_simp; (try with_reducible rfl)
                (try simp only [Act.put, List.setIfInBounds_toArray, List.set_cons_zero, List.set_cons_succ, List.getElem_toArray, List.getElem_cons_succ, List.getElem_cons_zero])
                refine wpAnyH_take (i := 9) (v := ?_) rfl (by kernel_rfl) (by kernel_rfl) (by kernel_rfl) (fun _ _ _ h => h) (Or.inl ⟨by rfl, ?_⟩) (by assumption) ?_
                rotate_left
                · intro w' hSw; (try dsimp only at hSw); go_simp; (try with_reducible rfl)
                (try simp only [Act.put, List.setIfInBounds_toArray, List.set_cons_zero, List.set_cons_succ, List.getElem_toArray, List.getElem_cons_succ, List.getElem_cons_zero])
                refine wpAnyH_take (i := 11) (v := ?_) rfl (by kernel_rfl) (by kernel_rfl) (by kernel_rfl) (fun _ _ _ h => h) (Or.inl ⟨by rfl, ?_⟩) (by assumption) ?_
                rotate_left
                · intro w' hSw; (try dsimp only at hSw); go_simp; (try with_reducible rfl)
                (try simp only [Act.put, List.setIfInBounds_toArray, List.set_cons_zero, List.set_cons_succ, List.getElem_toArray, List.getElem_cons_succ, List.getElem_cons_zero])
                refine wpAnyH_take (i := 12) (v := ?_) rfl (by kernel_rfl) (by kernel_rfl) (by kernel_rfl) (fun _ _ _ h => h) (Or.inl ⟨by rfl, ?_⟩) (by assumption) ?_
                rotate_left
                · intro w' hSw; (try dsimp only at hSw); go_simp; (try with_reducible rfl)
                (try simp only [Act.put, List.setIfInBounds_toArray, List.set_cons_zero, List.set_cons_succ, List.getElem_toArray, List.getElem_cons_succ, List.getElem_cons_zero])
                refine wpAnyH_take (i := 13) (v := ?_) rfl (by kernel_rfl) (by kernel_rfl) (by kernel_rfl) (fun _ _ _ h => h) (Or.inl ⟨by rfl, ?_⟩) (by assumption) ?_
                rotate_left
                · intro w' hSw; (try dsimp only at hSw); go_simp; (try with_reducible rfl)
                (try simp only [Act.put, List.setIfInBounds_toArray, List.set_cons_zero, List.set_cons_succ, List.getElem_toArray, List.getElem_cons_succ, List.getElem_cons_zero])
                refine wpAnyH_ready (rs := [10, 14]) (by kernel_rfl) (by simp) ?_
                refine AllReadyH.cons rfl (fun K hK => ?_) (AllReadyH.cons rfl (fun K hK => ?_) (AllReadyH.nil))
                · skip
                  go_simp
                  go_at_call 45
                  refine (st_applied b f o z V3 HXc.out).mono ?_; rintro e w' ⟨rfl, rfl⟩
                  (try dsimp only)
                  refine hK.out _ _ ?_ (fun hHeld => ?_)
                  · exact trivial
                  clear hK K
                  (try simp only [Act.put, List.setIfInBounds_toArray, List.set_cons_zero, List.set_cons_succ, List.getElem_toArray, List.getElem_cons_succ, List.getElem_cons_zero])
                  refine wpAnyH_ready (rs := [14]) (by kernel_rfl) (by simp) ?_
                  refine AllReadyH.cons rfl (fun K hK => ?_) (AllReadyH.nil)
                  go_simp
                  (try dsimp only)
                  refine hK.out _ _ ?_ (fun hHeld => ?_)
                  · exact trivial
                  clear hK K
                  (try simp only [Act.put, List.setIfInBounds_toArray, List.set_cons_zero, List.set_cons_succ, List.getElem_toArray, List.getElem_cons_succ, List.getElem_cons_zero])
                  refine wpAnyH_take (i := 15) (v := ?_) rfl (by kernel_rfl) (by kernel_rfl) (by kernel_rfl) (fun _ _ _ h => h) (Or.inl ⟨by rfl, ?_⟩) (by assumption) ?_
                  rotate_left
                  · intro w' hSw; (try dsimp only at hSw); go_simp; (try with_reducible rfl)
                  (try simp only [Act.put, List.setIfInBounds_toArray, List.set_cons_zero, List.set_cons_succ, List.getElem_toArray, List.getElem_cons_succ, List.getElem_cons_zero])
                  refine wpAnyH_take (i := 16) (v := ?_) rfl (by kernel_rfl) (by kernel_rfl) (by kernel_rfl) (fun _ _ _ h => h) (Or.inl ⟨by rfl, ?_⟩) (by assumption) ?_
                  rotate_left
                  · intro w' hSw; (try dsimp only at hSw); go_simp; (try with_reducible rfl)
                  (try simp only [Act.put, List.setIfInBounds_toArray, List.set_cons_zero, List.set_cons_succ, List.getElem_toArray, List.getElem_cons_succ, List.getElem_cons_zero])
                  refine wpAnyH_done (by kernel_rfl) ?_ _
                  go_wp2
                  go_roundw
                  case rel => exact ⟨j2 + 1, z, by omega, by omega, by go_num, HZB.out.1, HZB.out.2, HXc.out, HYc.out, HBc.out⟩
                  case measure => simp [intOf]; omega
                · skip
                  go_simp
                  (try dsimp only)
                  refine hK.out _ _ ?_ (fun hHeld => ?_)
                  · exact trivial
                  clear hK K
                  (try simp only [Act.put, List.setIfInBounds_toArray, List.set_cons_zero, List.set_cons_succ, List.getElem_toArray, List.getElem_cons_succ, List.getElem_cons_zero])
                  refine wpAnyH_ready (rs := [10]) (by kernel_rfl) (by simp) ?_
                  refine AllReadyH.cons rfl (fun K hK => ?_) (AllReadyH.nil)
                  go_simp
                  go_at_call 45
                  refine (st_applied b f o z V3 HXc.out).mono ?_; rintro e w' ⟨rfl, rfl⟩
                  (try dsimp only)
                  refine hK.out _ _ ?_ (fun hHeld => ?_)
                  · exact trivial
                  clear hK K
                  (try simp only [Act.put, List.setIfInBounds_toArray, List.set_cons_zero, List.set_cons_succ, List.getElem_toArray, List.getElem_cons_succ, List.getElem_cons_zero])
                  refine wpAnyH_take (i := 15) (v := ?_) rfl (by kernel_rfl) (by kernel_rfl) (by kernel_rfl) (fun _ _ _ h => h) (Or.inl ⟨by rfl, ?_⟩) (by assumption) ?_
                  rotate_left
                  · intro w' hSw; (try dsimp only at hSw); go_simp; (try with_reducible rfl)
                  (try simp only [Act.put, List.setIfInBounds_toArray, List.set_cons_zero, List.set_cons_succ, List.getElem_toArray, List.getElem_cons_succ, List.getElem_cons_zero])
                  refine wpAnyH_take (i := 16) (v := ?_) rfl (by kernel_rfl) (by kernel_rfl) (by kernel_rfl) (fun _ _ _ h => h) (Or.inl ⟨by rfl, ?_⟩) (by assumption) ?_
                  rotate_left
                  · intro w' hSw; (try dsimp only at hSw); go_simp; (try with_reducible rfl)
                  (try simp only [Act.put, List.setIfInBounds_toArray, List.set_cons_zero, List.set_cons_succ, List.getElem_toArray, List.getElem_cons_succ, List.getElem_cons_zero])
                  refine wpAnyH_done (by kernel_rfl) ?_ _
                  go_wp2
                  go_roundw
                  case rel => exact ⟨j2 + 1, z, by omega, by omega, by go_num, HZB.out.1, HZB.out.2, HXc.out, HYc.out, HBc.out⟩
                  case measure => simp [intOf]; omega
    · have lk : ¬ (j : Int) < (R.length : Int) := by omega
      have HL4 : Hid (∀ i x, i < R.length → i < 40 → R[i]? = some x → x.L.length ≤ 400) := Lib.hid (fun i x h _ hx => HO.out i x (by omega) hx)
      clear hlt HO
      go_wp2_with fail
      refine (st_new_in f o a wr).mono ?_; rintro e w1 (⟨hk, rfl, k1⟩ | ⟨hk, b, rfl, hb, hxi, k1⟩)
      · have HK := Lib.hid hk
        have HB1 := Lib.hid (HB.out.trans (k1.mono HB.out.size))
        clear k1 hk
        go_wp2_with fail
        refine (ref_new_in f o a w1).mono ?_; rintro e w2 (⟨_, rfl, k2⟩ | ⟨hk2, _⟩)
        rotate_left
        · exact absurd (HK.out.symm.trans hk2) (by decide)
        have HB2 := Lib.hid (HB1.out.trans (k2.mono HB1.out.size))
        clear k2
        go_wp2_with fail
        refine (known18 w2).mono ?_; rintro e w3 ⟨rfl, k3⟩
        have HB3 := Lib.hid (HB2.out.trans (k3.mono HB2.out.size))
        clear k3
        go_wp2
        go_ret
        exact ⟨rfl, HB3.out⟩
      have HK := Lib.hid hk
      have HX1 := Lib.hid hxi
      have hbw : w.heap.size ≤ b := Nat.le_trans HB.out.size hb
      have HB1 := Lib.hid (HB.out.trans (k1.mono HB.out.size))
      clear k1 hk hxi hb HB
      go_wp2_with fail
      refine (ref_new_in f o a w1).mono ?_; rintro e w2 (⟨hk2, _⟩ | ⟨_, bx, rfl, hbx, hxx, k2⟩)
      · exact absurd (HK.out.symm.trans hk2) (by decide)
      have HEP := Lib.hid (ends_place HK.out)
      have HNE : Hid (b ≠ bx ∧ w.heap.size ≤ bx) := Lib.hid ⟨by have := HX1.out.lt; omega, Nat.le_trans HB1.out.size hbx⟩
      have HX2 := Lib.hid (HX1.out.below k2)
      have HY2 := Lib.hid hxx
      have HB2 := Lib.hid (HB1.out.trans (k2.mono HB1.out.size))
      clear k2 hxx hbx HX1 HB1 lk
      go_wp2
      go_loopw [17] (fun i wr => ∃ (j : Nat) (q : Int), j ≤ R.length ∧ j ≤ 40 ∧ i = .int .i64 j ∧ 0 ≤ q ∧ q ≤ 1099511627776 ∧ XB wr b (inC f o q) ∧ XB wr bx (inC f o q) ∧ Below w.heap.size w wr) (fun i _ => R.length - (intOf i).toNat)
      case atStart => exact ⟨0, a, Nat.zero_le _, by omega, rfl, HEP.out.2.1, HEP.out.2.2, HX2.out, HY2.out, HB2.out⟩
      case round =>
        obtain ⟨j2, q, hj2, hj240, rfl, hq0, hq1, hX, hY, hB⟩ := hrel
        have HX := Lib.hid hX
        have HY := Lib.hid hY
        have HB := Lib.hid hB
        clear hX hY hB HX2 HY2 HB2
        by_cases hlt : j2 < R.length
        rotate_left
        · have lk : ¬ (j2 : Int) < (R.length : Int) := by omega
          clear hlt
          go_wp2_with fail
          refine (known18 _).mono ?_; rintro e w3 ⟨rfl, k3⟩
          have HB3 := Lib.hid (HB.out.trans (k3.mono HB.out.size))
          clear k3
          go_wp2
          go_ret
          exact ⟨rfl, HB3.out⟩
        have lk : (j2 : Int) < (R.length : Int) := by omega
        by_cases h40 : j2 < 40
        rotate_left
        · have l40 : ¬ (j2 : Int) < 40 := by omega
          have l40d : decide ((j2 : Int) < 40) = false := decide_eq_false l40
          clear hlt h40
          go_wp2_with fail
          refine (known18 _).mono ?_; rintro e w3 ⟨rfl, k3⟩
          have HB3 := Lib.hid (HB.out.trans (k3.mono HB.out.size))
          clear k3
          go_wp2
          go_ret
          exact ⟨rfl, HB3.out⟩
        have l40 : (j2 : Int) < 40 := by omega
        have l40d : decide ((j2 : Int) < 40) = true := decide_eq_true l40
        have hi1 : ((j2 : Int).toNat) = j2 := by simp
        obtain ⟨B, O, rfl, hBl, hcell⟩ := HR.out (by omega)
        have hx : R[j2]? = some R[j2] := List.getElem?_eq_getElem hlt
        have hl4 := HL4.out j2 _ hlt h40 hx
        generalize R[j2] = x at *
        obtain ⟨xL, xA, xc⟩ := x
        have HXI := Lib.hid (HIN.out j2 _ hx).1
        have hl4' : xL.length ≤ 400 := hl4
        have HBL := Lib.hid hBl
        have HCC : Hid (w.cell? ⟨B, O + j2, none⟩ = some (.slice xA xL.length xc)) := Lib.hid (hcell j2 _ hx)
        have HB3 := Lib.hid (HB.out.alloc HB.out.size (.cells #[] 89))
        have hrc : (wr.alloc (.cells #[] 89)).cell? ⟨B, O + j2, none⟩ = some (.slice xA xL.length xc) := (HB3.out.cell (p := ⟨B, O + j2, none⟩) HBL.out).trans HCC.out
        have HBX : Hid (Below wr.heap.size wr (wr.alloc (.cells #[] 89))) := Lib.hid (by (repeat' (first | (with_reducible exact Below.refl _ _) | (with_reducible assumption) | (with_reducible refine Below.trans ?_ (Below.mono (by with_reducible assumption) ?_)) | (with_reducible refine Below.alloc ?_ ?_ _) | (with_reducible refine Below.setCell ?_ ?_ _) | (with_reducible refine below_drewN ?_ _) | (with_reducible refine Below.drew ?_) | go_size)))
        have hmade := World.ownsRow_made (base := w.heap.size) (e := 89) (size := 9) wr #[] 0 HB.out.size (Nat.zero_le _) rfl
        have hbz := HB.out.size
        clear hx hcell hBl hl4
        by_cases hp0 : 0 < xL.length
        · obtain ⟨A', c', he', hc⟩ := HXI.out.row.ex
          have he2 : (Value.slice xA xL.length xc) = .slice A' xL.length c' := he'
          obtain ⟨rfl, rfl⟩ : xA = A' ∧ xc = c' := by injection he2 with q1 q2 q3; exact ⟨q1, q3⟩
          obtain ⟨Bx, Ox, rfl, hBx, hcx⟩ := hc hp0
          have hsrc : ∀ j u, (rowM xL)[j]? = some u → (wr.alloc (.cells #[] 89)).cell? ((⟨Bx, Ox, none⟩ : Addr).add j) = some u := fun j u hu => by
            rw [at_add]
            exact (HB3.out.cell (p := ⟨Bx, Ox + j, none⟩) hBx).trans (hcx j u hu)
          clear hcx hc he' he2
          go_wp2_with (at_builtin; refine wpList_append_lies _ rfl (.tmp 85) (.tmp 89) _ rfl w.heap.size 89 i0 _ 9 96 Tryd.underlying24 hi0 hz0 hz1 hz2 rfl (by decide) (.slice (some ⟨wr.heap.size, 0, none⟩) 0 0) 0 [] rfl hmade ⟨Bx, Ox, none⟩ xL.length xc (rowM xL) rfl (rowM_len xL) hsrc (rowM_one1 xL) (by omega) (by unfold maxLen; omega) (by omega) (by simp; omega) _ rfl ?_; intro g cap w3 hown0 hg2 hat2 hlt2)
          have HR3 : Hid (RowAt w3 (.slice (some ⟨g, 0, none⟩) xL.length cap) xL) := Lib.hid (RowAt.of (base := w.heap.size) (by simpa using hown0))
          have HK3 : Hid (Below wr.heap.size wr w3) := Lib.hid (HBX.out.grown hg2 HBX.out.size (fun k hk => by simp [Value.ownBlock] at hk; omega))
          clear hown0 hg2 hat2 hlt2 hmade hsrc HB3 HBX hrc
          have HB4 := Lib.hid (HB.out.trans (HK3.out.mono HB.out.size))
          have HX4 := Lib.hid (HX.out.below HK3.out)
          have HY4 := Lib.hid (HY.out.below HK3.out)
          have HTK : Hid (Calls Tryd.prog 40 #[.pointer (some ⟨b, 0, none⟩), .slice (some ⟨g, 0, none⟩) xL.length cap] w3 fun e w' => TakeR o q (xL.map Mr.r) w3 w' e) := Lib.hid (st_take b f o q _ _ xL w3 HX4.out HR3.out (fun m hm => ((HXI.out.ins m hm).at_.below HB4.out)) (by first | omega | simp) ⟨hq0, hq1⟩)
          clear HX HY HB HK3 HR3
          refine HTK.out.mono ?_; rintro e w4 ⟨v4, Z, rfl, hT4, hZ⟩
          have HB5 := Lib.hid (HB4.out.trans (hT4.bel.mono HB4.out.size))
          have HX5 := Lib.hid (HX4.out.below hT4.bel)
          have HY5 := Lib.hid (HY4.out.below hT4.bel)
          have HT4 := Lib.hid hT4
          have HZ := Lib.hid hZ
          obtain ⟨A4, c4, rfl⟩ := hT4.shape
          have hrc : w4.cell? ⟨B, O + j2, none⟩ = some (.slice (some ⟨Bx, Ox, none⟩) xL.length xc) := (HB5.out.cell (p := ⟨B, O + j2, none⟩) HBL.out).trans HCC.out
          have HTR : Hid (Calls Tryd.prog 41 #[.pointer (some ⟨bx, 0, none⟩), .slice (some ⟨Bx, Ox, none⟩) xL.length xc] w4 fun e w' => TakeR o q (xL.map Mr.r) w4 w' e) := Lib.hid (ref_take bx f o q _ _ xL w4 HY5.out (HXI.out.below HB5.out).row (fun m hm => ((HXI.out.ins m hm).at_.below HB5.out)) (by first | omega | simp) ⟨hq0, hq1⟩)
          clear hT4 hZ HTK HX4 HY4 HB4
          go_wp2_with fail
          refine HTR.out.mono ?_; rintro e w5 ⟨v5, Y, rfl, hT5, hY⟩
          have HB6 := Lib.hid (HB5.out.trans (hT5.bel.mono HB5.out.size))
          have HX6 := Lib.hid (HX5.out.below hT5.bel)
          have HY6 := Lib.hid (HY5.out.below hT5.bel)
          have hT45 := HT4.out.below hT5.bel
          have HYL : Hid (Y.length ≤ 400) := Lib.hid (by
            have h := takeS_len (o := o) (a := q) (rs := xL.map Mr.r) (acc := [])
            rw [← hY] at h
            simp only [List.length_map, List.length_nil] at h
            omega)
          have hby : ∀ (Q : List Mr), Q.map Mr.r = takeS o q [] (xL.map Mr.r) → ∀ m ∈ Q, isBy m.r.key ∧ isBy m.r.val := fun Q hQ m hm => by
            have h := List.mem_map_of_mem (f := Mr.r) hm
            rw [hQ] at h
            rcases takeS_mem h with h | h
            · cases h
            · obtain ⟨m', hm', e⟩ := List.mem_map.1 h
              rw [← e]
              exact ⟨(HXI.out.ins m' hm').key, (HXI.out.ins m' hm').val⟩
          have HEQ : Hid (Z.map Mr.r = Y.map Mr.r) := Lib.hid (HZ.out.trans hY.symm)
          have HRC := Lib.hid (law_recs18 (.slice A4 Z.length c4) v5 Z Y w5 hT45.rowAt hT5.rowAt hT45.at_ hT5.at_ (fun m hm => (hby Z HZ.out m hm).2) (fun m hm => (hby Z HZ.out m hm).1) (hby Y hY) (by have h := congrArg List.length HEQ.out; simp only [List.length_map] at h; have := HYL.out; omega))
          obtain ⟨A5, c5, rfl⟩ := hT5.shape
          clear hT5 hY hT45 hby HTR HX5 HY5 HB5 hrc HT4 HZ
          go_wp2_with fail
          refine HRC.out.mono ?_; rintro e w6 ⟨⟨b6, rfl, hb6⟩, k6⟩
          obtain rfl : b6 = true := hb6.2 HEQ.out
          have HB7 := Lib.hid (HB6.out.trans (k6.mono HB6.out.size))
          have HX7 := Lib.hid (HX6.out.below k6)
          have HY7 := Lib.hid (HY6.out.below k6)
          have y2 := HY7.out.c 2 _ rfl
          have hyl := HYL.out
          have e3 : IntKind.i64.wrap (q + (Y.length : Int)) = q + (Y.length : Int) := IntWalk.i64_in _ (by omega)
          clear hb6 k6 HRC HEQ HX6 HY6 HB6
          by_cases hd : j2 < dn
          · have hd' : (j2 : Int) < (dn : Int) := by omega
            obtain ⟨DB, DO, rfl, hDB, hdc⟩ := HD.out (by omega)
            have hdv : w6.cell? ⟨DB, DO + j2, none⟩ = some (.int .i64 (dz j2)) := (HB7.out.cell (p := ⟨DB, DO + j2, none⟩) hDB).trans (hdc j2 hd).1
            clear hdc hDB
            generalize dz j2 = d at *
            obtain ⟨z, hzz⟩ : ∃ z, doneM q d = z := ⟨_, rfl⟩
            have hzb := doneM_bd (a := q) (q := d) ⟨hq0, hq1⟩
            rw [hzz] at hzb
            have HDN : Hid (∀ W, XB W b (inC f o q) → Below w.heap.size w W → Calls Tryd.prog 43 #[.pointer (some ⟨b, 0, none⟩), .int .i64 d] W fun e w' => DoneRes b f o z W w' e) := Lib.hid (fun W q1 q2 => by
              subst hzz
              exact st_done b f o q d W q1 HEP.out.1 ⟨hq0, hq1⟩ (fun W' k => HT.out _ (q2.trans (k.below hbw q2.size))))
            have HDR : Hid (∀ W, XB W bx (inC f o q) → Calls Tryd.prog 44 #[.pointer (some ⟨bx, 0, none⟩), .int .i64 d] W fun e w' => DoneRes bx f o z W w' e) := Lib.hid (fun W q1 => by
              subst hzz
              exact ref_done bx f o q d W q1 HEP.out.1 ⟨hq0, hq1⟩)
            have HZB := Lib.hid hzb
            have HNB : Hid (b ≠ bx ∧ w.heap.size ≤ bx ∧ w.heap.size ≤ b) := Lib.hid ⟨HNE.out.1, HNE.out.2, hbw⟩
            have hzn : (z != z) = false := by simp
            clear hzz hzb
            go_upto_region 26 with fail
            clear y2 e3 hyl hd'
            have kd : Below w6.heap.size w6 w6.drew := (Below.refl _ _).drew
            have HX8 := Lib.hid (HX7.out.below kd)
            have HY8 := Lib.hid (HY7.out.below kd)
            have HB8 := Lib.hid (HB7.out.trans (kd.mono HB7.out.size))
            clear kd HX7 HY7 HB7
            refine wp_region_held_drew (S := fun _ => True) (by kernel_rfl) trivial (fun hHeld => ?_)
            generalize w6.drew = V at *
            refine wpAnyH_take (i := 0) (v := ?_) rfl (by kernel_rfl) (by kernel_rfl) (by kernel_rfl) (fun _ _ _ h => h) (Or.inl ⟨by rfl, ?_⟩) (by assumption) ?_
            rotate_left
            · intro w' hSw; (try dsimp only at hSw); go_simp; (try with_reducible rfl)
            (try simp only [Act.put, List.setIfInBounds_toArray, List.set_cons_zero, List.set_cons_succ, List.getElem_toArray, List.getElem_cons_succ, List.getElem_cons_zero])
            refine wpAnyH_take (i := 1) (v := ?_) rfl (by kernel_rfl) (by kernel_rfl) (by kernel_rfl) (fun _ _ _ h => h) (Or.inl ⟨by rfl, ?_⟩) (by assumption) ?_
            rotate_left
            · intro w' hSw; (try dsimp only at hSw); go_simp; (try with_reducible rfl)
            (try simp only [Act.put, List.setIfInBounds_toArray, List.set_cons_zero, List.set_cons_succ, List.getElem_toArray, List.getElem_cons_succ, List.getElem_cons_zero])
            refine wpAnyH_take (i := 3) (v := ?_) rfl (by kernel_rfl) (by kernel_rfl) (by kernel_rfl) (fun _ _ _ h => h) (Or.inl ⟨by rfl, ?_⟩) (by assumption) ?_
            rotate_left
            · intro w' hSw; (try dsimp only at hSw); go_simp; (try with_reducible rfl)
            (try simp only [Act.put, List.setIfInBounds_toArray, List.set_cons_zero, List.set_cons_succ, List.getElem_toArray, List.getElem_cons_succ, List.getElem_cons_zero])
            refine wpAnyH_take (i := 4) (v := ?_) rfl (by kernel_rfl) (by kernel_rfl) (by kernel_rfl) (fun _ _ _ h => h) (Or.inl ⟨by rfl, ?_⟩) (by assumption) ?_
            rotate_left
            · intro w' hSw; (try dsimp only at hSw); go_simp; (try with_reducible rfl)
            (try simp only [Act.put, List.setIfInBounds_toArray, List.set_cons_zero, List.set_cons_succ, List.getElem_toArray, List.getElem_cons_succ, List.getElem_cons_zero])
            refine wpAnyH_ready (rs := [2]) (by kernel_rfl) (by simp) ?_
            refine AllReadyH.cons rfl (fun K hK => ?_) (AllReadyH.nil)
            go_simp
            go_at_call 43
            refine (HDN.out _ HX8.out HB8.out).mono ?_; rintro e V1 ⟨vA, rfl, hmA, hpA⟩
            obtain ⟨BA, cA, rfl⟩ := hmA.shape
            have HXa := Lib.hid hpA.xb
            have HYa := Lib.hid (HY8.out.only hpA.only HNB.out.1.symm)
            have HBa := Lib.hid (HB8.out.trans (hpA.only.below HNB.out.2.2 HB8.out.size))
            have HMa := Lib.hid hmA
            have HLT : Hid (bx < V.heap.size) := Lib.hid HY8.out.lt
            clear hmA hpA HX8 HY8 HB8
            (try dsimp only)
            refine hK.out _ _ ?_ (fun hHeld => ?_)
            · exact trivial
            clear hK K
            (try simp only [Act.put, List.setIfInBounds_toArray, List.set_cons_zero, List.set_cons_succ, List.getElem_toArray, List.getElem_cons_succ, List.getElem_cons_zero])
            refine wpAnyH_ready (rs := [5]) (by kernel_rfl) (by simp) ?_
            refine AllReadyH.cons rfl (fun K hK => ?_) (AllReadyH.nil)
            go_simp
            go_at_call 44
            refine (HDR.out _ HYa.out).mono ?_; rintro e V2 ⟨vC, rfl, hmC, hpC⟩
            obtain ⟨BC, cC, rfl⟩ := hmC.shape
            have HYb := Lib.hid hpC.xb
            have HXb := Lib.hid (HXa.out.only hpC.only HNB.out.1)
            have HBb := Lib.hid (HBa.out.trans (hpC.only.below HNB.out.2.1 HBa.out.size))
            have HMA := Lib.hid (HMa.out.only hpC.only HLT.out)
            have HMC := Lib.hid hmC
            clear hmC hpC HXa HYa HBa HMa HLT
            (try dsimp only)
            refine hK.out _ _ ?_ (fun hHeld => ?_)
            · exact trivial
            clear hK K
            (try simp only [Act.put, List.setIfInBounds_toArray, List.set_cons_zero, List.set_cons_succ, List.getElem_toArray, List.getElem_cons_succ, List.getElem_cons_zero])
            have HMS := Lib.hid (law_messages _ _ f o (ackE o z) V2 HMA.out HMC.out)
            refine wpAnyH_ready (rs := [6]) (by kernel_rfl) (by simp) ?_
            refine AllReadyH.cons rfl (fun K hK => ?_) (AllReadyH.nil)
            go_simp
            go_at_call 36
            refine HMS.out.mono ?_; rintro e V3 ⟨rfl, k3⟩
            have HXc := Lib.hid (HXb.out.below k3)
            have HYc := Lib.hid (HYb.out.below k3)
            have HBc := Lib.hid (HBb.out.trans (k3.mono HBb.out.size))
            have y2 := HYc.out.c 2 _ rfl
            clear k3 HMS HMA HMC HXb HYb HBb
            (try dsimp only)
            refine hK.out _ _ ?_ (fun hHeld => ?_)
            · exact trivial
            clear hK K
            (try simp only [Act.put, List.setIfInBounds_toArray, List.set_cons_zero, List.set_cons_succ, List.getElem_toArray, List.getElem_cons_succ, List.getElem_cons_zero])
            refine wpAnyH_take (i := 7) (v := ?_) rfl (by kernel_rfl) (by kernel_rfl) (by kernel_rfl) (fun _ _ _ h => h) (Or.inl ⟨by rfl, ?_⟩) (by assumption) ?_
            rotate_left
            · intro w' hSw; (try dsimp only at hSw); go_simp; (try with_reducible rfl)
            (try simp only [Act.put, List.setIfInBounds_toArray, List.set_cons_zero, List.set_cons_succ, List.getElem_toArray, List.getElem_cons_succ, List.getElem_cons_zero])
            refine wpAnyH_take (i := 8) (v := ?_) rfl (by kernel_rfl) (by kernel_rfl) (by kernel_rfl) (fun _ _ _ h => h) (Or.inl ⟨by rfl, ?_⟩) (by assumption) ?_
            rotate_left
            · intro w' hSw; (try dsimp only at hSw); go_simp; (try with_reducible rfl)
            (try simp only [Act.put, List.setIfInBounds_toArray, List.set_cons_zero, List.set_cons_succ, List.getElem_toArray, List.getElem_cons_succ, List.getElem_cons_zero])
            refine wpAnyH_take (i := 9) (v := ?_) rfl (by kernel_rfl) (by kernel_rfl) (by kernel_rfl) (fun _ _ _ h => h) (Or.inl ⟨by rfl, ?_⟩) (by assumption) ?_
            rotate_left
            · intro w' hSw; (try dsimp only at hSw); go_simp; (try with_reducible rfl)
            (try simp only [Act.put, List.setIfInBounds_toArray, List.set_cons_zero, List.set_cons_succ, List.getElem_toArray, List.getElem_cons_succ, List.getElem_cons_zero])
            refine wpAnyH_take (i := 11) (v := ?_) rfl (by kernel_rfl) (by kernel_rfl) (by kernel_rfl) (fun _ _ _ h => h) (Or.inl ⟨by rfl, ?_⟩) (by assumption) ?_
            rotate_left
            · intro w' hSw; (try dsimp only at hSw); go_simp; (try with_reducible rfl)
            (try simp only [Act.put, List.setIfInBounds_toArray, List.set_cons_zero, List.set_cons_succ, List.getElem_toArray, List.getElem_cons_succ, List.getElem_cons_zero])
            refine wpAnyH_take (i := 12) (v := ?_) rfl (by kernel_rfl) (by kernel_rfl) (by kernel_rfl) (fun _ _ _ h => h) (Or.inl ⟨by rfl, ?_⟩) (by assumption) ?_
            rotate_left
            · intro w' hSw; (try dsimp only at hSw); go_simp; (try with_reducible rfl)
            (try simp only [Act.put, List.setIfInBounds_toArray, List.set_cons_zero, List.set_cons_succ, List.getElem_toArray, List.getElem_cons_succ, List.getElem_cons_zero])
            refine wpAnyH_take (i := 13) (v := ?_) rfl (by kernel_rfl) (by kernel_rfl) (by kernel_rfl) (fun _ _ _ h => h) (Or.inl ⟨by rfl, ?_⟩) (by assumption) ?_
            rotate_left
            · intro w' hSw; (try dsimp only at hSw); go_simp; (try with_reducible rfl)
            (try simp only [Act.put, List.setIfInBounds_toArray, List.set_cons_zero, List.set_cons_succ, List.getElem_toArray, List.getElem_cons_succ, List.getElem_cons_zero])
            refine wpAnyH_ready (rs := [10, 14]) (by kernel_rfl) (by simp) ?_
            refine AllReadyH.cons rfl (fun K hK => ?_) (AllReadyH.cons rfl (fun K hK => ?_) (AllReadyH.nil))
            · skip
              go_simp
              go_at_call 45
              refine (st_applied b f o z V3 HXc.out).mono ?_; rintro e w' ⟨rfl, rfl⟩
              (try dsimp only)
              refine hK.out _ _ ?_ (fun hHeld => ?_)
              · exact trivial
              clear hK K
              (try simp only [Act.put, List.setIfInBounds_toArray, List.set_cons_zero, List.set_cons_succ, List.getElem_toArray, List.getElem_cons_succ, List.getElem_cons_zero])
              refine wpAnyH_ready (rs := [14]) (by kernel_rfl) (by simp) ?_
              refine AllReadyH.cons rfl (fun K hK => ?_) (AllReadyH.nil)
              go_simp
              (try dsimp only)
              refine hK.out _ _ ?_ (fun hHeld => ?_)
              · exact trivial
              clear hK K
              (try simp only [Act.put, List.setIfInBounds_toArray, List.set_cons_zero, List.set_cons_succ, List.getElem_toArray, List.getElem_cons_succ, List.getElem_cons_zero])
              refine wpAnyH_take (i := 15) (v := ?_) rfl (by kernel_rfl) (by kernel_rfl) (by kernel_rfl) (fun _ _ _ h => h) (Or.inl ⟨by rfl, ?_⟩) (by assumption) ?_
              rotate_left
              · intro w' hSw; (try dsimp only at hSw); go_simp; (try with_reducible rfl)
              (try simp only [Act.put, List.setIfInBounds_toArray, List.set_cons_zero, List.set_cons_succ, List.getElem_toArray, List.getElem_cons_succ, List.getElem_cons_zero])
              refine wpAnyH_take (i := 16) (v := ?_) rfl (by kernel_rfl) (by kernel_rfl) (by kernel_rfl) (fun _ _ _ h => h) (Or.inl ⟨by rfl, ?_⟩) (by assumption) ?_
              rotate_left
              · intro w' hSw; (try dsimp only at hSw); go_simp; (try with_reducible rfl)
              (try simp only [Act.put, List.setIfInBounds_toArray, List.set_cons_zero, List.set_cons_succ, List.getElem_toArray, List.getElem_cons_succ, List.getElem_cons_zero])
              refine wpAnyH_done (by kernel_rfl) ?_ _
              go_wp2
              go_roundw
              case rel => exact ⟨j2 + 1, z, by omega, by omega, by go_num, HZB.out.1, HZB.out.2, HXc.out, HYc.out, HBc.out⟩
              case measure => simp [intOf]; omega
            · skip
              go_simp
              (try dsimp only)
              refine hK.out _ _ ?_ (fun hHeld => ?_)
              · exact trivial
              clear hK K
              (try simp only [Act.put, List.setIfInBounds_toArray, List.set_cons_zero, List.set_cons_succ, List.getElem_toArray, List.getElem_cons_succ, List.getElem_cons_zero])
              refine wpAnyH_ready (rs := [10]) (by kernel_rfl) (by simp) ?_
              refine AllReadyH.cons rfl (fun K hK => ?_) (AllReadyH.nil)
              go_simp
              go_at_call 45
              refine (st_applied b f o z V3 HXc.out).mono ?_; rintro e w' ⟨rfl, rfl⟩
              (try dsimp only)
              refine hK.out _ _ ?_ (fun hHeld => ?_)
              · exact trivial
              clear hK K
              (try simp only [Act.put, List.setIfInBounds_toArray, List.set_cons_zero, List.set_cons_succ, List.getElem_toArray, List.getElem_cons_succ, List.getElem_cons_zero])
              refine wpAnyH_take (i := 15) (v := ?_) rfl (by kernel_rfl) (by kernel_rfl) (by kernel_rfl) (fun _ _ _ h => h) (Or.inl ⟨by rfl, ?_⟩) (by assumption) ?_
              rotate_left
              · intro w' hSw; (try dsimp only at hSw); go_simp; (try with_reducible rfl)
              (try simp only [Act.put, List.setIfInBounds_toArray, List.set_cons_zero, List.set_cons_succ, List.getElem_toArray, List.getElem_cons_succ, List.getElem_cons_zero])
              refine wpAnyH_take (i := 16) (v := ?_) rfl (by kernel_rfl) (by kernel_rfl) (by kernel_rfl) (fun _ _ _ h => h) (Or.inl ⟨by rfl, ?_⟩) (by assumption) ?_
              rotate_left
              · intro w' hSw; (try dsimp only at hSw); go_simp; (try with_reducible rfl)
              (try simp only [Act.put, List.setIfInBounds_toArray, List.set_cons_zero, List.set_cons_succ, List.getElem_toArray, List.getElem_cons_succ, List.getElem_cons_zero])
              refine wpAnyH_done (by kernel_rfl) ?_ _
              go_wp2
              go_roundw
              case rel => exact ⟨j2 + 1, z, by omega, by omega, by go_num, HZB.out.1, HZB.out.2, HXc.out, HYc.out, HBc.out⟩
              case measure => simp [intOf]; omega
          · have hd' : ¬ (j2 : Int) < (dn : Int) := by omega
            obtain ⟨z, hzz⟩ : ∃ z, doneM q (q + (Y.length : Int)) = z := ⟨_, rfl⟩
            have hzb := doneM_bd (a := q) (q := q + (Y.length : Int)) ⟨hq0, hq1⟩
            rw [hzz] at hzb
            have HDN : Hid (∀ W, XB W b (inC f o q) → Below w.heap.size w W → Calls Tryd.prog 43 #[.pointer (some ⟨b, 0, none⟩), .int .i64 (q + (Y.length : Int))] W fun e w' => DoneRes b f o z W w' e) := Lib.hid (fun W q1 q2 => by
              subst hzz
              exact st_done b f o q (q + (Y.length : Int)) W q1 HEP.out.1 ⟨hq0, hq1⟩ (fun W' k => HT.out _ (q2.trans (k.below hbw q2.size))))
            have HDR : Hid (∀ W, XB W bx (inC f o q) → Calls Tryd.prog 44 #[.pointer (some ⟨bx, 0, none⟩), .int .i64 (q + (Y.length : Int))] W fun e w' => DoneRes bx f o z W w' e) := Lib.hid (fun W q1 => by
              subst hzz
              exact ref_done bx f o q (q + (Y.length : Int)) W q1 HEP.out.1 ⟨hq0, hq1⟩)
            have HZB := Lib.hid hzb
            have HNB : Hid (b ≠ bx ∧ w.heap.size ≤ bx ∧ w.heap.size ≤ b) := Lib.hid ⟨HNE.out.1, HNE.out.2, hbw⟩
            have hzn : (z != z) = false := by simp
            clear hzz hzb
            go_upto_region 26 with fail
            clear y2 e3 hyl hd'
            have kd : Below w6.heap.size w6 w6.drew := (Below.refl _ _).drew
            have HX8 := Lib.hid (HX7.out.below kd)
            have HY8 := Lib.hid (HY7.out.below kd)
            have HB8 := Lib.hid (HB7.out.trans (kd.mono HB7.out.size))
            clear kd HX7 HY7 HB7
            refine wp_region_held_drew (S := fun _ => True) (by kernel_rfl) trivial (fun hHeld => ?_)
            generalize w6.drew = V at *
            refine wpAnyH_take (i := 0) (v := ?_) rfl (by kernel_rfl) (by kernel_rfl) (by kernel_rfl) (fun _ _ _ h => h) (Or.inl ⟨by rfl, ?_⟩) (by assumption) ?_
            rotate_left
            · intro w' hSw; (try dsimp only at hSw); go_simp; (try with_reducible rfl)
            (try simp only [Act.put, List.setIfInBounds_toArray, List.set_cons_zero, List.set_cons_succ, List.getElem_toArray, List.getElem_cons_succ, List.getElem_cons_zero])
            refine wpAnyH_take (i := 1) (v := ?_) rfl (by kernel_rfl) (by kernel_rfl) (by kernel_rfl) (fun _ _ _ h => h) (Or.inl ⟨by rfl, ?_⟩) (by assumption) ?_
            rotate_left
            · intro w' hSw; (try dsimp only at hSw); go_simp; (try with_reducible rfl)
            (try simp only [Act.put, List.setIfInBounds_toArray, List.set_cons_zero, List.set_cons_succ, List.getElem_toArray, List.getElem_cons_succ, List.getElem_cons_zero])
            refine wpAnyH_take (i := 3) (v := ?_) rfl (by kernel_rfl) (by kernel_rfl) (by kernel_rfl) (fun _ _ _ h => h) (Or.inl ⟨by rfl, ?_⟩) (by assumption) ?_
            rotate_left
            · intro w' hSw; (try dsimp only at hSw); go_simp; (try with_reducible rfl)
            (try simp only [Act.put, List.setIfInBounds_toArray, List.set_cons_zero, List.set_cons_succ, List.getElem_toArray, List.getElem_cons_succ, List.getElem_cons_zero])
            refine wpAnyH_take (i := 4) (v := ?_) rfl (by kernel_rfl) (by kernel_rfl) (by kernel_rfl) (fun _ _ _ h => h) (Or.inl ⟨by rfl, ?_⟩) (by assumption) ?_
            rotate_left
            · intro w' hSw; (try dsimp only at hSw); go_simp; (try with_reducible rfl)
            (try simp only [Act.put, List.setIfInBounds_toArray, List.set_cons_zero, List.set_cons_succ, List.getElem_toArray, List.getElem_cons_succ, List.getElem_cons_zero])
            refine wpAnyH_ready (rs := [2]) (by kernel_rfl) (by simp) ?_
            refine AllReadyH.cons rfl (fun K hK => ?_) (AllReadyH.nil)
            go_simp
            go_at_call 43
            refine (HDN.out _ HX8.out HB8.out).mono ?_; rintro e V1 ⟨vA, rfl, hmA, hpA⟩
            obtain ⟨BA, cA, rfl⟩ := hmA.shape
            have HXa := Lib.hid hpA.xb
            have HYa := Lib.hid (HY8.out.only hpA.only HNB.out.1.symm)
            have HBa := Lib.hid (HB8.out.trans (hpA.only.below HNB.out.2.2 HB8.out.size))
            have HMa := Lib.hid hmA
            have HLT : Hid (bx < V.heap.size) := Lib.hid HY8.out.lt
            clear hmA hpA HX8 HY8 HB8
            (try dsimp only)
            refine hK.out _ _ ?_ (fun hHeld => ?_)
            · exact trivial
            clear hK K
            (try simp only [Act.put, List.setIfInBounds_toArray, List.set_cons_zero, List.set_cons_succ, List.getElem_toArray, List.getElem_cons_succ, List.getElem_cons_zero])
            refine wpAnyH_ready (rs := [5]) (by kernel_rfl) (by simp) ?_
            refine AllReadyH.cons rfl (fun K hK => ?_) (AllReadyH.nil)
            go_simp
            go_at_call 44
            refine (HDR.out _ HYa.out).mono ?_; rintro e V2 ⟨vC, rfl, hmC, hpC⟩
            obtain ⟨BC, cC, rfl⟩ := hmC.shape
            have HYb := Lib.hid hpC.xb
            have HXb := Lib.hid (HXa.out.only hpC.only HNB.out.1)
            have HBb := Lib.hid (HBa.out.trans (hpC.only.below HNB.out.2.1 HBa.out.size))
            have HMA := Lib.hid (HMa.out.only hpC.only HLT.out)
            have HMC := Lib.hid hmC
            clear hmC hpC HXa HYa HBa HMa HLT
            (try dsimp only)
            refine hK.out _ _ ?_ (fun hHeld => ?_)
            · exact trivial
            clear hK K
            (try simp only [Act.put, List.setIfInBounds_toArray, List.set_cons_zero, List.set_cons_succ, List.getElem_toArray, List.getElem_cons_succ, List.getElem_cons_zero])
            have HMS := Lib.hid (law_messages _ _ f o (ackE o z) V2 HMA.out HMC.out)
            refine wpAnyH_ready (rs := [6]) (by kernel_rfl) (by simp) ?_
            refine AllReadyH.cons rfl (fun K hK => ?_) (AllReadyH.nil)
            go_simp
            go_at_call 36
            refine HMS.out.mono ?_; rintro e V3 ⟨rfl, k3⟩
            have HXc := Lib.hid (HXb.out.below k3)
            have HYc := Lib.hid (HYb.out.below k3)
            have HBc := Lib.hid (HBb.out.trans (k3.mono HBb.out.size))
            have y2 := HYc.out.c 2 _ rfl
            clear k3 HMS HMA HMC HXb HYb HBb
            (try dsimp only)
            refine hK.out _ _ ?_ (fun hHeld => ?_)
            · exact trivial
            clear hK K
            (try simp only [Act.put, List.setIfInBounds_toArray, List.set_cons_zero, List.set_cons_succ, List.getElem_toArray, List.getElem_cons_succ, List.getElem_cons_zero])
            refine wpAnyH_take (i := 7) (v := ?_) rfl (by kernel_rfl) (by kernel_rfl) (by kernel_rfl) (fun _ _ _ h => h) (Or.inl ⟨by rfl, ?_⟩) (by assumption) ?_
            rotate_left
            · intro w' hSw; (try dsimp only at hSw); go_simp; (try with_reducible rfl)
            (try simp only [Act.put, List.setIfInBounds_toArray, List.set_cons_zero, List.set_cons_succ, List.getElem_toArray, List.getElem_cons_succ, List.getElem_cons_zero])
            refine wpAnyH_take (i := 8) (v := ?_) rfl (by kernel_rfl) (by kernel_rfl) (by kernel_rfl) (fun _ _ _ h => h) (Or.inl ⟨by rfl, ?_⟩) (by assumption) ?_
            rotate_left
            · intro w' hSw; (try dsimp only at hSw); go_simp; (try with_reducible rfl)
            (try simp only [Act.put, List.setIfInBounds_toArray, List.set_cons_zero, List.set_cons_succ, List.getElem_toArray, List.getElem_cons_succ, List.getElem_cons_zero])
            refine wpAnyH_take (i := 9) (v := ?_) rfl (by kernel_rfl) (by kernel_rfl) (by kernel_rfl) (fun _ _ _ h => h) (Or.inl ⟨by rfl, ?_⟩) (by assumption) ?_
            rotate_left
            · intro w' hSw; (try dsimp only at hSw); go_simp; (try with_reducible rfl)
            (try simp only [Act.put, List.setIfInBounds_toArray, List.set_cons_zero, List.set_cons_succ, List.getElem_toArray, List.getElem_cons_succ, List.getElem_cons_zero])
            refine wpAnyH_take (i := 11) (v := ?_) rfl (by kernel_rfl) (by kernel_rfl) (by kernel_rfl) (fun _ _ _ h => h) (Or.inl ⟨by rfl, ?_⟩) (by assumption) ?_
            rotate_left
            · intro w' hSw; (try dsimp only at hSw); go_simp; (try with_reducible rfl)
            (try simp only [Act.put, List.setIfInBounds_toArray, List.set_cons_zero, List.set_cons_succ, List.getElem_toArray, List.getElem_cons_succ, List.getElem_cons_zero])
            refine wpAnyH_take (i := 12) (v := ?_) rfl (by kernel_rfl) (by kernel_rfl) (by kernel_rfl) (fun _ _ _ h => h) (Or.inl ⟨by rfl, ?_⟩) (by assumption) ?_
            rotate_left
            · intro w' hSw; (try dsimp only at hSw); go_simp; (try with_reducible rfl)
            (try simp only [Act.put, List.setIfInBounds_toArray, List.set_cons_zero, List.set_cons_succ, List.getElem_toArray, List.getElem_cons_succ, List.getElem_cons_zero])
            refine wpAnyH_take (i := 13) (v := ?_) rfl (by kernel_rfl) (by kernel_rfl) (by kernel_rfl) (fun _ _ _ h => h) (Or.inl ⟨by rfl, ?_⟩) (by assumption) ?_
            rotate_left
            · intro w' hSw; (try dsimp only at hSw); go_simp; (try with_reducible rfl)
            (try simp only [Act.put, List.setIfInBounds_toArray, List.set_cons_zero, List.set_cons_succ, List.getElem_toArray, List.getElem_cons_succ, List.getElem_cons_zero])
            refine wpAnyH_ready (rs := [10, 14]) (by kernel_rfl) (by simp) ?_
            refine AllReadyH.cons rfl (fun K hK => ?_) (AllReadyH.cons rfl (fun K hK => ?_) (AllReadyH.nil))
            · skip
              go_simp
              go_at_call 45
              refine (st_applied b f o z V3 HXc.out).mono ?_; rintro e w' ⟨rfl, rfl⟩
              (try dsimp only)
              refine hK.out _ _ ?_ (fun hHeld => ?_)
              · exact trivial
              clear hK K
              (try simp only [Act.put, List.setIfInBounds_toArray, List.set_cons_zero, List.set_cons_succ, List.getElem_toArray, List.getElem_cons_succ, List.getElem_cons_zero])
              refine wpAnyH_ready (rs := [14]) (by kernel_rfl) (by simp) ?_
              refine AllReadyH.cons rfl (fun K hK => ?_) (AllReadyH.nil)
              go_simp
              (try dsimp only)
              refine hK.out _ _ ?_ (fun hHeld => ?_)
              · exact trivial
              clear hK K
              (try simp only [Act.put, List.setIfInBounds_toArray, List.set_cons_zero, List.set_cons_succ, List.getElem_toArray, List.getElem_cons_succ, List.getElem_cons_zero])
              refine wpAnyH_take (i := 15) (v := ?_) rfl (by kernel_rfl) (by kernel_rfl) (by kernel_rfl) (fun _ _ _ h => h) (Or.inl ⟨by rfl, ?_⟩) (by assumption) ?_
              rotate_left
              · intro w' hSw; (try dsimp only at hSw); go_simp; (try with_reducible rfl)
              (try simp only [Act.put, List.setIfInBounds_toArray, List.set_cons_zero, List.set_cons_succ, List.getElem_toArray, List.getElem_cons_succ, List.getElem_cons_zero])
              refine wpAnyH_take (i := 16) (v := ?_) rfl (by kernel_rfl) (by kernel_rfl) (by kernel_rfl) (fun _ _ _ h => h) (Or.inl ⟨by rfl, ?_⟩) (by assumption) ?_
              rotate_left
              · intro w' hSw; (try dsimp only at hSw); go_simp; (try with_reducible rfl)
              (try simp only [Act.put, List.setIfInBounds_toArray, List.set_cons_zero, List.set_cons_succ, List.getElem_toArray, List.getElem_cons_succ, List.getElem_cons_zero])
              refine wpAnyH_done (by kernel_rfl) ?_ _
              go_wp2
              go_roundw
              case rel => exact ⟨j2 + 1, z, by omega, by omega, by go_num, HZB.out.1, HZB.out.2, HXc.out, HYc.out, HBc.out⟩
              case measure => simp [intOf]; omega
            · skip
              go_simp
              (try dsimp only)
              refine hK.out _ _ ?_ (fun hHeld => ?_)
              · exact trivial
              clear hK K
              (try simp only [Act.put, List.setIfInBounds_toArray, List.set_cons_zero, List.set_cons_succ, List.getElem_toArray, List.getElem_cons_succ, List.getElem_cons_zero])
              refine wpAnyH_ready (rs := [10]) (by kernel_rfl) (by simp) ?_
              refine AllReadyH.cons rfl (fun K hK => ?_) (AllReadyH.nil)
              go_simp
              go_at_call 45
              refine (st_applied b f o z V3 HXc.out).mono ?_; rintro e w' ⟨rfl, rfl⟩
              (try dsimp only)
              refine hK.out _ _ ?_ (fun hHeld => ?_)
              · exact trivial
              clear hK K
              (try simp only [Act.put, List.setIfInBounds_toArray, List.set_cons_zero, List.set_cons_succ, List.getElem_toArray, List.getElem_cons_succ, List.getElem_cons_zero])
              refine wpAnyH_take (i := 15) (v := ?_) rfl (by kernel_rfl) (by kernel_rfl) (by kernel_rfl) (fun _ _ _ h => h) (Or.inl ⟨by rfl, ?_⟩) (by assumption) ?_
              rotate_left
              · intro w' hSw; (try dsimp only at hSw); go_simp; (try with_reducible rfl)
              (try simp only [Act.put, List.setIfInBounds_toArray, List.set_cons_zero, List.set_cons_succ, List.getElem_toArray, List.getElem_cons_succ, List.getElem_cons_zero])
              refine wpAnyH_take (i := 16) (v := ?_) rfl (by kernel_rfl) (by kernel_rfl) (by kernel_rfl) (fun _ _ _ h => h) (Or.inl ⟨by rfl, ?_⟩) (by assumption) ?_
              rotate_left
              · intro w' hSw; (try dsimp only at hSw); go_simp; (try with_reducible rfl)
              (try simp only [Act.put, List.setIfInBounds_toArray, List.set_cons_zero, List.set_cons_succ, List.getElem_toArray, List.getElem_cons_succ, List.getElem_cons_zero])
              refine wpAnyH_done (by kernel_rfl) ?_ _
              go_wp2
              go_roundw
              case rel => exact ⟨j2 + 1, z, by omega, by omega, by go_num, HZB.out.1, HZB.out.2, HXc.out, HYc.out, HBc.out⟩
              case measure => simp [intOf]; omega
        · obtain rfl : xL = [] := List.length_eq_zero_iff.1 (by omega)
          have hld := empty_loads18.1
          have hst := empty_loads18.2
          have hA : xA = none ∨ ∃ ad, xA = some ad := by cases xA <;> simp
          have HK3 : Hid (Below wr.heap.size wr (wr.alloc (.cells #[] 89))) := HBX
          have HR3 : Hid (RowAt (wr.alloc (.cells #[] 89)) (.slice (some ⟨wr.heap.size, 0, none⟩) ([] : List Mr).length 0) []) := Lib.hid ⟨_, _, rfl, fun h => absurd h (by simp)⟩
          clear hp0 hmade HB3 HBX
          rcases hA with rfl | ⟨ad, rfl⟩
          · skip
            go_wp2_with fail
            generalize hw3 : wr.alloc (.cells #[] 89) = w3 at *
            clear hw3
            have HB4 := Lib.hid (HB.out.trans (HK3.out.mono HB.out.size))
            have HX4 := Lib.hid (HX.out.below HK3.out)
            have HY4 := Lib.hid (HY.out.below HK3.out)
            have HTK : Hid (Calls Tryd.prog 40 #[.pointer (some ⟨b, 0, none⟩), .slice (some ⟨wr.heap.size, 0, none⟩) 0 0] w3 fun e w' => TakeR o q (([] : List Mr).map Mr.r) w3 w' e) := Lib.hid (st_take b f o q _ _ ([] : List Mr) w3 HX4.out HR3.out (fun m hm => ((HXI.out.ins m hm).at_.below HB4.out)) (by first | omega | simp) ⟨hq0, hq1⟩)
            clear HX HY HB HK3 HR3
            refine HTK.out.mono ?_; rintro e w4 ⟨v4, Z, rfl, hT4, hZ⟩
            have HB5 := Lib.hid (HB4.out.trans (hT4.bel.mono HB4.out.size))
            have HX5 := Lib.hid (HX4.out.below hT4.bel)
            have HY5 := Lib.hid (HY4.out.below hT4.bel)
            have HT4 := Lib.hid hT4
            have HZ := Lib.hid hZ
            obtain ⟨A4, c4, rfl⟩ := hT4.shape
            have hrc : w4.cell? ⟨B, O + j2, none⟩ = some (.slice none ([] : List Mr).length xc) := (HB5.out.cell (p := ⟨B, O + j2, none⟩) HBL.out).trans HCC.out
            have HTR : Hid (Calls Tryd.prog 41 #[.pointer (some ⟨bx, 0, none⟩), .slice none ([] : List Mr).length xc] w4 fun e w' => TakeR o q (([] : List Mr).map Mr.r) w4 w' e) := Lib.hid (ref_take bx f o q _ _ ([] : List Mr) w4 HY5.out (HXI.out.below HB5.out).row (fun m hm => ((HXI.out.ins m hm).at_.below HB5.out)) (by first | omega | simp) ⟨hq0, hq1⟩)
            clear hT4 hZ HTK HX4 HY4 HB4
            go_wp2_with fail
            refine HTR.out.mono ?_; rintro e w5 ⟨v5, Y, rfl, hT5, hY⟩
            have HB6 := Lib.hid (HB5.out.trans (hT5.bel.mono HB5.out.size))
            have HX6 := Lib.hid (HX5.out.below hT5.bel)
            have HY6 := Lib.hid (HY5.out.below hT5.bel)
            have hT45 := HT4.out.below hT5.bel
            have HYL : Hid (Y.length ≤ 400) := Lib.hid (by
              have h := takeS_len (o := o) (a := q) (rs := ([] : List Mr).map Mr.r) (acc := [])
              rw [← hY] at h
              simp only [List.length_map, List.length_nil] at h
              omega)
            have hby : ∀ (Q : List Mr), Q.map Mr.r = takeS o q [] (([] : List Mr).map Mr.r) → ∀ m ∈ Q, isBy m.r.key ∧ isBy m.r.val := fun Q hQ m hm => by
              have h := List.mem_map_of_mem (f := Mr.r) hm
              rw [hQ] at h
              rcases takeS_mem h with h | h
              · cases h
              · obtain ⟨m', hm', e⟩ := List.mem_map.1 h
                rw [← e]
                exact ⟨(HXI.out.ins m' hm').key, (HXI.out.ins m' hm').val⟩
            have HEQ : Hid (Z.map Mr.r = Y.map Mr.r) := Lib.hid (HZ.out.trans hY.symm)
            have HRC := Lib.hid (law_recs18 (.slice A4 Z.length c4) v5 Z Y w5 hT45.rowAt hT5.rowAt hT45.at_ hT5.at_ (fun m hm => (hby Z HZ.out m hm).2) (fun m hm => (hby Z HZ.out m hm).1) (hby Y hY) (by have h := congrArg List.length HEQ.out; simp only [List.length_map] at h; have := HYL.out; omega))
            obtain ⟨A5, c5, rfl⟩ := hT5.shape
            clear hT5 hY hT45 hby HTR HX5 HY5 HB5 hrc HT4 HZ
            go_wp2_with fail
            refine HRC.out.mono ?_; rintro e w6 ⟨⟨b6, rfl, hb6⟩, k6⟩
            obtain rfl : b6 = true := hb6.2 HEQ.out
            have HB7 := Lib.hid (HB6.out.trans (k6.mono HB6.out.size))
            have HX7 := Lib.hid (HX6.out.below k6)
            have HY7 := Lib.hid (HY6.out.below k6)
            have y2 := HY7.out.c 2 _ rfl
            have hyl := HYL.out
            have e3 : IntKind.i64.wrap (q + (Y.length : Int)) = q + (Y.length : Int) := IntWalk.i64_in _ (by omega)
            clear hb6 k6 HRC HEQ HX6 HY6 HB6
            by_cases hd : j2 < dn
            · have hd' : (j2 : Int) < (dn : Int) := by omega
              obtain ⟨DB, DO, rfl, hDB, hdc⟩ := HD.out (by omega)
              have hdv : w6.cell? ⟨DB, DO + j2, none⟩ = some (.int .i64 (dz j2)) := (HB7.out.cell (p := ⟨DB, DO + j2, none⟩) hDB).trans (hdc j2 hd).1
              clear hdc hDB
              generalize dz j2 = d at *
              obtain ⟨z, hzz⟩ : ∃ z, doneM q d = z := ⟨_, rfl⟩
              have hzb := doneM_bd (a := q) (q := d) ⟨hq0, hq1⟩
              rw [hzz] at hzb
              have HDN : Hid (∀ W, XB W b (inC f o q) → Below w.heap.size w W → Calls Tryd.prog 43 #[.pointer (some ⟨b, 0, none⟩), .int .i64 d] W fun e w' => DoneRes b f o z W w' e) := Lib.hid (fun W q1 q2 => by
                subst hzz
                exact st_done b f o q d W q1 HEP.out.1 ⟨hq0, hq1⟩ (fun W' k => HT.out _ (q2.trans (k.below hbw q2.size))))
              have HDR : Hid (∀ W, XB W bx (inC f o q) → Calls Tryd.prog 44 #[.pointer (some ⟨bx, 0, none⟩), .int .i64 d] W fun e w' => DoneRes bx f o z W w' e) := Lib.hid (fun W q1 => by
                subst hzz
                exact ref_done bx f o q d W q1 HEP.out.1 ⟨hq0, hq1⟩)
              have HZB := Lib.hid hzb
              have HNB : Hid (b ≠ bx ∧ w.heap.size ≤ bx ∧ w.heap.size ≤ b) := Lib.hid ⟨HNE.out.1, HNE.out.2, hbw⟩
              have hzn : (z != z) = false := by simp
              clear hzz hzb
              go_upto_region 26 with fail
              clear y2 e3 hyl hd'
              have kd : Below w6.heap.size w6 w6.drew := (Below.refl _ _).drew
              have HX8 := Lib.hid (HX7.out.below kd)
              have HY8 := Lib.hid (HY7.out.below kd)
              have HB8 := Lib.hid (HB7.out.trans (kd.mono HB7.out.size))
              clear kd HX7 HY7 HB7
              refine wp_region_held_drew (S := fun _ => True) (by kernel_rfl) trivial (fun hHeld => ?_)
              generalize w6.drew = V at *
              refine wpAnyH_take (i := 0) (v := ?_) rfl (by kernel_rfl) (by kernel_rfl) (by kernel_rfl) (fun _ _ _ h => h) (Or.inl ⟨by rfl, ?_⟩) (by assumption) ?_
              rotate_left
              · intro w' hSw; (try dsimp only at hSw); go_simp; (try with_reducible rfl)
              (try simp only [Act.put, List.setIfInBounds_toArray, List.set_cons_zero, List.set_cons_succ, List.getElem_toArray, List.getElem_cons_succ, List.getElem_cons_zero])
              refine wpAnyH_take (i := 1) (v := ?_) rfl (by kernel_rfl) (by kernel_rfl) (by kernel_rfl) (fun _ _ _ h => h) (Or.inl ⟨by rfl, ?_⟩) (by assumption) ?_
              rotate_left
              · intro w' hSw; (try dsimp only at hSw); go_simp; (try with_reducible rfl)
              (try simp only [Act.put, List.setIfInBounds_toArray, List.set_cons_zero, List.set_cons_succ, List.getElem_toArray, List.getElem_cons_succ, List.getElem_cons_zero])
              refine wpAnyH_take (i := 3) (v := ?_) rfl (by kernel_rfl) (by kernel_rfl) (by kernel_rfl) (fun _ _ _ h => h) (Or.inl ⟨by rfl, ?_⟩) (by assumption) ?_
              rotate_left
              · intro w' hSw; (try dsimp only at hSw); go_simp; (try with_reducible rfl)
              (try simp only [Act.put, List.setIfInBounds_toArray, List.set_cons_zero, List.set_cons_succ, List.getElem_toArray, List.getElem_cons_succ, List.getElem_cons_zero])
              refine wpAnyH_take (i := 4) (v := ?_) rfl (by kernel_rfl) (by kernel_rfl) (by kernel_rfl) (fun _ _ _ h => h) (Or.inl ⟨by rfl, ?_⟩) (by assumption) ?_
              rotate_left
              · intro w' hSw; (try dsimp only at hSw); go_simp; (try with_reducible rfl)
              (try simp only [Act.put, List.setIfInBounds_toArray, List.set_cons_zero, List.set_cons_succ, List.getElem_toArray, List.getElem_cons_succ, List.getElem_cons_zero])
              refine wpAnyH_ready (rs := [2]) (by kernel_rfl) (by simp) ?_
              refine AllReadyH.cons rfl (fun K hK => ?_) (AllReadyH.nil)
              go_simp
              go_at_call 43
              refine (HDN.out _ HX8.out HB8.out).mono ?_; rintro e V1 ⟨vA, rfl, hmA, hpA⟩
              obtain ⟨BA, cA, rfl⟩ := hmA.shape
              have HXa := Lib.hid hpA.xb
              have HYa := Lib.hid (HY8.out.only hpA.only HNB.out.1.symm)
              have HBa := Lib.hid (HB8.out.trans (hpA.only.below HNB.out.2.2 HB8.out.size))
              have HMa := Lib.hid hmA
              have HLT : Hid (bx < V.heap.size) := Lib.hid HY8.out.lt
              clear hmA hpA HX8 HY8 HB8
              (try dsimp only)
              refine hK.out _ _ ?_ (fun hHeld => ?_)
              · exact trivial
              clear hK K
              (try simp only [Act.put, List.setIfInBounds_toArray, List.set_cons_zero, List.set_cons_succ, List.getElem_toArray, List.getElem_cons_succ, List.getElem_cons_zero])
              refine wpAnyH_ready (rs := [5]) (by kernel_rfl) (by simp) ?_
              refine AllReadyH.cons rfl (fun K hK => ?_) (AllReadyH.nil)
              go_simp
              go_at_call 44
              refine (HDR.out _ HYa.out).mono ?_; rintro e V2 ⟨vC, rfl, hmC, hpC⟩
              obtain ⟨BC, cC, rfl⟩ := hmC.shape
              have HYb := Lib.hid hpC.xb
              have HXb := Lib.hid (HXa.out.only hpC.only HNB.out.1)
              have HBb := Lib.hid (HBa.out.trans (hpC.only.below HNB.out.2.1 HBa.out.size))
              have HMA := Lib.hid (HMa.out.only hpC.only HLT.out)
              have HMC := Lib.hid hmC
              clear hmC hpC HXa HYa HBa HMa HLT
              (try dsimp only)
              refine hK.out _ _ ?_ (fun hHeld => ?_)
              · exact trivial
              clear hK K
              (try simp only [Act.put, List.setIfInBounds_toArray, List.set_cons_zero, List.set_cons_succ, List.getElem_toArray, List.getElem_cons_succ, List.getElem_cons_zero])
              have HMS := Lib.hid (law_messages _ _ f o (ackE o z) V2 HMA.out HMC.out)
              refine wpAnyH_ready (rs := [6]) (by kernel_rfl) (by simp) ?_
              refine AllReadyH.cons rfl (fun K hK => ?_) (AllReadyH.nil)
              go_simp
              go_at_call 36
              refine HMS.out.mono ?_; rintro e V3 ⟨rfl, k3⟩
              have HXc := Lib.hid (HXb.out.below k3)
              have HYc := Lib.hid (HYb.out.below k3)
              have HBc := Lib.hid (HBb.out.trans (k3.mono HBb.out.size))
              have y2 := HYc.out.c 2 _ rfl
              clear k3 HMS HMA HMC HXb HYb HBb
              (try dsimp only)
              refine hK.out _ _ ?_ (fun hHeld => ?_)
              · exact trivial
              clear hK K
              (try simp only [Act.put, List.setIfInBounds_toArray, List.set_cons_zero, List.set_cons_succ, List.getElem_toArray, List.getElem_cons_succ, List.getElem_cons_zero])
              refine wpAnyH_take (i := 7) (v := ?_) rfl (by kernel_rfl) (by kernel_rfl) (by kernel_rfl) (fun _ _ _ h => h) (Or.inl ⟨by rfl, ?_⟩) (by assumption) ?_
              rotate_left
              · intro w' hSw; (try dsimp only at hSw); go_simp; (try with_reducible rfl)
              (try simp only [Act.put, List.setIfInBounds_toArray, List.set_cons_zero, List.set_cons_succ, List.getElem_toArray, List.getElem_cons_succ, List.getElem_cons_zero])
              refine wpAnyH_take (i := 8) (v := ?_) rfl (by kernel_rfl) (by kernel_rfl) (by kernel_rfl) (fun _ _ _ h => h) (Or.inl ⟨by rfl, ?_⟩) (by assumption) ?_
              rotate_left
              · intro w' hSw; (try dsimp only at hSw); go_simp; (try with_reducible rfl)
              (try simp only [Act.put, List.setIfInBounds_toArray, List.set_cons_zero, List.set_cons_succ, List.getElem_toArray, List.getElem_cons_succ, List.getElem_cons_zero])
              refine wpAnyH_take (i := 9) (v := ?_) rfl (by kernel_rfl) (by kernel_rfl) (by kernel_rfl) (fun _ _ _ h => h) (Or.inl ⟨by rfl, ?_⟩) (by assumption) ?_
              rotate_left
              · intro w' hSw; (try dsimp only at hSw); go_simp; (try with_reducible rfl)
              (try simp only [Act.put, List.setIfInBounds_toArray, List.set_cons_zero, List.set_cons_succ, List.getElem_toArray, List.getElem_cons_succ, List.getElem_cons_zero])
              refine wpAnyH_take (i := 11) (v := ?_) rfl (by kernel_rfl) (by kernel_rfl) (by kernel_rfl) (fun _ _ _ h => h) (Or.inl ⟨by rfl, ?_⟩) (by assumption) ?_
              rotate_left
              · intro w' hSw; (try dsimp only at hSw); go_simp; (try with_reducible rfl)
              (try simp only [Act.put, List.setIfInBounds_toArray, List.set_cons_zero, List.set_cons_succ, List.getElem_toArray, List.getElem_cons_succ, List.getElem_cons_zero])
              refine wpAnyH_take (i := 12) (v := ?_) rfl (by kernel_rfl) (by kernel_rfl) (by kernel_rfl) (fun _ _ _ h => h) (Or.inl ⟨by rfl, ?_⟩) (by assumption) ?_
              rotate_left
              · intro w' hSw; (try dsimp only at hSw); go_simp; (try with_reducible rfl)
              (try simp only [Act.put, List.setIfInBounds_toArray, List.set_cons_zero, List.set_cons_succ, List.getElem_toArray, List.getElem_cons_succ, List.getElem_cons_zero])
              refine wpAnyH_take (i := 13) (v := ?_) rfl (by kernel_rfl) (by kernel_rfl) (by kernel_rfl) (fun _ _ _ h => h) (Or.inl ⟨by rfl, ?_⟩) (by assumption) ?_
              rotate_left
              · intro w' hSw; (try dsimp only at hSw); go_simp; (try with_reducible rfl)
              (try simp only [Act.put, List.setIfInBounds_toArray, List.set_cons_zero, List.set_cons_succ, List.getElem_toArray, List.getElem_cons_succ, List.getElem_cons_zero])
              refine wpAnyH_ready (rs := [10, 14]) (by kernel_rfl) (by simp) ?_
              refine AllReadyH.cons rfl (fun K hK => ?_) (AllReadyH.cons rfl (fun K hK => ?_) (AllReadyH.nil))
              · skip
                go_simp
                go_at_call 45
                refine (st_applied b f o z V3 HXc.out).mono ?_; rintro e w' ⟨rfl, rfl⟩
                (try dsimp only)
                refine hK.out _ _ ?_ (fun hHeld => ?_)
                · exact trivial
                clear hK K
                (try simp only [Act.put, List.setIfInBounds_toArray, List.set_cons_zero, List.set_cons_succ, List.getElem_toArray, List.getElem_cons_succ, List.getElem_cons_zero])
                refine wpAnyH_ready (rs := [14]) (by kernel_rfl) (by simp) ?_
                refine AllReadyH.cons rfl (fun K hK => ?_) (AllReadyH.nil)
                go_simp
                (try dsimp only)
                refine hK.out _ _ ?_ (fun hHeld => ?_)
                · exact trivial
                clear hK K
                (try simp only [Act.put, List.setIfInBounds_toArray, List.set_cons_zero, List.set_cons_succ, List.getElem_toArray, List.getElem_cons_succ, List.getElem_cons_zero])
                refine wpAnyH_take (i := 15) (v := ?_) rfl (by kernel_rfl) (by kernel_rfl) (by kernel_rfl) (fun _ _ _ h => h) (Or.inl ⟨by rfl, ?_⟩) (by assumption) ?_
                rotate_left
                · intro w' hSw; (try dsimp only at hSw); go_simp; (try with_reducible rfl)
                (try simp only [Act.put, List.setIfInBounds_toArray, List.set_cons_zero, List.set_cons_succ, List.getElem_toArray, List.getElem_cons_succ, List.getElem_cons_zero])
                refine wpAnyH_take (i := 16) (v := ?_) rfl (by kernel_rfl) (by kernel_rfl) (by kernel_rfl) (fun _ _ _ h => h) (Or.inl ⟨by rfl, ?_⟩) (by assumption) ?_
                rotate_left
                · intro w' hSw; (try dsimp only at hSw); go_simp; (try with_reducible rfl)
                (try simp only [Act.put, List.setIfInBounds_toArray, List.set_cons_zero, List.set_cons_succ, List.getElem_toArray, List.getElem_cons_succ, List.getElem_cons_zero])
                refine wpAnyH_done (by kernel_rfl) ?_ _
                go_wp2
                go_roundw
                case rel => exact ⟨j2 + 1, z, by omega, by omega, by go_num, HZB.out.1, HZB.out.2, HXc.out, HYc.out, HBc.out⟩
                case measure => simp [intOf]; omega
              · skip
                go_simp
                (try dsimp only)
                refine hK.out _ _ ?_ (fun hHeld => ?_)
                · exact trivial
                clear hK K
                (try simp only [Act.put, List.setIfInBounds_toArray, List.set_cons_zero, List.set_cons_succ, List.getElem_toArray, List.getElem_cons_succ, List.getElem_cons_zero])
                refine wpAnyH_ready (rs := [10]) (by kernel_rfl) (by simp) ?_
                refine AllReadyH.cons rfl (fun K hK => ?_) (AllReadyH.nil)
                go_simp
                go_at_call 45
                refine (st_applied b f o z V3 HXc.out).mono ?_; rintro e w' ⟨rfl, rfl⟩
                (try dsimp only)
                refine hK.out _ _ ?_ (fun hHeld => ?_)
                · exact trivial
                clear hK K
                (try simp only [Act.put, List.setIfInBounds_toArray, List.set_cons_zero, List.set_cons_succ, List.getElem_toArray, List.getElem_cons_succ, List.getElem_cons_zero])
                refine wpAnyH_take (i := 15) (v := ?_) rfl (by kernel_rfl) (by kernel_rfl) (by kernel_rfl) (fun _ _ _ h => h) (Or.inl ⟨by rfl, ?_⟩) (by assumption) ?_
                rotate_left
                · intro w' hSw; (try dsimp only at hSw); go_simp; (try with_reducible rfl)
                (try simp only [Act.put, List.setIfInBounds_toArray, List.set_cons_zero, List.set_cons_succ, List.getElem_toArray, List.getElem_cons_succ, List.getElem_cons_zero])
                refine wpAnyH_take (i := 16) (v := ?_) rfl (by kernel_rfl) (by kernel_rfl) (by kernel_rfl) (fun _ _ _ h => h) (Or.inl ⟨by rfl, ?_⟩) (by assumption) ?_
                rotate_left
                · intro w' hSw; (try dsimp only at hSw); go_simp; (try with_reducible rfl)
                (try simp only [Act.put, List.setIfInBounds_toArray, List.set_cons_zero, List.set_cons_succ, List.getElem_toArray, List.getElem_cons_succ, List.getElem_cons_zero])
                refine wpAnyH_done (by kernel_rfl) ?_ _
                go_wp2
                go_roundw
                case rel => exact ⟨j2 + 1, z, by omega, by omega, by go_num, HZB.out.1, HZB.out.2, HXc.out, HYc.out, HBc.out⟩
                case measure => simp [intOf]; omega
            · have hd' : ¬ (j2 : Int) < (dn : Int) := by omega
              obtain ⟨z, hzz⟩ : ∃ z, doneM q (q + (Y.length : Int)) = z := ⟨_, rfl⟩
              have hzb := doneM_bd (a := q) (q := q + (Y.length : Int)) ⟨hq0, hq1⟩
              rw [hzz] at hzb
              have HDN : Hid (∀ W, XB W b (inC f o q) → Below w.heap.size w W → Calls Tryd.prog 43 #[.pointer (some ⟨b, 0, none⟩), .int .i64 (q + (Y.length : Int))] W fun e w' => DoneRes b f o z W w' e) := Lib.hid (fun W q1 q2 => by
                subst hzz
                exact st_done b f o q (q + (Y.length : Int)) W q1 HEP.out.1 ⟨hq0, hq1⟩ (fun W' k => HT.out _ (q2.trans (k.below hbw q2.size))))
              have HDR : Hid (∀ W, XB W bx (inC f o q) → Calls Tryd.prog 44 #[.pointer (some ⟨bx, 0, none⟩), .int .i64 (q + (Y.length : Int))] W fun e w' => DoneRes bx f o z W w' e) := Lib.hid (fun W q1 => by
                subst hzz
                exact ref_done bx f o q (q + (Y.length : Int)) W q1 HEP.out.1 ⟨hq0, hq1⟩)
              have HZB := Lib.hid hzb
              have HNB : Hid (b ≠ bx ∧ w.heap.size ≤ bx ∧ w.heap.size ≤ b) := Lib.hid ⟨HNE.out.1, HNE.out.2, hbw⟩
              have hzn : (z != z) = false := by simp
              clear hzz hzb
              go_upto_region 26 with fail
              clear y2 e3 hyl hd'
              have kd : Below w6.heap.size w6 w6.drew := (Below.refl _ _).drew
              have HX8 := Lib.hid (HX7.out.below kd)
              have HY8 := Lib.hid (HY7.out.below kd)
              have HB8 := Lib.hid (HB7.out.trans (kd.mono HB7.out.size))
              clear kd HX7 HY7 HB7
              refine wp_region_held_drew (S := fun _ => True) (by kernel_rfl) trivial (fun hHeld => ?_)
              generalize w6.drew = V at *
              refine wpAnyH_take (i := 0) (v := ?_) rfl (by kernel_rfl) (by kernel_rfl) (by kernel_rfl) (fun _ _ _ h => h) (Or.inl ⟨by rfl, ?_⟩) (by assumption) ?_
              rotate_left
              · intro w' hSw; (try dsimp only at hSw); go_simp; (try with_reducible rfl)
              (try simp only [Act.put, List.setIfInBounds_toArray, List.set_cons_zero, List.set_cons_succ, List.getElem_toArray, List.getElem_cons_succ, List.getElem_cons_zero])
              refine wpAnyH_take (i := 1) (v := ?_) rfl (by kernel_rfl) (by kernel_rfl) (by kernel_rfl) (fun _ _ _ h => h) (Or.inl ⟨by rfl, ?_⟩) (by assumption) ?_
              rotate_left
              · intro w' hSw; (try dsimp only at hSw); go_simp; (try with_reducible rfl)
              (try simp only [Act.put, List.setIfInBounds_toArray, List.set_cons_zero, List.set_cons_succ, List.getElem_toArray, List.getElem_cons_succ, List.getElem_cons_zero])
              refine wpAnyH_take (i := 3) (v := ?_) rfl (by kernel_rfl) (by kernel_rfl) (by kernel_rfl) (fun _ _ _ h => h) (Or.inl ⟨by rfl, ?_⟩) (by assumption) ?_
              rotate_left
              · intro w' hSw; (try dsimp only at hSw); go_simp; (try with_reducible rfl)
              (try simp only [Act.put, List.setIfInBounds_toArray, List.set_cons_zero, List.set_cons_succ, List.getElem_toArray, List.getElem_cons_succ, List.getElem_cons_zero])
              refine wpAnyH_take (i := 4) (v := ?_) rfl (by kernel_rfl) (by kernel_rfl) (by kernel_rfl) (fun _ _ _ h => h) (Or.inl ⟨by rfl, ?_⟩) (by assumption) ?_
              rotate_left
              · intro w' hSw; (try dsimp only at hSw); go_simp; (try with_reducible rfl)
              (try simp only [Act.put, List.setIfInBounds_toArray, List.set_cons_zero, List.set_cons_succ, List.getElem_toArray, List.getElem_cons_succ, List.getElem_cons_zero])
              refine wpAnyH_ready (rs := [2]) (by kernel_rfl) (by simp) ?_
              refine AllReadyH.cons rfl (fun K hK => ?_) (AllReadyH.nil)
              go_simp
              go_at_call 43
              refine (HDN.out _ HX8.out HB8.out).mono ?_; rintro e V1 ⟨vA, rfl, hmA, hpA⟩
              obtain ⟨BA, cA, rfl⟩ := hmA.shape
              have HXa := Lib.hid hpA.xb
              have HYa := Lib.hid (HY8.out.only hpA.only HNB.out.1.symm)
              have HBa := Lib.hid (HB8.out.trans (hpA.only.below HNB.out.2.2 HB8.out.size))
              have HMa := Lib.hid hmA
              have HLT : Hid (bx < V.heap.size) := Lib.hid HY8.out.lt
              clear hmA hpA HX8 HY8 HB8
              (try dsimp only)
              refine hK.out _ _ ?_ (fun hHeld => ?_)
              · exact trivial
              clear hK K
              (try simp only [Act.put, List.setIfInBounds_toArray, List.set_cons_zero, List.set_cons_succ, List.getElem_toArray, List.getElem_cons_succ, List.getElem_cons_zero])
              refine wpAnyH_ready (rs := [5]) (by kernel_rfl) (by simp) ?_
              refine AllReadyH.cons rfl (fun K hK => ?_) (AllReadyH.nil)
              go_simp
              go_at_call 44
              refine (HDR.out _ HYa.out).mono ?_; rintro e V2 ⟨vC, rfl, hmC, hpC⟩
              obtain ⟨BC, cC, rfl⟩ := hmC.shape
              have HYb := Lib.hid hpC.xb
              have HXb := Lib.hid (HXa.out.only hpC.only HNB.out.1)
              have HBb := Lib.hid (HBa.out.trans (hpC.only.below HNB.out.2.1 HBa.out.size))
              have HMA := Lib.hid (HMa.out.only hpC.only HLT.out)
              have HMC := Lib.hid hmC
              clear hmC hpC HXa HYa HBa HMa HLT
              (try dsimp only)
              refine hK.out _ _ ?_ (fun hHeld => ?_)
              · exact trivial
              clear hK K
              (try simp only [Act.put, List.setIfInBounds_toArray, List.set_cons_zero, List.set_cons_succ, List.getElem_toArray, List.getElem_cons_succ, List.getElem_cons_zero])
              have HMS := Lib.hid (law_messages _ _ f o (ackE o z) V2 HMA.out HMC.out)
              refine wpAnyH_ready (rs := [6]) (by kernel_rfl) (by simp) ?_
              refine AllReadyH.cons rfl (fun K hK => ?_) (AllReadyH.nil)
              go_simp
              go_at_call 36
              refine HMS.out.mono ?_; rintro e V3 ⟨rfl, k3⟩
              have HXc := Lib.hid (HXb.out.below k3)
              have HYc := Lib.hid (HYb.out.below k3)
              have HBc := Lib.hid (HBb.out.trans (k3.mono HBb.out.size))
              have y2 := HYc.out.c 2 _ rfl
              clear k3 HMS HMA HMC HXb HYb HBb
              (try dsimp only)
              refine hK.out _ _ ?_ (fun hHeld => ?_)
              · exact trivial
              clear hK K
              (try simp only [Act.put, List.setIfInBounds_toArray, List.set_cons_zero, List.set_cons_succ, List.getElem_toArray, List.getElem_cons_succ, List.getElem_cons_zero])
              refine wpAnyH_take (i := 7) (v := ?_) rfl (by kernel_rfl) (by kernel_rfl) (by kernel_rfl) (fun _ _ _ h => h) (Or.inl ⟨by rfl, ?_⟩) (by assumption) ?_
              rotate_left
              · intro w' hSw; (try dsimp only at hSw); go_simp; (try with_reducible rfl)
              (try simp only [Act.put, List.setIfInBounds_toArray, List.set_cons_zero, List.set_cons_succ, List.getElem_toArray, List.getElem_cons_succ, List.getElem_cons_zero])
              refine wpAnyH_take (i := 8) (v := ?_) rfl (by kernel_rfl) (by kernel_rfl) (by kernel_rfl) (fun _ _ _ h => h) (Or.inl ⟨by rfl, ?_⟩) (by assumption) ?_
              rotate_left
              · intro w' hSw; (try dsimp only at hSw); go_simp; (try with_reducible rfl)
              (try simp only [Act.put, List.setIfInBounds_toArray, List.set_cons_zero, List.set_cons_succ, List.getElem_toArray, List.getElem_cons_succ, List.getElem_cons_zero])
              refine wpAnyH_take (i := 9) (v := ?_) rfl (by kernel_rfl) (by kernel_rfl) (by kernel_rfl) (fun _ _ _ h => h) (Or.inl ⟨by rfl, ?_⟩) (by assumption) ?_
              rotate_left
              · intro w' hSw; (try dsimp only at hSw); go_simp; (try with_reducible rfl)
              (try simp only [Act.put, List.setIfInBounds_toArray, List.set_cons_zero, List.set_cons_succ, List.getElem_toArray, List.getElem_cons_succ, List.getElem_cons_zero])
              refine wpAnyH_take (i := 11) (v := ?_) rfl (by kernel_rfl) (by kernel_rfl) (by kernel_rfl) (fun _ _ _ h => h) (Or.inl ⟨by rfl, ?_⟩) (by assumption) ?_
              rotate_left
              · intro w' hSw; (try dsimp only at hSw); go_simp; (try with_reducible rfl)
              (try simp only [Act.put, List.setIfInBounds_toArray, List.set_cons_zero, List.set_cons_succ, List.getElem_toArray, List.getElem_cons_succ, List.getElem_cons_zero])
              refine wpAnyH_take (i := 12) (v := ?_) rfl (by kernel_rfl) (by kernel_rfl) (by kernel_rfl) (fun _ _ _ h => h) (Or.inl ⟨by rfl, ?_⟩) (by assumption) ?_
              rotate_left
              · intro w' hSw; (try dsimp only at hSw); go_simp; (try with_reducible rfl)
              (try simp only [Act.put, List.setIfInBounds_toArray, List.set_cons_zero, List.set_cons_succ, List.getElem_toArray, List.getElem_cons_succ, List.getElem_cons_zero])
              refine wpAnyH_take (i := 13) (v := ?_) rfl (by kernel_rfl) (by kernel_rfl) (by kernel_rfl) (fun _ _ _ h => h) (Or.inl ⟨by rfl, ?_⟩) (by assumption) ?_
              rotate_left
              · intro w' hSw; (try dsimp only at hSw); go_simp; (try with_reducible rfl)
              (try simp only [Act.put, List.setIfInBounds_toArray, List.set_cons_zero, List.set_cons_succ, List.getElem_toArray, List.getElem_cons_succ, List.getElem_cons_zero])
              refine wpAnyH_ready (rs := [10, 14]) (by kernel_rfl) (by simp) ?_
              refine AllReadyH.cons rfl (fun K hK => ?_) (AllReadyH.cons rfl (fun K hK => ?_) (AllReadyH.nil))
              · skip
                go_simp
                go_at_call 45
                refine (st_applied b f o z V3 HXc.out).mono ?_; rintro e w' ⟨rfl, rfl⟩
                (try dsimp only)
                refine hK.out _ _ ?_ (fun hHeld => ?_)
                · exact trivial
                clear hK K
                (try simp only [Act.put, List.setIfInBounds_toArray, List.set_cons_zero, List.set_cons_succ, List.getElem_toArray, List.getElem_cons_succ, List.getElem_cons_zero])
                refine wpAnyH_ready (rs := [14]) (by kernel_rfl) (by simp) ?_
                refine AllReadyH.cons rfl (fun K hK => ?_) (AllReadyH.nil)
                go_simp
                (try dsimp only)
                refine hK.out _ _ ?_ (fun hHeld => ?_)
                · exact trivial
                clear hK K
                (try simp only [Act.put, List.setIfInBounds_toArray, List.set_cons_zero, List.set_cons_succ, List.getElem_toArray, List.getElem_cons_succ, List.getElem_cons_zero])
                refine wpAnyH_take (i := 15) (v := ?_) rfl (by kernel_rfl) (by kernel_rfl) (by kernel_rfl) (fun _ _ _ h => h) (Or.inl ⟨by rfl, ?_⟩) (by assumption) ?_
                rotate_left
                · intro w' hSw; (try dsimp only at hSw); go_simp; (try with_reducible rfl)
                (try simp only [Act.put, List.setIfInBounds_toArray, List.set_cons_zero, List.set_cons_succ, List.getElem_toArray, List.getElem_cons_succ, List.getElem_cons_zero])
                refine wpAnyH_take (i := 16) (v := ?_) rfl (by kernel_rfl) (by kernel_rfl) (by kernel_rfl) (fun _ _ _ h => h) (Or.inl ⟨by rfl, ?_⟩) (by assumption) ?_
                rotate_left
                · intro w' hSw; (try dsimp only at hSw); go_simp; (try with_reducible rfl)
                (try simp only [Act.put, List.setIfInBounds_toArray, List.set_cons_zero, List.set_cons_succ, List.getElem_toArray, List.getElem_cons_succ, List.getElem_cons_zero])
                refine wpAnyH_done (by kernel_rfl) ?_ _
                go_wp2
                go_roundw
                case rel => exact ⟨j2 + 1, z, by omega, by omega, by go_num, HZB.out.1, HZB.out.2, HXc.out, HYc.out, HBc.out⟩
                case measure => simp [intOf]; omega
              · skip
                go_simp
                (try dsimp only)
                refine hK.out _ _ ?_ (fun hHeld => ?_)
                · exact trivial
                clear hK K
                (try simp only [Act.put, List.setIfInBounds_toArray, List.set_cons_zero, List.set_cons_succ, List.getElem_toArray, List.getElem_cons_succ, List.getElem_cons_zero])
                refine wpAnyH_ready (rs := [10]) (by kernel_rfl) (by simp) ?_
                refine AllReadyH.cons rfl (fun K hK => ?_) (AllReadyH.nil)
                go_simp
                go_at_call 45
                refine (st_applied b f o z V3 HXc.out).mono ?_; rintro e w' ⟨rfl, rfl⟩
                (try dsimp only)
                refine hK.out _ _ ?_ (fun hHeld => ?_)
                · exact trivial
                clear hK K
                (try simp only [Act.put, List.setIfInBounds_toArray, List.set_cons_zero, List.set_cons_succ, List.getElem_toArray, List.getElem_cons_succ, List.getElem_cons_zero])
                refine wpAnyH_take (i := 15) (v := ?_) rfl (by kernel_rfl) (by kernel_rfl) (by kernel_rfl) (fun _ _ _ h => h) (Or.inl ⟨by rfl, ?_⟩) (by assumption) ?_
                rotate_left
                · intro w' hSw; (try dsimp only at hSw); go_simp; (try with_reducible rfl)
                (try simp only [Act.put, List.setIfInBounds_toArray, List.set_cons_zero, List.set_cons_succ, List.getElem_toArray, List.getElem_cons_succ, List.getElem_cons_zero])
                refine wpAnyH_take (i := 16) (v := ?_) rfl (by kernel_rfl) (by kernel_rfl) (by kernel_rfl) (fun _ _ _ h => h) (Or.inl ⟨by rfl, ?_⟩) (by assumption) ?_
                rotate_left
                · intro w' hSw; (try dsimp only at hSw); go_simp; (try with_reducible rfl)
                (try simp only [Act.put, List.setIfInBounds_toArray, List.set_cons_zero, List.set_cons_succ, List.getElem_toArray, List.getElem_cons_succ, List.getElem_cons_zero])
                refine wpAnyH_done (by kernel_rfl) ?_ _
                go_wp2
                go_roundw
                case rel => exact ⟨j2 + 1, z, by omega, by omega, by go_num, HZB.out.1, HZB.out.2, HXc.out, HYc.out, HBc.out⟩
                case measure => simp [intOf]; omega
          · skip
            go_wp2_with fail
            generalize hw3 : wr.alloc (.cells #[] 89) = w3 at *
            clear hw3
            have HB4 := Lib.hid (HB.out.trans (HK3.out.mono HB.out.size))
            have HX4 := Lib.hid (HX.out.below HK3.out)
            have HY4 := Lib.hid (HY.out.below HK3.out)
            have HTK : Hid (Calls Tryd.prog 40 #[.pointer (some ⟨b, 0, none⟩), .slice (some ⟨wr.heap.size, 0, none⟩) 0 0] w3 fun e w' => TakeR o q (([] : List Mr).map Mr.r) w3 w' e) := Lib.hid (st_take b f o q _ _ ([] : List Mr) w3 HX4.out HR3.out (fun m hm => ((HXI.out.ins m hm).at_.below HB4.out)) (by first | omega | simp) ⟨hq0, hq1⟩)
            clear HX HY HB HK3 HR3
            refine HTK.out.mono ?_; rintro e w4 ⟨v4, Z, rfl, hT4, hZ⟩
            have HB5 := Lib.hid (HB4.out.trans (hT4.bel.mono HB4.out.size))
            have HX5 := Lib.hid (HX4.out.below hT4.bel)
            have HY5 := Lib.hid (HY4.out.below hT4.bel)
            have HT4 := Lib.hid hT4
            have HZ := Lib.hid hZ
            obtain ⟨A4, c4, rfl⟩ := hT4.shape
            have hrc : w4.cell? ⟨B, O + j2, none⟩ = some (.slice (some ad) ([] : List Mr).length xc) := (HB5.out.cell (p := ⟨B, O + j2, none⟩) HBL.out).trans HCC.out
            have HTR : Hid (Calls Tryd.prog 41 #[.pointer (some ⟨bx, 0, none⟩), .slice (some ad) ([] : List Mr).length xc] w4 fun e w' => TakeR o q (([] : List Mr).map Mr.r) w4 w' e) := Lib.hid (ref_take bx f o q _ _ ([] : List Mr) w4 HY5.out (HXI.out.below HB5.out).row (fun m hm => ((HXI.out.ins m hm).at_.below HB5.out)) (by first | omega | simp) ⟨hq0, hq1⟩)
            clear hT4 hZ HTK HX4 HY4 HB4
            go_wp2_with fail
            refine HTR.out.mono ?_; rintro e w5 ⟨v5, Y, rfl, hT5, hY⟩
            have HB6 := Lib.hid (HB5.out.trans (hT5.bel.mono HB5.out.size))
            have HX6 := Lib.hid (HX5.out.below hT5.bel)
            have HY6 := Lib.hid (HY5.out.below hT5.bel)
            have hT45 := HT4.out.below hT5.bel
            have HYL : Hid (Y.length ≤ 400) := Lib.hid (by
              have h := takeS_len (o := o) (a := q) (rs := ([] : List Mr).map Mr.r) (acc := [])
              rw [← hY] at h
              simp only [List.length_map, List.length_nil] at h
              omega)
            have hby : ∀ (Q : List Mr), Q.map Mr.r = takeS o q [] (([] : List Mr).map Mr.r) → ∀ m ∈ Q, isBy m.r.key ∧ isBy m.r.val := fun Q hQ m hm => by
              have h := List.mem_map_of_mem (f := Mr.r) hm
              rw [hQ] at h
              rcases takeS_mem h with h | h
              · cases h
              · obtain ⟨m', hm', e⟩ := List.mem_map.1 h
                rw [← e]
                exact ⟨(HXI.out.ins m' hm').key, (HXI.out.ins m' hm').val⟩
            have HEQ : Hid (Z.map Mr.r = Y.map Mr.r) := Lib.hid (HZ.out.trans hY.symm)
            have HRC := Lib.hid (law_recs18 (.slice A4 Z.length c4) v5 Z Y w5 hT45.rowAt hT5.rowAt hT45.at_ hT5.at_ (fun m hm => (hby Z HZ.out m hm).2) (fun m hm => (hby Z HZ.out m hm).1) (hby Y hY) (by have h := congrArg List.length HEQ.out; simp only [List.length_map] at h; have := HYL.out; omega))
            obtain ⟨A5, c5, rfl⟩ := hT5.shape
            clear hT5 hY hT45 hby HTR HX5 HY5 HB5 hrc HT4 HZ
            go_wp2_with fail
            refine HRC.out.mono ?_; rintro e w6 ⟨⟨b6, rfl, hb6⟩, k6⟩
            obtain rfl : b6 = true := hb6.2 HEQ.out
            have HB7 := Lib.hid (HB6.out.trans (k6.mono HB6.out.size))
            have HX7 := Lib.hid (HX6.out.below k6)
            have HY7 := Lib.hid (HY6.out.below k6)
            have y2 := HY7.out.c 2 _ rfl
            have hyl := HYL.out
            have e3 : IntKind.i64.wrap (q + (Y.length : Int)) = q + (Y.length : Int) := IntWalk.i64_in _ (by omega)
            clear hb6 k6 HRC HEQ HX6 HY6 HB6
            by_cases hd : j2 < dn
            · have hd' : (j2 : Int) < (dn : Int) := by omega
              obtain ⟨DB, DO, rfl, hDB, hdc⟩ := HD.out (by omega)
              have hdv : w6.cell? ⟨DB, DO + j2, none⟩ = some (.int .i64 (dz j2)) := (HB7.out.cell (p := ⟨DB, DO + j2, none⟩) hDB).trans (hdc j2 hd).1
              clear hdc hDB
              generalize dz j2 = d at *
              obtain ⟨z, hzz⟩ : ∃ z, doneM q d = z := ⟨_, rfl⟩
              have hzb := doneM_bd (a := q) (q := d) ⟨hq0, hq1⟩
              rw [hzz] at hzb
              have HDN : Hid (∀ W, XB W b (inC f o q) → Below w.heap.size w W → Calls Tryd.prog 43 #[.pointer (some ⟨b, 0, none⟩), .int .i64 d] W fun e w' => DoneRes b f o z W w' e) := Lib.hid (fun W q1 q2 => by
                subst hzz
                exact st_done b f o q d W q1 HEP.out.1 ⟨hq0, hq1⟩ (fun W' k => HT.out _ (q2.trans (k.below hbw q2.size))))
              have HDR : Hid (∀ W, XB W bx (inC f o q) → Calls Tryd.prog 44 #[.pointer (some ⟨bx, 0, none⟩), .int .i64 d] W fun e w' => DoneRes bx f o z W w' e) := Lib.hid (fun W q1 => by
                subst hzz
                exact ref_done bx f o q d W q1 HEP.out.1 ⟨hq0, hq1⟩)
              have HZB := Lib.hid hzb
              have HNB : Hid (b ≠ bx ∧ w.heap.size ≤ bx ∧ w.heap.size ≤ b) := Lib.hid ⟨HNE.out.1, HNE.out.2, hbw⟩
              have hzn : (z != z) = false := by simp
              clear hzz hzb
              go_upto_region 26 with fail
              clear y2 e3 hyl hd'
              have kd : Below w6.heap.size w6 w6.drew := (Below.refl _ _).drew
              have HX8 := Lib.hid (HX7.out.below kd)
              have HY8 := Lib.hid (HY7.out.below kd)
              have HB8 := Lib.hid (HB7.out.trans (kd.mono HB7.out.size))
              clear kd HX7 HY7 HB7
              refine wp_region_held_drew (S := fun _ => True) (by kernel_rfl) trivial (fun hHeld => ?_)
              generalize w6.drew = V at *
              refine wpAnyH_take (i := 0) (v := ?_) rfl (by kernel_rfl) (by kernel_rfl) (by kernel_rfl) (fun _ _ _ h => h) (Or.inl ⟨by rfl, ?_⟩) (by assumption) ?_
              rotate_left
              · intro w' hSw; (try dsimp only at hSw); go_simp; (try with_reducible rfl)
              (try simp only [Act.put, List.setIfInBounds_toArray, List.set_cons_zero, List.set_cons_succ, List.getElem_toArray, List.getElem_cons_succ, List.getElem_cons_zero])
              refine wpAnyH_take (i := 1) (v := ?_) rfl (by kernel_rfl) (by kernel_rfl) (by kernel_rfl) (fun _ _ _ h => h) (Or.inl ⟨by rfl, ?_⟩) (by assumption) ?_
              rotate_left
              · intro w' hSw; (try dsimp only at hSw); go_simp; (try with_reducible rfl)
              (try simp only [Act.put, List.setIfInBounds_toArray, List.set_cons_zero, List.set_cons_succ, List.getElem_toArray, List.getElem_cons_succ, List.getElem_cons_zero])
              refine wpAnyH_take (i := 3) (v := ?_) rfl (by kernel_rfl) (by kernel_rfl) (by kernel_rfl) (fun _ _ _ h => h) (Or.inl ⟨by rfl, ?_⟩) (by assumption) ?_
              rotate_left
              · intro w' hSw; (try dsimp only at hSw); go_simp; (try with_reducible rfl)
              (try simp only [Act.put, List.setIfInBounds_toArray, List.set_cons_zero, List.set_cons_succ, List.getElem_toArray, List.getElem_cons_succ, List.getElem_cons_zero])
              refine wpAnyH_take (i := 4) (v := ?_) rfl (by kernel_rfl) (by kernel_rfl) (by kernel_rfl) (fun _ _ _ h => h) (Or.inl ⟨by rfl, ?_⟩) (by assumption) ?_
              rotate_left
              · intro w' hSw; (try dsimp only at hSw); go_simp; (try with_reducible rfl)
              (try simp only [Act.put, List.setIfInBounds_toArray, List.set_cons_zero, List.set_cons_succ, List.getElem_toArray, List.getElem_cons_succ, List.getElem_cons_zero])
              refine wpAnyH_ready (rs := [2]) (by kernel_rfl) (by simp) ?_
              refine AllReadyH.cons rfl (fun K hK => ?_) (AllReadyH.nil)
              go_simp
              go_at_call 43
              refine (HDN.out _ HX8.out HB8.out).mono ?_; rintro e V1 ⟨vA, rfl, hmA, hpA⟩
              obtain ⟨BA, cA, rfl⟩ := hmA.shape
              have HXa := Lib.hid hpA.xb
              have HYa := Lib.hid (HY8.out.only hpA.only HNB.out.1.symm)
              have HBa := Lib.hid (HB8.out.trans (hpA.only.below HNB.out.2.2 HB8.out.size))
              have HMa := Lib.hid hmA
              have HLT : Hid (bx < V.heap.size) := Lib.hid HY8.out.lt
              clear hmA hpA HX8 HY8 HB8
              (try dsimp only)
              refine hK.out _ _ ?_ (fun hHeld => ?_)
              · exact trivial
              clear hK K
              (try simp only [Act.put, List.setIfInBounds_toArray, List.set_cons_zero, List.set_cons_succ, List.getElem_toArray, List.getElem_cons_succ, List.getElem_cons_zero])
              refine wpAnyH_ready (rs := [5]) (by kernel_rfl) (by simp) ?_
              refine AllReadyH.cons rfl (fun K hK => ?_) (AllReadyH.nil)
              go_simp
              go_at_call 44
              refine (HDR.out _ HYa.out).mono ?_; rintro e V2 ⟨vC, rfl, hmC, hpC⟩
              obtain ⟨BC, cC, rfl⟩ := hmC.shape
              have HYb := Lib.hid hpC.xb
              have HXb := Lib.hid (HXa.out.only hpC.only HNB.out.1)
              have HBb := Lib.hid (HBa.out.trans (hpC.only.below HNB.out.2.1 HBa.out.size))
              have HMA := Lib.hid (HMa.out.only hpC.only HLT.out)
              have HMC := Lib.hid hmC
              clear hmC hpC HXa HYa HBa HMa HLT
              (try dsimp only)
              refine hK.out _ _ ?_ (fun hHeld => ?_)
              · exact trivial
              clear hK K
              (try simp only [Act.put, List.setIfInBounds_toArray, List.set_cons_zero, List.set_cons_succ, List.getElem_toArray, List.getElem_cons_succ, List.getElem_cons_zero])
              have HMS := Lib.hid (law_messages _ _ f o (ackE o z) V2 HMA.out HMC.out)
              refine wpAnyH_ready (rs := [6]) (by kernel_rfl) (by simp) ?_
              refine AllReadyH.cons rfl (fun K hK => ?_) (AllReadyH.nil)
              go_simp
              go_at_call 36
              refine HMS.out.mono ?_; rintro e V3 ⟨rfl, k3⟩
              have HXc := Lib.hid (HXb.out.below k3)
              have HYc := Lib.hid (HYb.out.below k3)
              have HBc := Lib.hid (HBb.out.trans (k3.mono HBb.out.size))
              have y2 := HYc.out.c 2 _ rfl
              clear k3 HMS HMA HMC HXb HYb HBb
              (try dsimp only)
              refine hK.out _ _ ?_ (fun hHeld => ?_)
              · exact trivial
              clear hK K
              (try simp only [Act.put, List.setIfInBounds_toArray, List.set_cons_zero, List.set_cons_succ, List.getElem_toArray, List.getElem_cons_succ, List.getElem_cons_zero])
              refine wpAnyH_take (i := 7) (v := ?_) rfl (by kernel_rfl) (by kernel_rfl) (by kernel_rfl) (fun _ _ _ h => h) (Or.inl ⟨by rfl, ?_⟩) (by assumption) ?_
              rotate_left
              · intro w' hSw; (try dsimp only at hSw); go_simp; (try with_reducible rfl)
              (try simp only [Act.put, List.setIfInBounds_toArray, List.set_cons_zero, List.set_cons_succ, List.getElem_toArray, List.getElem_cons_succ, List.getElem_cons_zero])
              refine wpAnyH_take (i := 8) (v := ?_) rfl (by kernel_rfl) (by kernel_rfl) (by kernel_rfl) (fun _ _ _ h => h) (Or.inl ⟨by rfl, ?_⟩) (by assumption) ?_
              rotate_left
              · intro w' hSw; (try dsimp only at hSw); go_simp; (try with_reducible rfl)
              (try simp only [Act.put, List.setIfInBounds_toArray, List.set_cons_zero, List.set_cons_succ, List.getElem_toArray, List.getElem_cons_succ, List.getElem_cons_zero])
              refine wpAnyH_take (i := 9) (v := ?_) rfl (by kernel_rfl) (by kernel_rfl) (by kernel_rfl) (fun _ _ _ h => h) (Or.inl ⟨by rfl, ?_⟩) (by assumption) ?_
              rotate_left
              · intro w' hSw; (try dsimp only at hSw); go_simp; (try with_reducible rfl)
              (try simp only [Act.put, List.setIfInBounds_toArray, List.set_cons_zero, List.set_cons_succ, List.getElem_toArray, List.getElem_cons_succ, List.getElem_cons_zero])
              refine wpAnyH_take (i := 11) (v := ?_) rfl (by kernel_rfl) (by kernel_rfl) (by kernel_rfl) (fun _ _ _ h => h) (Or.inl ⟨by rfl, ?_⟩) (by assumption) ?_
              rotate_left
              · intro w' hSw; (try dsimp only at hSw); go_simp; (try with_reducible rfl)
              (try simp only [Act.put, List.setIfInBounds_toArray, List.set_cons_zero, List.set_cons_succ, List.getElem_toArray, List.getElem_cons_succ, List.getElem_cons_zero])
              refine wpAnyH_take (i := 12) (v := ?_) rfl (by kernel_rfl) (by kernel_rfl) (by kernel_rfl) (fun _ _ _ h => h) (Or.inl ⟨by rfl, ?_⟩) (by assumption) ?_
              rotate_left
              · intro w' hSw; (try dsimp only at hSw); go_simp; (try with_reducible rfl)
              (try simp only [Act.put, List.setIfInBounds_toArray, List.set_cons_zero, List.set_cons_succ, List.getElem_toArray, List.getElem_cons_succ, List.getElem_cons_zero])
              refine wpAnyH_take (i := 13) (v := ?_) rfl (by kernel_rfl) (by kernel_rfl) (by kernel_rfl) (fun _ _ _ h => h) (Or.inl ⟨by rfl, ?_⟩) (by assumption) ?_
              rotate_left
              · intro w' hSw; (try dsimp only at hSw); go_simp; (try with_reducible rfl)
              (try simp only [Act.put, List.setIfInBounds_toArray, List.set_cons_zero, List.set_cons_succ, List.getElem_toArray, List.getElem_cons_succ, List.getElem_cons_zero])
              refine wpAnyH_ready (rs := [10, 14]) (by kernel_rfl) (by simp) ?_
              refine AllReadyH.cons rfl (fun K hK => ?_) (AllReadyH.cons rfl (fun K hK => ?_) (AllReadyH.nil))
              · skip
                go_simp
                go_at_call 45
                refine (st_applied b f o z V3 HXc.out).mono ?_; rintro e w' ⟨rfl, rfl⟩
                (try dsimp only)
                refine hK.out _ _ ?_ (fun hHeld => ?_)
                · exact trivial
                clear hK K
                (try simp only [Act.put, List.setIfInBounds_toArray, List.set_cons_zero, List.set_cons_succ, List.getElem_toArray, List.getElem_cons_succ, List.getElem_cons_zero])
                refine wpAnyH_ready (rs := [14]) (by kernel_rfl) (by simp) ?_
                refine AllReadyH.cons rfl (fun K hK => ?_) (AllReadyH.nil)
                go_simp
                (try dsimp only)
                refine hK.out _ _ ?_ (fun hHeld => ?_)
                · exact trivial
                clear hK K
                (try simp only [Act.put, List.setIfInBounds_toArray, List.set_cons_zero, List.set_cons_succ, List.getElem_toArray, List.getElem_cons_succ, List.getElem_cons_zero])
                refine wpAnyH_take (i := 15) (v := ?_) rfl (by kernel_rfl) (by kernel_rfl) (by kernel_rfl) (fun _ _ _ h => h) (Or.inl ⟨by rfl, ?_⟩) (by assumption) ?_
                rotate_left
                · intro w' hSw; (try dsimp only at hSw); go_simp; (try with_reducible rfl)
                (try simp only [Act.put, List.setIfInBounds_toArray, List.set_cons_zero, List.set_cons_succ, List.getElem_toArray, List.getElem_cons_succ, List.getElem_cons_zero])
                refine wpAnyH_take (i := 16) (v := ?_) rfl (by kernel_rfl) (by kernel_rfl) (by kernel_rfl) (fun _ _ _ h => h) (Or.inl ⟨by rfl, ?_⟩) (by assumption) ?_
                rotate_left
                · intro w' hSw; (try dsimp only at hSw); go_simp; (try with_reducible rfl)
                (try simp only [Act.put, List.setIfInBounds_toArray, List.set_cons_zero, List.set_cons_succ, List.getElem_toArray, List.getElem_cons_succ, List.getElem_cons_zero])
                refine wpAnyH_done (by kernel_rfl) ?_ _
                go_wp2
                go_roundw
                case rel => exact ⟨j2 + 1, z, by omega, by omega, by go_num, HZB.out.1, HZB.out.2, HXc.out, HYc.out, HBc.out⟩
                case measure => simp [intOf]; omega
              · skip
                go_simp
                (try dsimp only)
                refine hK.out _ _ ?_ (fun hHeld => ?_)
                · exact trivial
                clear hK K
                (try simp only [Act.put, List.setIfInBounds_toArray, List.set_cons_zero, List.set_cons_succ, List.getElem_toArray, List.getElem_cons_succ, List.getElem_cons_zero])
                refine wpAnyH_ready (rs := [10]) (by kernel_rfl) (by simp) ?_
                refine AllReadyH.cons rfl (fun K hK => ?_) (AllReadyH.nil)
                go_simp
                go_at_call 45
                refine (st_applied b f o z V3 HXc.out).mono ?_; rintro e w' ⟨rfl, rfl⟩
                (try dsimp only)
                refine hK.out _ _ ?_ (fun hHeld => ?_)
                · exact trivial
                clear hK K
                (try simp only [Act.put, List.setIfInBounds_toArray, List.set_cons_zero, List.set_cons_succ, List.getElem_toArray, List.getElem_cons_succ, List.getElem_cons_zero])
                refine wpAnyH_take (i := 15) (v := ?_) rfl (by kernel_rfl) (by kernel_rfl) (by kernel_rfl) (fun _ _ _ h => h) (Or.inl ⟨by rfl, ?_⟩) (by assumption) ?_
                rotate_left
                · intro w' hSw; (try dsimp only at hSw); go_simp; (try with_reducible rfl)
                (try simp only [Act.put, List.setIfInBounds_toArray, List.set_cons_zero, List.set_cons_succ, List.getElem_toArray, List.getElem_cons_succ, List.getElem_cons_zero])
                refine wpAnyH_take (i := 16) (v := ?_) rfl (by kernel_rfl) (by kernel_rfl) (by kernel_rfl) (fun _ _ _ h => h) (Or.inl ⟨by rfl, ?_⟩) (by assumption) ?_
                rotate_left
                · intro w' hSw; (try dsimp only at hSw); go_simp; (try with_reducible rfl)
                (try simp only [Act.put, List.setIfInBounds_toArray, List.set_cons_zero, List.set_cons_succ, List.getElem_toArray, List.getElem_cons_succ, List.getElem_cons_zero])
                refine wpAnyH_done (by kernel_rfl) ?_ _
                go_wp2
                go_roundw
                case rel => exact ⟨j2 + 1, z, by omega, by omega, by go_num, HZB.out.1, HZB.out.2, HXc.out, HYc.out, HBc.out⟩
                case measure => simp [intOf]; omega
            · have hd' : ¬ (j2 : Int) < (dn : Int) := by omega
              obtain ⟨z, hzz⟩ : ∃ z, doneM q (q + (Y.length : Int)) = z := ⟨_, rfl⟩
              have hzb := doneM_bd (a := q) (q := q + (Y.length : Int)) ⟨hq0, hq1⟩
              rw [hzz] at hzb
              have HDN : Hid (∀ W, XB W b (inC f o q) → Below w.heap.size w W → Calls Tryd.prog 43 #[.pointer (some ⟨b, 0, none⟩), .int .i64 (q + (Y.length : Int))] W fun e w' => DoneRes b f o z W w' e) := Lib.hid (fun W q1 q2 => by
                subst hzz
                exact st_done b f o q (q + (Y.length : Int)) W q1 HEP.out.1 ⟨hq0, hq1⟩ (fun W' k => HT.out _ (q2.trans (k.below hbw q2.size))))
              have HDR : Hid (∀ W, XB W bx (inC f o q) → Calls Tryd.prog 44 #[.pointer (some ⟨bx, 0, none⟩), .int .i64 (q + (Y.length : Int))] W fun e w' => DoneRes bx f o z W w' e) := Lib.hid (fun W q1 => by
                subst hzz
                exact ref_done bx f o q (q + (Y.length : Int)) W q1 HEP.out.1 ⟨hq0, hq1⟩)
              have HZB := Lib.hid hzb
              have HNB : Hid (b ≠ bx ∧ w.heap.size ≤ bx ∧ w.heap.size ≤ b) := Lib.hid ⟨HNE.out.1, HNE.out.2, hbw⟩
              have hzn : (z != z) = false := by simp
              clear hzz hzb
              go_upto_region 26 with fail
              clear y2 e3 hyl hd'
              have kd : Below w6.heap.size w6 w6.drew := (Below.refl _ _).drew
              have HX8 := Lib.hid (HX7.out.below kd)
              have HY8 := Lib.hid (HY7.out.below kd)
              have HB8 := Lib.hid (HB7.out.trans (kd.mono HB7.out.size))
              clear kd HX7 HY7 HB7
              refine wp_region_held_drew (S := fun _ => True) (by kernel_rfl) trivial (fun hHeld => ?_)
              generalize w6.drew = V at *
              refine wpAnyH_take (i := 0) (v := ?_) rfl (by kernel_rfl) (by kernel_rfl) (by kernel_rfl) (fun _ _ _ h => h) (Or.inl ⟨by rfl, ?_⟩) (by assumption) ?_
              rotate_left
              · intro w' hSw; (try dsimp only at hSw); go_simp; (try with_reducible rfl)
              (try simp only [Act.put, List.setIfInBounds_toArray, List.set_cons_zero, List.set_cons_succ, List.getElem_toArray, List.getElem_cons_succ, List.getElem_cons_zero])
              refine wpAnyH_take (i := 1) (v := ?_) rfl (by kernel_rfl) (by kernel_rfl) (by kernel_rfl) (fun _ _ _ h => h) (Or.inl ⟨by rfl, ?_⟩) (by assumption) ?_
              rotate_left
              · intro w' hSw; (try dsimp only at hSw); go_simp; (try with_reducible rfl)
              (try simp only [Act.put, List.setIfInBounds_toArray, List.set_cons_zero, List.set_cons_succ, List.getElem_toArray, List.getElem_cons_succ, List.getElem_cons_zero])
              refine wpAnyH_take (i := 3) (v := ?_) rfl (by kernel_rfl) (by kernel_rfl) (by kernel_rfl) (fun _ _ _ h => h) (Or.inl ⟨by rfl, ?_⟩) (by assumption) ?_
              rotate_left
              · intro w' hSw; (try dsimp only at hSw); go_simp; (try with_reducible rfl)
              (try simp only [Act.put, List.setIfInBounds_toArray, List.set_cons_zero, List.set_cons_succ, List.getElem_toArray, List.getElem_cons_succ, List.getElem_cons_zero])
              refine wpAnyH_take (i := 4) (v := ?_) rfl (by kernel_rfl) (by kernel_rfl) (by kernel_rfl) (fun _ _ _ h => h) (Or.inl ⟨by rfl, ?_⟩) (by assumption) ?_
              rotate_left
              · intro w' hSw; (try dsimp only at hSw); go_simp; (try with_reducible rfl)
              (try simp only [Act.put, List.setIfInBounds_toArray, List.set_cons_zero, List.set_cons_succ, List.getElem_toArray, List.getElem_cons_succ, List.getElem_cons_zero])
              refine wpAnyH_ready (rs := [2]) (by kernel_rfl) (by simp) ?_
              refine AllReadyH.cons rfl (fun K hK => ?_) (AllReadyH.nil)
              go_simp
              go_at_call 43
              refine (HDN.out _ HX8.out HB8.out).mono ?_; rintro e V1 ⟨vA, rfl, hmA, hpA⟩
              obtain ⟨BA, cA, rfl⟩ := hmA.shape
              have HXa := Lib.hid hpA.xb
              have HYa := Lib.hid (HY8.out.only hpA.only HNB.out.1.symm)
              have HBa := Lib.hid (HB8.out.trans (hpA.only.below HNB.out.2.2 HB8.out.size))
              have HMa := Lib.hid hmA
              have HLT : Hid (bx < V.heap.size) := Lib.hid HY8.out.lt
              clear hmA hpA HX8 HY8 HB8
              (try dsimp only)
              refine hK.out _ _ ?_ (fun hHeld => ?_)
              · exact trivial
              clear hK K
              (try simp only [Act.put, List.setIfInBounds_toArray, List.set_cons_zero, List.set_cons_succ, List.getElem_toArray, List.getElem_cons_succ, List.getElem_cons_zero])
              refine wpAnyH_ready (rs := [5]) (by kernel_rfl) (by simp) ?_
              refine AllReadyH.cons rfl (fun K hK => ?_) (AllReadyH.nil)
              go_simp
              go_at_call 44
              refine (HDR.out _ HYa.out).mono ?_; rintro e V2 ⟨vC, rfl, hmC, hpC⟩
              obtain ⟨BC, cC, rfl⟩ := hmC.shape
              have HYb := Lib.hid hpC.xb
              have HXb := Lib.hid (HXa.out.only hpC.only HNB.out.1)
              have HBb := Lib.hid (HBa.out.trans (hpC.only.below HNB.out.2.1 HBa.out.size))
              have HMA := Lib.hid (HMa.out.only hpC.only HLT.out)
              have HMC := Lib.hid hmC
              clear hmC hpC HXa HYa HBa HMa HLT
              (try dsimp only)
              refine hK.out _ _ ?_ (fun hHeld => ?_)
              · exact trivial
              clear hK K
              (try simp only [Act.put, List.setIfInBounds_toArray, List.set_cons_zero, List.set_cons_succ, List.getElem_toArray, List.getElem_cons_succ, List.getElem_cons_zero])
              have HMS := Lib.hid (law_messages _ _ f o (ackE o z) V2 HMA.out HMC.out)
              refine wpAnyH_ready (rs := [6]) (by kernel_rfl) (by simp) ?_
              refine AllReadyH.cons rfl (fun K hK => ?_) (AllReadyH.nil)
              go_simp
              go_at_call 36
              refine HMS.out.mono ?_; rintro e V3 ⟨rfl, k3⟩
              have HXc := Lib.hid (HXb.out.below k3)
              have HYc := Lib.hid (HYb.out.below k3)
              have HBc := Lib.hid (HBb.out.trans (k3.mono HBb.out.size))
              have y2 := HYc.out.c 2 _ rfl
              clear k3 HMS HMA HMC HXb HYb HBb
              (try dsimp only)
              refine hK.out _ _ ?_ (fun hHeld => ?_)
              · exact trivial
              clear hK K
              (try simp only [Act.put, List.setIfInBounds_toArray, List.set_cons_zero, List.set_cons_succ, List.getElem_toArray, List.getElem_cons_succ, List.getElem_cons_zero])
              refine wpAnyH_take (i := 7) (v := ?_) rfl (by kernel_rfl) (by kernel_rfl) (by kernel_rfl) (fun _ _ _ h => h) (Or.inl ⟨by rfl, ?_⟩) (by assumption) ?_
              rotate_left
              · intro w' hSw; (try dsimp only at hSw); go_simp; (try with_reducible rfl)
              (try simp only [Act.put, List.setIfInBounds_toArray, List.set_cons_zero, List.set_cons_succ, List.getElem_toArray, List.getElem_cons_succ, List.getElem_cons_zero])
              refine wpAnyH_take (i := 8) (v := ?_) rfl (by kernel_rfl) (by kernel_rfl) (by kernel_rfl) (fun _ _ _ h => h) (Or.inl ⟨by rfl, ?_⟩) (by assumption) ?_
              rotate_left
              · intro w' hSw; (try dsimp only at hSw); go_simp; (try with_reducible rfl)
              (try simp only [Act.put, List.setIfInBounds_toArray, List.set_cons_zero, List.set_cons_succ, List.getElem_toArray, List.getElem_cons_succ, List.getElem_cons_zero])
              refine wpAnyH_take (i := 9) (v := ?_) rfl (by kernel_rfl) (by kernel_rfl) (by kernel_rfl) (fun _ _ _ h => h) (Or.inl ⟨by rfl, ?_⟩) (by assumption) ?_
              rotate_left
              · intro w' hSw; (try dsimp only at hSw); go_simp; (try with_reducible rfl)
              (try simp only [Act.put, List.setIfInBounds_toArray, List.set_cons_zero, List.set_cons_succ, List.getElem_toArray, List.getElem_cons_succ, List.getElem_cons_zero])
              refine wpAnyH_take (i := 11) (v := ?_) rfl (by kernel_rfl) (by kernel_rfl) (by kernel_rfl) (fun _ _ _ h => h) (Or.inl ⟨by rfl, ?_⟩) (by assumption) ?_
              rotate_left
              · intro w' hSw; (try dsimp only at hSw); go_simp; (try with_reducible rfl)
              (try simp only [Act.put, List.setIfInBounds_toArray, List.set_cons_zero, List.set_cons_succ, List.getElem_toArray, List.getElem_cons_succ, List.getElem_cons_zero])
              refine wpAnyH_take (i := 12) (v := ?_) rfl (by kernel_rfl) (by kernel_rfl) (by kernel_rfl) (fun _ _ _ h => h) (Or.inl ⟨by rfl, ?_⟩) (by assumption) ?_
              rotate_left
              · intro w' hSw; (try dsimp only at hSw); go_simp; (try with_reducible rfl)
              (try simp only [Act.put, List.setIfInBounds_toArray, List.set_cons_zero, List.set_cons_succ, List.getElem_toArray, List.getElem_cons_succ, List.getElem_cons_zero])
              refine wpAnyH_take (i := 13) (v := ?_) rfl (by kernel_rfl) (by kernel_rfl) (by kernel_rfl) (fun _ _ _ h => h) (Or.inl ⟨by rfl, ?_⟩) (by assumption) ?_
              rotate_left
              · intro w' hSw; (try dsimp only at hSw); go_simp; (try with_reducible rfl)
              (try simp only [Act.put, List.setIfInBounds_toArray, List.set_cons_zero, List.set_cons_succ, List.getElem_toArray, List.getElem_cons_succ, List.getElem_cons_zero])
              refine wpAnyH_ready (rs := [10, 14]) (by kernel_rfl) (by simp) ?_
              refine AllReadyH.cons rfl (fun K hK => ?_) (AllReadyH.cons rfl (fun K hK => ?_) (AllReadyH.nil))
              · skip
                go_simp
                go_at_call 45
                refine (st_applied b f o z V3 HXc.out).mono ?_; rintro e w' ⟨rfl, rfl⟩
                (try dsimp only)
                refine hK.out _ _ ?_ (fun hHeld => ?_)
                · exact trivial
                clear hK K
                (try simp only [Act.put, List.setIfInBounds_toArray, List.set_cons_zero, List.set_cons_succ, List.getElem_toArray, List.getElem_cons_succ, List.getElem_cons_zero])
                refine wpAnyH_ready (rs := [14]) (by kernel_rfl) (by simp) ?_
                refine AllReadyH.cons rfl (fun K hK => ?_) (AllReadyH.nil)
                go_simp
                (try dsimp only)
                refine hK.out _ _ ?_ (fun hHeld => ?_)
                · exact trivial
                clear hK K
                (try simp only [Act.put, List.setIfInBounds_toArray, List.set_cons_zero, List.set_cons_succ, List.getElem_toArray, List.getElem_cons_succ, List.getElem_cons_zero])
                refine wpAnyH_take (i := 15) (v := ?_) rfl (by kernel_rfl) (by kernel_rfl) (by kernel_rfl) (fun _ _ _ h => h) (Or.inl ⟨by rfl, ?_⟩) (by assumption) ?_
                rotate_left
                · intro w' hSw; (try dsimp only at hSw); go_simp; (try with_reducible rfl)
                (try simp only [Act.put, List.setIfInBounds_toArray, List.set_cons_zero, List.set_cons_succ, List.getElem_toArray, List.getElem_cons_succ, List.getElem_cons_zero])
                refine wpAnyH_take (i := 16) (v := ?_) rfl (by kernel_rfl) (by kernel_rfl) (by kernel_rfl) (fun _ _ _ h => h) (Or.inl ⟨by rfl, ?_⟩) (by assumption) ?_
                rotate_left
                · intro w' hSw; (try dsimp only at hSw); go_simp; (try with_reducible rfl)
                (try simp only [Act.put, List.setIfInBounds_toArray, List.set_cons_zero, List.set_cons_succ, List.getElem_toArray, List.getElem_cons_succ, List.getElem_cons_zero])
                refine wpAnyH_done (by kernel_rfl) ?_ _
                go_wp2
                go_roundw
                case rel => exact ⟨j2 + 1, z, by omega, by omega, by go_num, HZB.out.1, HZB.out.2, HXc.out, HYc.out, HBc.out⟩
                case measure => simp [intOf]; omega
              · skip
                go_simp
                (try dsimp only)
                refine hK.out _ _ ?_ (fun hHeld => ?_)
                · exact trivial
                clear hK K
                (try simp only [Act.put, List.setIfInBounds_toArray, List.set_cons_zero, List.set_cons_succ, List.getElem_toArray, List.getElem_cons_succ, List.getElem_cons_zero])
                refine wpAnyH_ready (rs := [10]) (by kernel_rfl) (by simp) ?_
                refine AllReadyH.cons rfl (fun K hK => ?_) (AllReadyH.nil)
                go_simp
                go_at_call 45
                refine (st_applied b f o z V3 HXc.out).mono ?_; rintro e w' ⟨rfl, rfl⟩
                (try dsimp only)
                refine hK.out _ _ ?_ (fun hHeld => ?_)
                · exact trivial
                clear hK K
                (try simp only [Act.put, List.setIfInBounds_toArray, List.set_cons_zero, List.set_cons_succ, List.getElem_toArray, List.getElem_cons_succ, List.getElem_cons_zero])
                refine wpAnyH_take (i := 15) (v := ?_) rfl (by kernel_rfl) (by kernel_rfl) (by kernel_rfl) (fun _ _ _ h => h) (Or.inl ⟨by rfl, ?_⟩) (by assumption) ?_
                rotate_left
                · intro w' hSw; (try dsimp only at hSw); go_simp; (try with_reducible rfl)
                (try simp only [Act.put, List.setIfInBounds_toArray, List.set_cons_zero, List.set_cons_succ, List.getElem_toArray, List.getElem_cons_succ, List.getElem_cons_zero])
                refine wpAnyH_take (i := 16) (v := ?_) rfl (by kernel_rfl) (by kernel_rfl) (by kernel_rfl) (fun _ _ _ h => h) (Or.inl ⟨by rfl, ?_⟩) (by assumption) ?_
                rotate_left
                · intro w' hSw; (try dsimp only at hSw); go_simp; (try with_reducible rfl)
                (try simp only [Act.put, List.setIfInBounds_toArray, List.set_cons_zero, List.set_cons_succ, List.getElem_toArray, List.getElem_cons_succ, List.getElem_cons_zero])
                refine wpAnyH_done (by kernel_rfl) ?_ _
                go_wp2
                go_roundw
                case rel => exact ⟨j2 + 1, z, by omega, by omega, by go_num, HZB.out.1, HZB.out.2, HXc.out, HYc.out, HBc.out⟩
                case measure => simp [intOf]; omega
end Go.Proofs.YtdffldlcbihjmaaDoor

/- Stage 18: StreamTakes: the claim. -/
namespace Go.Proofs.YtdffldlcbihjmaaDoor
open Go.ChangeShapes Go.WideShapes Go.ChangeAt Go.RowKit Go.Joins Go.Deep
set_option maxRecDepth 100000 in
theorem streamTakes_contract (H : Type) (enc : TypeId × Value → H) (W : World) (base : Nat) (args : Array Value) (ds gs : List (DataW H)) (before : List MemPlace)
    (hval0 : ∀ (j : Nat) t v, Tryd.f6.params[j]? = some t → args[j]? = some v → Value.okWide Tryd.prog W .any base t v)
    (hW : DataW.Whole enc Tryd.prog Tryd.f6.params.toList Rows.streamTakesSpec.vars false W args.toList ds gs before)
    (hsz0 : (DataW.weightsEach Tryd.prog (Tryd.f6.params.toList ++ (OpenSpec.ofChange Rows.streamTakesSpec).bare.plain.varTypes Tryd.prog) (ds ++ gs)).all (· ≤ reachBytes) = true) (hL : laidMetH Tryd.prog Rows.streamTakesRow.laid W) (hS : W.ShapedOpen Tryd.prog) :
    Calls Tryd.prog 6 args W fun e W' => ∃ v, e = .returned v ∧ Rows.streamTakesSpec.post enc Tryd.prog Tryd.f6 false true false false W args v W' := by
  have hval : ∀ (j : Nat) t v, Tryd.f6.params[j]? = some t → args[j]? = some v → Value.okWide Tryd.prog W .any base t v := hval0
  have hsz := hsz0
  have hW' := hW
  obtain ⟨p, q, hA0, hV, rfl, hfz, hnd⟩ := hW
  have hA : DataW.TrodAll enc Tryd.prog W 0 (fun _ => true) true Tryd.f6.params.toList args.toList ds p := hA0
  rw [Tryd.params6] at hA hval hsz
  have hsame : (Rows.streamTakesSpec.fn H (ds ++ gs)).results = [.lit (.bool true)] ∧ (Rows.streamTakesSpec.fn H (ds ++ gs)).args = ds ∧ (Rows.streamTakesSpec.fn H (ds ++ gs)).vars = [] → ∀ W', Below W.heap.size W W' → Rows.streamTakesSpec.post enc Tryd.prog Tryd.f6 false true false false W args (.bool true) W' :=
    fun h W' hb => law_post (tb := 4) hW' law_laid (by kernel_rfl) rfl Tryd.underlying4 h.1 h.2.1 rfl h.2.2 hb
  obtain ⟨v0, vs0, d0, ds0, p0, q0, hargs, rfl, rfl, h0, r0⟩ := trodAll_cons hA
  obtain ⟨v1, vs1, d1, ds1, p1, q1, rfl, rfl, rfl, h1, r1⟩ := trodAll_cons r0
  obtain ⟨v2, vs2, d2, ds2, p2, q2, rfl, rfl, rfl, h2, r2⟩ := trodAll_cons r1
  obtain ⟨v3, vs3, d3, ds3, p3, q3, rfl, rfl, rfl, h3, r3⟩ := trodAll_cons r2
  obtain ⟨v4, vs4, d4, ds4, p4, q4, rfl, rfl, rfl, h4, r4⟩ := trodAll_cons r3
  obtain ⟨rfl, rfl, rfl⟩ := trodAll_nil r4
  obtain rfl : args = #[v0, v1, v2, v3, v4] := by cases args; simp_all
  obtain ⟨rfl, rfl⟩ := trodVars_none hV
  have hpost := hsame ⟨rfl, rfl, rfl⟩
  clear hsame hA0 hval0 hsz0
  obtain ⟨f, rfl, rfl, rfl, wf0⟩ := open_int Tryd.underlying3 (hval 0 3 v0 rfl rfl) h0
  obtain ⟨o, rfl, rfl, rfl, wf1⟩ := open_int Tryd.underlying3 (hval 1 3 v1 rfl rfl) h1
  obtain ⟨a, rfl, rfl, rfl, wf2⟩ := open_int Tryd.underlying3 (hval 2 3 v2 rfl rfl) h2
  obtain ⟨R, A, c, rfl, hmx, hrow, hin, hz⟩ := open_rows (hval 3 69 v3 rfl rfl) h3
  obtain ⟨DA, dn, dc, dz, rfl, hdm, hD⟩ := open_int_slice (hval 4 70 v4 rfl rfl) h4
  have hk := hz reachBytes (sized_each (j := 3) hsz rfl rfl)
  unfold reachBytes at hk
  have ht : Nib W := nib_of_laid hL
  exact (law_takes f o a A c R DA dn dc dz W ht hrow hin (fun x hx m hm => ⟨by have := (hk x hx m hm).1; omega, by have := (hk x hx m hm).2; omega⟩) hD).mono fun e W' ⟨he, hb⟩ => ⟨_, he, hpost W' hb⟩
theorem streamTakes_reads (os : Os) {H : Type} (enc : TypeId × Value → H) : (DataW.whole enc Tryd.prog ((layW1 os).forCall (fun _ _ => 0) ⟨#[], #[.int .i64 0, .int .i64 0, .int .i64 0, .slice none 0 0, .slice none 0 0], []⟩).memory Tryd.f6.params.toList Rows.streamTakesSpec.vars false #[.int .i64 0, .int .i64 0, .int .i64 0, .slice none 0 0, .slice none 0 0].toList 8).isSome = true := by kernel_rfl
theorem streamTakes_met (os : Os) : laidMet Tryd.prog Rows.streamTakesRow.laid ((layW1 os).forCall (fun _ _ => 0) ⟨#[], #[.int .i64 0, .int .i64 0, .int .i64 0, .slice none 0 0, .slice none 0 0], []⟩).memory := laidMet_of_run' 8 (by kernel_rfl) (by kernel_rfl)
set_option maxRecDepth 100000 in
theorem streamTakes_lifted (os : Os) (started : os.Started) (H : Type) (enc : TypeId × Value → H) (F : Stop.Interp) :
    ReturnsInHanded {} Tryd.checked os 6 .any ((OpenSpec.ofChange Rows.streamTakesSpec).preRow enc Tryd.prog Tryd.f6 Rows.streamTakesRow.domain false Rows.streamTakesRow.laid) (((OpenSpec.ofChange Rows.streamTakesSpec).at F).post enc Tryd.prog Tryd.f6 false true false false) := by
  obtain ⟨x, hx⟩ := Option.isSome_iff_exists.1 (streamTakes_reads os enc)
  refine returnsInHanded_of_row (C := Tryd.checked) (s := OpenSpec.ofChange Rows.streamTakesSpec) law_own started (by kernel_rfl) Tryd.func6
    (witness_row_at (enc := enc) (C := Tryd.checked) false (layW1 os) #[.int .i64 0, .int .i64 0, .int .i64 0, .slice none 0 0, .slice none 0 0] rfl (by kernel_rfl) (by kernel_rfl) (by kernel_rfl)
      (OpenSpec.preRow_of_cond 8 hx (by rfl) (fun k hk => by cases hk) (by kernel_rfl) (streamTakes_met os))) ?_
  intro W base args ds gs before hval hW _ _ hsz hL hS _
  exact streamTakes_contract H enc W base args ds gs before hval hW hsz hL hS
theorem streamTakes_said : Rows.StreamTakesSaid :=
  OpenClaim.holds_of_cond 6 Tryd.f6 rfl rfl rfl rfl rfl rfl rfl ⟨rfl, rfl, rfl, rfl, rfl⟩ rfl rfl rfl rfl rfl (by kernel_rfl) Tryd.func6 (by kernel_rfl)
    (of_decide_eq_true (by kernel_rfl)) (by unfold Func.isWrapper; first | (rw [if_pos (by decide +kernel)]; kernel_rfl) | (rw [if_neg (by decide +kernel)]; exact ⟨rfl, rfl⟩))
    (fun os started H enc _ F => by rw [OpenClaim.pre_eq_preRow]; exact streamTakes_lifted os started H enc F)
theorem streamTakes_holds : Rows.StreamTakesCardSaid :=
  Claim7.holds_tied_plain_at .later [] _ _ _ _ streamTakes_said (fun _ h => by cases h) (by kernel_rfl) (fun _ h => by cases h) streamTakes_row_tie rfl ⟨rfl, rfl⟩ (by kernel_rfl) rfl (plain_of (f0 := 6) (fn0 := Tryd.f6) (by kernel_rfl) Tryd.func6 (by kernel_rfl) (by kernel_rfl)) (by kernel_rfl)
end Go.Proofs.YtdffldlcbihjmaaDoor

