/- bytes.Clone; chain.copied; the reference's own, Order. -/
import Derived.Test.YtpflbhcgkndpcaaGreatDoorVsRow
import Derived.Test.YtpflbhcgkndpcaaGreatDoorG16m
import Derived.Test.YtpflbhcgkndpcaaGreatDoorRoomy14
import Derived.Test.YtpflbhcgkndpcaaGreatDoorRef10Cmp
import Derived.Lib.SliceRun
set_option linter.unusedSimpArgs false
set_option linter.unusedVariables false
namespace Go.Proofs.YtpflbhcgkndpcaaGreatDoor
open Go.RowKit

/-- What a row of bytes of the call's own is. -/
theorem own8_shape {w : World} {base n : Nat} {v : Value} {p : List Int} (h : w.ownsRow base 5 1 v n (bC p)) :
    ∃ A c, v = .slice A n c ∧ p.length = n ∧ ByL w A p ∧ (A = none → n = 0) ∧ (∀ ad, A = some ad → base ≤ ad.block ∧ ad.block < w.heap.size) := by
  have hl : p.length = n := by have := h.1; rw [bC_len] at this; omega
  have hc0 := fun g hg => World.ownsRow.cells h (g := g) hg
  rcases h.2 with ⟨rfl, h0⟩ | ⟨g, cap, cur, rfl, hb', hh, _⟩
  · exact ⟨none, 0, by rw [h0], hl, fun hn => absurd hn (by omega), fun _ => h0, fun _ e => by cases e⟩
  · refine ⟨_, _, rfl, hl, fun hn => ⟨g, 0, rfl, (World.ownsRow.lt h g rfl).2, fun j u hj => ?_⟩, (fun e => by cases e), fun ad e => ?_⟩
    · have := hc0 g rfl j u hj
      rwa [at_add] at this
    · injection e with e
      subst e
      exact World.ownsRow.lt h g rfl
theorem own_far {w w' : World} {B : Nat} {e : TypeId} {size n : Nat} {v : Value} {xs : List Value} (h : w.ownsRow B e size v n xs) (k : But (fun i => i < B) w w') : w'.ownsRow B e size v n xs :=
  k.row h (fun i hi hb => by have := (World.ownsRow.lt h i hi).1; omega)
set_option maxRecDepth 100000 in
set_option maxHeartbeats 4000000 in
theorem bytes_clone (A : Option Addr) (p : List Int) (c : Nat) (w : World) (hp : ByL w A p) (hn : A = none → p.length = 0) (hl : p.length ≤ 100000) :
    Calls Tryz.prog 96 #[.slice A p.length c] w fun e w' => ∃ v, e = .returned v ∧ w'.ownsRow w.heap.size 5 1 v p.length (bC p) ∧ Below w.heap.size w w' := by
  obtain ⟨i0, hi0, hz0, hz1, hz2⟩ := info_parts u8_info
  have HW0 : Below w.heap.size w (w.alloc (.cells #[] 5)) := by (repeat' (first | (with_reducible exact Below.refl _ _) | (with_reducible assumption) | (with_reducible refine Below.trans ?_ (Below.mono (by with_reducible assumption) ?_)) | (with_reducible refine Below.alloc ?_ ?_ _) | (with_reducible refine Below.setCell ?_ ?_ _) | (with_reducible refine below_drewN ?_ _) | (with_reducible refine Below.drew ?_) | go_size))
  have hmade := World.ownsRow_made (base := w.heap.size) (e := 5) (size := 1) w #[] 0 (Nat.le_refl _) (Nat.zero_le _) rfl
  have hni : (p.length : Int) ≤ 100000 := by omega
  have q22 : ∀ (w : World) (a : Option Addr) (n c n' c' : Nat), (binOp .eql 42 (.slice a n c) (.slice none n' c')).run Tryz.prog w = .ok (.bool a.isNone) w := fun w a n c n' c' => Lib.run_eql_slice_nil w _ _ a n c n' c' Tryz.underlying42
  have HP := Lib.hid (hp.below HW0)
  clear hp
  cases A with
  | none =>
    have h0 := hn rfl
    have hp1 : p = [] := List.length_eq_zero_iff.1 h0
    subst hp1
    clear hn HP h0 hmade HW0
    go_enter Tryz.func96, Tryz.ntmps96
    go_wp2
    go_ret
    exact ⟨_, rfl, World.ownsRow_nil _ _ _ _, Below.refl _ _⟩
  | some ad =>
    clear hn
    by_cases hp0 : 0 < p.length
    · have hsrc := HP.out.cells
      go_enter Tryz.func96, Tryz.ntmps96
      go_wp2_with (at_builtin; refine wpList_append_lies _ rfl (.tmp 5) (.tmp 6) _ rfl w.heap.size 5 i0 _ 1 1 Tryz.underlying42 hi0 hz0 hz1 hz2 rfl (by decide) (.slice (some ⟨w.heap.size, 0, none⟩) 0 0) 0 [] rfl hmade ad p.length c (bC p) rfl (by rw [bC_len]; omega) hsrc (bC_one _) hp0 (by unfold maxLen; omega) (by omega) (by simp) _ rfl ?_; intro g1 cap1 w1 hown0 hg1 hat1 hlt1; have hown1 : w1.ownsRow w.heap.size 5 1 (.slice (some ⟨g1, 0, none⟩) p.length cap1) p.length (bC p) := (by simpa using hown0); clear hown0)
      have HB : Below w.heap.size w w1 := HW0.grown hg1 (by simp) (fun k hk => by simp [Value.ownBlock] at hk; omega)
      have HH := Lib.hid (And.intro hown1 HB)
      clear hown1 hg1 hat1 HB hsrc hmade
      (try go_wp2)
      go_ret
      first | exact ⟨_, rfl, HH.out.1, HH.out.2⟩ | (simp only [Nat.zero_add]; exact ⟨_, rfl, HH.out.1, HH.out.2⟩)
    · have hp1 : p = [] := List.length_eq_zero_iff.1 (by omega)
      subst hp1
      have hld := empty_loads.1
      have hst := empty_loads.2
      have HH := Lib.hid (And.intro hmade HW0)
      clear HP hmade HW0
      go_enter Tryz.func96, Tryz.ntmps96
      go_wp2
      go_ret
      exact ⟨_, rfl, HH.out.1, HH.out.2⟩
/-- A version whose value is a row of the call's own. -/
def Owned (w w' : World) (m : Mv) (e : Ending) : Prop := ∃ A c, e = .returned (Mv.val ⟨m.v, A, c⟩) ∧ w'.ownsRow w.heap.size 5 1 (.slice A m.v.val.length c) m.v.val.length (bC m.v.val) ∧ Below w.heap.size w w'
set_option maxRecDepth 100000 in
set_option maxHeartbeats 4000000 in
theorem ch_copied (m : Mv) (w : World) (hp : ByL w m.A m.v.val) (hn : m.A = none → m.v.val.length = 0) (hl : m.v.val.length ≤ 100000) :
    Calls Tryz.prog 133 #[m.val] w fun e w' => Owned w w' m e := by
  obtain ⟨⟨ml, ct, vo, val, gn, tt⟩, A, c⟩ := m
  have HB0 : Below w.heap.size w ((w.alloc (verO ml ct vo A val.length c gn tt)).alloc (verO 0 0 0 none 0 0 false 0)) := by (repeat' (first | (with_reducible exact Below.refl _ _) | (with_reducible assumption) | (with_reducible refine Below.trans ?_ (Below.mono (by with_reducible assumption) ?_)) | (with_reducible refine Below.alloc ?_ ?_ _) | (with_reducible refine Below.setCell ?_ ?_ _) | (with_reducible refine below_drewN ?_ _) | (with_reducible refine Below.drew ?_) | go_size))
  have HC := Lib.hid (bytes_clone A val c _ (hp.below HB0) hn hl)
  clear hp hn
  go_enter Tryz.func133, Tryz.ntmps133
  go_wp2_with (go_at_call 96; refine HC.out.mono ?_; rintro e w1 ⟨v1, rfl, ho, hb⟩; obtain ⟨A1, c1, rfl, _, _, _, _⟩ := own8_shape ho; have hz1 := hb.size; (try simp only [World.size_alloc] at hz1); obtain ⟨hc1, hf1⟩ := bcell hb; (try simp only [World.size_alloc] at hc1 hf1); have HO := Lib.hid ho; have HB := Lib.hid hb; clear ho hb; have q0 : w1.cell? ⟨w.heap.size, 0, none⟩ = some (.int .i64 ml) := (hc1 _ _ (by omega)).trans (by simp [World.cell?_alloc_past]); have q1 : w1.cell? ⟨w.heap.size, 1, none⟩ = some (.int .i64 ct) := (hc1 _ _ (by omega)).trans (by simp [World.cell?_alloc_past]); have q2 : w1.cell? ⟨w.heap.size, 2, none⟩ = some (.int .i64 vo) := (hc1 _ _ (by omega)).trans (by simp [World.cell?_alloc_past]); have q3 : w1.cell? ⟨w.heap.size, 3, none⟩ = some (.slice A val.length c) := (hc1 _ _ (by omega)).trans (by simp [World.cell?_alloc_past]); have q4 : w1.cell? ⟨w.heap.size, 4, none⟩ = some (.bool gn) := (hc1 _ _ (by omega)).trans (by simp [World.cell?_alloc_past]); have q5 : w1.cell? ⟨w.heap.size, 5, none⟩ = some (.int .i64 tt) := (hc1 _ _ (by omega)).trans (by simp [World.cell?_alloc_past]); have r0 : w1.cell? ⟨w.heap.size + 1, 0, none⟩ = some (.int .i64 0) := (hc1 _ _ (by omega)).trans (by simp); have r1 : w1.cell? ⟨w.heap.size + 1, 1, none⟩ = some (.int .i64 0) := (hc1 _ _ (by omega)).trans (by simp); have r2 : w1.cell? ⟨w.heap.size + 1, 2, none⟩ = some (.int .i64 0) := (hc1 _ _ (by omega)).trans (by simp); have r3 : w1.cell? ⟨w.heap.size + 1, 3, none⟩ = some (.slice none 0 0) := (hc1 _ _ (by omega)).trans (by simp); have r4 : w1.cell? ⟨w.heap.size + 1, 4, none⟩ = some (.bool false) := (hc1 _ _ (by omega)).trans (by simp); have r5 : w1.cell? ⟨w.heap.size + 1, 5, none⟩ = some (.int .i64 0) := (hc1 _ _ (by omega)).trans (by simp); have f3 : w1.frozen? ⟨w.heap.size, 3, none⟩ = false := (hf1 _ _ (by omega)).trans (by simp); have g0 : w1.frozen? ⟨w.heap.size + 1, 0, none⟩ = false := (hf1 _ _ (by omega)).trans (by simp); have g1 : w1.frozen? ⟨w.heap.size + 1, 1, none⟩ = false := (hf1 _ _ (by omega)).trans (by simp); have g2 : w1.frozen? ⟨w.heap.size + 1, 2, none⟩ = false := (hf1 _ _ (by omega)).trans (by simp); have g3 : w1.frozen? ⟨w.heap.size + 1, 3, none⟩ = false := (hf1 _ _ (by omega)).trans (by simp); have g4 : w1.frozen? ⟨w.heap.size + 1, 4, none⟩ = false := (hf1 _ _ (by omega)).trans (by simp); have g5 : w1.frozen? ⟨w.heap.size + 1, 5, none⟩ = false := (hf1 _ _ (by omega)).trans (by simp); clear hc1 hf1)
  have HF : Below w.heap.size w (((((((w1.setCell ⟨w.heap.size, 3, none⟩ (.slice A1 val.length c1)).setCell ⟨w.heap.size + 1, 0, none⟩ (.int .i64 ml)).setCell ⟨w.heap.size + 1, 1, none⟩ (.int .i64 ct)).setCell ⟨w.heap.size + 1, 2, none⟩ (.int .i64 vo)).setCell ⟨w.heap.size + 1, 3, none⟩ (.slice A1 val.length c1)).setCell ⟨w.heap.size + 1, 4, none⟩ (.bool gn)).setCell ⟨w.heap.size + 1, 5, none⟩ (.int .i64 tt)) := by
    have h := HB.out
    have h0 := HB0.trans (h.mono HB0.size)
    clear h HB HO
    (repeat' (first | (with_reducible exact Below.refl _ _) | (with_reducible assumption) | (with_reducible refine Below.trans ?_ (Below.mono (by with_reducible assumption) ?_)) | (with_reducible refine Below.alloc ?_ ?_ _) | (with_reducible refine Below.setCell ?_ ?_ _) | (with_reducible refine below_drewN ?_ _) | (with_reducible refine Below.drew ?_) | go_size))
  have HR := own_far HO.out ((by (repeat' (first | (with_reducible exact But.refl _ _) | (with_reducible assumption) | (with_reducible refine But.setCell ?_ (fun _ => ?_) _) | (with_reducible refine But.alloc ?_ _) | (with_reducible refine But.drewN ?_ _) | (with_reducible refine But.drew ?_) | (show _ < _; simp only [World.size_alloc, World.size_setCell, World.heap_drewN]; omega) | go_size))) : But (fun i => i < ((w.alloc (verO ml ct vo A val.length c gn tt)).alloc (verO 0 0 0 none 0 0 false 0)).heap.size) w1 (((((((w1.setCell ⟨w.heap.size, 3, none⟩ (.slice A1 val.length c1)).setCell ⟨w.heap.size + 1, 0, none⟩ (.int .i64 ml)).setCell ⟨w.heap.size + 1, 1, none⟩ (.int .i64 ct)).setCell ⟨w.heap.size + 1, 2, none⟩ (.int .i64 vo)).setCell ⟨w.heap.size + 1, 3, none⟩ (.slice A1 val.length c1)).setCell ⟨w.heap.size + 1, 4, none⟩ (.bool gn)).setCell ⟨w.heap.size + 1, 5, none⟩ (.int .i64 tt)))
  refine bodyPost_ret (v := verV ml ct vo A1 val.length c1 gn tt) (by simp [results, Tryz.results133, go_sem, q0, q1, q2, q3, q4, q5, r0, r1, r2, r3, r4, r5]) rfl ⟨A1, c1, rfl, own_base (by simp; omega) HR, HF⟩
end Go.Proofs.YtpflbhcgkndpcaaGreatDoor
