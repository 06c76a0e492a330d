/- Frames that defer: what a region's drawn walk asks of the way out by a panic. -/
import Derived.Test.YtpflbhcgkndpcaaGreatDoorBut
import Derived.OwnWalk
import Derived.Test.YtpflbhcgkndpcaaGreatDoorItoaSL
import Derived.Test.YtpflbhcgkndpcaaGreatDoorLaw
import Derived.Defers
import Derived.Recover
/- A block of known cells. -/
set_option linter.unusedSimpArgs false
set_option linter.unusedVariables false
namespace Go.Proofs.YtpflbhcgkndpcaaGreatDoor
open Go.RowKit

/-- A block of known cells that may be written. -/
structure Bk (W : World) (B : Nat) (vs : List Value) : Prop where
  c : ∀ (j : Nat) u, vs[j]? = some u → W.cell? ⟨B, j, none⟩ = some u
  fz : ∀ o, W.frozen? ⟨B, o, none⟩ = false
  lt : B < W.heap.size
theorem Bk.but {S : Nat → Prop} {W W' : World} {B : Nat} {vs : List Value} (h : Bk W B vs) (k : But S W W') (hs : ¬ S B) : Bk W' B vs :=
  ⟨fun j u hu => (k.cell B j h.lt hs).trans (h.c j u hu), fun o => (k.frozen B o h.lt hs).trans (h.fz o), Nat.lt_of_lt_of_le h.lt k.size⟩
theorem Bk.below {W W' : World} {B : Nat} {vs : List Value} (h : Bk W B vs) (k : Below W.heap.size W W') : Bk W' B vs := h.but (S := fun _ => False) (But.of_below k) (fun hf => hf)
theorem Bk.only {W W' : World} {B b : Nat} {vs : List Value} (h : Bk W B vs) (k : Only b W W') (hn : B ≠ b) : Bk W' B vs := h.but (S := fun i => i = b) (But.of_only k rfl) hn
theorem Bk.new (W : World) (cs : Array Value) (t : TypeId) : Bk (W.alloc (.cells cs t)) W.heap.size cs.toList :=
  ⟨fun j u hu => by rw [World.cell?_alloc_new]; simpa using hu, fun o => by simp, by simp⟩
theorem Bk.set {W : World} {B : Nat} {vs : List Value} (h : Bk W B vs) (i : Nat) (hi : i < vs.length) (u : Value) : Bk (W.setCell ⟨B, i, none⟩ u) B (vs.set i u) := by
  refine ⟨fun j v hv => ?_, fun o => by simpa using h.fz o, by simpa [World.setCell] using h.lt⟩
  by_cases e : i = j
  · subst e
    rw [List.getElem?_set_self (by omega)] at hv
    injection hv with hv
    subst hv
    exact World.cell?_setCell_same _ _ _ (h.c i vs[i] (List.getElem?_eq_getElem hi))
  · rw [List.getElem?_set_ne e] at hv
    rw [World.cell?_setCell_other _ _ _ _ (fun q => e (by injection q))]
    exact h.c j v hv
theorem Bk.other {W : World} {B : Nat} {vs : List Value} (h : Bk W B vs) {p : Addr} (hp : p.block ≠ B) (u : Value) : Bk (W.setCell p u) B vs :=
  ⟨fun j v hv => (World.cell?_setCell_other _ _ _ _ (fun e => hp (by rw [e]))).trans (h.c j v hv), fun o => by simpa using h.fz o, by simpa [World.setCell] using h.lt⟩
theorem Bk.block {W : World} {B : Nat} {vs : List Value} (h : Bk W B vs) {i : Nat} {u : Value} (hu : vs[i]? = some u) : W.cell? ⟨B, i, none⟩ = some u := h.c i u hu
end Go.Proofs.YtpflbhcgkndpcaaGreatDoor

/- Stage 16: an empty disk: what is asked of it. -/
namespace Go.Proofs.YtpflbhcgkndpcaaGreatDoor
open Go.RowKit

/-- The cells of an empty disk. -/
def dkE (room : Int) : List Value := [.int .i64 room, .slice none 0 0, .int .i64 0, .bool false, .int .i64 0]
theorem disk_new (w : World) : Calls Tryz.prog 23 #[.int .i64 1048576] w fun e w' => e = .returned (.tuple #[.pointer (some ⟨w.heap.size, 0, none⟩), .int .i64 0]) ∧ w' = w.alloc (.cells (dkE 1048576).toArray 129) := by
  go_enter Tryz.func23, Tryz.ntmps23
  go_wp2
  go_ret2
  exact ⟨rfl, rfl⟩
theorem bsf_none (fv : Value) (n : ByteArray) (w : World) : Calls Tryz.prog 168 #[.slice none 0 0, .string n, fv] w fun e w' => e = .returned (.tuple #[.int .i64 0, .bool false]) ∧ w' = w := by
  go_enter Tryz.func168, Tryz.ntmps168
  go_wp2_with fail
  refine wp_loop_rounds 1 ?_
  rw [rounds_succ]
  go_wp2_with fail
  go_ret2
  exact ⟨rfl, rfl⟩
theorem find_none (d : Nat) (room : Int) (n : ByteArray) (w : World) (h : Bk w d (dkE room)) : Calls Tryz.prog 120 #[.pointer (some ⟨d, 0, none⟩), .string n] w fun e w' => e = .returned (.tuple #[.int .i64 0, .bool false]) ∧ w' = w := by
  have c1 := h.block (i := 1) rfl
  have HB := Lib.hid (fun fv : Value => bsf_none fv n w)
  clear h
  go_enter Tryz.func120, Tryz.ntmps120
  go_wp2_with (go_at_call 168; refine (HB.out _).mono ?_; rintro e1 w1 ⟨rfl, rfl⟩)
  go_ret2
  exact ⟨rfl, rfl⟩
theorem read_none (d : Nat) (room : Int) (n : ByteArray) (w : World) (h : Bk w d (dkE room)) : Calls Tryz.prog 69 #[.pointer (some ⟨d, 0, none⟩), .string n] w fun e w' => e = .returned (.tuple #[.slice none 0 0, .int .i64 7]) ∧ w' = w := by
  have HB := Lib.hid (find_none d room n w h)
  clear h
  go_enter Tryz.func69, Tryz.ntmps69
  go_wp2_with (go_at_call 120; refine HB.out.mono ?_; rintro e1 w1 ⟨rfl, rfl⟩)
  go_ret2
  exact ⟨rfl, rfl⟩
theorem st_string : (Tryz.prog.info? 9).map (fun i => (i.zero, i.size, i.bytes)) = some (some (.string ⟨#[]⟩), 1, 16) := by kernel_rfl
theorem names_none (d : Nat) (room : Int) (w : World) (h : Bk w d (dkE room)) : Calls Tryz.prog 75 #[.pointer (some ⟨d, 0, none⟩)] w fun e w' => (∃ A, e = .returned (.slice A 0 0)) ∧ Below w.heap.size w w' := by
  have c1 := h.block (i := 1) rfl
  have hl := h.lt
  have HH := Lib.hid h
  clear h
  obtain ⟨i0, hi0, hz0, hz1, hz2⟩ := info_parts st_string
  go_enter Tryz.func75, Tryz.ntmps75
  go_upto_region 3 with fail
  refine wp_region_lit ?_
  refine wpList_plain rfl (fun KK hKK => ?_)
  go_simp
  refine hKK _ _ ?_
  refine wpList_plain rfl (fun KK hKK => ?_)
  go_simp
  refine hKK _ _ ?_
  refine wpList_plain rfl (fun KK hKK => ?_)
  go_simp
  refine hKK _ _ ?_
  refine wpList_plain rfl (fun KK hKK => ?_)
  go_simp
  refine hKK _ _ ?_
  refine wpList_plain rfl (fun KK hKK => ?_)
  go_simp
  refine hKK _ _ ?_
  refine wpList_make_own w rfl (.const (.int .i64 0)) (.tmp 12) 49 rfl w.heap.size 9 i0 _ 1 Tryz.underlying49 hi0 hz0 hz1 .i64 .i64 0 0 rfl rfl rfl (by omega) (by unfold maxLen; omega) (Nat.le_refl _) ?_
  intro w1 hown hg
  have k1 : Below w.heap.size w w1 := (Below.refl _ _).grown hg (Nat.le_refl _) (fun i hi => by cases hi)
  have HK := Lib.hid k1
  have c1' : w1.cell? ⟨d, 1, none⟩ = some (.slice none 0 0) := (HH.out.below k1).block (i := 1) rfl
  clear hown hg k1 c1 hl
  refine wpList_plain rfl (fun KK hKK => ?_)
  go_simp
  refine hKK _ _ ?_
  refine wpList_nil ?_
  go_wp2_with fail
  refine wp_loop_rounds 1 ?_
  rw [rounds_succ]
  go_wp2_with fail
  go_ret
  exact ⟨⟨_, rfl⟩, HK.out⟩
theorem anew_none (d : Nat) (room : Int) (n : ByteArray) (m : Int) (w : World) (h : Bk w d (dkE room)) : Calls Tryz.prog 40 #[.pointer (some ⟨d, 0, none⟩), .string n, .int .i64 m] w fun e w' => e = .returned (.tuple #[.int .i64 0, .int .i64 0]) ∧ w' = w := by
  have HB := Lib.hid (read_none d room n w h)
  clear h
  go_enter Tryz.func40, Tryz.ntmps40
  go_wp2_with (go_at_call 69; refine HB.out.mono ?_; rintro e1 w1 ⟨rfl, rfl⟩)
  go_ret2
  exact ⟨rfl, rfl⟩
end Go.Proofs.YtpflbhcgkndpcaaGreatDoor

/- Stage 16: a store over an empty disk: what Open asks of the store. -/
namespace Go.Proofs.YtpflbhcgkndpcaaGreatDoor
open Go.RowKit

/-- The cells of a store without keys. -/
def stE (d : Nat) (lg : Value) (en : Int) (m : Nat) : List Value := [.pointer (some ⟨d, 0, none⟩), .string ⟨#[109]⟩, .int .i64 0, lg, .int .i64 0, .int .i64 en, .slice none 0 0, .map (some m), .int .i64 0, .int .i64 0, .int .i64 0, .int .i64 0, .int .i64 0, .int .i64 0, .int .i64 0, .int .i64 0, .int .i64 0, .int .i64 0, .int .i64 0, .int .i64 0, .int .i64 0, .int .i64 0, .int .i64 0, .int .i64 0, .int .i64 0, .slice none 0 0, .bool false]
/-- The cells of a log without entries. -/
def lgE (d : Nat) : List Value := [.pointer (some ⟨d, 0, none⟩), .string ⟨#[109, 48, 46]⟩, .slice none 0 0, .slice none 0 0, .int .i64 0, .bool false]
theorem logprefix_0 (s d : Nat) (lg : Value) (en : Int) (m : Nat) (w : World) (h : Bk w s (stE d lg en m)) : Calls Tryz.prog 41 #[.pointer (some ⟨s, 0, none⟩), .int .i64 0] w fun e w' => e = .returned (.string ⟨#[109, 48, 46]⟩) ∧ Below w.heap.size w w' := by
  have HI := Lib.hid (fun W : World => (Any.strconv_Itoa_small Tryz.lays171 0 (by omega) W).mono (fun e w' q => (show e = .returned (.string ⟨#[48]⟩) ∧ w' = W from ⟨by rw [q.1]; kernel_rfl, q.2⟩)))
  have c1 := h.block (i := 1) rfl
  have hl := h.lt
  clear h
  go_enter Tryz.func41, Tryz.ntmps41
  go_upto_region 1 with fail
  go_quiet ((go_at_call 74; exact Calls.quiet_of_same (HI.out _)))
  go_wp2_with fail
  go_ret
  exact ⟨by rfl, by (repeat' (first | (with_reducible exact Below.refl _ _) | (with_reducible assumption) | (with_reducible refine Below.trans ?_ (Below.mono (by with_reducible assumption) ?_)) | (with_reducible refine Below.alloc ?_ ?_ _) | (with_reducible refine Below.setCell ?_ ?_ _) | (with_reducible refine below_drewN ?_ _) | (with_reducible refine Below.drew ?_) | go_size))⟩
theorem files_none (s d : Nat) (lg : Value) (en : Int) (m : Nat) (room : Int) (n : ByteArray) (w : World) (h : Bk w s (stE d lg en m)) (hd : Bk w d (dkE room)) : Calls Tryz.prog 42 #[.pointer (some ⟨s, 0, none⟩), .string n] w fun e w' => e = .returned (.slice none 0 0) ∧ Below w.heap.size w w' := by
  have HB := Lib.hid (names_none d room w hd)
  have c0 := h.block (i := 0) rfl
  clear h hd
  go_enter Tryz.func42, Tryz.ntmps42
  go_wp2_with (go_at_call 75; refine HB.out.mono ?_; rintro e1 w1 ⟨⟨A, rfl⟩, k1⟩; clear c0)
  refine wp_loop_rounds 1 ?_
  rw [rounds_succ]
  go_wp2_with fail
  go_ret
  exact ⟨rfl, k1⟩
theorem wnext_none (l d : Nat) (w : World) (h : Bk w l (lgE d)) : Calls Tryz.prog 86 #[.pointer (some ⟨l, 0, none⟩)] w fun e w' => e = .returned (.tuple #[.int .i64 1, .int .i64 1]) ∧ Below w.heap.size w w' := by
  have c3 := h.block (i := 3) rfl
  have c4 := h.block (i := 4) rfl
  clear h
  go_enter Tryz.func86, Tryz.ntmps86
  go_upto_region 3 with fail
  go_quiet (fail)
  go_wp2_with fail
  go_ret2
  exact ⟨rfl, by (repeat' (first | (with_reducible exact Below.refl _ _) | (with_reducible assumption) | (with_reducible refine Below.trans ?_ (Below.mono (by with_reducible assumption) ?_)) | (with_reducible refine Below.alloc ?_ ?_ _) | (with_reducible refine Below.setCell ?_ ?_ _) | (with_reducible refine below_drewN ?_ _) | (with_reducible refine Below.drew ?_) | go_size))⟩
theorem wfiles_none (l d : Nat) (room : Int) (w : World) (h : Bk w l (lgE d)) (hd : Bk w d (dkE room)) : Calls Tryz.prog 83 #[.pointer (some ⟨l, 0, none⟩)] w fun e w' => e = .returned (.slice none 0 0) ∧ Below w.heap.size w w' := by
  have HB := Lib.hid (names_none d room w hd)
  have c0 := h.block (i := 0) rfl
  clear h hd
  go_enter Tryz.func83, Tryz.ntmps83
  go_wp2_with (go_at_call 75; refine HB.out.mono ?_; rintro e1 w1 ⟨⟨A, rfl⟩, k1⟩; clear c0)
  refine wp_loop_rounds 1 ?_
  rw [rounds_succ]
  go_wp2_with fail
  go_ret
  exact ⟨rfl, k1⟩
theorem wload_none (l : Nat) (w : World) : Calls Tryz.prog 82 #[.pointer (some ⟨l, 0, none⟩), .slice none 0 0] w fun e w' => e = .returned (.tuple #[]) ∧ w' = w := by
  go_enter Tryz.func82, Tryz.ntmps82
  go_wp2_with fail
  refine wp_loop_rounds 1 ?_
  rw [rounds_succ]
  go_wp2_with fail
  go_end0
  exact ⟨rfl, rfl⟩
end Go.Proofs.YtpflbhcgkndpcaaGreatDoor

/- Frames that defer: what a region's drawn walk asks of the way out by a panic. -/
namespace Go.Proofs.YtpflbhcgkndpcaaGreatDoor
open Go.RowKit

theorem leaves_same {P : Program} {fn : Func} {t1 t2 : Array Value} {R : Ending → World → Prop} (h : results fn t1 = results fn t2) : ∀ (ds : List Deferred) (u : FrameMode) (w : World), Leaves P fn t1 R ds u w → Leaves P fn t2 R ds u w
  | [], .returning, w, q => by
    unfold Leaves at q ⊢
    rw [← h]
    exact q
  | [], .panicking c, w, q => by
    unfold Leaves at q ⊢
    exact q
  | [], .run, w, q => by
    unfold Leaves at q
    exact q.elim
  | d :: ds, u, w, q => by
    unfold Leaves at q ⊢
    obtain ⟨h1, fv, cap, f, args, h2, h3, h4⟩ := q
    refine ⟨h1, fv, cap, f, args, h2, h3, h4.mono ?_⟩
    intro e u' w' k
    cases e with
    | returned v => exact leaves_same h ds _ _ k
    | panicked c => exact leaves_same h ds _ _ k
    | outgrown => exact k
theorem getd_put (tmps : Array Value) (d k : Nat) (v : Value) (h : k ≠ d) : ((tmps.setIfInBounds d v)[k]?.getD undef) = (tmps[k]?.getD undef) := by
  rw [Array.getElem?_setIfInBounds, if_neg (fun e => h e.symm)]
theorem hQ2 {fn : Func} {R : Ending → World → Prop} {a b : Nat} {ta tb : TypeId} (h : fn.results = #[.cell a ta, .cell b tb]) {d : Nat} (ha : a ≠ d) (hb : b ≠ d) (v : Value) : ∀ (c : List PanicEntry) (x : Go.Act) (w : World), bodyPostD Tryz.prog fn R (.panic c) (x.put (some d) v) w → bodyPostD Tryz.prog fn R (.panic c) x w := by
  intro c x w hh
  refine leaves_same ?_ _ _ _ hh
  unfold results
  rw [h]
  simp [Go.Act.put, getd_put _ _ _ _ ha, getd_put _ _ _ _ hb]
theorem hQ1 {fn : Func} {R : Ending → World → Prop} {a : Nat} {ta : TypeId} (h : fn.results = #[.cell a ta]) {d : Nat} (ha : a ≠ d) (v : Value) : ∀ (c : List PanicEntry) (x : Go.Act) (w : World), bodyPostD Tryz.prog fn R (.panic c) (x.put (some d) v) w → bodyPostD Tryz.prog fn R (.panic c) x w := by
  intro c x w hh
  refine leaves_same ?_ _ _ _ hh
  unfold results
  rw [h]
  simp [Go.Act.put, getd_put _ _ _ _ ha]
end Go.Proofs.YtpflbhcgkndpcaaGreatDoor

