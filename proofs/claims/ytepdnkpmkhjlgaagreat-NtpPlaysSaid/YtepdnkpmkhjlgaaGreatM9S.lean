/- Stage 9: NtpPlays: of every table and script each answer, all samples, what the clock shows: for every table, servers, count and acts (written by gen/s9p.py). -/
import Derived.Test.YtepdnkpmkhjlgaaGreatTk9
import Derived.Test.YtepdnkpmkhjlgaaGreatM9R
import Derived.Test.YtepdnkpmkhjlgaaGreatM9R
import Derived.Test.YtepdnkpmkhjlgaaGreatArgTable
import Derived.Deep.Fields
import Derived.BigQuiet
/- NTP: the law's does, of any act: K1 (written by gen/doesa.py). -/
set_option linter.unusedSimpArgs false
set_option linter.unusedVariables false
namespace Go.Proofs.YtepdnkpmkhjlgaaGreat
open Go.RowKit Go.Sort

set_option maxRecDepth 100000 in
set_option maxHeartbeats 16000000 in
theorem law_does_k1 {w : World} {bp b bc bs : Nat} {A1 : Option Addr} {c1 : Nat} {rb rbc rbs : Nat} {A2 : Option Addr} {c2 : Nat} {ad : Addr} {n c : Nat} {x : Int} {z : Nat → Int} {N : Nat} {m0 m1 m2 : Nat} {K R : Cs} {cnt : Int} {asked when_ : Nat → Int} (h : Tw w bp b bc bs A1 c1 rb rbc rbs A2 c2 ad n c x z N m0 m1 m2 K R cnt asked when_) (hn : K.n < 1000000000) (hs : K.syn < 1000000000) (hN : N ≤ 8) (tt ah tk wy : Int) (Ab : Option Addr) (nb cb : Nat) (i : Nat) (hi : i < N) :
    Calls Tryz.prog 13 #[.pointer (some ⟨bp, 0, none⟩), .agg #[.int .i64 1, .int .i64 i, .int .i64 tt, .int .i64 ah, .int .i64 tk, .int .i64 wy, .slice Ab nb cb]] w (DoesPost w bp b bc bs A1 c1 rb rbc rbs A2 c2 ad n c x z N m0 m1 m2 K) := by
  have hr1 := h.p.r1
  have hr2 := h.p.r2
  have hr3 := h.p.r3
  have hql := h.p.ql
  have kk : Below w.heap.size w (w.alloc (.cells #[.int .i64 1, .int .i64 i, .int .i64 tt, .int .i64 ah, .int .i64 tk, .int .i64 wy, .slice Ab nb cb] 41)) := (Below.refl _ _).alloc (Nat.le_refl _) _
  have HP0 := Lib.hid (h.p.below kk)
  have HU0 : Hid (But (fun k => m0 ≤ k ∧ k ≤ bp) w (w.alloc (.cells #[.int .i64 1, .int .i64 i, .int .i64 tt, .int .i64 ah, .int .i64 tk, .int .i64 wy, .slice Ab nb cb] 41))) := Lib.hid (But.of_below kk)
  have a0 : (w.alloc (.cells #[.int .i64 1, .int .i64 i, .int .i64 tt, .int .i64 ah, .int .i64 tk, .int .i64 wy, .slice Ab nb cb] 41)).cell? ⟨w.heap.size, 0, none⟩ = some (.int .i64 1) := by simp
  have a1 : (w.alloc (.cells #[.int .i64 1, .int .i64 i, .int .i64 tt, .int .i64 ah, .int .i64 tk, .int .i64 wy, .slice Ab nb cb] 41)).cell? ⟨w.heap.size, 1, none⟩ = some (.int .i64 i) := by simp
  have a2 : (w.alloc (.cells #[.int .i64 1, .int .i64 i, .int .i64 tt, .int .i64 ah, .int .i64 tk, .int .i64 wy, .slice Ab nb cb] 41)).cell? ⟨w.heap.size, 2, none⟩ = some (.int .i64 tt) := by simp
  have a3 : (w.alloc (.cells #[.int .i64 1, .int .i64 i, .int .i64 tt, .int .i64 ah, .int .i64 tk, .int .i64 wy, .slice Ab nb cb] 41)).cell? ⟨w.heap.size, 3, none⟩ = some (.int .i64 ah) := by simp
  have a4 : (w.alloc (.cells #[.int .i64 1, .int .i64 i, .int .i64 tt, .int .i64 ah, .int .i64 tk, .int .i64 wy, .slice Ab nb cb] 41)).cell? ⟨w.heap.size, 4, none⟩ = some (.int .i64 tk) := by simp
  have a5 : (w.alloc (.cells #[.int .i64 1, .int .i64 i, .int .i64 tt, .int .i64 ah, .int .i64 tk, .int .i64 wy, .slice Ab nb cb] 41)).cell? ⟨w.heap.size, 5, none⟩ = some (.int .i64 wy) := by simp
  have a6 : (w.alloc (.cells #[.int .i64 1, .int .i64 i, .int .i64 tt, .int .i64 ah, .int .i64 tk, .int .i64 wy, .slice Ab nb cb] 41)).cell? ⟨w.heap.size, 6, none⟩ = some (.slice Ab nb cb) := by simp
  have la : w.heap.size < (w.alloc (.cells #[.int .i64 1, .int .i64 i, .int .i64 tt, .int .i64 ah, .int .i64 tk, .int .i64 wy, .slice Ab nb cb] 41)).heap.size := by simp
  have hc0 := h.k0
  obtain ⟨p, hp⟩ : ∃ p, min cnt 1152921504606846976 = p := ⟨_, rfl⟩
  obtain ⟨q, hq⟩ : ∃ q, min tt 35184372088832 = q := ⟨_, rfl⟩
  obtain ⟨r, hr⟩ : ∃ r, max (0 : Int) q = r := ⟨_, rfl⟩
  have hpb : 0 ≤ p ∧ p ≤ 1152921504606846976 := by omega
  have hrb : 0 ≤ r ∧ r ≤ 35184372088832 := by omega
  obtain ⟨C, hC⟩ : ∃ C, p + r = C := ⟨_, rfl⟩
  have hCb : 0 ≤ C ∧ C ≤ 1153000000000000000 := by omega
  have wC : IntKind.i64.wrap (p + r) = C := by rw [hC]; exact IntWalk.i64_in _ (by omega)
  have HTW := Lib.hid h
  have HN := Lib.hid (And.intro h.r.n (And.intro hn hCb))
  have HS := Lib.hid hs
  have hkn := h.ko.n0
  have li : (i : Int) < 8 := by omega
  have li2 : i < 8 := by omega
  have p4 := HP0.out.q4
  clear kk h hC hn hs hpb hrb hc0 hCb
  go_enter Tryz.func13, Tryz.ntmps13
  go_wp2_with fail
  generalize hA : w.heap.size = a at *
  have HAE := Lib.hid hA
  generalize hW : (w.alloc (.cells #[.int .i64 1, .int .i64 i, .int .i64 tt, .int .i64 ah, .int .i64 tk, .int .i64 wy, .slice Ab nb cb] 41)) = V0 at *
  clear hA hW
  refine wp_region_held_drew (S := fun w' => w'.cell? ⟨a, 2, none⟩ = some (.int .i64 tt)) (by kernel_rfl) ?_ (fun hHeld => ?_)
  · exact a2
  have HP1 := Lib.hid (HP0.out.below (w' := V0.drew) ((Below.refl _ _).drew))
  have HU1 := Lib.hid HU0.out.drew
  replace a0 : V0.drew.cell? ⟨a, 0, none⟩ = some (.int .i64 1) := a0
  replace a1 : V0.drew.cell? ⟨a, 1, none⟩ = some (.int .i64 i) := a1
  replace a2 : V0.drew.cell? ⟨a, 2, none⟩ = some (.int .i64 tt) := a2
  replace a3 : V0.drew.cell? ⟨a, 3, none⟩ = some (.int .i64 ah) := a3
  replace a4 : V0.drew.cell? ⟨a, 4, none⟩ = some (.int .i64 tk) := a4
  replace a5 : V0.drew.cell? ⟨a, 5, none⟩ = some (.int .i64 wy) := a5
  replace a6 : V0.drew.cell? ⟨a, 6, none⟩ = some (.slice Ab nb cb) := a6
  replace la : a < V0.drew.heap.size := la
  clear HP0 HU0 p4
  generalize V0.drew = V1 at *
  have nab : a ≠ bp := by omega
  have HP2 := Lib.hid (HP1.out.cnt C)
  have HU2 : Hid (But (fun k => m0 ≤ k ∧ k ≤ bp) w (V1.setCell ⟨bp, 4, none⟩ (.int .i64 C))) := Lib.hid (HU1.out.setCell (p := ⟨bp, 4, none⟩) (fun _ => ⟨by show m0 ≤ bp; omega, Nat.le_refl _⟩) _)
  have b0 : (V1.setCell ⟨bp, 4, none⟩ (.int .i64 C)).cell? ⟨a, 0, none⟩ = some (.int .i64 1) := (World.cell?_setCell_other _ _ _ _ (by simp [nab])).trans a0
  have b1 : (V1.setCell ⟨bp, 4, none⟩ (.int .i64 C)).cell? ⟨a, 1, none⟩ = some (.int .i64 i) := (World.cell?_setCell_other _ _ _ _ (by simp [nab])).trans a1
  have b2 : (V1.setCell ⟨bp, 4, none⟩ (.int .i64 C)).cell? ⟨a, 2, none⟩ = some (.int .i64 tt) := (World.cell?_setCell_other _ _ _ _ (by simp [nab])).trans a2
  have b3 : (V1.setCell ⟨bp, 4, none⟩ (.int .i64 C)).cell? ⟨a, 3, none⟩ = some (.int .i64 ah) := (World.cell?_setCell_other _ _ _ _ (by simp [nab])).trans a3
  have b4 : (V1.setCell ⟨bp, 4, none⟩ (.int .i64 C)).cell? ⟨a, 4, none⟩ = some (.int .i64 tk) := (World.cell?_setCell_other _ _ _ _ (by simp [nab])).trans a4
  have b5 : (V1.setCell ⟨bp, 4, none⟩ (.int .i64 C)).cell? ⟨a, 5, none⟩ = some (.int .i64 wy) := (World.cell?_setCell_other _ _ _ _ (by simp [nab])).trans a5
  have b6 : (V1.setCell ⟨bp, 4, none⟩ (.int .i64 C)).cell? ⟨a, 6, none⟩ = some (.slice Ab nb cb) := (World.cell?_setCell_other _ _ _ _ (by simp [nab])).trans a6
  have lb : a < (V1.setCell ⟨bp, 4, none⟩ (.int .i64 C)).heap.size := by simpa [World.setCell] using la
  have f4 := HP1.out.qf 4
  have p4 := HP1.out.q4
  have lbp := HP1.out.ql
  refine tk9 0 ?_
  refine tk9 1 ?_
  refine tk9 2 ?_
  refine tk9 3 ?_
  refine tk9 6 ?_
  refine tk9 7 ?_
  refine tk9 8 ?_
  refine tk9 9 ?_
  refine wpAnyH_ready (rs := [4]) (by kernel_rfl) (by simp) ?_
  refine AllReadyH.cons rfl (fun KK hKK => ?_) (AllReadyH.nil)
  go_simp
  (try dsimp only)
  refine hKK.out _ _ ?_ (fun hHeld => ?_)
  · exact a2
  clear hKK KK
  refine pt9 ?_
  refine tk9 5 ?_
  refine tk9 10 ?_
  refine tk9 11 ?_
  refine tk9 12 ?_
  refine wpAnyH_ready (rs := [13]) (by kernel_rfl) (by simp) ?_
  refine AllReadyH.cons rfl (fun KK hKK => ?_) (AllReadyH.nil)
  go_simp
  (try dsimp only)
  refine hKK.out _ _ ?_ (fun hHeld => ?_)
  · exact b2
  clear hKK KK
  refine pt9 ?_
  refine wpAnyH_done (by kernel_rfl) ?_ _
  clear hHeld HP1 HU1 a0 a1 a2 a3 a4 a5 a6 la f4 p4 lbp hp hq hr wC
  generalize V1.setCell ⟨bp, 4, none⟩ (.int .i64 C) = V2 at *
  clear b3 b4 b5 b6
  have HAK := Lib.hid (fun (W : World) (hp : Pr W bp b bc bs A1 c1 rb rbc rbs A2 c2 ad n c x z N m0 m1 m2 K R C asked when_) => ntp_ask hp.P HTW.out.ko HN.out.2.1 i hi C (by have := HN.out; omega))
  have HRK := Lib.hid (fun (W : World) (hp : Nc layR W rb rbc rbs A2 n c2 x z N R) => r_ask hp HTW.out.ro (by have := HN.out; omega) i hi C (by have := HN.out; omega))
  go_wp2_with fail
  refine wp_region_held_drew (S := fun w' => w'.cell? ⟨bp, 2, none⟩ = some (.pointer (some ⟨b, 0, none⟩)) ∧ w'.cell? ⟨bp, 4, none⟩ = some (.int .i64 C) ∧ w'.cell? ⟨a, 1, none⟩ = some (.int .i64 i)) (by kernel_rfl) ?_ (fun hHeld => ?_)
  · exact ⟨HP2.out.q2, HP2.out.q4, b1⟩
  have HP3 := Lib.hid (HP2.out.below (w' := V2.drew) ((Below.refl _ _).drew))
  have HU3 := Lib.hid HU2.out.drew
  have b1 : V2.drew.cell? ⟨a, 1, none⟩ = some (.int .i64 i) := b1
  have lb : a < V2.drew.heap.size := lb
  clear HP2 HU2 b0 b2
  generalize V2.drew = V3 at *
  refine tk9 0 ?_
  refine tk9 1 ?_
  refine tk9 2 ?_
  refine tk9 3 ?_
  refine tk9 4 ?_
  refine tk9 5 ?_
  refine tk9 6 ?_
  refine tk9 7 ?_
  refine tk9 8 ?_
  refine tk9 9 ?_
  refine wpAnyH_ready (rs := [10]) (by kernel_rfl) (by simp) ?_
  refine AllReadyH.cons rfl (fun KK hKK => ?_) (AllReadyH.nil)
  go_simp
  (go_at_call 27; refine (HAK.out V3 HP3.out).mono ?_; rintro e V4 ⟨⟨g4, rfl, hg4, hu4⟩, hn4, hf4⟩)
  have HP4 := Lib.hid (HP3.out.onP hn4 hf4)
  have HU4 := Lib.hid (HU3.out.trans (T := Ft b bc bs) hf4 (fun q _ hq => by unfold Ft at hq; omega))
  have hnF : ¬ Ft b bc bs a := by unfold Ft; omega
  have b1 : V4.cell? ⟨a, 1, none⟩ = some (.int .i64 i) := (hf4.cell a 1 lb hnF).trans b1
  have lb : a < V4.heap.size := Nat.lt_of_lt_of_le lb hf4.size
  have HG4 := Lib.hid (AskAns.pk (w := w) hu4)
  have hga : a < g4 := by have := hg4; omega
  have hz4 := hf4.size
  have hg4' := hu4.lt
  clear hn4 hf4 hu4 HP3 HU3 HAK
  (try dsimp only)
  refine hKK.out _ _ ?_ (fun hHeld => ?_)
  · exact ⟨HP4.out.q2, HP4.out.q4, b1⟩
  clear hKK KK
  refine pt9 ?_
  refine tk9 11 ?_
  refine tk9 12 ?_
  refine tk9 13 ?_
  refine tk9 14 ?_
  refine tk9 15 ?_
  refine wpAnyH_done (by kernel_rfl) ?_ _
  clear hHeld
  go_wp2_with fail
  refine wp_region_held_drew (S := fun w' => w'.cell? ⟨bp, 3, none⟩ = some (.pointer (some ⟨rb, 0, none⟩)) ∧ w'.cell? ⟨bp, 4, none⟩ = some (.int .i64 C) ∧ w'.cell? ⟨a, 1, none⟩ = some (.int .i64 i)) (by kernel_rfl) ?_ (fun hHeld => ?_)
  · exact ⟨HP4.out.q3, HP4.out.q4, b1⟩
  have HP5 := Lib.hid (HP4.out.below (w' := V4.drew) ((Below.refl _ _).drew))
  have HU5 := Lib.hid HU4.out.drew
  have HG5 := Lib.hid (HG4.out.below (w' := V4.drew) ((Below.refl _ _).drew))
  have b1 : V4.drew.cell? ⟨a, 1, none⟩ = some (.int .i64 i) := b1
  have lb : a < V4.drew.heap.size := lb
  have hg5 : g4 < V4.drew.heap.size := hg4'
  clear HP4 HU4 HG4 hz4 hg4 hg4'
  generalize V4.drew = V5 at *
  refine tk9 0 ?_
  refine tk9 1 ?_
  refine tk9 2 ?_
  refine tk9 3 ?_
  refine tk9 4 ?_
  refine tk9 5 ?_
  refine tk9 6 ?_
  refine tk9 7 ?_
  refine tk9 8 ?_
  refine tk9 9 ?_
  refine wpAnyH_ready (rs := [10]) (by kernel_rfl) (by simp) ?_
  refine AllReadyH.cons rfl (fun KK hKK => ?_) (AllReadyH.nil)
  go_simp
  (go_at_call 28; refine (HRK.out V5 HP5.out.R).mono ?_; rintro e V6 ⟨⟨g6, cap6, rfl, hg6, hu6⟩, hn6, hf6⟩)
  have HP6 := Lib.hid (HP5.out.onR hn6 hf6)
  have HU6 := Lib.hid (HU5.out.trans (T := Ft rb rbc rbs) hf6 (fun q _ hq => by unfold Ft at hq; omega))
  have hnF : ¬ Ft rb rbc rbs a := by unfold Ft; omega
  have hnG : ¬ Ft rb rbc rbs g4 := by unfold Ft; omega
  have b1 : V6.cell? ⟨a, 1, none⟩ = some (.int .i64 i) := (hf6.cell a 1 lb hnF).trans b1
  have lb : a < V6.heap.size := Nat.lt_of_lt_of_le lb hf6.size
  have HG6 := Lib.hid (HG5.out.but hf6 hnG)
  rw [HN.out.1] at hu6
  have HD6 := Lib.hid hu6
  have hg6' := hu6.1
  clear hn6 hf6 hu6 HP5 HU5 HG5 HRK hnF hnG
  (try dsimp only)
  refine hKK.out _ _ ?_ (fun hHeld => ?_)
  · exact ⟨HP6.out.q3, HP6.out.q4, b1⟩
  clear hKK KK
  refine pt9 ?_
  refine tk9 11 ?_
  refine tk9 12 ?_
  refine tk9 13 ?_
  refine tk9 14 ?_
  refine tk9 15 ?_
  refine wpAnyH_done (by kernel_rfl) ?_ _
  clear hHeld
  have HDC := Lib.hid (decR_of HD6.out (askP_ok (K.n + 1) ⟨by omega, by have := HN.out; omega⟩))
  go_wp2_with fail
  refine HDC.out.mono ?_; rintro e W7 ⟨rfl, k7⟩
  obtain ⟨QO, hQO⟩ : ∃ QO : Obj, (.cells #[.int .i64 0, .int .i64 3, .int .i64 0, .int .i64 0, .int .i64 0, .int .u64 0, .int .u64 0, .int .u64 (K.n + 1)] 53) = QO := ⟨_, rfl⟩
  have k8 := k7.alloc k7.size QO
  have y7 : (W7.alloc QO).cell? ⟨W7.heap.size, 7, none⟩ = some (.int .u64 (K.n + 1)) := by rw [← hQO]; simp
  have HP8 := Lib.hid (HP6.out.below k8)
  have HU8 := Lib.hid (HU6.out.next k8)
  have HG8 := Lib.hid (HG6.out.below k8)
  have HD8 := Lib.hid (HD6.out.below k8)
  have b1 := (k8.cell (p := ⟨a, 1, none⟩) lb).trans b1
  have hz7 := k7.size
  have lq : W7.heap.size < (W7.alloc QO).heap.size := by simp
  have HQO := Lib.hid hQO
  clear k7 k8 HP6 HU6 HG6 HD6 HDC hQO
  go_wp2_with fail
  rw [HQO.out]
  generalize W7.alloc QO = V8 at *
  generalize W7.heap.size = q8 at *
  refine wp_region_held_drew (S := fun w' => w'.cell? ⟨bp, 4, none⟩ = some (.int .i64 C) ∧ w'.cell? ⟨a, 1, none⟩ = some (.int .i64 i) ∧ w'.cell? ⟨q8, 7, none⟩ = some (.int .u64 (K.n + 1))) (by kernel_rfl) ?_ (fun hHeld => ?_)
  · exact ⟨HP8.out.q4, b1, y7⟩
  have HPV := Lib.hid (HP8.out.below (w' := V8.drew) ((Below.refl _ _).drew))
  have HUV := Lib.hid HU8.out.drew
  have HGV := Lib.hid (HG8.out.below (w' := V8.drew) ((Below.refl _ _).drew))
  have HDV := Lib.hid (HD8.out.below (w' := V8.drew) ((Below.refl _ _).drew))
  have b1 : V8.drew.cell? ⟨a, 1, none⟩ = some (.int .i64 i) := b1
  have y7 : V8.drew.cell? ⟨q8, 7, none⟩ = some (.int .u64 (K.n + 1)) := y7
  clear HP8 HU8 HG8 HD8
  generalize V8.drew = V at *
  have nq : q8 ≠ bp := by omega
  have HP9 := Lib.hid (HPV.out.ask i li2 (K.n + 1))
  have HP10 := Lib.hid (HP9.out.when i li2 C)
  have HU10 : Hid (But (fun k => m0 ≤ k ∧ k ≤ bp) w ((V.setCell ⟨bp, 5 + i, none⟩ (.int .u64 (K.n + 1))).setCell ⟨bp, 13 + i, none⟩ (.int .i64 C))) := Lib.hid ((HUV.out.setCell (p := ⟨bp, 5 + i, none⟩) (fun _ => ⟨by show m0 ≤ bp; omega, Nat.le_refl _⟩) _).setCell (p := ⟨bp, 13 + i, none⟩) (fun _ => ⟨by show m0 ≤ bp; omega, Nat.le_refl _⟩) _)
  have O9 : Only bp V ((V.setCell ⟨bp, 5 + i, none⟩ (.int .u64 (K.n + 1))).setCell ⟨bp, 13 + i, none⟩ (.int .i64 C)) := ((Only.refl _ _).setB _).setB _
  have HG10 := Lib.hid (HGV.out.but (S := fun k => k = bp) (But.of_only O9 rfl) (by omega))
  have HD10 := Lib.hid (HDV.out.but (S := fun k => k = bp) (But.of_only O9 rfl) (by omega))
  have e1 : (V.setCell ⟨bp, 5 + i, none⟩ (.int .u64 (K.n + 1))).cell? ⟨a, 1, none⟩ = some (.int .i64 i) := (World.cell?_setCell_other _ _ _ _ (by simp [nab])).trans b1
  have e2 : (V.setCell ⟨bp, 5 + i, none⟩ (.int .u64 (K.n + 1))).cell? ⟨q8, 7, none⟩ = some (.int .u64 (K.n + 1)) := (World.cell?_setCell_other _ _ _ _ (by simp [nq])).trans y7
  have e3 : ((V.setCell ⟨bp, 5 + i, none⟩ (.int .u64 (K.n + 1))).setCell ⟨bp, 13 + i, none⟩ (.int .i64 C)).cell? ⟨a, 1, none⟩ = some (.int .i64 i) := (World.cell?_setCell_other _ _ _ _ (by simp [nab])).trans e1
  have e4 : ((V.setCell ⟨bp, 5 + i, none⟩ (.int .u64 (K.n + 1))).setCell ⟨bp, 13 + i, none⟩ (.int .i64 C)).cell? ⟨q8, 7, none⟩ = some (.int .u64 (K.n + 1)) := (World.cell?_setCell_other _ _ _ _ (by simp [nq])).trans e2
  have xa := HPV.out.qa i li2
  have fa := HPV.out.qf (5 + i)
  have p4 := HPV.out.q4
  clear O9
  refine tk9 0 ?_
  refine tk9 1 ?_
  refine tk9 2 ?_
  refine tk9 3 ?_
  refine tk9 4 ?_
  refine tk9 5 ?_
  refine tk9 6 ?_
  refine tk9 7 ?_
  refine tk9 8 ?_
  refine tk9 9 ?_
  refine tk9 10 ?_
  refine tk9 11 ?_
  refine tk9 12 ?_
  refine tk9 13 ?_
  refine tk9 14 ?_
  refine tk9 16 ?_
  refine tk9 17 ?_
  refine wpAnyH_ready (rs := [15]) (by kernel_rfl) (by simp) ?_
  refine AllReadyH.cons rfl (fun KK hKK => ?_) (AllReadyH.nil)
  go_simp
  (try dsimp only)
  refine hKK.out _ _ ?_ (fun hHeld => ?_)
  · exact ⟨HP9.out.q4, e1, e2⟩
  clear hKK KK
  refine pt9 ?_
  have xw := HP9.out.qw i li2
  have fw := HP9.out.qf (13 + i)
  refine tk9 18 ?_
  refine wpAnyH_ready (rs := [19]) (by kernel_rfl) (by simp) ?_
  refine AllReadyH.cons rfl (fun KK hKK => ?_) (AllReadyH.nil)
  go_simp
  (try dsimp only)
  refine hKK.out _ _ ?_ (fun hHeld => ?_)
  · exact ⟨HP10.out.q4, e3, e4⟩
  clear hKK KK
  refine pt9 ?_
  refine wpAnyH_done (by kernel_rfl) ?_ _
  clear hHeld xa fa xw fw e1 e2 e3 e4 y7 b1 HP9 HPV HUV HGV HDV p4
  generalize ((V.setCell ⟨bp, 5 + i, none⟩ (.int .u64 (K.n + 1))).setCell ⟨bp, 13 + i, none⟩ (.int .i64 C)) = W10 at *
  have HSM := Lib.hid (same6 (some ⟨g4, 0, none⟩) 48 48 (askP (K.n + 1)).f (some ⟨g6, 0, none⟩) 48 cap6 (askP (K.n + 1)).f W10 (by omega) (by omega) HG10.out.bytes HD10.out.bytes)
  rw [eqB_refl] at HSM
  go_wp2_with (go_at_call 30; refine HSM.out.mono ?_; rintro e w' ⟨rfl, nq, rfl⟩)
  go_ret
  have hcb := HN.out.2.2
  refine ⟨rfl, ⟨askK K i C, askK R i C, C, updI asked i (K.n + 1), updI when_ i C, ⟨HP10.out.below (w' := W10.drewN nq) (below_drewN (Below.refl _ _) nq), HTW.out.r.ask i hi C, HTW.out.ko.ask HN.out.2.1 i hi C (by omega), HTW.out.ro.ask (by have := HN.out; omega) i hi C (by omega), hcb.1, by omega, fun j hj => ?_, fun j hj => ?_⟩, Int.le_refl _, by show K.syn ≤ _; omega⟩, HU10.out.drewN nq⟩
  · unfold updI; split
    · have := HN.out.2.1; omega
    · exact HTW.out.qa j hj
  · unfold updI; split
    · omega
    · exact HTW.out.qw j hj
end Go.Proofs.YtepdnkpmkhjlgaaGreat

/- NTP: the law's does, of any act: K1N (written by gen/doesa.py). -/
namespace Go.Proofs.YtepdnkpmkhjlgaaGreat
open Go.RowKit Go.Sort

set_option maxRecDepth 100000 in
set_option maxHeartbeats 16000000 in
theorem law_does_k1n {w : World} {bp b bc bs : Nat} {A1 : Option Addr} {c1 : Nat} {rb rbc rbs : Nat} {A2 : Option Addr} {c2 : Nat} {ad : Addr} {n c : Nat} {x : Int} {z : Nat → Int} {N : Nat} {m0 m1 m2 : Nat} {K R : Cs} {cnt : Int} {asked when_ : Nat → Int} (h : Tw w bp b bc bs A1 c1 rb rbc rbs A2 c2 ad n c x z N m0 m1 m2 K R cnt asked when_) (hn : K.n < 1000000000) (hs : K.syn < 1000000000) (hN : N ≤ 8) (sv tt ah tk wy : Int) (Ab : Option Addr) (nb cb : Nat) (hi : sv < 0 ∨ (N : Int) ≤ sv) :
    Calls Tryz.prog 13 #[.pointer (some ⟨bp, 0, none⟩), .agg #[.int .i64 1, .int .i64 sv, .int .i64 tt, .int .i64 ah, .int .i64 tk, .int .i64 wy, .slice Ab nb cb]] w (DoesPost w bp b bc bs A1 c1 rb rbc rbs A2 c2 ad n c x z N m0 m1 m2 K) := by
  have hr1 := h.p.r1
  have hr2 := h.p.r2
  have hr3 := h.p.r3
  have hql := h.p.ql
  have kk : Below w.heap.size w (w.alloc (.cells #[.int .i64 1, .int .i64 sv, .int .i64 tt, .int .i64 ah, .int .i64 tk, .int .i64 wy, .slice Ab nb cb] 41)) := (Below.refl _ _).alloc (Nat.le_refl _) _
  have HP0 := Lib.hid (h.p.below kk)
  have HU0 : Hid (But (fun k => m0 ≤ k ∧ k ≤ bp) w (w.alloc (.cells #[.int .i64 1, .int .i64 sv, .int .i64 tt, .int .i64 ah, .int .i64 tk, .int .i64 wy, .slice Ab nb cb] 41))) := Lib.hid (But.of_below kk)
  have a0 : (w.alloc (.cells #[.int .i64 1, .int .i64 sv, .int .i64 tt, .int .i64 ah, .int .i64 tk, .int .i64 wy, .slice Ab nb cb] 41)).cell? ⟨w.heap.size, 0, none⟩ = some (.int .i64 1) := by simp
  have a1 : (w.alloc (.cells #[.int .i64 1, .int .i64 sv, .int .i64 tt, .int .i64 ah, .int .i64 tk, .int .i64 wy, .slice Ab nb cb] 41)).cell? ⟨w.heap.size, 1, none⟩ = some (.int .i64 sv) := by simp
  have a2 : (w.alloc (.cells #[.int .i64 1, .int .i64 sv, .int .i64 tt, .int .i64 ah, .int .i64 tk, .int .i64 wy, .slice Ab nb cb] 41)).cell? ⟨w.heap.size, 2, none⟩ = some (.int .i64 tt) := by simp
  have a3 : (w.alloc (.cells #[.int .i64 1, .int .i64 sv, .int .i64 tt, .int .i64 ah, .int .i64 tk, .int .i64 wy, .slice Ab nb cb] 41)).cell? ⟨w.heap.size, 3, none⟩ = some (.int .i64 ah) := by simp
  have a4 : (w.alloc (.cells #[.int .i64 1, .int .i64 sv, .int .i64 tt, .int .i64 ah, .int .i64 tk, .int .i64 wy, .slice Ab nb cb] 41)).cell? ⟨w.heap.size, 4, none⟩ = some (.int .i64 tk) := by simp
  have a5 : (w.alloc (.cells #[.int .i64 1, .int .i64 sv, .int .i64 tt, .int .i64 ah, .int .i64 tk, .int .i64 wy, .slice Ab nb cb] 41)).cell? ⟨w.heap.size, 5, none⟩ = some (.int .i64 wy) := by simp
  have a6 : (w.alloc (.cells #[.int .i64 1, .int .i64 sv, .int .i64 tt, .int .i64 ah, .int .i64 tk, .int .i64 wy, .slice Ab nb cb] 41)).cell? ⟨w.heap.size, 6, none⟩ = some (.slice Ab nb cb) := by simp
  have la : w.heap.size < (w.alloc (.cells #[.int .i64 1, .int .i64 sv, .int .i64 tt, .int .i64 ah, .int .i64 tk, .int .i64 wy, .slice Ab nb cb] 41)).heap.size := by simp
  have hc0 := h.k0
  obtain ⟨p, hp⟩ : ∃ p, min cnt 1152921504606846976 = p := ⟨_, rfl⟩
  obtain ⟨q, hq⟩ : ∃ q, min tt 35184372088832 = q := ⟨_, rfl⟩
  obtain ⟨r, hr⟩ : ∃ r, max (0 : Int) q = r := ⟨_, rfl⟩
  have hpb : 0 ≤ p ∧ p ≤ 1152921504606846976 := by omega
  have hrb : 0 ≤ r ∧ r ≤ 35184372088832 := by omega
  obtain ⟨C, hC⟩ : ∃ C, p + r = C := ⟨_, rfl⟩
  have hCb : 0 ≤ C ∧ C ≤ 1153000000000000000 := by omega
  have wC : IntKind.i64.wrap (p + r) = C := by rw [hC]; exact IntWalk.i64_in _ (by omega)
  have HTW := Lib.hid h
  have HN := Lib.hid (And.intro h.r.n (And.intro hn hCb))
  have HS := Lib.hid hs
  have hkn := h.ko.n0
  have p4 := HP0.out.q4
  clear kk h hC hn hs hpb hrb hc0 hCb
  go_enter Tryz.func13, Tryz.ntmps13
  go_wp2_with fail
  generalize hA : w.heap.size = a at *
  have HAE := Lib.hid hA
  generalize hW : (w.alloc (.cells #[.int .i64 1, .int .i64 sv, .int .i64 tt, .int .i64 ah, .int .i64 tk, .int .i64 wy, .slice Ab nb cb] 41)) = V0 at *
  clear hA hW
  refine wp_region_held_drew (S := fun w' => w'.cell? ⟨a, 2, none⟩ = some (.int .i64 tt)) (by kernel_rfl) ?_ (fun hHeld => ?_)
  · exact a2
  have HP1 := Lib.hid (HP0.out.below (w' := V0.drew) ((Below.refl _ _).drew))
  have HU1 := Lib.hid HU0.out.drew
  replace a0 : V0.drew.cell? ⟨a, 0, none⟩ = some (.int .i64 1) := a0
  replace a1 : V0.drew.cell? ⟨a, 1, none⟩ = some (.int .i64 sv) := a1
  replace a2 : V0.drew.cell? ⟨a, 2, none⟩ = some (.int .i64 tt) := a2
  replace a3 : V0.drew.cell? ⟨a, 3, none⟩ = some (.int .i64 ah) := a3
  replace a4 : V0.drew.cell? ⟨a, 4, none⟩ = some (.int .i64 tk) := a4
  replace a5 : V0.drew.cell? ⟨a, 5, none⟩ = some (.int .i64 wy) := a5
  replace a6 : V0.drew.cell? ⟨a, 6, none⟩ = some (.slice Ab nb cb) := a6
  replace la : a < V0.drew.heap.size := la
  clear HP0 HU0 p4
  generalize V0.drew = V1 at *
  have nab : a ≠ bp := by omega
  have HP2 := Lib.hid (HP1.out.cnt C)
  have HU2 : Hid (But (fun k => m0 ≤ k ∧ k ≤ bp) w (V1.setCell ⟨bp, 4, none⟩ (.int .i64 C))) := Lib.hid (HU1.out.setCell (p := ⟨bp, 4, none⟩) (fun _ => ⟨by show m0 ≤ bp; omega, Nat.le_refl _⟩) _)
  have b0 : (V1.setCell ⟨bp, 4, none⟩ (.int .i64 C)).cell? ⟨a, 0, none⟩ = some (.int .i64 1) := (World.cell?_setCell_other _ _ _ _ (by simp [nab])).trans a0
  have b1 : (V1.setCell ⟨bp, 4, none⟩ (.int .i64 C)).cell? ⟨a, 1, none⟩ = some (.int .i64 sv) := (World.cell?_setCell_other _ _ _ _ (by simp [nab])).trans a1
  have b2 : (V1.setCell ⟨bp, 4, none⟩ (.int .i64 C)).cell? ⟨a, 2, none⟩ = some (.int .i64 tt) := (World.cell?_setCell_other _ _ _ _ (by simp [nab])).trans a2
  have b3 : (V1.setCell ⟨bp, 4, none⟩ (.int .i64 C)).cell? ⟨a, 3, none⟩ = some (.int .i64 ah) := (World.cell?_setCell_other _ _ _ _ (by simp [nab])).trans a3
  have b4 : (V1.setCell ⟨bp, 4, none⟩ (.int .i64 C)).cell? ⟨a, 4, none⟩ = some (.int .i64 tk) := (World.cell?_setCell_other _ _ _ _ (by simp [nab])).trans a4
  have b5 : (V1.setCell ⟨bp, 4, none⟩ (.int .i64 C)).cell? ⟨a, 5, none⟩ = some (.int .i64 wy) := (World.cell?_setCell_other _ _ _ _ (by simp [nab])).trans a5
  have b6 : (V1.setCell ⟨bp, 4, none⟩ (.int .i64 C)).cell? ⟨a, 6, none⟩ = some (.slice Ab nb cb) := (World.cell?_setCell_other _ _ _ _ (by simp [nab])).trans a6
  have lb : a < (V1.setCell ⟨bp, 4, none⟩ (.int .i64 C)).heap.size := by simpa [World.setCell] using la
  have f4 := HP1.out.qf 4
  have p4 := HP1.out.q4
  have lbp := HP1.out.ql
  refine tk9 0 ?_
  refine tk9 1 ?_
  refine tk9 2 ?_
  refine tk9 3 ?_
  refine tk9 6 ?_
  refine tk9 7 ?_
  refine tk9 8 ?_
  refine tk9 9 ?_
  refine wpAnyH_ready (rs := [4]) (by kernel_rfl) (by simp) ?_
  refine AllReadyH.cons rfl (fun KK hKK => ?_) (AllReadyH.nil)
  go_simp
  (try dsimp only)
  refine hKK.out _ _ ?_ (fun hHeld => ?_)
  · exact a2
  clear hKK KK
  refine pt9 ?_
  refine tk9 5 ?_
  refine tk9 10 ?_
  refine tk9 11 ?_
  refine tk9 12 ?_
  refine wpAnyH_ready (rs := [13]) (by kernel_rfl) (by simp) ?_
  refine AllReadyH.cons rfl (fun KK hKK => ?_) (AllReadyH.nil)
  go_simp
  (try dsimp only)
  refine hKK.out _ _ ?_ (fun hHeld => ?_)
  · exact b2
  clear hKK KK
  refine pt9 ?_
  refine wpAnyH_done (by kernel_rfl) ?_ _
  clear hHeld HP1 HU1 a0 a1 a2 a3 a4 a5 a6 la f4 p4 lbp hp hq hr wC
  generalize V1.setCell ⟨bp, 4, none⟩ (.int .i64 C) = V2 at *
  clear b3 b4 b5 b6
  go_wp2_with fail
  refine wp_region_held_drew (S := fun w' => w'.cell? ⟨bp, 2, none⟩ = some (.pointer (some ⟨b, 0, none⟩)) ∧ w'.cell? ⟨bp, 4, none⟩ = some (.int .i64 C) ∧ w'.cell? ⟨a, 1, none⟩ = some (.int .i64 sv)) (by kernel_rfl) ?_ (fun hHeld => ?_)
  · exact ⟨HP2.out.q2, HP2.out.q4, b1⟩
  have HP3 := Lib.hid (HP2.out.below (w' := V2.drew) ((Below.refl _ _).drew))
  have HU3 := Lib.hid HU2.out.drew
  replace b1 : V2.drew.cell? ⟨a, 1, none⟩ = some (.int .i64 sv) := b1
  clear HP2 HU2 b0 b2 lb
  generalize V2.drew = V3 at *
  have HAK := Lib.hid (ntp_ask_no HP3.out.P sv C hi)
  refine tk9 0 ?_
  refine tk9 1 ?_
  refine tk9 2 ?_
  refine tk9 3 ?_
  refine tk9 4 ?_
  refine tk9 5 ?_
  refine tk9 6 ?_
  refine tk9 7 ?_
  refine tk9 8 ?_
  refine tk9 9 ?_
  refine wpAnyH_ready (rs := [10]) (by kernel_rfl) (by simp) ?_
  refine AllReadyH.cons rfl (fun KK hKK => ?_) (AllReadyH.nil)
  go_simp
  (go_at_call 27; refine HAK.out.mono ?_; rintro e w' ⟨rfl, rfl⟩)
  (try dsimp only)
  refine hKK.out _ _ ?_ (fun hHeld => ?_)
  · exact ⟨HP3.out.q2, HP3.out.q4, b1⟩
  clear hKK KK
  refine pt9 ?_
  refine tk9 11 ?_
  refine tk9 12 ?_
  refine tk9 13 ?_
  refine tk9 14 ?_
  refine tk9 15 ?_
  refine wpAnyH_done (by kernel_rfl) ?_ _
  clear hHeld
  go_wp2_with fail
  refine wp_region_held_drew (S := fun w' => w'.cell? ⟨bp, 3, none⟩ = some (.pointer (some ⟨rb, 0, none⟩)) ∧ w'.cell? ⟨bp, 4, none⟩ = some (.int .i64 C) ∧ w'.cell? ⟨a, 1, none⟩ = some (.int .i64 sv)) (by kernel_rfl) ?_ (fun hHeld => ?_)
  · exact ⟨HP3.out.q3, HP3.out.q4, b1⟩
  have HP5 := Lib.hid (HP3.out.below (w' := V3.drew) ((Below.refl _ _).drew))
  have HU5 := Lib.hid HU3.out.drew
  replace b1 : V3.drew.cell? ⟨a, 1, none⟩ = some (.int .i64 sv) := b1
  clear HP3 HU3 HAK
  generalize V3.drew = V5 at *
  have HRK := Lib.hid (r_ask_no HP5.out.R sv C hi)
  refine tk9 0 ?_
  refine tk9 1 ?_
  refine tk9 2 ?_
  refine tk9 3 ?_
  refine tk9 4 ?_
  refine tk9 5 ?_
  refine tk9 6 ?_
  refine tk9 7 ?_
  refine tk9 8 ?_
  refine tk9 9 ?_
  refine wpAnyH_ready (rs := [10]) (by kernel_rfl) (by simp) ?_
  refine AllReadyH.cons rfl (fun KK hKK => ?_) (AllReadyH.nil)
  go_simp
  (go_at_call 28; refine HRK.out.mono ?_; rintro e w' ⟨rfl, rfl⟩)
  (try dsimp only)
  refine hKK.out _ _ ?_ (fun hHeld => ?_)
  · exact ⟨HP5.out.q3, HP5.out.q4, b1⟩
  clear hKK KK
  refine pt9 ?_
  refine tk9 11 ?_
  refine tk9 12 ?_
  refine tk9 13 ?_
  refine tk9 14 ?_
  refine tk9 15 ?_
  refine wpAnyH_done (by kernel_rfl) ?_ _
  clear hHeld
  have HSM := Lib.hid (same6 none 0 0 (fun _ => 0) none 0 0 (fun _ => 0) V5 (by omega) (by omega) (fun h => absurd h (by omega)) (fun h => absurd h (by omega)))
  rw [eqB_refl] at HSM
  go_wp2_with (go_at_call 30; refine HSM.out.mono ?_; rintro e w' ⟨rfl, nq, rfl⟩)
  go_ret
  have hcb := HN.out.2.2
  exact ⟨rfl, ⟨K, R, C, asked, when_, ⟨HP5.out.below (w' := V5.drewN nq) (below_drewN (Below.refl _ _) nq), HTW.out.r, HTW.out.ko, HTW.out.ro, hcb.1, by omega, HTW.out.qa, HTW.out.qw⟩, by omega, by omega⟩, HU5.out.drewN nq⟩
end Go.Proofs.YtepdnkpmkhjlgaaGreat

/- NTP: the law's does, of any act: K2 (written by gen/doesa.py). -/
namespace Go.Proofs.YtepdnkpmkhjlgaaGreat
open Go.RowKit Go.Sort

set_option maxRecDepth 100000 in
set_option maxHeartbeats 16000000 in
theorem law_does_k2 {w : World} {bp b bc bs : Nat} {A1 : Option Addr} {c1 : Nat} {rb rbc rbs : Nat} {A2 : Option Addr} {c2 : Nat} {ad : Addr} {n c : Nat} {x : Int} {z : Nat → Int} {N : Nat} {m0 m1 m2 : Nat} {K R : Cs} {cnt : Int} {asked when_ : Nat → Int} (h : Tw w bp b bc bs A1 c1 rb rbc rbs A2 c2 ad n c x z N m0 m1 m2 K R cnt asked when_) (hn : K.n < 1000000000) (hs : K.syn < 1000000000) (hN : N ≤ 8) (sv tt ah tk wy : Int) (Ab : Option Addr) (nb cb : Nat) (hah : I64 ah) (htk : I64 tk) :
    Calls Tryz.prog 13 #[.pointer (some ⟨bp, 0, none⟩), .agg #[.int .i64 2, .int .i64 sv, .int .i64 tt, .int .i64 ah, .int .i64 tk, .int .i64 wy, .slice Ab nb cb]] w (DoesPost w bp b bc bs A1 c1 rb rbc rbs A2 c2 ad n c x z N m0 m1 m2 K) := by
  have hr1 := h.p.r1
  have hr2 := h.p.r2
  have hr3 := h.p.r3
  have hql := h.p.ql
  have kk : Below w.heap.size w (w.alloc (.cells #[.int .i64 2, .int .i64 sv, .int .i64 tt, .int .i64 ah, .int .i64 tk, .int .i64 wy, .slice Ab nb cb] 41)) := (Below.refl _ _).alloc (Nat.le_refl _) _
  have HP0 := Lib.hid (h.p.below kk)
  have HU0 : Hid (But (fun k => m0 ≤ k ∧ k ≤ bp) w (w.alloc (.cells #[.int .i64 2, .int .i64 sv, .int .i64 tt, .int .i64 ah, .int .i64 tk, .int .i64 wy, .slice Ab nb cb] 41))) := Lib.hid (But.of_below kk)
  have a0 : (w.alloc (.cells #[.int .i64 2, .int .i64 sv, .int .i64 tt, .int .i64 ah, .int .i64 tk, .int .i64 wy, .slice Ab nb cb] 41)).cell? ⟨w.heap.size, 0, none⟩ = some (.int .i64 2) := by simp
  have a1 : (w.alloc (.cells #[.int .i64 2, .int .i64 sv, .int .i64 tt, .int .i64 ah, .int .i64 tk, .int .i64 wy, .slice Ab nb cb] 41)).cell? ⟨w.heap.size, 1, none⟩ = some (.int .i64 sv) := by simp
  have a2 : (w.alloc (.cells #[.int .i64 2, .int .i64 sv, .int .i64 tt, .int .i64 ah, .int .i64 tk, .int .i64 wy, .slice Ab nb cb] 41)).cell? ⟨w.heap.size, 2, none⟩ = some (.int .i64 tt) := by simp
  have a3 : (w.alloc (.cells #[.int .i64 2, .int .i64 sv, .int .i64 tt, .int .i64 ah, .int .i64 tk, .int .i64 wy, .slice Ab nb cb] 41)).cell? ⟨w.heap.size, 3, none⟩ = some (.int .i64 ah) := by simp
  have a4 : (w.alloc (.cells #[.int .i64 2, .int .i64 sv, .int .i64 tt, .int .i64 ah, .int .i64 tk, .int .i64 wy, .slice Ab nb cb] 41)).cell? ⟨w.heap.size, 4, none⟩ = some (.int .i64 tk) := by simp
  have a5 : (w.alloc (.cells #[.int .i64 2, .int .i64 sv, .int .i64 tt, .int .i64 ah, .int .i64 tk, .int .i64 wy, .slice Ab nb cb] 41)).cell? ⟨w.heap.size, 5, none⟩ = some (.int .i64 wy) := by simp
  have a6 : (w.alloc (.cells #[.int .i64 2, .int .i64 sv, .int .i64 tt, .int .i64 ah, .int .i64 tk, .int .i64 wy, .slice Ab nb cb] 41)).cell? ⟨w.heap.size, 6, none⟩ = some (.slice Ab nb cb) := by simp
  have la : w.heap.size < (w.alloc (.cells #[.int .i64 2, .int .i64 sv, .int .i64 tt, .int .i64 ah, .int .i64 tk, .int .i64 wy, .slice Ab nb cb] 41)).heap.size := by simp
  have hc0 := h.k0
  obtain ⟨p, hp⟩ : ∃ p, min cnt 1152921504606846976 = p := ⟨_, rfl⟩
  obtain ⟨q, hq⟩ : ∃ q, min tt 35184372088832 = q := ⟨_, rfl⟩
  obtain ⟨r, hr⟩ : ∃ r, max (0 : Int) q = r := ⟨_, rfl⟩
  have hpb : 0 ≤ p ∧ p ≤ 1152921504606846976 := by omega
  have hrb : 0 ≤ r ∧ r ≤ 35184372088832 := by omega
  obtain ⟨C, hC⟩ : ∃ C, p + r = C := ⟨_, rfl⟩
  have hCb : 0 ≤ C ∧ C ≤ 1153000000000000000 := by omega
  have wC : IntKind.i64.wrap (p + r) = C := by rw [hC]; exact IntWalk.i64_in _ (by omega)
  have HTW := Lib.hid h
  have HN := Lib.hid (And.intro h.r.n (And.intro hn hCb))
  have HS := Lib.hid hs
  have hkn := h.ko.n0
  have p4 := HP0.out.q4
  clear kk h hC hn hs hpb hrb hc0 hCb
  go_enter Tryz.func13, Tryz.ntmps13
  go_wp2_with fail
  generalize hA : w.heap.size = a at *
  have HAE := Lib.hid hA
  generalize hW : (w.alloc (.cells #[.int .i64 2, .int .i64 sv, .int .i64 tt, .int .i64 ah, .int .i64 tk, .int .i64 wy, .slice Ab nb cb] 41)) = V0 at *
  clear hA hW
  refine wp_region_held_drew (S := fun w' => w'.cell? ⟨a, 2, none⟩ = some (.int .i64 tt)) (by kernel_rfl) ?_ (fun hHeld => ?_)
  · exact a2
  have HP1 := Lib.hid (HP0.out.below (w' := V0.drew) ((Below.refl _ _).drew))
  have HU1 := Lib.hid HU0.out.drew
  replace a0 : V0.drew.cell? ⟨a, 0, none⟩ = some (.int .i64 2) := a0
  replace a1 : V0.drew.cell? ⟨a, 1, none⟩ = some (.int .i64 sv) := a1
  replace a2 : V0.drew.cell? ⟨a, 2, none⟩ = some (.int .i64 tt) := a2
  replace a3 : V0.drew.cell? ⟨a, 3, none⟩ = some (.int .i64 ah) := a3
  replace a4 : V0.drew.cell? ⟨a, 4, none⟩ = some (.int .i64 tk) := a4
  replace a5 : V0.drew.cell? ⟨a, 5, none⟩ = some (.int .i64 wy) := a5
  replace a6 : V0.drew.cell? ⟨a, 6, none⟩ = some (.slice Ab nb cb) := a6
  replace la : a < V0.drew.heap.size := la
  clear HP0 HU0 p4
  generalize V0.drew = V1 at *
  have nab : a ≠ bp := by omega
  have HP2 := Lib.hid (HP1.out.cnt C)
  have HU2 : Hid (But (fun k => m0 ≤ k ∧ k ≤ bp) w (V1.setCell ⟨bp, 4, none⟩ (.int .i64 C))) := Lib.hid (HU1.out.setCell (p := ⟨bp, 4, none⟩) (fun _ => ⟨by show m0 ≤ bp; omega, Nat.le_refl _⟩) _)
  have b0 : (V1.setCell ⟨bp, 4, none⟩ (.int .i64 C)).cell? ⟨a, 0, none⟩ = some (.int .i64 2) := (World.cell?_setCell_other _ _ _ _ (by simp [nab])).trans a0
  have b1 : (V1.setCell ⟨bp, 4, none⟩ (.int .i64 C)).cell? ⟨a, 1, none⟩ = some (.int .i64 sv) := (World.cell?_setCell_other _ _ _ _ (by simp [nab])).trans a1
  have b2 : (V1.setCell ⟨bp, 4, none⟩ (.int .i64 C)).cell? ⟨a, 2, none⟩ = some (.int .i64 tt) := (World.cell?_setCell_other _ _ _ _ (by simp [nab])).trans a2
  have b3 : (V1.setCell ⟨bp, 4, none⟩ (.int .i64 C)).cell? ⟨a, 3, none⟩ = some (.int .i64 ah) := (World.cell?_setCell_other _ _ _ _ (by simp [nab])).trans a3
  have b4 : (V1.setCell ⟨bp, 4, none⟩ (.int .i64 C)).cell? ⟨a, 4, none⟩ = some (.int .i64 tk) := (World.cell?_setCell_other _ _ _ _ (by simp [nab])).trans a4
  have b5 : (V1.setCell ⟨bp, 4, none⟩ (.int .i64 C)).cell? ⟨a, 5, none⟩ = some (.int .i64 wy) := (World.cell?_setCell_other _ _ _ _ (by simp [nab])).trans a5
  have b6 : (V1.setCell ⟨bp, 4, none⟩ (.int .i64 C)).cell? ⟨a, 6, none⟩ = some (.slice Ab nb cb) := (World.cell?_setCell_other _ _ _ _ (by simp [nab])).trans a6
  have lb : a < (V1.setCell ⟨bp, 4, none⟩ (.int .i64 C)).heap.size := by simpa [World.setCell] using la
  have f4 := HP1.out.qf 4
  have p4 := HP1.out.q4
  have lbp := HP1.out.ql
  refine tk9 0 ?_
  refine tk9 1 ?_
  refine tk9 2 ?_
  refine tk9 3 ?_
  refine tk9 6 ?_
  refine tk9 7 ?_
  refine tk9 8 ?_
  refine tk9 9 ?_
  refine wpAnyH_ready (rs := [4]) (by kernel_rfl) (by simp) ?_
  refine AllReadyH.cons rfl (fun KK hKK => ?_) (AllReadyH.nil)
  go_simp
  (try dsimp only)
  refine hKK.out _ _ ?_ (fun hHeld => ?_)
  · exact a2
  clear hKK KK
  refine pt9 ?_
  refine tk9 5 ?_
  refine tk9 10 ?_
  refine tk9 11 ?_
  refine tk9 12 ?_
  refine wpAnyH_ready (rs := [13]) (by kernel_rfl) (by simp) ?_
  refine AllReadyH.cons rfl (fun KK hKK => ?_) (AllReadyH.nil)
  go_simp
  (try dsimp only)
  refine hKK.out _ _ ?_ (fun hHeld => ?_)
  · exact b2
  clear hKK KK
  refine pt9 ?_
  refine wpAnyH_done (by kernel_rfl) ?_ _
  clear hHeld HP1 HU1 a0 a1 a2 a3 a4 a5 a6 la f4 p4 lbp hp hq hr wC
  generalize V1.setCell ⟨bp, 4, none⟩ (.int .i64 C) = V2 at *
  obtain ⟨i7, h7, ha7⟩ := and7_any sv
  have HAN := Lib.hid (fun (W : World) (hp : Pr W bp b bc bs A1 c1 rb rbc rbs A2 c2 ad n c x z N m0 m1 m2 K R C asked when_) => law_answer_any hp 2 sv tt ah tk wy Ab nb cb i7 h7 ha7 hah htk (by have := HTW.out.qw i7 h7; unfold I64; omega) (HTW.out.qa i7 h7))
  clear hah htk
  go_wp2_with fail
  refine (HAN.out V2 HP2.out).mono ?_; rintro e V3 ⟨⟨g, cap, pk, rfl, hg, hpk, hok⟩, k3⟩
  have hz2 := HP2.out.ql
  have HP3 := Lib.hid (HP2.out.below k3)
  have HU3 := Lib.hid (HU2.out.next k3)
  replace b1 := (k3.cell (p := ⟨a, 1, none⟩) lb).trans b1
  replace lb := Nat.lt_of_lt_of_le lb k3.size
  have HG3 := Lib.hid hpk
  have HOK := Lib.hid hok
  obtain ⟨co, K', R', hhp, hhr, hrl, hko, hro, hkn', hks'⟩ := hear_both (b := b) (bc := bc) (bs := bs) (A1 := A1) (c1 := c1) (rb := rb) (rbc := rbc) (rbs := rbs) (A2 := A2) (c2 := c2) (n := n) (x := x) (z := z) HTW.out.r HTW.out.ko HTW.out.ro HS.out hN sv C (by have := HN.out; omega) (some pk) 0
  have HHP := Lib.hid hhp
  have HHR := Lib.hid hhr
  have HRL := Lib.hid (And.intro hrl (And.intro hko (And.intro hro (And.intro hkn' hks'))))
  clear k3 HP2 HU2 b0 b2 b3 b4 b5 b6 HAN hpk hok hhp hhr hrl hko hro hkn' hks'
  go_wp2_with fail
  refine wp_region_held_drew (S := fun w' => w'.cell? ⟨bp, 2, none⟩ = some (.pointer (some ⟨b, 0, none⟩)) ∧ w'.cell? ⟨bp, 3, none⟩ = some (.pointer (some ⟨rb, 0, none⟩)) ∧ w'.cell? ⟨bp, 4, none⟩ = some (.int .i64 C) ∧ w'.cell? ⟨a, 1, none⟩ = some (.int .i64 sv)) (by kernel_rfl) ?_ (fun hHeld => ?_)
  · exact ⟨HP3.out.q2, HP3.out.q3, HP3.out.q4, b1⟩
  have HP4 := Lib.hid (HP3.out.below (w' := V3.drew) ((Below.refl _ _).drew))
  have HU4 := Lib.hid HU3.out.drew
  have HG4 := Lib.hid (HG3.out.below (w' := V3.drew) ((Below.refl _ _).drew))
  replace b1 : V3.drew.cell? ⟨a, 1, none⟩ = some (.int .i64 sv) := b1
  replace lb : a < V3.drew.heap.size := lb
  clear HP3 HU3 HG3
  generalize V3.drew = V4 at *
  refine tk9 0 ?_
  refine tk9 1 ?_
  refine tk9 2 ?_
  refine tk9 3 ?_
  refine tk9 4 ?_
  refine tk9 5 ?_
  refine tk9 6 ?_
  refine tk9 7 ?_
  refine tk9 8 ?_
  refine tk9 9 ?_
  refine tk9 10 ?_
  refine tk9 12 ?_
  refine tk9 13 ?_
  refine tk9 14 ?_
  refine tk9 15 ?_
  refine tk9 16 ?_
  refine tk9 17 ?_
  refine tk9 18 ?_
  refine tk9 19 ?_
  refine tk9 20 ?_
  refine tk9 21 ?_
  refine tk9 22 ?_
  refine wpAnyH_ready (rs := [11]) (by kernel_rfl) (by simp) ?_
  refine AllReadyH.cons rfl (fun KK hKK => ?_) (AllReadyH.nil)
  go_simp
  (go_at_call 17; refine (HHP.out V4 _ HP4.out.P (decIs_pk HG4.out HOK.out)).mono ?_; rintro e V5 ⟨rfl, hn5, hf5⟩)
  have HP5 := Lib.hid (HP4.out.onP hn5 hf5)
  have HU5 := Lib.hid (HU4.out.trans (T := Ft b bc bs) hf5 (fun q _ hq => by unfold Ft at hq; omega))
  have hnF : ¬ Ft b bc bs a := by unfold Ft; omega
  have hnG : ¬ Ft b bc bs g := by unfold Ft; omega
  replace b1 : V5.cell? ⟨a, 1, none⟩ = some (.int .i64 sv) := (hf5.cell a 1 lb hnF).trans b1
  have HG5 := Lib.hid (HG4.out.but hf5 hnG)
  have HL5 := Lib.hid (Nat.lt_of_lt_of_le lb hf5.size)
  clear hn5 hf5 HP4 HU4 HG4 HHP lb hnF hnG
  (try dsimp only)
  refine hKK.out _ _ ?_ (fun hHeld => ?_)
  · exact ⟨HP5.out.q2, HP5.out.q3, HP5.out.q4, b1⟩
  clear hKK KK
  refine pt9 ?_
  refine wpAnyH_ready (rs := [23]) (by kernel_rfl) (by simp) ?_
  refine AllReadyH.cons rfl (fun KK hKK => ?_) (AllReadyH.nil)
  go_simp
  (go_at_call 20; refine (HHR.out V5 _ HP5.out.R (decIs_pk HG5.out HOK.out)).mono ?_; rintro e V6 ⟨rfl, hn6, hf6⟩)
  have HP6 := Lib.hid (HP5.out.onR hn6 hf6)
  have HU6 := Lib.hid (HU5.out.trans (T := Ft rb rbc rbs) hf6 (fun q _ hq => by unfold Ft at hq; omega))
  have hnF : ¬ Ft rb rbc rbs a := by unfold Ft; omega
  replace b1 : V6.cell? ⟨a, 1, none⟩ = some (.int .i64 sv) := (hf6.cell a 1 (by have := HP5.out.ql; have := HL5.out; omega) hnF).trans b1
  clear hn6 hf6 HP5 HU5 HG5 HHR hnF
  (try dsimp only)
  refine hKK.out _ _ ?_ (fun hHeld => ?_)
  · exact ⟨HP6.out.q2, HP6.out.q3, HP6.out.q4, b1⟩
  clear hKK KK
  refine pt9 ?_
  have cc : (co == co) = true := by simp
  refine tk9 24 ?_
  refine tk9 25 ?_
  refine wpAnyH_done (by kernel_rfl) ?_ _
  clear hHeld
  go_wp2_with fail
  go_ret
  have hcb := HN.out.2.2
  exact ⟨rfl, ⟨K', R', C, asked, when_, ⟨HP6.out, HRL.out.1, HRL.out.2.1, HRL.out.2.2.1, hcb.1, by omega, HTW.out.qa, HTW.out.qw⟩, HRL.out.2.2.2.1, HRL.out.2.2.2.2⟩, HU6.out⟩
end Go.Proofs.YtepdnkpmkhjlgaaGreat

/- NTP: the law's does, of any act: K3 (written by gen/doesa.py). -/
namespace Go.Proofs.YtepdnkpmkhjlgaaGreat
open Go.RowKit Go.Sort

set_option maxRecDepth 100000 in
set_option maxHeartbeats 16000000 in
theorem law_does_k3 {w : World} {bp b bc bs : Nat} {A1 : Option Addr} {c1 : Nat} {rb rbc rbs : Nat} {A2 : Option Addr} {c2 : Nat} {ad : Addr} {n c : Nat} {x : Int} {z : Nat → Int} {N : Nat} {m0 m1 m2 : Nat} {K R : Cs} {cnt : Int} {asked when_ : Nat → Int} (h : Tw w bp b bc bs A1 c1 rb rbc rbs A2 c2 ad n c x z N m0 m1 m2 K R cnt asked when_) (hn : K.n < 1000000000) (hs : K.syn < 1000000000) (hN : N ≤ 8) (sv tt ah tk wy : Int) (Ab : Option Addr) (nb cb : Nat) (f : Nat → Int) (hB : BytesAt w Ab nb f) (hfb : ∀ j, j < nb → 0 ≤ f j ∧ f j ≤ 255) (hnb : nb ≤ 200) (hcb0 : nb ≤ cb) (hnil : Ab = none → nb = 0 ∧ cb = 0) (hold : 0 < nb → ∀ q, Ab = some q → q.block < m0) :
    Calls Tryz.prog 13 #[.pointer (some ⟨bp, 0, none⟩), .agg #[.int .i64 3, .int .i64 sv, .int .i64 tt, .int .i64 ah, .int .i64 tk, .int .i64 wy, .slice Ab nb cb]] w (DoesPost w bp b bc bs A1 c1 rb rbc rbs A2 c2 ad n c x z N m0 m1 m2 K) := by
  have hr1 := h.p.r1
  have hr2 := h.p.r2
  have hr3 := h.p.r3
  have hql := h.p.ql
  have kk : Below w.heap.size w (w.alloc (.cells #[.int .i64 3, .int .i64 sv, .int .i64 tt, .int .i64 ah, .int .i64 tk, .int .i64 wy, .slice Ab nb cb] 41)) := (Below.refl _ _).alloc (Nat.le_refl _) _
  have HP0 := Lib.hid (h.p.below kk)
  have HU0 : Hid (But (fun k => m0 ≤ k ∧ k ≤ bp) w (w.alloc (.cells #[.int .i64 3, .int .i64 sv, .int .i64 tt, .int .i64 ah, .int .i64 tk, .int .i64 wy, .slice Ab nb cb] 41))) := Lib.hid (But.of_below kk)
  have a0 : (w.alloc (.cells #[.int .i64 3, .int .i64 sv, .int .i64 tt, .int .i64 ah, .int .i64 tk, .int .i64 wy, .slice Ab nb cb] 41)).cell? ⟨w.heap.size, 0, none⟩ = some (.int .i64 3) := by simp
  have a1 : (w.alloc (.cells #[.int .i64 3, .int .i64 sv, .int .i64 tt, .int .i64 ah, .int .i64 tk, .int .i64 wy, .slice Ab nb cb] 41)).cell? ⟨w.heap.size, 1, none⟩ = some (.int .i64 sv) := by simp
  have a2 : (w.alloc (.cells #[.int .i64 3, .int .i64 sv, .int .i64 tt, .int .i64 ah, .int .i64 tk, .int .i64 wy, .slice Ab nb cb] 41)).cell? ⟨w.heap.size, 2, none⟩ = some (.int .i64 tt) := by simp
  have a3 : (w.alloc (.cells #[.int .i64 3, .int .i64 sv, .int .i64 tt, .int .i64 ah, .int .i64 tk, .int .i64 wy, .slice Ab nb cb] 41)).cell? ⟨w.heap.size, 3, none⟩ = some (.int .i64 ah) := by simp
  have a4 : (w.alloc (.cells #[.int .i64 3, .int .i64 sv, .int .i64 tt, .int .i64 ah, .int .i64 tk, .int .i64 wy, .slice Ab nb cb] 41)).cell? ⟨w.heap.size, 4, none⟩ = some (.int .i64 tk) := by simp
  have a5 : (w.alloc (.cells #[.int .i64 3, .int .i64 sv, .int .i64 tt, .int .i64 ah, .int .i64 tk, .int .i64 wy, .slice Ab nb cb] 41)).cell? ⟨w.heap.size, 5, none⟩ = some (.int .i64 wy) := by simp
  have a6 : (w.alloc (.cells #[.int .i64 3, .int .i64 sv, .int .i64 tt, .int .i64 ah, .int .i64 tk, .int .i64 wy, .slice Ab nb cb] 41)).cell? ⟨w.heap.size, 6, none⟩ = some (.slice Ab nb cb) := by simp
  have la : w.heap.size < (w.alloc (.cells #[.int .i64 3, .int .i64 sv, .int .i64 tt, .int .i64 ah, .int .i64 tk, .int .i64 wy, .slice Ab nb cb] 41)).heap.size := by simp
  have hc0 := h.k0
  obtain ⟨p, hp⟩ : ∃ p, min cnt 1152921504606846976 = p := ⟨_, rfl⟩
  obtain ⟨q, hq⟩ : ∃ q, min tt 35184372088832 = q := ⟨_, rfl⟩
  obtain ⟨r, hr⟩ : ∃ r, max (0 : Int) q = r := ⟨_, rfl⟩
  have hpb : 0 ≤ p ∧ p ≤ 1152921504606846976 := by omega
  have hrb : 0 ≤ r ∧ r ≤ 35184372088832 := by omega
  obtain ⟨C, hC⟩ : ∃ C, p + r = C := ⟨_, rfl⟩
  have hCb : 0 ≤ C ∧ C ≤ 1153000000000000000 := by omega
  have wC : IntKind.i64.wrap (p + r) = C := by rw [hC]; exact IntWalk.i64_in _ (by omega)
  have HTW := Lib.hid h
  have HN := Lib.hid (And.intro h.r.n (And.intro hn hCb))
  have HS := Lib.hid hs
  have hkn := h.ko.n0
  have HB0 := Lib.hid hB
  have HFB := Lib.hid hfb
  have HNI := Lib.hid hnil
  have HOL := Lib.hid hold
  clear hB hfb hnil hold
  have p4 := HP0.out.q4
  clear kk h hC hn hs hpb hrb hc0 hCb
  go_enter Tryz.func13, Tryz.ntmps13
  go_wp2_with fail
  generalize hA : w.heap.size = a at *
  have HAE := Lib.hid hA
  generalize hW : (w.alloc (.cells #[.int .i64 3, .int .i64 sv, .int .i64 tt, .int .i64 ah, .int .i64 tk, .int .i64 wy, .slice Ab nb cb] 41)) = V0 at *
  clear hA hW
  refine wp_region_held_drew (S := fun w' => w'.cell? ⟨a, 2, none⟩ = some (.int .i64 tt)) (by kernel_rfl) ?_ (fun hHeld => ?_)
  · exact a2
  have HP1 := Lib.hid (HP0.out.below (w' := V0.drew) ((Below.refl _ _).drew))
  have HU1 := Lib.hid HU0.out.drew
  replace a0 : V0.drew.cell? ⟨a, 0, none⟩ = some (.int .i64 3) := a0
  replace a1 : V0.drew.cell? ⟨a, 1, none⟩ = some (.int .i64 sv) := a1
  replace a2 : V0.drew.cell? ⟨a, 2, none⟩ = some (.int .i64 tt) := a2
  replace a3 : V0.drew.cell? ⟨a, 3, none⟩ = some (.int .i64 ah) := a3
  replace a4 : V0.drew.cell? ⟨a, 4, none⟩ = some (.int .i64 tk) := a4
  replace a5 : V0.drew.cell? ⟨a, 5, none⟩ = some (.int .i64 wy) := a5
  replace a6 : V0.drew.cell? ⟨a, 6, none⟩ = some (.slice Ab nb cb) := a6
  replace la : a < V0.drew.heap.size := la
  clear HP0 HU0 p4
  generalize V0.drew = V1 at *
  have nab : a ≠ bp := by omega
  have HP2 := Lib.hid (HP1.out.cnt C)
  have HU2 : Hid (But (fun k => m0 ≤ k ∧ k ≤ bp) w (V1.setCell ⟨bp, 4, none⟩ (.int .i64 C))) := Lib.hid (HU1.out.setCell (p := ⟨bp, 4, none⟩) (fun _ => ⟨by show m0 ≤ bp; omega, Nat.le_refl _⟩) _)
  have b0 : (V1.setCell ⟨bp, 4, none⟩ (.int .i64 C)).cell? ⟨a, 0, none⟩ = some (.int .i64 3) := (World.cell?_setCell_other _ _ _ _ (by simp [nab])).trans a0
  have b1 : (V1.setCell ⟨bp, 4, none⟩ (.int .i64 C)).cell? ⟨a, 1, none⟩ = some (.int .i64 sv) := (World.cell?_setCell_other _ _ _ _ (by simp [nab])).trans a1
  have b2 : (V1.setCell ⟨bp, 4, none⟩ (.int .i64 C)).cell? ⟨a, 2, none⟩ = some (.int .i64 tt) := (World.cell?_setCell_other _ _ _ _ (by simp [nab])).trans a2
  have b3 : (V1.setCell ⟨bp, 4, none⟩ (.int .i64 C)).cell? ⟨a, 3, none⟩ = some (.int .i64 ah) := (World.cell?_setCell_other _ _ _ _ (by simp [nab])).trans a3
  have b4 : (V1.setCell ⟨bp, 4, none⟩ (.int .i64 C)).cell? ⟨a, 4, none⟩ = some (.int .i64 tk) := (World.cell?_setCell_other _ _ _ _ (by simp [nab])).trans a4
  have b5 : (V1.setCell ⟨bp, 4, none⟩ (.int .i64 C)).cell? ⟨a, 5, none⟩ = some (.int .i64 wy) := (World.cell?_setCell_other _ _ _ _ (by simp [nab])).trans a5
  have b6 : (V1.setCell ⟨bp, 4, none⟩ (.int .i64 C)).cell? ⟨a, 6, none⟩ = some (.slice Ab nb cb) := (World.cell?_setCell_other _ _ _ _ (by simp [nab])).trans a6
  have lb : a < (V1.setCell ⟨bp, 4, none⟩ (.int .i64 C)).heap.size := by simpa [World.setCell] using la
  have f4 := HP1.out.qf 4
  have p4 := HP1.out.q4
  have lbp := HP1.out.ql
  refine tk9 0 ?_
  refine tk9 1 ?_
  refine tk9 2 ?_
  refine tk9 3 ?_
  refine tk9 6 ?_
  refine tk9 7 ?_
  refine tk9 8 ?_
  refine tk9 9 ?_
  refine wpAnyH_ready (rs := [4]) (by kernel_rfl) (by simp) ?_
  refine AllReadyH.cons rfl (fun KK hKK => ?_) (AllReadyH.nil)
  go_simp
  (try dsimp only)
  refine hKK.out _ _ ?_ (fun hHeld => ?_)
  · exact a2
  clear hKK KK
  refine pt9 ?_
  refine tk9 5 ?_
  refine tk9 10 ?_
  refine tk9 11 ?_
  refine tk9 12 ?_
  refine wpAnyH_ready (rs := [13]) (by kernel_rfl) (by simp) ?_
  refine AllReadyH.cons rfl (fun KK hKK => ?_) (AllReadyH.nil)
  go_simp
  (try dsimp only)
  refine hKK.out _ _ ?_ (fun hHeld => ?_)
  · exact b2
  clear hKK KK
  refine pt9 ?_
  refine wpAnyH_done (by kernel_rfl) ?_ _
  clear hHeld HP1 HU1 a0 a1 a2 a3 a4 a5 a6 la f4 p4 lbp hp hq hr wC
  generalize V1.setCell ⟨bp, 4, none⟩ (.int .i64 C) = V2 at *
  obtain ⟨dp, der, hdec⟩ := decIs_any nb f HFB.out (by omega)
  have HDE := Lib.hid hdec
  have HBA := Lib.hid (HB0.out.but HU2.out (fun hz q hq => by have := HOL.out hz q hq; omega))
  have HRO := Lib.hid (fun (W : World) (k : BytesAt W Ab nb f) => roomy9 Ab nb cb f W k HNI.out (by omega))
  clear hdec HB0
  go_wp2_with fail
  refine (HRO.out V2 HBA.out).mono ?_; rintro e V3 ⟨g, cap, rfl, hcap, hg, hgb, k3⟩
  have hz2 := HP2.out.ql
  have HP3 := Lib.hid (HP2.out.below k3)
  have HU3 := Lib.hid (HU2.out.next k3)
  replace b1 := (k3.cell (p := ⟨a, 1, none⟩) lb).trans b1
  replace b6 := (k3.cell (p := ⟨a, 6, none⟩) lb).trans b6
  replace lb := Nat.lt_of_lt_of_le lb k3.size
  have HG3 := Lib.hid hgb
  have HB3 := Lib.hid (HBA.out.but (But.of_below (S := fun _ => False) k3) (fun _ _ _ h => h))
  obtain ⟨co, K', R', hhp, hhr, hrl, hko, hro, hkn', hks'⟩ := hear_both (b := b) (bc := bc) (bs := bs) (A1 := A1) (c1 := c1) (rb := rb) (rbc := rbc) (rbs := rbs) (A2 := A2) (c2 := c2) (n := n) (x := x) (z := z) HTW.out.r HTW.out.ko HTW.out.ro HS.out hN sv C (by have := HN.out; omega) dp der
  have HHP := Lib.hid hhp
  have HHR := Lib.hid hhr
  have HRL := Lib.hid (And.intro hrl (And.intro hko (And.intro hro (And.intro hkn' hks'))))
  have kc1 : (nb : Int) ≤ (cap : Int) := by omega
  have kc2 : (0 : Int) ≤ (nb : Int) := by omega
  have kc3 : (nb : Int) ≤ 200 := by omega
  clear k3 HP2 HU2 b0 b2 b3 b4 b5 HRO HBA hgb hhp hhr hrl hko hro hkn' hks'
  go_wp2_with fail
  refine wp_region_held_drew (S := fun w' => w'.cell? ⟨bp, 2, none⟩ = some (.pointer (some ⟨b, 0, none⟩)) ∧ w'.cell? ⟨bp, 3, none⟩ = some (.pointer (some ⟨rb, 0, none⟩)) ∧ w'.cell? ⟨bp, 4, none⟩ = some (.int .i64 C) ∧ w'.cell? ⟨a, 1, none⟩ = some (.int .i64 sv) ∧ w'.cell? ⟨a, 6, none⟩ = some (.slice Ab nb cb)) (by kernel_rfl) ?_ (fun hHeld => ?_)
  · exact ⟨HP3.out.q2, HP3.out.q3, HP3.out.q4, b1, b6⟩
  have HP4 := Lib.hid (HP3.out.below (w' := V3.drew) ((Below.refl _ _).drew))
  have HU4 := Lib.hid HU3.out.drew
  have HG4 : Hid (BytesAt V3.drew (some ⟨g, 0, none⟩) (nb + 1) (rmF f nb)) := Lib.hid HG3.out
  have HB4 : Hid (BytesAt V3.drew Ab nb f) := Lib.hid HB3.out
  replace b1 : V3.drew.cell? ⟨a, 1, none⟩ = some (.int .i64 sv) := b1
  replace b6 : V3.drew.cell? ⟨a, 6, none⟩ = some (.slice Ab nb cb) := b6
  replace lb : a < V3.drew.heap.size := lb
  clear HP3 HU3 HG3 HB3
  generalize V3.drew = V4 at *
  refine tk9 0 ?_
  refine tk9 1 ?_
  refine tk9 2 ?_
  refine tk9 3 ?_
  refine tk9 4 ?_
  refine tk9 5 ?_
  refine tk9 6 ?_
  refine tk9 7 ?_
  refine tk9 8 ?_
  refine tk9 9 ?_
  refine tk9 10 ?_
  refine tk9 11 ?_
  refine tk9 12 ?_
  refine tk9 13 ?_
  refine tk9 14 ?_
  refine tk9 16 ?_
  refine tk9 17 ?_
  refine tk9 18 ?_
  refine tk9 19 ?_
  refine tk9 20 ?_
  refine tk9 21 ?_
  refine tk9 22 ?_
  refine tk9 23 ?_
  refine tk9 24 ?_
  refine tk9 25 ?_
  refine tk9 26 ?_
  refine tk9 27 ?_
  refine wpAnyH_ready (rs := [15]) (by kernel_rfl) (by simp) ?_
  refine AllReadyH.cons rfl (fun KK hKK => ?_) (AllReadyH.nil)
  go_simp
  (go_at_call 17; refine (HHP.out V4 _ HP4.out.P (HDE.out V4 _ _ (rm_head HG4.out) (by omega))).mono ?_; rintro e V5 ⟨rfl, hn5, hf5⟩)
  have HP5 := Lib.hid (HP4.out.onP hn5 hf5)
  have HU5 := Lib.hid (HU4.out.trans (T := Ft b bc bs) hf5 (fun q _ hq => by unfold Ft at hq; omega))
  have hnF : ¬ Ft b bc bs a := by unfold Ft; omega
  replace b1 : V5.cell? ⟨a, 1, none⟩ = some (.int .i64 sv) := (hf5.cell a 1 lb hnF).trans b1
  replace b6 : V5.cell? ⟨a, 6, none⟩ = some (.slice Ab nb cb) := (hf5.cell a 6 lb hnF).trans b6
  have HG5 := Lib.hid (HG4.out.but hf5 (fun _ q hq => by injection hq with hq; subst hq; show ¬ Ft _ _ _ g; unfold Ft; omega))
  have HB5 := Lib.hid (HB4.out.but hf5 (fun hz q hq => by have := HOL.out hz q hq; unfold Ft; omega))
  have HL5 := Lib.hid (Nat.lt_of_lt_of_le lb hf5.size)
  clear hn5 hf5 HP4 HU4 HG4 HB4 HHP lb hnF
  (try dsimp only)
  refine hKK.out _ _ ?_ (fun hHeld => ?_)
  · exact ⟨HP5.out.q2, HP5.out.q3, HP5.out.q4, b1, b6⟩
  clear hKK KK
  refine pt9 ?_
  refine wpAnyH_ready (rs := [28]) (by kernel_rfl) (by simp) ?_
  refine AllReadyH.cons rfl (fun KK hKK => ?_) (AllReadyH.nil)
  go_simp
  (go_at_call 20; refine (HHR.out V5 _ HP5.out.R (HDE.out V5 _ _ HB5.out hcb0)).mono ?_; rintro e V6 ⟨rfl, hn6, hf6⟩)
  have HP6 := Lib.hid (HP5.out.onR hn6 hf6)
  have HU6 := Lib.hid (HU5.out.trans (T := Ft rb rbc rbs) hf6 (fun q _ hq => by unfold Ft at hq; omega))
  have hnF : ¬ Ft rb rbc rbs a := by unfold Ft; omega
  replace b1 : V6.cell? ⟨a, 1, none⟩ = some (.int .i64 sv) := (hf6.cell a 1 HL5.out hnF).trans b1
  replace b6 : V6.cell? ⟨a, 6, none⟩ = some (.slice Ab nb cb) := (hf6.cell a 6 HL5.out hnF).trans b6
  have HG6 := Lib.hid (HG5.out.but hf6 (fun _ q hq => by injection hq with hq; subst hq; show ¬ Ft _ _ _ g; unfold Ft; omega))
  have HB6 := Lib.hid (HB5.out.but hf6 (fun hz q hq => by have := HOL.out hz q hq; unfold Ft; omega))
  have HST := Lib.hid (stands9 g cap Ab nb cb f V6 (by omega) hcap HG6.out HB6.out)
  clear hn6 hf6 HP5 HU5 HG5 HB5 HHR hnF HG6 HB6
  (try dsimp only)
  refine hKK.out _ _ ?_ (fun hHeld => ?_)
  · exact ⟨HP6.out.q2, HP6.out.q3, HP6.out.q4, b1, b6⟩
  clear hKK KK
  refine pt9 ?_
  have cc : (co == co) = true := by simp
  refine tk9 29 ?_
  refine tk9 30 ?_
  refine tk9 31 ?_
  refine tk9 32 ?_
  refine tk9 33 ?_
  refine wpAnyH_ready (rs := [34]) (by kernel_rfl) (by simp) ?_
  refine AllReadyH.cons rfl (fun KK hKK => ?_) (AllReadyH.nil)
  go_simp
  (go_at_call 32; refine HST.out.mono ?_; rintro e V7 ⟨rfl, nq, rfl⟩)
  (try dsimp only)
  refine hKK.out _ _ ?_ (fun hHeld => ?_)
  · exact ⟨HP6.out.q2, HP6.out.q3, HP6.out.q4, b1, b6⟩
  clear hKK KK
  refine pt9 ?_
  refine tk9 35 ?_
  refine tk9 36 ?_
  refine wpAnyH_done (by kernel_rfl) ?_ _
  clear hHeld
  go_wp2_with fail
  go_ret
  have hcb := HN.out.2.2
  exact ⟨rfl, ⟨K', R', C, asked, when_, ⟨HP6.out.below (w' := V6.drewN nq) (below_drewN (Below.refl _ _) nq), HRL.out.1, HRL.out.2.1, HRL.out.2.2.1, hcb.1, by omega, HTW.out.qa, HTW.out.qw⟩, HRL.out.2.2.2.1, HRL.out.2.2.2.2⟩, HU6.out.drewN nq⟩
end Go.Proofs.YtepdnkpmkhjlgaaGreat

/- NTP: the law's does, of any act: K4 (written by gen/doesa.py). -/
namespace Go.Proofs.YtepdnkpmkhjlgaaGreat
open Go.RowKit Go.Sort

set_option maxRecDepth 100000 in
set_option maxHeartbeats 16000000 in
theorem law_does_k4 {w : World} {bp b bc bs : Nat} {A1 : Option Addr} {c1 : Nat} {rb rbc rbs : Nat} {A2 : Option Addr} {c2 : Nat} {ad : Addr} {n c : Nat} {x : Int} {z : Nat → Int} {N : Nat} {m0 m1 m2 : Nat} {K R : Cs} {cnt : Int} {asked when_ : Nat → Int} (h : Tw w bp b bc bs A1 c1 rb rbc rbs A2 c2 ad n c x z N m0 m1 m2 K R cnt asked when_) (hn : K.n < 1000000000) (hs : K.syn < 1000000000) (hN : N ≤ 8) (kd sv tt ah tk wy : Int) (Ab : Option Addr) (nb cb : Nat) (hk1 : kd ≠ 1) (hk2 : kd ≠ 2) (hk3 : kd ≠ 3) :
    Calls Tryz.prog 13 #[.pointer (some ⟨bp, 0, none⟩), .agg #[.int .i64 kd, .int .i64 sv, .int .i64 tt, .int .i64 ah, .int .i64 tk, .int .i64 wy, .slice Ab nb cb]] w (DoesPost w bp b bc bs A1 c1 rb rbc rbs A2 c2 ad n c x z N m0 m1 m2 K) := by
  have hr1 := h.p.r1
  have hr2 := h.p.r2
  have hr3 := h.p.r3
  have hql := h.p.ql
  have kk : Below w.heap.size w (w.alloc (.cells #[.int .i64 kd, .int .i64 sv, .int .i64 tt, .int .i64 ah, .int .i64 tk, .int .i64 wy, .slice Ab nb cb] 41)) := (Below.refl _ _).alloc (Nat.le_refl _) _
  have HP0 := Lib.hid (h.p.below kk)
  have HU0 : Hid (But (fun k => m0 ≤ k ∧ k ≤ bp) w (w.alloc (.cells #[.int .i64 kd, .int .i64 sv, .int .i64 tt, .int .i64 ah, .int .i64 tk, .int .i64 wy, .slice Ab nb cb] 41))) := Lib.hid (But.of_below kk)
  have a0 : (w.alloc (.cells #[.int .i64 kd, .int .i64 sv, .int .i64 tt, .int .i64 ah, .int .i64 tk, .int .i64 wy, .slice Ab nb cb] 41)).cell? ⟨w.heap.size, 0, none⟩ = some (.int .i64 kd) := by simp
  have a1 : (w.alloc (.cells #[.int .i64 kd, .int .i64 sv, .int .i64 tt, .int .i64 ah, .int .i64 tk, .int .i64 wy, .slice Ab nb cb] 41)).cell? ⟨w.heap.size, 1, none⟩ = some (.int .i64 sv) := by simp
  have a2 : (w.alloc (.cells #[.int .i64 kd, .int .i64 sv, .int .i64 tt, .int .i64 ah, .int .i64 tk, .int .i64 wy, .slice Ab nb cb] 41)).cell? ⟨w.heap.size, 2, none⟩ = some (.int .i64 tt) := by simp
  have a3 : (w.alloc (.cells #[.int .i64 kd, .int .i64 sv, .int .i64 tt, .int .i64 ah, .int .i64 tk, .int .i64 wy, .slice Ab nb cb] 41)).cell? ⟨w.heap.size, 3, none⟩ = some (.int .i64 ah) := by simp
  have a4 : (w.alloc (.cells #[.int .i64 kd, .int .i64 sv, .int .i64 tt, .int .i64 ah, .int .i64 tk, .int .i64 wy, .slice Ab nb cb] 41)).cell? ⟨w.heap.size, 4, none⟩ = some (.int .i64 tk) := by simp
  have a5 : (w.alloc (.cells #[.int .i64 kd, .int .i64 sv, .int .i64 tt, .int .i64 ah, .int .i64 tk, .int .i64 wy, .slice Ab nb cb] 41)).cell? ⟨w.heap.size, 5, none⟩ = some (.int .i64 wy) := by simp
  have a6 : (w.alloc (.cells #[.int .i64 kd, .int .i64 sv, .int .i64 tt, .int .i64 ah, .int .i64 tk, .int .i64 wy, .slice Ab nb cb] 41)).cell? ⟨w.heap.size, 6, none⟩ = some (.slice Ab nb cb) := by simp
  have la : w.heap.size < (w.alloc (.cells #[.int .i64 kd, .int .i64 sv, .int .i64 tt, .int .i64 ah, .int .i64 tk, .int .i64 wy, .slice Ab nb cb] 41)).heap.size := by simp
  have hc0 := h.k0
  obtain ⟨p, hp⟩ : ∃ p, min cnt 1152921504606846976 = p := ⟨_, rfl⟩
  obtain ⟨q, hq⟩ : ∃ q, min tt 35184372088832 = q := ⟨_, rfl⟩
  obtain ⟨r, hr⟩ : ∃ r, max (0 : Int) q = r := ⟨_, rfl⟩
  have hpb : 0 ≤ p ∧ p ≤ 1152921504606846976 := by omega
  have hrb : 0 ≤ r ∧ r ≤ 35184372088832 := by omega
  obtain ⟨C, hC⟩ : ∃ C, p + r = C := ⟨_, rfl⟩
  have hCb : 0 ≤ C ∧ C ≤ 1153000000000000000 := by omega
  have wC : IntKind.i64.wrap (p + r) = C := by rw [hC]; exact IntWalk.i64_in _ (by omega)
  have HTW := Lib.hid h
  have HN := Lib.hid (And.intro h.r.n (And.intro hn hCb))
  have HS := Lib.hid hs
  have hkn := h.ko.n0
  have t1 : (kd == 1) = false := by simpa using hk1
  have t2 : (kd == 2) = false := by simpa using hk2
  have t3 : (kd == 3) = false := by simpa using hk3
  clear hk1 hk2 hk3
  have p4 := HP0.out.q4
  clear kk h hC hn hs hpb hrb hc0 hCb
  go_enter Tryz.func13, Tryz.ntmps13
  go_wp2_with fail
  generalize hA : w.heap.size = a at *
  have HAE := Lib.hid hA
  generalize hW : (w.alloc (.cells #[.int .i64 kd, .int .i64 sv, .int .i64 tt, .int .i64 ah, .int .i64 tk, .int .i64 wy, .slice Ab nb cb] 41)) = V0 at *
  clear hA hW
  refine wp_region_held_drew (S := fun w' => w'.cell? ⟨a, 2, none⟩ = some (.int .i64 tt)) (by kernel_rfl) ?_ (fun hHeld => ?_)
  · exact a2
  have HP1 := Lib.hid (HP0.out.below (w' := V0.drew) ((Below.refl _ _).drew))
  have HU1 := Lib.hid HU0.out.drew
  replace a0 : V0.drew.cell? ⟨a, 0, none⟩ = some (.int .i64 kd) := a0
  replace a1 : V0.drew.cell? ⟨a, 1, none⟩ = some (.int .i64 sv) := a1
  replace a2 : V0.drew.cell? ⟨a, 2, none⟩ = some (.int .i64 tt) := a2
  replace a3 : V0.drew.cell? ⟨a, 3, none⟩ = some (.int .i64 ah) := a3
  replace a4 : V0.drew.cell? ⟨a, 4, none⟩ = some (.int .i64 tk) := a4
  replace a5 : V0.drew.cell? ⟨a, 5, none⟩ = some (.int .i64 wy) := a5
  replace a6 : V0.drew.cell? ⟨a, 6, none⟩ = some (.slice Ab nb cb) := a6
  replace la : a < V0.drew.heap.size := la
  clear HP0 HU0 p4
  generalize V0.drew = V1 at *
  have nab : a ≠ bp := by omega
  have HP2 := Lib.hid (HP1.out.cnt C)
  have HU2 : Hid (But (fun k => m0 ≤ k ∧ k ≤ bp) w (V1.setCell ⟨bp, 4, none⟩ (.int .i64 C))) := Lib.hid (HU1.out.setCell (p := ⟨bp, 4, none⟩) (fun _ => ⟨by show m0 ≤ bp; omega, Nat.le_refl _⟩) _)
  have b0 : (V1.setCell ⟨bp, 4, none⟩ (.int .i64 C)).cell? ⟨a, 0, none⟩ = some (.int .i64 kd) := (World.cell?_setCell_other _ _ _ _ (by simp [nab])).trans a0
  have b1 : (V1.setCell ⟨bp, 4, none⟩ (.int .i64 C)).cell? ⟨a, 1, none⟩ = some (.int .i64 sv) := (World.cell?_setCell_other _ _ _ _ (by simp [nab])).trans a1
  have b2 : (V1.setCell ⟨bp, 4, none⟩ (.int .i64 C)).cell? ⟨a, 2, none⟩ = some (.int .i64 tt) := (World.cell?_setCell_other _ _ _ _ (by simp [nab])).trans a2
  have b3 : (V1.setCell ⟨bp, 4, none⟩ (.int .i64 C)).cell? ⟨a, 3, none⟩ = some (.int .i64 ah) := (World.cell?_setCell_other _ _ _ _ (by simp [nab])).trans a3
  have b4 : (V1.setCell ⟨bp, 4, none⟩ (.int .i64 C)).cell? ⟨a, 4, none⟩ = some (.int .i64 tk) := (World.cell?_setCell_other _ _ _ _ (by simp [nab])).trans a4
  have b5 : (V1.setCell ⟨bp, 4, none⟩ (.int .i64 C)).cell? ⟨a, 5, none⟩ = some (.int .i64 wy) := (World.cell?_setCell_other _ _ _ _ (by simp [nab])).trans a5
  have b6 : (V1.setCell ⟨bp, 4, none⟩ (.int .i64 C)).cell? ⟨a, 6, none⟩ = some (.slice Ab nb cb) := (World.cell?_setCell_other _ _ _ _ (by simp [nab])).trans a6
  have lb : a < (V1.setCell ⟨bp, 4, none⟩ (.int .i64 C)).heap.size := by simpa [World.setCell] using la
  have f4 := HP1.out.qf 4
  have p4 := HP1.out.q4
  have lbp := HP1.out.ql
  refine tk9 0 ?_
  refine tk9 1 ?_
  refine tk9 2 ?_
  refine tk9 3 ?_
  refine tk9 6 ?_
  refine tk9 7 ?_
  refine tk9 8 ?_
  refine tk9 9 ?_
  refine wpAnyH_ready (rs := [4]) (by kernel_rfl) (by simp) ?_
  refine AllReadyH.cons rfl (fun KK hKK => ?_) (AllReadyH.nil)
  go_simp
  (try dsimp only)
  refine hKK.out _ _ ?_ (fun hHeld => ?_)
  · exact a2
  clear hKK KK
  refine pt9 ?_
  refine tk9 5 ?_
  refine tk9 10 ?_
  refine tk9 11 ?_
  refine tk9 12 ?_
  refine wpAnyH_ready (rs := [13]) (by kernel_rfl) (by simp) ?_
  refine AllReadyH.cons rfl (fun KK hKK => ?_) (AllReadyH.nil)
  go_simp
  (try dsimp only)
  refine hKK.out _ _ ?_ (fun hHeld => ?_)
  · exact b2
  clear hKK KK
  refine pt9 ?_
  refine wpAnyH_done (by kernel_rfl) ?_ _
  clear hHeld HP1 HU1 a0 a1 a2 a3 a4 a5 a6 la f4 p4 lbp hp hq hr wC
  generalize V1.setCell ⟨bp, 4, none⟩ (.int .i64 C) = V2 at *
  clear b1 b2 b3 b4 b5 b6
  go_wp2_with fail
  refine wp_region_held_drew (S := fun w' => w'.cell? ⟨bp, 2, none⟩ = some (.pointer (some ⟨b, 0, none⟩)) ∧ w'.cell? ⟨bp, 3, none⟩ = some (.pointer (some ⟨rb, 0, none⟩)) ∧ w'.cell? ⟨bp, 4, none⟩ = some (.int .i64 C) ∧ w'.cell? ⟨b, 0, none⟩ = some (.pointer (some ⟨bc, 0, none⟩)) ∧ w'.cell? ⟨rb, 0, none⟩ = some (.pointer (some ⟨rbc, 0, none⟩))) (by kernel_rfl) ?_ (fun hHeld => ?_)
  · exact ⟨HP2.out.q2, HP2.out.q3, HP2.out.q4, HP2.out.P.c0, HP2.out.R.c0⟩
  have HP4 := Lib.hid (HP2.out.below (w' := V2.drew) ((Below.refl _ _).drew))
  have HU4 := Lib.hid HU2.out.drew
  clear HP2 HU2 b0 lb
  generalize V2.drew = V4 at *
  have HRP := Lib.hid (slew_read_all bc K.c K.t K.l C V4 HP4.out.P.clk HTW.out.ko.clk (by have := HN.out; omega))
  refine tk9 0 ?_
  refine tk9 1 ?_
  refine tk9 2 ?_
  refine tk9 3 ?_
  refine tk9 4 ?_
  refine tk9 5 ?_
  refine tk9 6 ?_
  refine tk9 7 ?_
  refine tk9 8 ?_
  refine tk9 9 ?_
  refine tk9 10 ?_
  refine tk9 12 ?_
  refine tk9 13 ?_
  refine tk9 14 ?_
  refine tk9 15 ?_
  refine tk9 16 ?_
  refine tk9 17 ?_
  refine tk9 18 ?_
  refine tk9 19 ?_
  refine tk9 20 ?_
  refine tk9 21 ?_
  refine tk9 22 ?_
  refine wpAnyH_ready (rs := [11]) (by kernel_rfl) (by simp) ?_
  refine AllReadyH.cons rfl (fun KK hKK => ?_) (AllReadyH.nil)
  go_simp
  (go_at_call 21; refine HRP.out.mono ?_; rintro e V5 ⟨rfl, ho5, hi5⟩)
  have hn5 : Nc layP V5 b bc bs A1 n c1 x z N (readK K C) := HP4.out.P.clock ho5 hi5
  have hf5 : But (Ft b bc bs) V4 V5 := But.of_only ho5 (Or.inr (Or.inl rfl))
  have HP5 := Lib.hid (HP4.out.onP hn5 hf5)
  have HU5 := Lib.hid (HU4.out.trans (T := Ft b bc bs) hf5 (fun q _ hq => by unfold Ft at hq; omega))
  have HRR := Lib.hid (ref8_read_all rbc R.c R.t R.l C V5 HP5.out.R.clk HTW.out.ro.clk (by have := HN.out; omega))
  have hrt : rt R.c R.t R.l C = rt K.c K.t K.l C := by rw [HTW.out.r.c, HTW.out.r.t, HTW.out.r.l]
  rw [hrt] at HRR
  clear hn5 hf5 ho5 hi5 HP4 HU4 HRP
  (try dsimp only)
  refine hKK.out _ _ ?_ (fun hHeld => ?_)
  · exact ⟨HP5.out.q2, HP5.out.q3, HP5.out.q4, HP5.out.P.c0, HP5.out.R.c0⟩
  clear hKK KK
  refine pt9 ?_
  refine wpAnyH_ready (rs := [23]) (by kernel_rfl) (by simp) ?_
  refine AllReadyH.cons rfl (fun KK hKK => ?_) (AllReadyH.nil)
  go_simp
  (go_at_call 33; refine HRR.out.mono ?_; rintro e V6 ⟨rfl, ho6, hi6⟩)
  rw [← hrt] at hi6
  have hn6 : Nc layR V6 rb rbc rbs A2 n c2 x z N (readK R C) := HP5.out.R.clock ho6 hi6
  have hf6 : But (Ft rb rbc rbs) V5 V6 := But.of_only ho6 (Or.inr (Or.inl rfl))
  have HP6 := Lib.hid (HP5.out.onR hn6 hf6)
  have HU6 := Lib.hid (HU5.out.trans (T := Ft rb rbc rbs) hf6 (fun q _ hq => by unfold Ft at hq; omega))
  clear hn6 hf6 ho6 hi6 HP5 HU5 HRR hrt
  (try dsimp only)
  refine hKK.out _ _ ?_ (fun hHeld => ?_)
  · exact ⟨HP6.out.q2, HP6.out.q3, HP6.out.q4, HP6.out.P.c0, HP6.out.R.c0⟩
  clear hKK KK
  refine pt9 ?_
  have cc : (rt K.c K.t K.l C == rt K.c K.t K.l C) = true := by simp
  refine tk9 24 ?_
  refine tk9 25 ?_
  refine wpAnyH_done (by kernel_rfl) ?_ _
  clear hHeld
  go_wp2_with fail
  go_ret
  have hcb := HN.out.2.2
  exact ⟨rfl, ⟨readK K C, readK R C, C, asked, when_, ⟨HP6.out, HTW.out.r.read C, HTW.out.ko.read C (by omega), HTW.out.ro.read C (by omega), hcb.1, by omega, HTW.out.qa, HTW.out.qw⟩, by show K.n ≤ _; omega, by show K.syn ≤ _; omega⟩, HU6.out⟩
end Go.Proofs.YtepdnkpmkhjlgaaGreat

/- NTP: the law's stood: samples, the clock, how often it was turned, in both (written by gen/ntstd.py). -/
namespace Go.Proofs.YtepdnkpmkhjlgaaGreat
open Go.RowKit Go.Sort

theorem Pr.below' {w : World} {bp b bc bs : Nat} {A1 : Option Addr} {c1 : Nat} {rb rbc rbs : Nat} {A2 : Option Addr} {c2 : Nat} {ad : Addr} {n c : Nat} {x : Int} {z : Nat → Int} {N : Nat} {m0 m1 m2 : Nat} {K R : Cs} {cnt : Int} {asked when_ : Nat → Int} (h : Pr w bp b bc bs A1 c1 rb rbc rbs A2 c2 ad n c x z N m0 m1 m2 K R cnt asked when_) {w' : World} (k : Below w.heap.size w w') : Pr w' bp b bc bs A1 c1 rb rbc rbs A2 c2 ad n c x z N m0 m1 m2 K R cnt asked when_ := h.below k
set_option maxRecDepth 100000 in
set_option maxHeartbeats 16000000 in
theorem law_stood {w : World} {bp b bc bs : Nat} {A1 : Option Addr} {c1 : Nat} {rb rbc rbs : Nat} {A2 : Option Addr} {c2 : Nat} {ad : Addr} {n c : Nat} {x : Int} {z : Nat → Int} {N : Nat} {m0 m1 m2 : Nat} {K R : Cs} {cnt : Int} {asked when_ : Nat → Int} (h : Tw w bp b bc bs A1 c1 rb rbc rbs A2 c2 ad n c x z N m0 m1 m2 K R cnt asked when_) (hN : N ≤ 8) :
    Calls Tryz.prog 14 #[.pointer (some ⟨bp, 0, none⟩)] w fun e w' => e = .returned (.bool true) ∧ Below w.heap.size w w' := by
  have HH := Lib.hid (fun (W : World) (k : Below w.heap.size w W) => h.p.below k)
  have HRL := Lib.hid h.r
  clear h
  go_enter Tryz.func14, Tryz.ntmps14
  go_wp2_with fail
  go_loopw [3] (fun i wr => ∃ k : Nat, k ≤ N + 2 ∧ i = .int .i64 ((k : Int) - 1) ∧ Below w.heap.size w wr) (fun i _ => ((N : Int) + 3 - intOf i).toNat)
  case atStart => exact ⟨0, by omega, by simp, Below.refl _ _⟩
  case round =>
    obtain ⟨k, hk, rfl, hb⟩ := hrel
    have HB := Lib.hid hb
    obtain ⟨i, hi⟩ : ∃ i : Int, (k : Int) - 1 = i := ⟨_, rfl⟩
    have HI := Lib.hid hi
    have hib : -1 ≤ i ∧ i ≤ (N : Int) + 1 := by omega
    rw [hi]
    clear hb hi
    have HP := Lib.hid (HH.out wr HB.out)
    have q2 := HP.out.q2
    have q3 := HP.out.q3
    have r3 := HP.out.R.c3
    by_cases hend : i ≤ (N : Int)
    · have t1 : decide (i ≤ (N : Int)) = true := by simpa using hend
      have wi : IntKind.i64.wrap (i + 1) = i + 1 := IntWalk.i64_in _ (by omega)
      have S1 := Lib.hid (ntp_smp HP.out.P i)
      obtain ⟨⟨lo, up, hs⟩, hsm⟩ : ∃ r : Int × Int × Bool, smpA N K i = r := ⟨_, rfl⟩
      have HSM2 := Lib.hid (HRL.out.smpA i)
      rw [hsm] at S1 HSM2
      have HEND := Lib.hid hend
      clear hend hsm
      go_wp2_with fail
      refine S1.out.mono ?_; rintro e w1 ⟨rfl, k1⟩
      have k2 := k1.alloc k1.size (.cells #[.int .i64 lo, .int .i64 up] 67)
      have HP2 := Lib.hid (HP.out.below k2)
      have q2 := HP2.out.q2
      have q3 := HP2.out.q3
      have B2 := Lib.hid (HB.out.trans (k2.mono HB.out.size))
      have y0 : (w1.alloc (.cells #[.int .i64 lo, .int .i64 up] 67)).cell? ⟨w1.heap.size, 0, none⟩ = some (.int .i64 lo) := by simp
      have y1 : (w1.alloc (.cells #[.int .i64 lo, .int .i64 up] 67)).cell? ⟨w1.heap.size, 1, none⟩ = some (.int .i64 up) := by simp
      have yl : w1.heap.size < (w1.alloc (.cells #[.int .i64 lo, .int .i64 up] 67)).heap.size := by simp
      have S2 := Lib.hid (r_smp HP2.out.R i)
      rw [HSM2.out] at S2
      clear k1 k2 HP S1 HSM2
      go_wp2_with fail
      refine S2.out.mono ?_; rintro e w3 ⟨rfl, k3⟩
      have k4 := k3.alloc k3.size (.cells #[.int .i64 lo, .int .i64 up] 67)
      have B4 := Lib.hid (B2.out.trans (k4.mono B2.out.size))
      replace y0 := (k4.cell (p := ⟨w1.heap.size, 0, none⟩) yl).trans y0
      replace y1 := (k4.cell (p := ⟨w1.heap.size, 1, none⟩) yl).trans y1
      have x0 : (w3.alloc (.cells #[.int .i64 lo, .int .i64 up] 67)).cell? ⟨w3.heap.size, 0, none⟩ = some (.int .i64 lo) := by simp
      have x1 : (w3.alloc (.cells #[.int .i64 lo, .int .i64 up] 67)).cell? ⟨w3.heap.size, 1, none⟩ = some (.int .i64 up) := by simp
      have e1 : (lo == lo) = true := by simp
      have e2 : (up == up) = true := by simp
      have e3 : (hs != hs) = false := by cases hs <;> rfl
      have e4 : (lo != lo) = false := by simp
      have e5 : (up != up) = false := by simp
      clear k3 k4 B2 HP2 S2 yl
      go_wp2_with fail
      go_roundw
      case rel => exact ⟨k + 1, by have := HI.out; have := HEND.out; omega, by have := HI.out; congr 1; omega, B4.out⟩
      all_goals (have e1 := HI.out; have e2 := HEND.out; (try simp only [intOf, wi]); omega)
    · have t1 : decide (i ≤ (N : Int)) = false := by simpa using hend
      clear hend
      go_wp2_with fail
      refine wp_region_held_drew (S := fun w' => w'.cell? ⟨bp, 2, none⟩ = some (.pointer (some ⟨b, 0, none⟩)) ∧ w'.cell? ⟨bp, 3, none⟩ = some (.pointer (some ⟨rb, 0, none⟩)) ∧ w'.cell? ⟨b, 0, none⟩ = some (.pointer (some ⟨bc, 0, none⟩)) ∧ w'.cell? ⟨rb, 0, none⟩ = some (.pointer (some ⟨rbc, 0, none⟩)) ∧ w'.cell? ⟨rb, 5, none⟩ = some (.int .i64 K.syn) ∧ w'.cell? ⟨rbc, 2, none⟩ = some (.int .i64 K.l)) (by kernel_rfl) ?_ (fun hHeld => ?_)
      · exact ⟨HP.out.q2, HP.out.q3, HP.out.P.c0, HP.out.R.c0, by have := HP.out.R.c5; rw [HRL.out.syn] at this; exact this, by have := HP.out.R.clk.c2; rw [HRL.out.l] at this; exact this⟩
      have HP2 := Lib.hid (HP.out.below (w' := wr.drew) ((Below.refl _ _).drew))
      have HB2 := Lib.hid HB.out.drew
      have S1 := Lib.hid (ntp_synced HP2.out.P)
      have S2 := Lib.hid (slew_left bc K.c K.t K.l _ HP2.out.P.clk)
      clear HP HB q2 q3 r3
      generalize wr.drew = V at *
      refine tk9 0 ?_
      refine tk9 1 ?_
      refine tk9 2 ?_
      refine tk9 3 ?_
      refine tk9 5 ?_
      refine tk9 6 ?_
      refine tk9 7 ?_
      refine tk9 8 ?_
      refine tk9 9 ?_
      refine tk9 10 ?_
      refine tk9 11 ?_
      refine wpAnyH_ready (rs := [4]) (by kernel_rfl) (by simp) ?_
      refine AllReadyH.cons rfl (fun K hK => ?_) (AllReadyH.nil)
      go_simp
      (go_at_call 22; refine S1.out.mono ?_; rintro e w' ⟨rfl, rfl⟩)
      (try dsimp only)
      refine hK.out _ _ ?_ (fun hHeld => ?_)
      · exact ⟨HP2.out.q2, HP2.out.q3, HP2.out.P.c0, HP2.out.R.c0, by have := HP2.out.R.c5; rw [HRL.out.syn] at this; exact this, by have := HP2.out.R.clk.c2; rw [HRL.out.l] at this; exact this⟩
      clear hK K
      refine pt9 ?_
      have e1 : (K.syn == K.syn) = true := by simp
      have e2 : (K.l == K.l) = true := by simp
      refine tk9 12 ?_
      refine tk9 13 ?_
      refine tk9 14 ?_
      refine tk9 15 ?_
      refine tk9 16 ?_
      refine tk9 17 ?_
      refine tk9 18 ?_
      refine tk9 19 ?_
      refine tk9 20 ?_
      refine tk9 22 ?_
      refine tk9 23 ?_
      refine tk9 24 ?_
      refine tk9 25 ?_
      refine tk9 26 ?_
      refine tk9 27 ?_
      refine tk9 28 ?_
      refine tk9 29 ?_
      refine tk9 30 ?_
      refine tk9 31 ?_
      refine wpAnyH_ready (rs := [21]) (by kernel_rfl) (by simp) ?_
      refine AllReadyH.cons rfl (fun K hK => ?_) (AllReadyH.nil)
      go_simp
      (go_at_call 35; refine S2.out.mono ?_; rintro e w' ⟨rfl, rfl⟩)
      (try dsimp only)
      refine hK.out _ _ ?_ (fun hHeld => ?_)
      · exact ⟨HP2.out.q2, HP2.out.q3, HP2.out.P.c0, HP2.out.R.c0, by have := HP2.out.R.c5; rw [HRL.out.syn] at this; exact this, by have := HP2.out.R.clk.c2; rw [HRL.out.l] at this; exact this⟩
      clear hK K
      refine pt9 ?_
      refine tk9 32 ?_
      refine tk9 33 ?_
      refine tk9 34 ?_
      refine wpAnyH_done (by kernel_rfl) ?_ _
      clear hHeld
      go_wp2_with fail
      go_ret
      exact ⟨rfl, HB2.out⟩
end Go.Proofs.YtepdnkpmkhjlgaaGreat

/- NTP: the law's start of what makes no client (written by gen/ntstd.py). -/
namespace Go.Proofs.YtepdnkpmkhjlgaaGreat
open Go.RowKit Go.Sort

theorem ntp_new_no (A : Option Addr) (n c : Nat) (x : Int) (z : Nat → Int) (sv count : Int) (w : World) (hz : FlatAt w A 2 n z) (hn : n ≤ maxLen) (h : ¬ (IsTab z n x ∧ 1 ≤ sv ∧ sv ≤ 8 ∧ 0 ≤ count)) :
    Calls Tryz.prog 25 #[.agg #[.slice A n c, .int .i64 x], .int .i64 sv, .int .i64 count] w fun e w' => e = .returned (.tuple #[.pointer none, .int .i64 1]) ∧ Below w.heap.size w w' := by
  have HB0 : Below w.heap.size w (w.alloc (.cells #[.slice A n c, .int .i64 x] 24)) := by (repeat' (first | (with_reducible exact Below.refl _ _) | (with_reducible assumption) | (with_reducible refine Below.trans ?_ (Below.mono (by with_reducible assumption) ?_)) | (with_reducible refine Below.alloc ?_ ?_ _) | (with_reducible refine Below.setCell ?_ ?_ _) | (with_reducible refine below_drewN ?_ _) | (with_reducible refine Below.drew ?_) | go_size))
  have HZ := Lib.hid (hz.below HB0)
  by_cases hT : IsTab z n x
  · have HIS := Lib.hid (fun (W : World) (k : FlatAt W A 2 n z) => leap_is_yes A n c x z W k hT)
    have hcs : decide (sv < 1) = true ∨ (decide (sv < 1) = false ∧ decide (sv > 8) = true) ∨ (decide (sv < 1) = false ∧ decide (sv > 8) = false ∧ decide (count < 0) = true) := by
      simp only [decide_eq_true_eq, decide_eq_false_iff_not]
      by_cases h1 : sv < 1
      · exact .inl h1
      · by_cases h2 : sv > 8
        · exact .inr (.inl ⟨h1, h2⟩)
        · exact .inr (.inr ⟨h1, h2, by
            by_cases h3 : count < 0
            · exact h3
            · exact absurd ⟨hT, by omega, by omega, by omega⟩ h⟩)
    clear hz h hT
    rcases hcs with t1 | ⟨t1, t2⟩ | ⟨t1, t2, t3⟩
    all_goals
      go_enter Tryz.func25, Tryz.ntmps25
      go_wp2_with fail
      refine (HIS.out _ HZ.out).mono ?_; rintro e w1 ⟨rfl, k1⟩
      have HB1 := Lib.hid (HB0.trans (k1.mono HB0.size))
      clear k1 HB0
      go_wp2_with fail
      go_ret2
      exact ⟨rfl, HB1.out⟩
  · have HIS := Lib.hid (fun (W : World) (k : FlatAt W A 2 n z) => leap_is_no A n c x z W k hn hT)
    clear hz h hT
    go_enter Tryz.func25, Tryz.ntmps25
    go_wp2_with fail
    refine (HIS.out _ HZ.out).mono ?_; rintro e w1 ⟨rfl, k1⟩
    have HB1 := Lib.hid (HB0.trans (k1.mono HB0.size))
    clear k1 HB0
    go_wp2_with fail
    go_ret2
    exact ⟨rfl, HB1.out⟩
theorem r_new_no (A : Option Addr) (n c : Nat) (x : Int) (z : Nat → Int) (sv count : Int) (w : World) (hz : FlatAt w A 2 n z) (hn : n ≤ maxLen) (h : ¬ (IsTab z n x ∧ 1 ≤ sv ∧ sv ≤ 8 ∧ 0 ≤ count)) :
    Calls Tryz.prog 26 #[.agg #[.slice A n c, .int .i64 x], .int .i64 sv, .int .i64 count] w fun e w' => e = .returned (.tuple #[.pointer none, .int .i64 1]) ∧ Below w.heap.size w w' := by
  have HB0 : Below w.heap.size w (w.alloc (.cells #[.slice A n c, .int .i64 x] 24)) := by (repeat' (first | (with_reducible exact Below.refl _ _) | (with_reducible assumption) | (with_reducible refine Below.trans ?_ (Below.mono (by with_reducible assumption) ?_)) | (with_reducible refine Below.alloc ?_ ?_ _) | (with_reducible refine Below.setCell ?_ ?_ _) | (with_reducible refine below_drewN ?_ _) | (with_reducible refine Below.drew ?_) | go_size))
  have HZ := Lib.hid (hz.below HB0)
  by_cases hT : IsTab z n x
  · have HIS := Lib.hid (fun (W : World) (k : FlatAt W A 2 n z) => ref3_is A n c x z W true k hn (by simp [hT]))
    have hcs : decide (sv < 1) = true ∨ (decide (sv < 1) = false ∧ decide (sv > 8) = true) ∨ (decide (sv < 1) = false ∧ decide (sv > 8) = false ∧ decide (count < 0) = true) := by
      simp only [decide_eq_true_eq, decide_eq_false_iff_not]
      by_cases h1 : sv < 1
      · exact .inl h1
      · by_cases h2 : sv > 8
        · exact .inr (.inl ⟨h1, h2⟩)
        · exact .inr (.inr ⟨h1, h2, by
            by_cases h3 : count < 0
            · exact h3
            · exact absurd ⟨hT, by omega, by omega, by omega⟩ h⟩)
    clear hz h hT
    rcases hcs with t1 | ⟨t1, t2⟩ | ⟨t1, t2, t3⟩
    all_goals
      go_enter Tryz.func26, Tryz.ntmps26
      go_wp2_with fail
      refine (HIS.out _ HZ.out).mono ?_; rintro e w1 ⟨rfl, k1⟩
      have HB1 := Lib.hid (HB0.trans (k1.mono HB0.size))
      clear k1 HB0
      go_wp2_with fail
      go_ret2
      exact ⟨rfl, HB1.out⟩
  · have HIS := Lib.hid (fun (W : World) (k : FlatAt W A 2 n z) => ref3_is A n c x z W false k hn (by simp [hT]))
    clear hz h hT
    go_enter Tryz.func26, Tryz.ntmps26
    go_wp2_with fail
    refine (HIS.out _ HZ.out).mono ?_; rintro e w1 ⟨rfl, k1⟩
    have HB1 := Lib.hid (HB0.trans (k1.mono HB0.size))
    clear k1 HB0
    go_wp2_with fail
    go_ret2
    exact ⟨rfl, HB1.out⟩
theorem law_start_no (A : Option Addr) (n c : Nat) (x : Int) (z : Nat → Int) (sv count : Int) (w : World) (hz : FlatAt w A 2 n z) (hn : n ≤ maxLen) (h : ¬ (IsTab z n x ∧ 1 ≤ sv ∧ sv ≤ 8 ∧ 0 ≤ count)) :
    Calls Tryz.prog 11 #[.agg #[.slice A n c, .int .i64 x], .int .i64 sv, .int .i64 count] w fun e w' => (∃ bp, e = .returned (.tuple #[.pointer (some ⟨bp, 0, none⟩), .bool true]) ∧ w'.cell? ⟨bp, 2, none⟩ = some (.pointer none)) ∧ Below w.heap.size w w' := by
  have HB0 : Below w.heap.size w (w.alloc (.cells #[.slice A n c, .int .i64 x] 24)) := by (repeat' (first | (with_reducible exact Below.refl _ _) | (with_reducible assumption) | (with_reducible refine Below.trans ?_ (Below.mono (by with_reducible assumption) ?_)) | (with_reducible refine Below.alloc ?_ ?_ _) | (with_reducible refine Below.setCell ?_ ?_ _) | (with_reducible refine below_drewN ?_ _) | (with_reducible refine Below.drew ?_) | go_size))
  have q0 : (w.alloc (.cells #[.slice A n c, .int .i64 x] 24)).cell? ⟨w.heap.size, 0, none⟩ = some (.slice A n c) := by simp
  have q1 : (w.alloc (.cells #[.slice A n c, .int .i64 x] 24)).cell? ⟨w.heap.size, 1, none⟩ = some (.int .i64 x) := by simp
  have l0 : w.heap.size < (w.alloc (.cells #[.slice A n c, .int .i64 x] 24)).heap.size := by simp
  have HP := Lib.hid (fun (W : World) (k : Below w.heap.size w W) => ntp_new_no A n c x z sv count W (hz.below k) hn h)
  have HR := Lib.hid (fun (W : World) (k : Below w.heap.size w W) => r_new_no A n c x z sv count W (hz.below k) hn h)
  clear hz h
  go_enter Tryz.func11, Tryz.ntmps11
  go_wp2_with fail
  refine (HP.out _ HB0).mono ?_; rintro e w1 ⟨rfl, hb1⟩
  have HB1 := HB0.trans (hb1.mono HB0.size)
  replace q0 := (hb1.cell (p := ⟨w.heap.size, 0, none⟩) l0).trans q0
  replace q1 := (hb1.cell (p := ⟨w.heap.size, 1, none⟩) l0).trans q1
  replace l0 := Nat.lt_of_lt_of_le l0 hb1.size
  clear hb1 HB0
  go_wp2_with fail
  refine (HR.out _ HB1).mono ?_; rintro e w2 ⟨rfl, hb2⟩
  have HB2 := HB1.trans (hb2.mono HB1.size)
  replace q0 := (hb2.cell (p := ⟨w.heap.size, 0, none⟩) l0).trans q0
  replace q1 := (hb2.cell (p := ⟨w.heap.size, 1, none⟩) l0).trans q1
  clear hb2 HB1 l0
  have HB3 := Lib.hid HB2
  have e5 : (w2.alloc (.cells #[.slice A n c, .int .i64 x, .pointer none, .pointer none, .int .i64 count, .int .u64 0, .int .u64 0, .int .u64 0, .int .u64 0, .int .u64 0, .int .u64 0, .int .u64 0, .int .u64 0, .int .i64 0, .int .i64 0, .int .i64 0, .int .i64 0, .int .i64 0, .int .i64 0, .int .i64 0, .int .i64 0] 36)).cell? ⟨w2.heap.size, 2, none⟩ = some (.pointer none) := new_cell w2 rfl _ _ _
  have HC := Lib.hid e5
  clear HB2 e5
  go_wp2_with fail
  go_ret2
  exact ⟨⟨_, rfl, HC.out⟩, HB3.out.alloc HB3.out.size _⟩
end Go.Proofs.YtepdnkpmkhjlgaaGreat

/- Arguments of stage 9: a row of acts (the openers are those of stages 15 and 26, without their bytes' texts). -/
namespace Go.Proofs.YtepdnkpmkhjlgaaGreat
open Go.ChangeShapes Go.WideShapes Go.ChangeAt Go.RowKit Go.Joins Go.Deep

theorem u8_cells9 : Tryz.prog.cellsOf 5 = 1 := by kernel_rfl
theorem wf_u8' {x : Int} (h : (Lit.int .u8 x).wf = true) : 0 ≤ x ∧ x ≤ 255 := by
  simp [Lit.wf, IntKind.min, IntKind.max, IntKind.signed, IntKind.bits] at h
  omega
theorem cell_lt' {w : World} {B o : Nat} {v : Value} (h : w.cell? ⟨B, o, none⟩ = some v) : B < w.heap.size := by
  rcases Nat.lt_or_ge B w.heap.size with q | q
  · exact q
  · simp [World.cell?, Array.getElem?_eq_none q] at h
/-- A slice of bytes, as it is trod. -/
theorem open_bytes9 {H : Type} {enc : TypeId × Value → H} {w : World} {base : Nat} {sp : Nat → Bool} {fuel : Nat} {cs : List Value} {x : DataW H × List MemPlace} (hf : DataW.trod enc Tryz.prog w base sp true fuel 39 cs = some x) :
    ∃ (A : Option Addr) (n c : Nat) (f : Nat → Int), cs = [.slice A n c] ∧ n ≤ c ∧ c ≤ maxLen ∧ BytesAt w A n f ∧ (∀ j, j < n → 0 ≤ f j ∧ f j ≤ 255) ∧ (A = none → n = 0 ∧ c = 0) := by
  rcases open_ints Tryz.underlying39 Tryz.underlying5 u8_cells9 hf with ⟨hcs, hx⟩ | ⟨a, len, cap, zs, hcs, _, hl, hm, hz, hx, hcell, hwz⟩
  · exact ⟨none, 0, 0, fun _ => 0, hcs, by omega, by unfold maxLen; omega, fun h => absurd h (by omega), fun j hj => absurd hj (by omega), fun _ => ⟨rfl, rfl⟩⟩
  · have hlz : len ≤ zs.length := by rw [hz]; split <;> omega
    refine ⟨some a, len, cap, fun j => zs.getD j 0, hcs, by omega, by omega, fun h0 => ?_, fun j hj => ?_, fun e => by cases e⟩
    · obtain ⟨B, O, spot⟩ := a
      have hspot : spot = none := by simpa [Addr.add] using World.cell?_spot (hcell 0 (by omega))
      subst hspot
      have hc : ∀ j, j < len → w.cell? ⟨B, O + j, none⟩ = some (.int .u8 (zs.getD j 0)) := fun j hj => by rw [← add_plain]; exact hcell j (by omega)
      exact ⟨B, O, rfl, cell_lt' (hc 0 h0), hc⟩
    · have hjz : j < zs.length := by omega
      have e : zs.getD j 0 = zs[j] := by rw [List.getD_eq_getElem?_getD, List.getElem?_eq_getElem hjz]; rfl
      show 0 ≤ zs.getD j 0 ∧ zs.getD j 0 ≤ 255
      rw [e]
      exact wf_u8' (hwz _ (List.getElem_mem hjz))
theorem fm_len {α : Type} (f : α → List Value) (m : Nat) (hm : ∀ x, (f x).length = m) : ∀ L : List α, (L.flatMap f).length = L.length * m
  | [] => by simp
  | a :: t => by
    rw [List.flatMap_cons, List.length_append, hm, fm_len f m hm t, List.length_cons, Nat.add_mul]
    omega
theorem fm_at {α : Type} (f : α → List Value) (m : Nat) (hm : ∀ x, (f x).length = m) {L : List α} {k : Nat} {x : α} (h : L[k]? = some x) (j : Nat) (hj : j < m) : (L.flatMap f)[k * m + j]? = (f x)[j]? := by
  have hk : k < L.length := (List.getElem?_eq_some_iff.1 h).1
  have e : L = L.take k ++ x :: L.drop (k + 1) := by
    have h2 : L[k] = x := by have := List.getElem?_eq_getElem hk; rw [this] at h; injection h
    conv => lhs; rw [← List.take_append_drop k L]
    rw [List.drop_eq_getElem_cons hk, h2]
  have hl : ((L.take k).flatMap f).length = k * m := by rw [fm_len f m hm, List.length_take, show min k L.length = k from by omega]
  rw [e, List.flatMap_append, List.getElem?_append_right (by rw [hl]; omega), hl, show k * m + j - k * m = j from by omega, List.flatMap_cons, List.getElem?_append_left (by rw [hm]; exact hj)]
/-- Structs of m cells at an address. -/
def RowG {α : Type} (f : α → List Value) (w : World) (A : Option Addr) (L : List α) : Prop := 0 < L.length → ∃ B O, A = some ⟨B, O, none⟩ ∧ B < w.heap.size ∧ ∀ j u, (L.flatMap f)[j]? = some u → w.cell? ⟨B, O + j, none⟩ = some u
theorem RowG.below {α : Type} {f : α → List Value} {w w' : World} {A : Option Addr} {L : List α} (h : RowG f w A L) (k : Below w.heap.size w w') : RowG f w' A L := by
  intro h0
  obtain ⟨B, O, rfl, hB, hc⟩ := h h0
  exact ⟨B, O, rfl, Nat.lt_of_lt_of_le hB k.size, fun j u hu => (k.cell (p := ⟨B, O + j, none⟩) hB).trans (hc j u hu)⟩
theorem weightsAll_memG {H : Type} {P : Program} {e : TypeId} : ∀ {ds : List (DataW H)} {d : DataW H}, d ∈ ds → ∀ n ∈ d.weights P e, n ∈ DataW.weightsAll P e ds
  | [], _, h, _, _ => by cases h
  | d' :: r, d, h, n, hn => by
    rw [DataW.weightsAll]
    rcases List.mem_cons.1 h with rfl | h
    · exact List.mem_append_left _ hn
    · exact List.mem_append_right _ (weightsAll_memG h n hn)
/-- A slice of structs, as it is trod: f tells a struct's cells, Q what is known of each, Z what the weights bound. -/
theorem rows_trod {H : Type} {enc : TypeId × Value → H} {w : World} {base : Nat} {sp : Nat → Bool} {t e : TypeId} {α : Type} (f : α → List Value) (m : Nat) (hm0 : 0 < m) (hm : ∀ x, (f x).length = m) (hu : Tryz.prog.underlying t = some (.slice e)) (he : Tryz.prog.cellsOf e = m) (Q : α → Prop) (Z : α → Nat → Prop) (dflt : α)
    (helem : ∀ (fuel : Nat) (cs : List Value) (x : DataW H × List MemPlace), cs.length = m → DataW.trod enc Tryz.prog w base sp true fuel e cs = some x → ∃ a : α, cs = f a ∧ Q a ∧ (∀ M, (∀ n ∈ x.1.weights Tryz.prog e, n ≤ M) → Z a M))
    {fuel : Nat} {cs : List Value} {x : DataW H × List MemPlace} (hf : DataW.trod enc Tryz.prog w base sp true fuel t cs = some x) :
    ∃ (L : List α) (A : Option Addr) (c : Nat), cs = [.slice A L.length c] ∧ L.length ≤ c ∧ c ≤ maxLen ∧ RowG f w A L ∧ (∀ a ∈ L, Q a) ∧ (A = none → L.length = 0) ∧ (∀ M, (∀ n ∈ x.1.weights Tryz.prog t, n ≤ M) → ∀ a ∈ L, Z a M) := by
  rcases Go.Deep.open_slice hu hf with ⟨hcs, _⟩ | ⟨a, len, cap, mm, k, D, Pl, hcs, _, hl, hmx, hmm, hx, hi⟩
  · exact ⟨[], none, 0, hcs, by simp, by unfold maxLen; omega, (fun h => absurd h (by simp)), fun m hm => (by cases hm), fun _ => rfl, fun M _ m hm => (by cases hm)⟩
  · rw [he] at hi
    have hlm : len ≤ mm := by rw [hmm]; split <;> omega
    have hex : ∀ i, ∃ b : α, i < len → (∀ j u, (f b)[j]? = some u → w.cell? ((a.add (i * m)).add j) = some u) ∧ Q b ∧ (∀ M, (∀ n ∈ (D i).weights Tryz.prog e, n ≤ M) → Z b M) := fun i => by
      by_cases hil : i < len
      · obtain ⟨cs', hc, ht⟩ := hi i (by omega)
        obtain ⟨_, hcl, hat⟩ := World.cells?_some hc
        obtain ⟨b, hb, hq, hz⟩ := helem _ _ _ hcl ht
        refine ⟨b, fun _ => ⟨fun j u hu => ?_, hq, hz⟩⟩
        have hj : j < m := by
          have := (List.getElem?_eq_some_iff.1 hu).1
          rwa [hm] at this
        rw [hat j hj, hb]
        exact hu
      · exact ⟨dflt, fun h => absurd h hil⟩
    have hF : ∃ F : Nat → α, ∀ i, i < len → (∀ j u, (f (F i))[j]? = some u → w.cell? ((a.add (i * m)).add j) = some u) ∧ Q (F i) ∧ (∀ M, (∀ n ∈ (D i).weights Tryz.prog e, n ≤ M) → Z (F i) M) := ⟨fun i => Classical.choose (hex i), fun i => Classical.choose_spec (hex i)⟩
    obtain ⟨F, hF⟩ := hF
    have hLl : ((List.range len).map F).length = len := by simp
    have hLa : ∀ i, i < len → ((List.range len).map F)[i]? = some (F i) := fun i hi => by simp [hi]
    refine ⟨(List.range len).map F, some a, cap, by rw [hLl]; exact hcs, by rw [hLl]; omega, by omega, fun h0 => ?_, fun b hb => ?_, (fun e => by cases e), fun M hM b hb => ?_⟩
    · rw [hLl] at h0
      obtain ⟨B, O, spot⟩ := a
      have h01 : (f (F 0))[0]? = some ((f (F 0))[0]'(by rw [hm]; exact hm0)) := List.getElem?_eq_getElem _
      have h00 := (hF 0 h0).1 0 _ h01
      have hspot : spot = none := by simpa [Addr.add] using World.cell?_spot h00
      subst hspot
      rw [add_plain, add_plain] at h00
      refine ⟨B, O, rfl, cell_lt' h00, fun j u hu => ?_⟩
      have hj : j < len * m := by
        have := (List.getElem?_eq_some_iff.1 hu).1
        rwa [fm_len f m hm, hLl] at this
      have hk : j / m < len := Nat.div_lt_of_lt_mul (by rw [Nat.mul_comm]; exact hj)
      have hr : j % m < m := Nat.mod_lt _ hm0
      have hej : j / m * m + j % m = j := by rw [Nat.mul_comm]; exact Nat.div_add_mod j m
      have h2 := fm_at f m hm (hLa (j / m) hk) (j % m) hr
      rw [hej] at h2
      rw [h2] at hu
      have h3 := (hF (j / m) hk).1 (j % m) u hu
      rw [add_plain, add_plain, Nat.add_assoc, hej] at h3
      exact h3
    · obtain ⟨i, hi', rfl⟩ := List.mem_map.1 hb
      exact (hF i (List.mem_range.1 hi')).2.1
    · obtain ⟨i, hi', rfl⟩ := List.mem_map.1 hb
      have hil := List.mem_range.1 hi'
      refine (hF i hil).2.2 M (fun n hn => hM n ?_)
      rw [hx]
      simp only [DataW.weights, hu]
      exact List.mem_cons_of_mem _ (List.mem_append_left _ (weightsAll_memG (List.mem_map.2 ⟨i, List.mem_range.2 hil, rfl⟩) n hn))
set_option maxRecDepth 100000 in
theorem open_rows {H : Type} {enc : TypeId × Value → H} {w : World} {r : Reach} {b0 base : Nat} {sp : Nat → Bool} {t e : TypeId} {v : Value} {d : DataW H} {p : List MemPlace} {α : Type} (f : α → List Value) (m : Nat) (hm0 : 0 < m) (hm : ∀ x, (f x).length = m) (hu : Tryz.prog.underlying t = some (.slice e)) (he : Tryz.prog.cellsOf e = m) (Q : α → Prop) (Z : α → Nat → Prop) (dflt : α)
    (helem : ∀ (fuel : Nat) (cs : List Value) (x : DataW H × List MemPlace), cs.length = m → DataW.trod enc Tryz.prog w base sp true fuel e cs = some x → ∃ a : α, cs = f a ∧ Q a ∧ (∀ M, (∀ n ∈ x.1.weights Tryz.prog e, n ≤ M) → Z a M))
    (hv : Value.okWide Tryz.prog w r b0 t v) (h : DataW.Trod enc Tryz.prog w base sp true t v d p) :
    ∃ (L : List α) (A : Option Addr) (c : Nat), v = .slice A L.length c ∧ L.length ≤ c ∧ c ≤ maxLen ∧ RowG f w A L ∧ (∀ a ∈ L, Q a) ∧ (A = none → L.length = 0) ∧ (∀ M, (∀ n ∈ d.weights Tryz.prog t, n ≤ M) → ∀ a ∈ L, Z a M) := by
  obtain ⟨a0, len, cap, rfl⟩ := okWide_slice hu hv
  obtain ⟨fuel, hf⟩ := h
  obtain ⟨L, A, c, hcs, h1, h2, h3, h4, h5, h6⟩ := rows_trod f m hm0 hm hu he Q Z dflt helem hf
  simp [Value.cells] at hcs
  obtain ⟨rfl, rfl, rfl⟩ := hcs
  exact ⟨L, _, _, rfl, h1, h2, h3, h4, h5, h6⟩
/-- An act. -/
structure At9 where
  kd : Int
  sv : Int
  tt : Int
  ah : Int
  tk : Int
  wy : Int
  A : Option Addr
  n : Nat
  c : Nat
  f : Nat → Int
def At9.cs (a : At9) : List Value := [.int .i64 a.kd, .int .i64 a.sv, .int .i64 a.tt, .int .i64 a.ah, .int .i64 a.tk, .int .i64 a.wy, .slice a.A a.n a.c]
theorem At9.len (a : At9) : a.cs.length = 7 := rfl
structure AtIn (w : World) (a : At9) : Prop where
  ah : I64 a.ah
  tk : I64 a.tk
  nc : a.n ≤ a.c
  by_ : BytesAt w a.A a.n a.f
  u8 : ∀ j, j < a.n → 0 ≤ a.f j ∧ a.f j ≤ 255
  nil : a.A = none → a.n = 0 ∧ a.c = 0
theorem wf_i64 {v : Int} (h : (Lit.int .i64 v).wf = true) : I64 v := by
  simp [Lit.wf, IntKind.min, IntKind.max, IntKind.signed, IntKind.bits] at h
  unfold I64
  omega
theorem act_cells9 : Tryz.prog.cellsOf 41 = 7 := by kernel_rfl
set_option maxRecDepth 100000 in
theorem act_trod9 {H : Type} {enc : TypeId × Value → H} {w : World} {base : Nat} {sp : Nat → Bool} (fuel : Nat) (cs : List Value) (x : DataW H × List MemPlace) (hl : cs.length = 7) (hf : DataW.trod enc Tryz.prog w base sp true fuel 41 cs = some x) :
    ∃ a : At9, cs = a.cs ∧ (AtIn w a ∧ a.c ≤ maxLen) ∧ (∀ M, (∀ n ∈ x.1.weights Tryz.prog 41, n ≤ M) → True) := by
  match cs, hl with
  | [c0, c1, c2, c3, c4, c5, c6], _ =>
    obtain ⟨xs, n, _, hx, _, hlen, hg⟩ := DataW.trod_struct Tryz.underlying41 hf
    have hlen' : xs.length = 7 := hlen
    have g0 := hg 0 _ rfl
    have g1 := hg 1 _ rfl
    have g2 := hg 2 _ rfl
    have g3 := hg 3 _ rfl
    have g4 := hg 4 _ rfl
    have g5 := hg 5 _ rfl
    have g6 := hg 6 _ rfl
    rw [List.getElem?_eq_getElem (by omega)] at g0 g1 g2 g3 g4 g5 g6
    have k0 : DataW.trod enc Tryz.prog w base sp true n 3 [c0] = some xs[0] := g0
    have k1 : DataW.trod enc Tryz.prog w base sp true n 3 [c1] = some xs[1] := g1
    have k2 : DataW.trod enc Tryz.prog w base sp true n 3 [c2] = some xs[2] := g2
    have k3 : DataW.trod enc Tryz.prog w base sp true n 3 [c3] = some xs[3] := g3
    have k4 : DataW.trod enc Tryz.prog w base sp true n 3 [c4] = some xs[4] := g4
    have k5 : DataW.trod enc Tryz.prog w base sp true n 3 [c5] = some xs[5] := g5
    have k6 : DataW.trod enc Tryz.prog w base sp true n 39 [c6] = some xs[6] := g6
    obtain ⟨a0, e0, _, w0⟩ := DataW.trod_int Tryz.underlying3 k0
    obtain ⟨a1, e1, _, w1⟩ := DataW.trod_int Tryz.underlying3 k1
    obtain ⟨a2, e2, _, w2⟩ := DataW.trod_int Tryz.underlying3 k2
    obtain ⟨a3, e3, _, w3⟩ := DataW.trod_int Tryz.underlying3 k3
    obtain ⟨a4, e4, _, w4⟩ := DataW.trod_int Tryz.underlying3 k4
    obtain ⟨a5, e5, _, w5⟩ := DataW.trod_int Tryz.underlying3 k5
    obtain ⟨A, m, c, f, e6, h1, h2, h3, h4, h5⟩ := open_bytes9 k6
    simp only [List.cons.injEq, and_true] at e0 e1 e2 e3 e4 e5 e6
    subst e0 e1 e2 e3 e4 e5 e6
    exact ⟨⟨a0, a1, a2, a3, a4, a5, A, m, c, f⟩, rfl, ⟨⟨wf_i64 w3, wf_i64 w4, h1, h3, h4, h5⟩, h2⟩, fun _ _ => trivial⟩
end Go.Proofs.YtepdnkpmkhjlgaaGreat

/- Stage 9: NtpPlays: of every table and script each answer, all samples, what the clock shows: for every table, servers, count and acts (written by gen/s9p.py). -/
namespace Go.Proofs.YtepdnkpmkhjlgaaGreat
open Go.ChangeShapes Go.WideShapes Go.ChangeAt Go.RowKit Go.Joins Go.Deep Go.Sort

/-- The cells of an act in a row. -/
theorem act_at {w : World} {B O : Nat} {L : List At9} (h : ∀ j u, (L.flatMap At9.cs)[j]? = some u → w.cell? ⟨B, O + j, none⟩ = some u) {k : Nat} {a : At9} (hk : L[k]? = some a) :
    w.cell? ⟨B, O + k * 7, none⟩ = some (.int .i64 a.kd) ∧ w.cell? ⟨B, O + k * 7 + 1, none⟩ = some (.int .i64 a.sv) ∧ w.cell? ⟨B, O + k * 7 + 2, none⟩ = some (.int .i64 a.tt) ∧ w.cell? ⟨B, O + k * 7 + 3, none⟩ = some (.int .i64 a.ah) ∧ w.cell? ⟨B, O + k * 7 + 4, none⟩ = some (.int .i64 a.tk) ∧ w.cell? ⟨B, O + k * 7 + 5, none⟩ = some (.int .i64 a.wy) ∧ w.cell? ⟨B, O + k * 7 + 6, none⟩ = some (.slice a.A a.n a.c) := by
  have g : ∀ j u, j < 7 → a.cs[j]? = some u → w.cell? ⟨B, O + k * 7 + j, none⟩ = some u := fun j u hj hu => by
    have := h (k * 7 + j) u (by rw [fm_at At9.cs 7 At9.len hk j hj]; exact hu)
    rwa [← Nat.add_assoc] at this
  exact ⟨g 0 _ (by omega) rfl, g 1 _ (by omega) rfl, g 2 _ (by omega) rfl, g 3 _ (by omega) rfl, g 4 _ (by omega) rfl, g 5 _ (by omega) rfl, g 6 _ (by omega) rfl⟩
/-- The law's heavy. -/
theorem law_heavy9 (A : Option Addr) (L : List At9) (c : Nat) (w : World) (hL : RowG At9.cs w A L) (hl : L.length ≤ c) (hc : c ≤ maxLen) (hb : ∀ a ∈ L, a.n ≤ a.c ∧ a.c ≤ maxLen) :
    Calls Tryz.prog 10 #[.slice A L.length c] w fun e w' => (∃ v : Bool, e = .returned (.bool v) ∧ (v = false → ∀ k a, k < 120 → L[k]? = some a → a.n ≤ 200)) ∧ w = w' := by
  unfold maxLen at hc hb
  have HL := Lib.hid hL
  have HB := Lib.hid hb
  clear hL hb
  go_enter Tryz.func10, Tryz.ntmps10
  go_wp2_with fail
  go_loopw [3] (fun i wr => ∃ k : Nat, k ≤ L.length ∧ k ≤ 120 ∧ i = .int .i64 (k : Int) ∧ wr = w ∧ (∀ j a, j < k → L[j]? = some a → a.n ≤ 200)) (fun i _ => (121 - intOf i).toNat)
  case atStart => exact ⟨0, by omega, by omega, by simp, by trivial, fun j a hj => absurd hj (by omega)⟩
  case round =>
    obtain ⟨k, hk, hk2, rfl, rfl, hall⟩ := hrel
    have HA := Lib.hid hall
    clear hall
    have wk : IntKind.i64.wrap ((k : Int) + 1) = (k : Int) + 1 := IntWalk.i64_in _ (by omega)
    by_cases h1 : k < L.length
    · have t1 : decide ((k : Int) < (L.length : Int)) = true := by simpa using h1
      have hki : (k : Int) < (L.length : Int) := by omega
      by_cases h2 : k < 120
      · have t2 : decide ((k : Int) < 120) = true := by simp; omega
        obtain ⟨B, O, rfl, hB, hcell⟩ := HL.out (by omega)
        obtain ⟨a, ha⟩ : ∃ a, L[k]? = some a := ⟨_, List.getElem?_eq_getElem h1⟩
        have y := (act_at hcell ha).2.2.2.2.2.2
        have hbn := HB.out a (List.mem_of_getElem? ha)
        have HAA := Lib.hid ha
        have HK := Lib.hid (And.intro h1 h2)
        obtain ⟨m, hm⟩ : ∃ m, a.n = m := ⟨_, rfl⟩
        have hml : m ≤ 9223372036854775807 := by omega
        rw [hm] at y
        have HM := Lib.hid hm
        clear hcell ha hm hbn h1 h2 hk hk2
        by_cases h3 : 200 < m
        · have t3 : decide ((m : Int) > 200) = true := by simp; omega
          have t4 : decide (200 < (m : Int)) = true := by simp; omega
          clear h3
          go_wp2_with fail
          go_ret
          exact ⟨⟨true, rfl, fun e => by cases e⟩, rfl⟩
        · have t3 : decide ((m : Int) > 200) = false := by simp; omega
          have t4 : decide (200 < (m : Int)) = false := by simp; omega
          have H3 := Lib.hid h3
          clear h3
          go_wp2_with fail
          go_roundw
          case rel => exact ⟨k + 1, by have := HK.out; omega, by have := HK.out; omega, by simp, by trivial, fun j a' hj ha' => by
            rcases (show j < k ∨ j = k from by omega) with q | q
            · exact HA.out j a' q ha'
            · subst q
              have e := HAA.out
              rw [ha'] at e
              injection e with e
              subst e
              have := HM.out
              have := H3.out
              omega⟩
          all_goals ((try simp only [intOf]); have := HK.out; omega)
      · have t2 : decide ((k : Int) < 120) = false := by simp; omega
        have H2 := Lib.hid h2
        clear h2 h1 hk hk2
        go_wp2_with fail
        go_ret
        exact ⟨⟨false, rfl, fun _ j a hj ha => HA.out j a (by have := H2.out; omega) ha⟩, rfl⟩
    · have t1 : decide ((k : Int) < (L.length : Int)) = false := by simp; omega
      have H1 := Lib.hid h1
      clear h1 hk hk2
      go_wp2_with fail
      go_ret
      refine ⟨⟨false, rfl, fun _ j a _ ha => HA.out j a ?_ ha⟩, rfl⟩
      have := (List.getElem?_eq_some_iff.1 ha).1
      have := H1.out
      omega
/-- Any act. -/
theorem law_does_any {w : World} {bp b bc bs : Nat} {A1 : Option Addr} {c1 : Nat} {rb rbc rbs : Nat} {A2 : Option Addr} {c2 : Nat} {ad : Addr} {n c : Nat} {x : Int} {z : Nat → Int} {N : Nat} {m0 m1 m2 : Nat} {K R : Cs} {cnt : Int} {asked when_ : Nat → Int} (h : Tw w bp b bc bs A1 c1 rb rbc rbs A2 c2 ad n c x z N m0 m1 m2 K R cnt asked when_) (hn : K.n < 1000000000) (hs : K.syn < 1000000000) (hN : N ≤ 8) (a : At9) (ha : AtIn w a) (h200 : a.n ≤ 200) (hold : 0 < a.n → ∀ q, a.A = some q → q.block < m0) :
    Calls Tryz.prog 13 #[.pointer (some ⟨bp, 0, none⟩), .agg #[.int .i64 a.kd, .int .i64 a.sv, .int .i64 a.tt, .int .i64 a.ah, .int .i64 a.tk, .int .i64 a.wy, .slice a.A a.n a.c]] w (DoesPost w bp b bc bs A1 c1 rb rbc rbs A2 c2 ad n c x z N m0 m1 m2 K) := by
  obtain ⟨kd, sv, tt, ah, tk, wy, A, m, cb, f⟩ := a
  by_cases k1 : kd = 1
  · subst k1
    by_cases hi : sv < 0 ∨ (N : Int) ≤ sv
    · exact law_does_k1n h hn hs hN sv tt ah tk wy A m cb hi
    · obtain ⟨i, rfl⟩ := Int.eq_ofNat_of_zero_le (show 0 ≤ sv by omega)
      exact law_does_k1 h hn hs hN tt ah tk wy A m cb i (by omega)
  by_cases k2 : kd = 2
  · subst k2
    exact law_does_k2 h hn hs hN sv tt ah tk wy A m cb ha.ah ha.tk
  by_cases k3 : kd = 3
  · subst k3
    exact law_does_k3 h hn hs hN sv tt ah tk wy A m cb f ha.by_ ha.u8 h200 ha.nc ha.nil hold
  · exact law_does_k4 h hn hs hN kd sv tt ah tk wy A m cb k1 k2 k3
theorem AtIn.but {w w' : World} {a : At9} {S : Nat → Prop} (h : AtIn w a) (k : But S w w') (hn : 0 < a.n → ∀ ad, a.A = some ad → ¬ S ad.block) : AtIn w' a := ⟨h.ah, h.tk, h.nc, h.by_.but k hn, h.u8, h.nil⟩
theorem AtIn.lt {w : World} {a : At9} (h : AtIn w a) : 0 < a.n → ∀ ad, a.A = some ad → ad.block < w.heap.size := fun h0 ad e => by
  obtain ⟨B, O, e2, h1, _⟩ := h.by_ h0
  rw [e] at e2
  injection e2 with e2
  subst e2
  exact h1
set_option maxRecDepth 100000 in
theorem plays_out (A : Option Addr) (n c : Nat) (x : Int) (z : Nat → Int) (sv count : Int) (LA : Option Addr) (L : List At9) (lc : Nat) (w : World) (hz : FlatAt w A 2 n z) (hn : n ≤ maxLen) (hL : RowG At9.cs w LA L) (hl : L.length ≤ lc) (hc : lc ≤ maxLen) (hb : ∀ a ∈ L, a.n ≤ a.c ∧ a.c ≤ maxLen) (h : 100 < n ∨ ¬ (IsTab z n x ∧ 1 ≤ sv ∧ sv ≤ 8 ∧ 0 ≤ count)) :
    Calls Tryz.prog 3 #[.agg #[.slice A n c, .int .i64 x], .int .i64 sv, .int .i64 count, .slice LA L.length lc] w fun e w' => e = .returned (.bool true) ∧ Below w.heap.size w w' := by
  have HB0 : Below w.heap.size w (w.alloc (.cells #[.slice A n c, .int .i64 x] 24)) := by (repeat' (first | (with_reducible exact Below.refl _ _) | (with_reducible assumption) | (with_reducible refine Below.trans ?_ (Below.mono (by with_reducible assumption) ?_)) | (with_reducible refine Below.alloc ?_ ?_ _) | (with_reducible refine Below.setCell ?_ ?_ _) | (with_reducible refine below_drewN ?_ _) | (with_reducible refine Below.drew ?_) | go_size))
  have HK := Lib.hid (fun W : World => known9 W)
  by_cases h1 : 100 < n
  · have t1 : decide ((n : Int) > 100) = true := by simp; omega
    have t2 : decide ((100 : Int) < (n : Int)) = true := by simp; omega
    have HB := Lib.hid HB0
    clear hz hL hb h h1 HB0
    unfold maxLen at hn hc
    go_enter Tryz.func3, Tryz.ntmps3
    go_wp2_with fail
    go_ret
    exact ⟨rfl, HB.out⟩
  · have hno : ¬ (IsTab z n x ∧ 1 ≤ sv ∧ sv ≤ 8 ∧ 0 ≤ count) := by
      rcases h with q | q
      · exact absurd q h1
      · exact q
    have t1 : decide ((n : Int) > 100) = false := by simp; omega
    have t2 : decide ((100 : Int) < (n : Int)) = false := by simp; omega
    have HHV := Lib.hid (fun (W : World) (k : Below w.heap.size w W) => law_heavy9 LA L lc W (hL.below k) hl hc hb)
    have HST := Lib.hid (fun (W : World) (k : Below w.heap.size w W) => law_start_no A n c x z sv count W (hz.below k) hn hno)
    have HB := Lib.hid HB0
    have q0 : (w.alloc (.cells #[.slice A n c, .int .i64 x] 24)).cell? ⟨w.heap.size, 0, none⟩ = some (.slice A n c) := by simp
    have q1 : (w.alloc (.cells #[.slice A n c, .int .i64 x] 24)).cell? ⟨w.heap.size, 1, none⟩ = some (.int .i64 x) := by simp
    clear hz hL hb h h1 hno HB0
    unfold maxLen at hn hc
    go_enter Tryz.func3, Tryz.ntmps3
    go_wp2_with fail
    refine (HHV.out _ HB.out).mono ?_; rintro e w' ⟨⟨v, rfl, _⟩, rfl⟩
    cases v
    · go_wp2_with fail
      refine (HST.out _ HB.out).mono ?_; rintro e w2 ⟨⟨bp, rfl, p2⟩, k2⟩
      have HB2 := Lib.hid (HB.out.trans (k2.mono HB.out.size))
      clear k2 HB HHV HST q0 q1
      go_wp2_with fail
      refine (HK.out _).mono ?_; rintro e w9 ⟨rfl, k9⟩
      have HB9 := Lib.hid (HB2.out.trans (k9.mono HB2.out.size))
      clear k9
      go_wp2_with fail
      go_ret
      exact ⟨rfl, HB9.out⟩
    · go_wp2_with fail
      go_ret
      exact ⟨rfl, HB.out⟩
set_option maxRecDepth 100000 in
set_option maxHeartbeats 16000000 in
theorem plays_in (A : Option Addr) (n c : Nat) (x : Int) (z : Nat → Int) (sv count : Int) (LA : Option Addr) (L : List At9) (lc : Nat) (w : World) (hz : FlatAt w A 2 n z) (hn : n ≤ maxLen) (hL : RowG At9.cs w LA L) (hl : L.length ≤ lc) (hc : lc ≤ maxLen) (hb : ∀ a ∈ L, a.n ≤ a.c ∧ a.c ≤ maxLen) (hin : ∀ a ∈ L, AtIn w a) (N : Nat) (hT : IsTab z n x) (h1 : 1 ≤ N) (h8 : N ≤ 8) (k0 : 0 ≤ count) (k1 : count ≤ 9223372036854775807) (hsv : sv = (N : Int)) :
    Calls Tryz.prog 3 #[.agg #[.slice A n c, .int .i64 x], .int .i64 sv, .int .i64 count, .slice LA L.length lc] w fun e w' => e = .returned (.bool true) ∧ Below w.heap.size w w' := by
  subst hsv
  have hn100 : n ≤ 100 := hT.2.1
  have hA : ∃ ad, A = some ad := by
    obtain ⟨B, O, e, _, _⟩ := hz (by have := hT.1; omega)
    exact ⟨_, e⟩
  obtain ⟨ad, rfl⟩ := hA
  have HB0 : Below w.heap.size w (w.alloc (.cells #[.slice (some ad) n c, .int .i64 x] 24)) := by (repeat' (first | (with_reducible exact Below.refl _ _) | (with_reducible assumption) | (with_reducible refine Below.trans ?_ (Below.mono (by with_reducible assumption) ?_)) | (with_reducible refine Below.alloc ?_ ?_ _) | (with_reducible refine Below.setCell ?_ ?_ _) | (with_reducible refine below_drewN ?_ _) | (with_reducible refine Below.drew ?_) | go_size))
  have HK := Lib.hid (fun W : World => known9 W)
  have t1 : decide ((n : Int) > 100) = false := by simp; omega
  have t2 : decide ((100 : Int) < (n : Int)) = false := by simp; omega
  have HHV := Lib.hid (fun (W : World) (k : Below w.heap.size w W) => law_heavy9 LA L lc W (hL.below k) hl hc hb)
  have HST := Lib.hid (fun (W : World) (k : Below w.heap.size w W) => law_start ad n c x z N count W (hz.below k) hT h1 h8 k0 k1)
  have HB := Lib.hid HB0
  have HL := Lib.hid hL
  have HIN := Lib.hid hin
  have q0 : (w.alloc (.cells #[.slice (some ad) n c, .int .i64 x] 24)).cell? ⟨w.heap.size, 0, none⟩ = some (.slice (some ad) n c) := by simp
  have q1 : (w.alloc (.cells #[.slice (some ad) n c, .int .i64 x] 24)).cell? ⟨w.heap.size, 1, none⟩ = some (.int .i64 x) := by simp
  clear hz hL hb hin HB0 hT
  unfold maxLen at hn hc
  go_enter Tryz.func3, Tryz.ntmps3
  go_wp2_with fail
  refine (HHV.out _ HB.out).mono ?_; rintro e w' ⟨⟨v, rfl, hv⟩, rfl⟩
  cases v
  · have HV := Lib.hid (hv rfl)
    clear hv
    go_wp2_with fail
    refine (HST.out _ HB.out).mono ?_; rintro e w2 ⟨⟨bp, b, bc, bs, A1, c1, rb, rbc, rbs, A2, c2, m1, m2, rfl, hpr, hm1, hm2⟩, k2⟩
    have HB2 := Lib.hid (HB.out.trans (k2.mono HB.out.size))
    obtain ⟨m0, hm0⟩ : ∃ m0, ((w.alloc (.cells #[.slice (some ad) n c, .int .i64 x] 24))).heap.size = m0 := ⟨_, rfl⟩
    rw [hm0] at hpr
    have hmw : w.heap.size ≤ m0 := by rw [← hm0]; exact HB.out.size
    have hTW : Tw w2 bp b bc bs A1 c1 rb rbc rbs A2 c2 ad n c x z N m0 m1 m2 (newK count) (newK count) count (fun _ => 0) (fun _ => 0) := ⟨hpr, Rl.new _ _, newK_ok count N k0 k1, newK_ok count N k0 k1, k0, k1, fun _ _ => by simp, fun _ _ => by simp⟩
    have HTW := Lib.hid hTW
    have p2 := hpr.q2
    clear k2 HB HHV HST q0 q1 hpr hm0 hTW hm1 hm2
    go_wp2_with fail
    go_loopw [11] (fun i wr => ∃ (k : Nat) (K R : Cs) (cnt : Int) (asked when_ : Nat → Int), k ≤ L.length ∧ k ≤ 120 ∧ i = .int .i64 (k : Int) ∧ Tw wr bp b bc bs A1 c1 rb rbc rbs A2 c2 ad n c x z N m0 m1 m2 K R cnt asked when_ ∧ K.n ≤ k ∧ K.syn ≤ k ∧ Below w.heap.size w wr) (fun i _ => (121 - intOf i).toNat)
    case atStart => exact ⟨0, newK count, newK count, count, fun _ => 0, fun _ => 0, by omega, by omega, by simp, HTW.out, by show (0 : Int) ≤ _; omega, by show (0 : Int) ≤ _; omega, HB2.out⟩
    case round =>
      obtain ⟨k, K, R, cnt, asked, when_, hk, hk2, rfl, htw, hkn, hks, hbr⟩ := hrel
      have HT := Lib.hid htw
      have HBR := Lib.hid hbr
      have HKN := Lib.hid (And.intro hkn hks)
      have wk : IntKind.i64.wrap ((k : Int) + 1) = (k : Int) + 1 := IntWalk.i64_in _ (by omega)
      clear htw hbr hkn hks HTW HB2 p2
      by_cases hk3 : k < L.length
      · have t3 : decide ((k : Int) < (L.length : Int)) = true := by simpa using hk3
        have hki : (k : Int) < (L.length : Int) := by omega
        by_cases hk4 : k < 120
        · have t4 : decide ((k : Int) < 120) = true := by simp; omega
          obtain ⟨B, O, rfl, hBs, hcell⟩ := HL.out (by omega)
          obtain ⟨a, ha⟩ : ∃ a, L[k]? = some a := ⟨_, List.getElem?_eq_getElem hk3⟩
          have hcell' : ∀ j u, (L.flatMap At9.cs)[j]? = some u → wr.cell? ⟨B, O + j, none⟩ = some u := fun j u hu => (HBR.out.cell (p := ⟨B, O + j, none⟩) hBs).trans (hcell j u hu)
          obtain ⟨y0, y1, y2, y3, y4, y5, y6⟩ := act_at hcell' ha
          have hin0 := HIN.out a (List.mem_of_getElem? ha)
          have hin1 := hin0.but (But.of_below (S := fun _ => False) HBR.out) (fun _ _ _ h => h)
          have HD := Lib.hid (law_does_any HT.out (by have := HKN.out; omega) (by have := HKN.out; omega) h8 a hin1 (HV.out k a hk4 ha) (fun h0 q e => Nat.lt_of_lt_of_le (hin0.lt h0 q e) hmw))
          obtain ⟨kd, sv, tt, ah, tk, wy, Ab, nb, cb, f⟩ := a
          have HK4 := Lib.hid (And.intro hk3 hk4)
          clear hcell hcell' ha hin0 hin1 hk hk2 hk3 hk4
          simp only at y0 y1 y2 y3 y4 y5 y6
          go_wp2_with fail
          refine HD.out.mono ?_; rintro e w3 ⟨rfl, ⟨K', R', cnt', asked', when', htw', hn', hs'⟩, hf⟩
          have HT2 := Lib.hid htw'
          have HB3 := Lib.hid (HBR.out.trans (hf.below (fun j hj => Nat.le_trans hmw hj.1) HBR.out.size))
          have HNS := Lib.hid (And.intro hn' hs')
          clear htw' hf hn' hs' HD HT HBR
          go_wp2_with fail
          refine (law_stood HT2.out h8).mono ?_; rintro e w4 ⟨rfl, k4⟩
          have HB4 := Lib.hid (HB3.out.trans (k4.mono HB3.out.size))
          have HT4 : Hid (Tw w4 bp b bc bs A1 c1 rb rbc rbs A2 c2 ad n c x z N m0 m1 m2 K' R' cnt' asked' when') := Lib.hid ⟨HT2.out.p.below k4, HT2.out.r, HT2.out.ko, HT2.out.ro, HT2.out.k0, HT2.out.k1, HT2.out.qa, HT2.out.qw⟩
          clear k4
          go_wp2_with fail
          go_roundw
          case rel => exact ⟨k + 1, K', R', cnt', asked', when', by have := HK4.out; omega, by have := HK4.out; omega, by simp, HT4.out, by have := HNS.out; have := HKN.out; omega, by have := HNS.out; have := HKN.out; omega, HB4.out⟩
          all_goals ((try simp only [intOf]); have := HK4.out; omega)
        · have t4 : decide ((k : Int) < 120) = false := by simp; omega
          clear hk4 hk3 hk hk2
          go_wp2_with fail
          refine (HK.out _).mono ?_; rintro e w9 ⟨rfl, k9⟩
          have HB9 := Lib.hid (HBR.out.trans (k9.mono HBR.out.size))
          clear k9
          go_wp2_with fail
          go_ret
          exact ⟨rfl, HB9.out⟩
      · have t3 : decide ((k : Int) < (L.length : Int)) = false := by simp; omega
        clear hk hk2
        go_wp2_with fail
        refine (HK.out _).mono ?_; rintro e w9 ⟨rfl, k9⟩
        have HB9 := Lib.hid (HBR.out.trans (k9.mono HBR.out.size))
        clear k9
        go_wp2_with fail
        go_ret
        exact ⟨rfl, HB9.out⟩
  · go_wp2_with fail
    go_ret
    exact ⟨rfl, HB.out⟩
set_option maxRecDepth 100000 in
theorem ntpPlays_lifted (os : Os) (started : os.Started) (H : Type) (enc : TypeId × Value → H) :
    ReturnsInHanded {} Tryz.checked os 3 .any (Rows.ntpPlaysSpec.pre6 enc Tryz.prog Tryz.f3 Rows.ntpPlaysRow.domain false) (Rows.ntpPlaysSpec.post enc Tryz.prog Tryz.f3 false true false false) := by
  refine returnsInHanded_of_change_sized (C := Tryz.checked) law_own started (by kernel_rfl) Tryz.func3
    (ChangeSpec.witness6 (enc := enc) (C := Tryz.checked) false ⟨#[], #[.agg #[.slice none 0 0, .int .i64 0], .int .i64 0, .int .i64 0, .slice none 0 0], []⟩ 8 (by kernel_rfl) (by kernel_rfl) (by kernel_rfl) (by kernel_rfl)) ?_
  intro W base args ds gs before hval0 hW hcnd hsz0 _
  have hval : ∀ (j : Nat) t v, Tryz.f3.params[j]? = some t → args[j]? = some v → Value.okWide Tryz.prog W .any base t v := hval0
  have hsz : (DataW.weightsEach Tryz.prog (Tryz.f3.params.toList ++ Rows.ntpPlaysSpec.plain.varTypes Tryz.prog) (ds ++ gs)).all (· ≤ reachBytes) = true := hsz0
  have hW' := hW
  obtain ⟨p, q, hA0, hV, rfl, hfz, hnd⟩ := hW
  have hA : DataW.TrodAll enc Tryz.prog W 0 (fun _ => true) true Tryz.f3.params.toList args.toList ds p := hA0
  rw [Tryz.params3] at hA hval hsz
  have hsame : (Rows.ntpPlaysSpec.fn H (ds ++ gs)).results = [.lit (.bool true)] ∧ (Rows.ntpPlaysSpec.fn H (ds ++ gs)).args = ds ∧ (Rows.ntpPlaysSpec.fn H (ds ++ gs)).vars = [] → ∀ W', Below W.heap.size W W' → Rows.ntpPlaysSpec.post enc Tryz.prog Tryz.f3 false true false false W args (.bool true) W' :=
    fun h W' hb => law_post (tb := 4) hW' law_laid (by kernel_rfl) rfl Tryz.underlying4 h.1 h.2.1 rfl h.2.2 hb
  obtain ⟨v0, vs0, d0, ds0, p0, q0, hargs, rfl, rfl, h0, r0⟩ := trodAll_cons hA
  obtain ⟨v1, vs1, d1, ds1, p1, q1, rfl, rfl, rfl, h1, r1⟩ := trodAll_cons r0
  obtain ⟨v2, vs2, d2, ds2, p2, q2, rfl, rfl, rfl, h2, r2⟩ := trodAll_cons r1
  obtain ⟨v3, vs3, d3, ds3, p3, q3, rfl, rfl, rfl, h3, r3⟩ := trodAll_cons r2
  obtain ⟨rfl, rfl, rfl⟩ := trodAll_nil r3
  obtain rfl : args = #[v0, v1, v2, v3] := by cases args; simp_all
  obtain ⟨rfl, rfl⟩ := trodVars_none hV
  have hpost := hsame ⟨rfl, rfl, rfl⟩
  clear hsame hA0 hval0 hsz0
  obtain ⟨A, n, c, z, x, rfl, hn, hz, wx⟩ := open_table (hval 0 24 v0 rfl rfl) h0
  obtain ⟨a1, rfl, rfl, rfl, wf1⟩ := open_int Tryz.underlying3 (hval 1 3 v1 rfl rfl) h1
  obtain ⟨a2, rfl, rfl, rfl, wf2⟩ := open_int Tryz.underlying3 (hval 2 3 v2 rfl rfl) h2
  obtain ⟨L, LA, lc, rfl, s1, s2, s3, s4, s5, s6⟩ := open_rows At9.cs 7 (by omega) At9.len Tryz.underlying25 act_cells9 (fun a => AtIn W a ∧ a.c ≤ maxLen) (fun _ _ => True) ⟨0, 0, 0, 0, 0, 0, none, 0, 0, fun _ => 0⟩ act_trod9 (hval 3 25 v3 rfl rfl) h3
  have hw : Calls Tryz.prog 3 #[.agg #[.slice A n c, .int .i64 x], .int .i64 a1, .int .i64 a2, .slice LA L.length lc] W fun e w' => e = .returned (.bool true) ∧ Below W.heap.size W w' := by
    have hb : ∀ a ∈ L, a.n ≤ a.c ∧ a.c ≤ maxLen := fun a ha => ⟨(s4 a ha).1.nc, (s4 a ha).2⟩
    have w2 := wf_i64 wf2
    by_cases h : IsTab z n x ∧ 1 ≤ a1 ∧ a1 ≤ 8 ∧ 0 ≤ a2
    · obtain ⟨N, hN⟩ := Int.eq_ofNat_of_zero_le (show 0 ≤ a1 by omega)
      exact plays_in A n c x z a1 a2 LA L lc W hz hn s3 s1 s2 hb (fun a ha => (s4 a ha).1) N h.1 (by omega) (by omega) h.2.2.2 w2.2 hN
    · exact plays_out A n c x z a1 a2 LA L lc W hz hn s3 s1 s2 hb (.inr h)
  exact (hw).mono fun e W' ⟨he, hb⟩ => ⟨_, he, hpost W' hb⟩
theorem ntpPlays_holds : Rows.NtpPlaysSaid :=
  OpenClaim.holds_of_wide 3 Tryz.f3 rfl rfl rfl rfl rfl rfl rfl ⟨rfl, rfl, rfl, rfl, rfl⟩ rfl rfl rfl rfl rfl (by kernel_rfl) Tryz.func3 (by kernel_rfl)
    (of_decide_eq_true (by kernel_rfl)) (by unfold Func.isWrapper; first | (rw [if_pos (by decide +kernel)]; kernel_rfl) | (rw [if_neg (by decide +kernel)]; exact ⟨rfl, rfl⟩))
    (fun os started H enc _ => ntpPlays_lifted os started H enc)
end Go.Proofs.YtepdnkpmkhjlgaaGreat

