/- Stage 16: Append of the first entry over an empty disk (written by gen/ap16.py). -/
import Derived.Test.YtpflbhcgkndpcaaGreatDoorG16e
set_option linter.unusedSimpArgs false
set_option linter.unusedVariables false
namespace Go.Proofs.YtpflbhcgkndpcaaGreatDoor
open Go.RowKit

theorem append_idle (p q r : Addr) (w : World) : CallsD Tryz.prog 103 #[.pointer (some p), .pointer (some q), .pointer (some r)] .returning w fun e u' w' => e = .returned (.tuple #[]) ∧ u' = .returning ∧ w' = w := by
  refine callsD_of_wpS Tryz.func103 rfl fun c₀ cs hu => ?_
  apply wpS_seq
  apply wpS_region
  simp [wpOpsS, go_sem, recoverD, hu, Tryz.ntmps103, Exit.thenS]
  apply wpS_seq
  apply wpS_region
  simp [wpOpsS, go_sem, recoverD, hu, Exit.thenS]
  refine wpS_cond (t := false) (by simp [Act.eval, Array.replicate]) ?_
  simp only [Bool.false_eq_true, if_false]
  refine wpS_of_wp (wp_skip ?_)
  cases c₀
  simp_all [bodyPostS, results, Tryz.results103]
/-- The frame of Append: the log, what is told, the error. -/
structure Aq (l d r2 r4 r5 : Nat) (v2 v3 : Value) (w : World) : Prop where
  b2 : Bk w r2 [ptr l]
  b4 : Bk w r4 [.int .i64 0]
  b5 : Bk w r5 [.int .i64 0]
  bl : Bk w l [ptr d, .string ⟨#[109, 48, 46]⟩, v2, v3, .int .i64 0, .bool false]
theorem Aq.below {l d r2 r4 r5 : Nat} {v2 v3 : Value} {w w' : World} (h : Aq l d r2 r4 r5 v2 v3 w) (k : Below w.heap.size w w') : Aq l d r2 r4 r5 v2 v3 w' := ⟨h.b2.below k, h.b4.below k, h.b5.below k, h.bl.below k⟩
theorem Aq.but {S : Nat → Prop} {l d r2 r4 r5 : Nat} {v2 v3 : Value} {w w' : World} (h : Aq l d r2 r4 r5 v2 v3 w) (k : But S w w') (h1 : ¬ S r2) (h2 : ¬ S r4) (h3 : ¬ S r5) (h4 : ¬ S l) : Aq l d r2 r4 r5 v2 v3 w' := ⟨h.b2.but k h1, h.b4.but k h2, h.b5.but k h3, h.bl.but k h4⟩
theorem Aq.set5 {l d r2 r4 r5 : Nat} {v2 v3 : Value} {w : World} (h : Aq l d r2 r4 r5 v2 v3 w) (h1 : r5 ≠ r2) (h2 : r5 ≠ r4) (h3 : r5 ≠ l) : Aq l d r2 r4 r5 v2 v3 (w.setCell ⟨r5, 0, none⟩ (.int .i64 0)) := ⟨h.b2.other h1 _, h.b4.other h2 _, h.b5.set 0 (by simp) _, h.bl.other h3 _⟩
/-- A disk with one file. -/
structure Dq (d fr cap f n : Nat) (A : Option Addr) (c : Nat) (w : World) : Prop where
  dk : Bk w d (dk1 fr cap n)
  fr : Bk1 w fr (ptr f)
  fl : Bk w f [.string nm1, .slice A n c, .int .i64 0]
theorem Dq.but {S : Nat → Prop} {d fr cap f n : Nat} {A : Option Addr} {c : Nat} {w w' : World} (h : Dq d fr cap f n A c w) (k : But S w w') (h1 : ¬ S d) (h2 : ¬ S fr) (h3 : ¬ S f) : Dq d fr cap f n A c w' := ⟨h.dk.but k h1, h.fr.but k h2, h.fl.but k h3⟩
theorem Dq.below {d fr cap f n : Nat} {A : Option Addr} {c : Nat} {w w' : World} (h : Dq d fr cap f n A c w) (k : Below w.heap.size w w') : Dq d fr cap f n A c w' := ⟨h.dk.below k, h.fr.below k, h.fl.below k⟩
theorem bk2_own {w : World} {base g c : Nat} {e : TypeId} {u v : Value} (h : w.ownsRow base e 2 (.slice (some ⟨g, 0, none⟩) (0 + 1) c) (0 + 1) ([] ++ [u, v])) : Bk w g [u, v] := by
  refine ⟨fun j x hx => ?_, fun o => ?_, (World.ownsRow.lt h g rfl).2⟩
  · have := World.ownsRow.cells h (g := g) rfl j x hx
    rw [Addr.add_mid, Nat.zero_add] at this
    exact this
  · rcases h.2 with ⟨q, _⟩ | ⟨g', cap, cur, q, hb, hh, h1, h2, h3, h4⟩
    · cases q
    · injection q with q1 q2 q3
      injection q1 with q1
      injection q1 with q1
      subst q1
      simp [World.frozen?, hh]
theorem seg_info : (Tryz.prog.info? 165).map (fun i => (i.zero, i.size, i.bytes)) = some (some (.agg #[.string ⟨#[]⟩, .int .i64 0]), 2, 24) := by kernel_rfl
theorem row8_info : (Tryz.prog.info? 42).map (fun i => (i.zero, i.size, i.bytes)) = some (some (.slice none 0 0), 1, 24) := by kernel_rfl
set_option maxRecDepth 100000 in
set_option maxHeartbeats 16000000 in
theorem append_first (l d : Nat) (A : Option Addr) (p : List Int) (c : Nat) (w : World) (ht : Nib w) (hl : Bk w l (lgE d)) (hd : Bk w d (dkE 1048576)) (hp : ByL w A p) (hb : isBy p) (hp0 : 0 < p.length) (hpl : p.length ≤ 262134) (hld : l ≠ d) (hbd : ∀ ad, A = some ad → ad.block ≠ l ∧ ad.block ≠ d) : Calls Tryz.prog 59 #[.pointer (some ⟨l, 0, none⟩), .slice A p.length c] w fun e w' => (∃ sg c1 en c2 fr cap f A' c' n, e = .returned (.tuple #[.int .i64 1, .int .i64 0]) ∧ Bk w' l [ptr d, .string ⟨#[109, 48, 46]⟩, .slice (some ⟨sg, 0, none⟩) 1 c1, .slice (some ⟨en, 0, none⟩) 1 c2, .int .i64 0, .bool false] ∧ w'.cell? ⟨sg, 0, none⟩ = some (.string nm1) ∧ Bk w' d (dk1 fr cap n) ∧ Bk1 w' fr (ptr f) ∧ Bk w' f [.string nm1, .slice A' n c', .int .i64 0] ∧ w.heap.size ≤ f ∧ f < fr ∧ w.heap.size ≤ sg ∧ sg < w'.heap.size ∧ fr < sg) ∧ But (fun i => i = l ∨ i = d) w w' := by
  obtain ⟨i0, hi0, hz0, hz1, hz2⟩ := info_parts seg_info
  obtain ⟨i1, hi1, hy0, hy1, hy2⟩ := info_parts row8_info
  have hmf : ∀ (fn : Fn) (first cap : Array Value) (w : World), (Instr.makeFunc fn first cap).run Tryz.prog w = .ok (.func fn first cap) w := fun _ _ _ _ => rfl
  have HNIB := Lib.hid ht
  have HLD := Lib.hid hld
  have HBD := Lib.hid hbd
  have HPL := Lib.hid (And.intro hp0 hpl)
  have HBY := Lib.hid hb
  have HPW := Lib.hid hp
  have HLW := Lib.hid hl
  have HDW := Lib.hid hd
  clear ht hl hd hp hb hp0 hpl hld hbd
  go_enter_defers Tryz.func59, Tryz.ntmps59
  go_upto_region 1 with fail
  obtain ⟨V0, hV⟩ : ∃ V, (((w.alloc (.cells #[.pointer (some ⟨l, 0, none⟩)] 86)).alloc (.cells #[.int .i64 0] 3)).alloc (.cells #[.int .i64 0] 47)) = V := ⟨_, rfl⟩
  have k1 : Below w.heap.size w V0 := by rw [← hV]; exact (((Below.refl _ _).alloc (Nat.le_refl _) _).alloc (by simp) _).alloc (by simp; omega) _
  have b2 : Bk V0 w.heap.size [ptr l] := by
    rw [← hV]
    exact ((Bk.new w #[ptr l] 86).below ((Below.refl _ _).alloc (Nat.le_refl _) _)).below ((Below.refl _ _).alloc (Nat.le_refl _) _)
  have b4 : Bk V0 (w.heap.size + 1) [.int .i64 0] := by
    rw [← hV]
    have := (Bk.new (w.alloc (.cells #[.pointer (some ⟨l, 0, none⟩)] 86)) #[.int .i64 0] 3).below ((Below.refl _ _).alloc (Nat.le_refl _) (.cells #[.int .i64 0] 47))
    rw [World.size_alloc] at this
    exact this
  have b5 : Bk V0 (w.heap.size + 1 + 1) [.int .i64 0] := by
    rw [← hV]
    have := Bk.new ((w.alloc (.cells #[.pointer (some ⟨l, 0, none⟩)] 86)).alloc (.cells #[.int .i64 0] 3)) #[.int .i64 0] 47
    rw [World.size_alloc, World.size_alloc] at this
    exact this
  rw [hV]
  clear hV
  have HQ0 := Lib.hid (Aq.mk b2 b4 b5 (HLW.out.below k1))
  have HD0 := Lib.hid (HDW.out.below k1)
  have HP0 := Lib.hid (HPW.out.below k1)
  have HT0 := Lib.hid (HNIB.out.below k1)
  have HU0 := Lib.hid (But.of_below (S := fun i => i = l ∨ i = d) k1)
  have HN : Hid (l < w.heap.size ∧ d < w.heap.size ∧ l ≠ d) := Lib.hid ⟨HLW.out.lt, HDW.out.lt, HLD.out⟩
  clear k1 b2 b4 b5 HLW HDW HNIB HLD
  generalize hr2 : w.heap.size = r2 at *
  generalize hr4 : r2 + 1 = r4 at *
  generalize hr5 : r4 + 1 = r5 at *
  have HR : Hid (w.heap.size = r2 ∧ r2 < r4 ∧ r4 < r5) := Lib.hid ⟨hr2, by omega, by omega⟩
  clear hr2 hr4 hr5
  have c2 := HQ0.out.b2.block (i := 0) rfl
  have l5 := HQ0.out.bl.block (i := 5) rfl
  have l3 := HQ0.out.bl.block (i := 3) rfl
  unfold ptr at c2
  have t1 : decide ((262134 : Int) < (p.length : Int)) = false := by have := HPL.out; simp; omega
  go_upto_region 9 with fail
  clear c2 l5 l3 t1
  refine wp_region_lit ?_
  refine wpList_plain rfl (fun KK hKK => ?_)
  go_simp
  refine hKK _ _ ?_
  refine wpList_plain rfl (fun KK hKK => ?_)
  go_simp
  (go_at_call 105; refine (number_1 V0).mono ?_; rintro e1 V1 ⟨⟨g1, cap1, rfl, ho1⟩, k⟩)
  obtain ⟨A1, c1, e1, hby1, _⟩ := Own8.bytes ho1
  have eA : A1 = some ⟨g1, 0, none⟩ := by injection e1 with q _ _; exact q.symm
  subst eA
  have HG1 := Lib.hid hby1
  clear ho1 hby1 e1
  have HQ1 := Lib.hid (HQ0.out.below k)
  have HD1 := Lib.hid (HD0.out.below k)
  have HP1 := Lib.hid (HP0.out.below k)
  have HT1 := Lib.hid (HT0.out.below k)
  have HU1 := Lib.hid (HU0.out.next k)
  clear k HQ0 HD0 HP0 HT0 HU0
  refine hKK _ _ ?_
  refine wpList_plain rfl (fun KK hKK => ?_)
  go_simp
  refine hKK _ _ ?_
  refine wpList_plain rfl (fun KK hKK => ?_)
  go_simp
  refine hKK _ _ ?_
  obtain ⟨V2, hV⟩ : ∃ V, V1.alloc (.cells #[.slice (some ⟨g1, 0, none⟩) ([1] : List Int).length cap1, .slice A p.length c] 42) = V := ⟨_, rfl⟩
  have k : Below V1.heap.size V1 V2 := by rw [← hV]; exact (Below.refl _ _).alloc (Nat.le_refl _) _
  have br : Bk V2 V1.heap.size [.slice (some ⟨g1, 0, none⟩) ([1] : List Int).length cap1, .slice A p.length c] := by rw [← hV]; exact Bk.new V1 #[.slice (some ⟨g1, 0, none⟩) ([1] : List Int).length cap1, .slice A p.length c] 42
  (first | rw [hV] | (rw [show V1.alloc (.cells #[.slice (some ⟨g1, 0, none⟩) 1 cap1, .slice A p.length c] 42) = V2 from hV]))
  clear hV
  have HE2 := Lib.hid (HG1.out.below k)
  have HBR := Lib.hid br
  clear br HG1
  have HQ2 := Lib.hid (HQ1.out.below k)
  have HD2 := Lib.hid (HD1.out.below k)
  have HP2 := Lib.hid (HP1.out.below k)
  have HT2 := Lib.hid (HT1.out.below k)
  have HU2 := Lib.hid (HU1.out.next k)
  clear k HQ1 HD1 HP1 HT1 HU1
  refine wpList_plain rfl (fun KK hKK => ?_)
  go_simp
  (go_at_call 104; refine (fr_encode2 V1.heap.size 2 cap1 c (1 + p.length) (some ⟨g1, 0, none⟩) A [1] p V2 HT2.out HBR.out.lt (HBR.out.block (i := 0) rfl) (HBR.out.block (i := 1) rfl) HE2.out (fun b hb => by rw [List.mem_singleton.1 hb]; omega) (by simp) HP2.out HBY.out HPL.out.1 rfl (by have := HPL.out; omega)).mono ?_; rintro e2 V3 ⟨⟨g2, cap2, rfl, hrow⟩, k⟩)
  obtain ⟨bs, hbs⟩ : ∃ bs, frE ([1] ++ p) = bs := ⟨_, rfl⟩
  rw [hbs] at hrow
  clear hbs
  rw [show 12 + (1 + p.length) = bs.length from hrow.len.symm]
  have HLB : Hid (0 < bs.length ∧ bs.length ≤ 1000000) := Lib.hid (by have := hrow.len; have := HPL.out; omega)
  have HB3 := Lib.hid hrow.by_
  have HGE : Hid (V2.heap.size ≤ g2) := Lib.hid hrow.ge.1
  have HR5L : Hid (r5 < V2.heap.size) := Lib.hid HQ2.out.b5.lt
  have HV2 : Hid (w.heap.size ≤ V2.heap.size) := Lib.hid HU2.out.size
  clear hrow HE2 HBR
  have HQ3 := Lib.hid (HQ2.out.below k)
  have HD3 := Lib.hid (HD2.out.below k)
  have HP3 := Lib.hid (HP2.out.below k)
  have HU3 := Lib.hid (HU2.out.next k)
  clear k HQ2 HD2 HP2 HU2
  clear HT2
  refine hKK _ _ ?_
  refine wpList_plain rfl (fun KK hKK => ?_)
  go_simp
  refine hKK _ _ ?_
  refine wpList_plain rfl (fun KK hKK => ?_)
  go_simp
  refine hKK _ _ ?_
  refine wpList_plain rfl (fun KK hKK => ?_)
  go_simp
  refine hKK _ _ ?_
  refine wpList_plain rfl (fun KK hKK => ?_)
  go_simp
  refine hKK _ _ ?_
  have c5 := HQ3.out.b5.block (i := 0) rfl
  have f5 := HQ3.out.b5.fz 0
  refine wpList_plain rfl (fun KK hKK => ?_)
  go_simp
  refine hKK _ _ ?_
  clear c5 f5
  refine wpList_nil ?_
  obtain ⟨V4, hV⟩ : ∃ V, V3.setCell ⟨r5, 0, none⟩ (.int .i64 0) = V := ⟨_, rfl⟩
  have HQ4 : Hid (Aq l d r2 r4 r5 (.slice none 0 0) (.slice none 0 0) V4) := Lib.hid (by rw [← hV]; exact HQ3.out.set5 (by have := HR.out; omega) (by have := HR.out; omega) (by have := HR.out; have := HN.out; omega))
  have k : But (fun i => i = r5) V3 V4 := by rw [← hV]; exact (But.refl (fun i => i = r5) V3).setCell (p := ⟨r5, 0, none⟩) (fun _ => rfl) _
  rw [hV]
  clear hV
  have HD4 := Lib.hid (HD3.out.but k (by have := HR.out; have := HN.out; omega))
  have HB4 := Lib.hid (HB3.out.off16 k (fun ad e => by injection e with e; subst e; have := HGE.out; have := HQ3.out.b5.lt; have := HR5L.out; show ¬ g2 = r5; omega))
  have HU4 := Lib.hid (HU3.out.trans k (fun i hi e => by have := HR.out; omega))
  clear k HQ3 HD3 HP3 HB3 HU3
  have c5 := HQ4.out.b5.block (i := 0) rfl
  go_upto_region 11 with (go_at_call 84; refine (gate_ok _).mono ?_; rintro e3 V5 ⟨rfl, rfl⟩)
  clear c5
  refine wp_region_held_drew (S := fun w' => w'.cell? ⟨r2, 0, none⟩ = some (.pointer (some ⟨l, 0, none⟩))) (by kernel_rfl) ?_ (fun hHeld => ?_)
  · exact HQ4.out.b2.block (i := 0) rfl
  have k : Below V5.heap.size V5 V5.drew := (Below.refl _ _).drew
  obtain ⟨V6, hV6⟩ : ∃ V, V5.drew = V := ⟨_, rfl⟩
  rw [hV6] at k hHeld ⊢
  clear hV6
  have HQ6 := Lib.hid (HQ4.out.below k)
  have HD6 := Lib.hid (HD4.out.below k)
  have HB6 := Lib.hid (HB4.out.below k)
  have HU6 := Lib.hid (HU4.out.next k)
  clear k HQ4 HD4 HB4 HU4
  refine tk9 0 (hQ := by exact fun c x w h => hQ2 Tryz.results59 (by decide) (by decide) _ c x w h) ?_
  refine tk9 1 (hQ := by exact fun c x w h => hQ2 Tryz.results59 (by decide) (by decide) _ c x w h) ?_
  refine tk9 3 (hQ := by exact fun c x w h => hQ2 Tryz.results59 (by decide) (by decide) _ c x w h) ?_
  refine wpAnyH_ready (rs := [2]) (by kernel_rfl) (by simp) ?_
  refine AllReadyH.cons rfl (fun K hK => ?_) (AllReadyH.nil)
  go_simp
  (go_at_call 106; refine (wname_1 l _ _ _ _ _ V6 HQ6.out.bl).mono ?_; rintro e4 V7 ⟨rfl, k⟩)
  have HQ7 := Lib.hid (HQ6.out.below k)
  have HD7 := Lib.hid (HD6.out.below k)
  have HB7 := Lib.hid (HB6.out.below k)
  have HU7 := Lib.hid (HU6.out.next k)
  clear k HQ6 HD6 HB6 HU6
  (try dsimp only)
  refine hK.out _ _ ?_ (fun hHeld => ?_)
  · exact HQ7.out.b2.block (i := 0) rfl
  clear hK K
  (try simp only [Act.put, List.setIfInBounds_toArray, List.set_cons_zero, List.set_cons_succ, List.getElem_toArray, List.getElem_cons_succ, List.getElem_cons_zero])
  refine wpAnyH_ready (rs := [4]) (by kernel_rfl) (by simp) ?_
  refine AllReadyH.cons rfl (fun K hK => ?_) (AllReadyH.nil)
  go_simp
  (go_at_call 107; refine (last_none l _ _ _ _ _ V7 HQ7.out.bl).mono ?_; rintro e5 V8 ⟨rfl, rfl⟩)
  (try dsimp only)
  refine hK.out _ _ ?_ (fun hHeld => ?_)
  · exact HQ7.out.b2.block (i := 0) rfl
  clear hK K
  (try simp only [Act.put, List.setIfInBounds_toArray, List.set_cons_zero, List.set_cons_succ, List.getElem_toArray, List.getElem_cons_succ, List.getElem_cons_zero])
  refine tk9 5 (hQ := by exact fun c x w h => hQ2 Tryz.results59 (by decide) (by decide) _ c x w h) ?_
  refine tk9 6 (hQ := by exact fun c x w h => hQ2 Tryz.results59 (by decide) (by decide) _ c x w h) ?_
  refine wpAnyH_done (by kernel_rfl) ?_ _
  clear hHeld
  have c2 := HQ7.out.b2.block (i := 0) rfl
  unfold ptr at c2
  go_upto_region 16 with (go_at_call 108; refine (sync_not l _ _ _ _ V8 HQ7.out.bl).mono ?_; rintro e6 V9 ⟨rfl, k⟩)
  clear c2
  have k8 := k
  have HQ9 := Lib.hid (HQ7.out.below k)
  have HD9 := Lib.hid (HD7.out.below k)
  have HB9 := Lib.hid (HB7.out.below k)
  have HU9 := Lib.hid (HU7.out.next k)
  clear k k8 HQ7 HD7 HB7 HU7
  refine wp_region_lit ?_
  have c2 := HQ9.out.b2.block (i := 0) rfl
  have l0 := HQ9.out.bl.block (i := 0) rfl
  unfold ptr at c2 l0
  refine wpList_plain rfl (fun KK hKK => ?_)
  go_simp
  refine hKK _ _ ?_
  refine wpList_plain rfl (fun KK hKK => ?_)
  go_simp
  refine hKK _ _ ?_
  refine wpList_plain rfl (fun KK hKK => ?_)
  go_simp
  refine hKK _ _ ?_
  refine wpList_plain rfl (fun KK hKK => ?_)
  go_simp
  refine hKK _ _ ?_
  refine wpList_plain rfl (fun KK hKK => ?_)
  go_simp
  refine hKK _ _ ?_
  refine wpList_plain rfl (fun KK hKK => ?_)
  go_simp
  refine hKK _ _ ?_
  clear c2 l0
  refine wpList_plain rfl (fun KK hKK => ?_)
  go_simp
  (go_at_call 109; refine (write_first d nm1 (some ⟨g2, 0, none⟩) bs cap2 V9 HD9.out (by decide) (by decide) HB9.out HLB.out.1 HLB.out.2 (fun ad e => by injection e with e; subst e; have := HGE.out; have := HV2.out; have := HN.out; have := HR.out; show ¬ g2 = d; omega)).mono ?_; rintro e7 V10 ⟨⟨fr, cap, f, A', c', rfl, hdk, hfr, hff, hfw, hlt⟩, k⟩)
  have HD10 : Hid (Dq d fr cap f bs.length A' c' V10) := Lib.hid ⟨hdk, hfr, hff⟩
  have HQ10 := Lib.hid (HQ9.out.but k (by have := HR.out; have := HN.out; omega) (by have := HR.out; have := HN.out; omega) (by have := HR.out; have := HN.out; omega) (by have := HN.out; omega))
  have HU10 := Lib.hid (HU9.out.trans k (fun i _ e => Or.inr e))
  have HF : Hid (r5 < f ∧ f < fr) := Lib.hid ⟨Nat.lt_of_lt_of_le HQ9.out.b5.lt hfw, hlt⟩
  clear hdk hfr hff hfw hlt k HD9 HQ9 HU9 HB9
  refine hKK _ _ ?_
  have c5 := HQ10.out.b5.block (i := 0) rfl
  have f5 := HQ10.out.b5.fz 0
  refine wpList_plain rfl (fun KK hKK => ?_)
  go_simp
  refine hKK _ _ ?_
  clear c5 f5
  refine wpList_nil ?_
  obtain ⟨V11, hV⟩ : ∃ V, V10.setCell ⟨r5, 0, none⟩ (.int .i64 0) = V := ⟨_, rfl⟩
  have HQ11 : Hid (Aq l d r2 r4 r5 (.slice none 0 0) (.slice none 0 0) V11) := Lib.hid (by rw [← hV]; exact HQ10.out.set5 (by have := HR.out; omega) (by have := HR.out; omega) (by have := HR.out; have := HN.out; omega))
  have k : But (fun i => i = r5) V10 V11 := by rw [← hV]; exact (But.refl (fun i => i = r5) V10).setCell (p := ⟨r5, 0, none⟩) (fun _ => rfl) _
  rw [hV]
  clear hV
  have HD11 := Lib.hid (HD10.out.but k (by have := HR.out; have := HN.out; omega) (by have := HF.out; omega) (by have := HF.out; omega))
  have HU11 := Lib.hid (HU10.out.trans k (fun i hi e => by have := HR.out; omega))
  clear k HQ10 HD10 HU10
  have c5 := HQ11.out.b5.block (i := 0) rfl
  go_upto_region 21 with (go_at_call 84; refine (gate_ok _).mono ?_; rintro e8 V12 ⟨rfl, rfl⟩)
  clear c5
  go_cut [84] from 74 to 84 (fun _ wx => ∃ sg c1, Aq l d r2 r4 r5 (.slice (some ⟨sg, 0, none⟩) 1 c1) (.slice none 0 0) wx ∧ Bk wx sg [.string nm1, .int .i64 0] ∧ Dq d fr cap f bs.length A' c' wx ∧ But (fun i => i = l ∨ i = d) w wx ∧ r5 < sg ∧ fr < sg)
  case first =>
    refine wp_region_held_drew (S := fun w' => w'.cell? ⟨r2, 0, none⟩ = some (.pointer (some ⟨l, 0, none⟩))) (by kernel_rfl) ?_ (fun hHeld => ?_)
    · exact HQ11.out.b2.block (i := 0) rfl
    have k : Below V12.heap.size V12 V12.drew := (Below.refl _ _).drew
    obtain ⟨W0, hW0⟩ : ∃ V, V12.drew = V := ⟨_, rfl⟩
    rw [hW0] at k hHeld ⊢
    clear hW0
    have HQ0 := Lib.hid (HQ11.out.below k)
    have HD0 := Lib.hid (HD11.out.below k)
    have HU0 := Lib.hid (HU11.out.next k)
    clear k HQ11 HD11 HU11
    refine tk9 0 (hQ := by exact fun c x w h => hQ2 Tryz.results59 (by decide) (by decide) _ c x w h) ?_
    refine tk9 1 (hQ := by exact fun c x w h => hQ2 Tryz.results59 (by decide) (by decide) _ c x w h) ?_
    refine tk9 2 (hQ := by exact fun c x w h => hQ2 Tryz.results59 (by decide) (by decide) _ c x w h) ?_
    refine tk9 3 (hQ := by exact fun c x w h => hQ2 Tryz.results59 (by decide) (by decide) _ c x w h) ?_
    refine tk9 5 (hQ := by exact fun c x w h => hQ2 Tryz.results59 (by decide) (by decide) _ c x w h) ?_
    refine tk9 6 (hQ := by exact fun c x w h => hQ2 Tryz.results59 (by decide) (by decide) _ c x w h) ?_
    refine wpAnyH_ready (rs := [4, 7]) (by kernel_rfl) (by simp) ?_
    refine AllReadyH.cons rfl (fun K hK => ?_) (AllReadyH.cons rfl (fun K hK => ?_) (AllReadyH.nil))
    · have l2 := HQ0.out.bl.block (i := 2) rfl
      go_simp
      clear l2
      (try dsimp only)
      refine hK.out _ _ ?_ (fun hHeld => ?_)
      · exact HQ0.out.b2.block (i := 0) rfl
      clear hK K
      (try simp only [Act.put, List.setIfInBounds_toArray, List.set_cons_zero, List.set_cons_succ, List.getElem_toArray, List.getElem_cons_succ, List.getElem_cons_zero])
      refine wpAnyH_ready (rs := [7]) (by kernel_rfl) (by simp) ?_
      refine AllReadyH.cons rfl (fun K hK => ?_) (AllReadyH.nil)
      go_simp
      obtain ⟨W1, hV⟩ : ∃ V, W0.alloc (.cells #[.string nm1, .int .i64 0] 165) = V := ⟨_, rfl⟩
      have k : Below W0.heap.size W0 W1 := by rw [← hV]; exact (Below.refl _ _).alloc (Nat.le_refl _) _
      have bb : Bk W1 W0.heap.size [.string nm1, .int .i64 0] := by rw [← hV]; exact Bk.new W0 #[.string nm1, .int .i64 0] 165
      rw [hV]
      clear hV
      have HBB := Lib.hid bb
      clear bb
      have HQ1 := Lib.hid (HQ0.out.below k)
      have HD1 := Lib.hid (HD0.out.below k)
      have HU1 := Lib.hid (HU0.out.next k)
      clear k HQ0 HD0 HU0
      generalize W0.heap.size = sb at *
      (try dsimp only)
      refine hK.out _ _ ?_ (fun hHeld => ?_)
      · exact HQ1.out.b2.block (i := 0) rfl
      clear hK K
      (try simp only [Act.put, List.setIfInBounds_toArray, List.set_cons_zero, List.set_cons_succ, List.getElem_toArray, List.getElem_cons_succ, List.getElem_cons_zero])
      refine wpAnyH_ready (rs := [8]) (by kernel_rfl) (by simp) ?_
      refine AllReadyH.cons rfl (fun K hK => ?_) (AllReadyH.nil)
      refine step_append_lies _ rfl (.tmp 78) (.tmp 81) _ rfl W1.heap.size 165 i0 _ 2 24 Tryz.underlying160 hi0 hz0 hz1 hz2 rfl (by decide) (.slice none 0 0) 0 [] rfl (World.ownsRow_nil _ _ _ _) ⟨sb, 0, none⟩ 1 1 [.string nm1, .int .i64 0] rfl rfl (fun j u hu => by rw [Addr.add_mid, Nat.zero_add]; exact HBB.out.c j u hu) (by simp [Value.oneCell']) (by omega) (by unfold maxLen; omega) (by omega) (Nat.le_refl _) _ rfl ?_
      intro sg c1 W2 hown hg hat hlt
      have k : Below W1.heap.size W1 W2 := (Below.refl _ _).grown hg (Nat.le_refl _) (fun i hi => by cases hi)
      have HSB := Lib.hid (bk2_own hown)
      have HSL : Hid (W1.heap.size ≤ sg) := Lib.hid (own_ge16 hown)
      have HSF : Hid (r5 < W1.heap.size ∧ fr < W1.heap.size) := Lib.hid ⟨HQ1.out.b5.lt, HD1.out.fr.lt⟩
      clear hown hg hat hlt HBB
      have HQ2 := Lib.hid (HQ1.out.below k)
      have HD2 := Lib.hid (HD1.out.below k)
      have HU2 := Lib.hid (HU1.out.next k)
      clear k HQ1 HD1 HU1
      (try dsimp only)
      refine hK.out _ _ ?_ (fun hHeld => ?_)
      · exact HQ2.out.b2.block (i := 0) rfl
      clear hK K
      (try simp only [Act.put, List.setIfInBounds_toArray, List.set_cons_zero, List.set_cons_succ, List.getElem_toArray, List.getElem_cons_succ, List.getElem_cons_zero])
      refine tk9 9 (hQ := by exact fun c x w h => hQ2 Tryz.results59 (by decide) (by decide) _ c x w h) ?_
      refine tk9 10 (hQ := by exact fun c x w h => hQ2 Tryz.results59 (by decide) (by decide) _ c x w h) ?_
      refine wpAnyH_ready (rs := [11]) (by kernel_rfl) (by simp) ?_
      refine AllReadyH.cons rfl (fun K hK => ?_) (AllReadyH.nil)
      have l2 := HQ2.out.bl.block (i := 2) rfl
      have f2 := HQ2.out.bl.fz 2
      go_simp
      clear l2 f2
      obtain ⟨W9, hV⟩ : ∃ V, W2.setCell ⟨l, 2, none⟩ (.slice (some ⟨sg, 0, none⟩) 1 c1) = V := ⟨_, rfl⟩
      have k : But (fun i => i = l) W2 W9 := by rw [← hV]; exact (But.refl (fun i => i = l) W2).setCell (p := ⟨l, 2, none⟩) (fun _ => rfl) _
      have bl9 : Bk W9 l [ptr d, .string ⟨#[109, 48, 46]⟩, .slice (some ⟨sg, 0, none⟩) 1 c1, .slice none 0 0, .int .i64 0, .bool false] := by rw [← hV]; exact HQ2.out.bl.set 2 (by simp) _
      rw [hV]
      clear hV
      have HQ9 : Hid (Aq l d r2 r4 r5 (.slice (some ⟨sg, 0, none⟩) 1 c1) (.slice none 0 0) W9) := Lib.hid ⟨HQ2.out.b2.but k (by have := HR.out; have := HN.out; omega), HQ2.out.b4.but k (by have := HR.out; have := HN.out; omega), HQ2.out.b5.but k (by have := HR.out; have := HN.out; omega), bl9⟩
      have HD9 := Lib.hid (HD2.out.but k (by have := HN.out; omega) (by have := HF.out; have := HR.out; have := HN.out; omega) (by have := HF.out; have := HR.out; have := HN.out; omega))
      have HS9 := Lib.hid (HSB.out.but k (by have := HSL.out; have := HSF.out; have := HR.out; have := HN.out; omega))
      have HU9 := Lib.hid (HU2.out.trans k (fun i _ e => Or.inl e))
      clear k bl9 HQ2 HD2 HU2 HSB
      (try dsimp only)
      refine hK.out _ _ ?_ (fun hHeld => ?_)
      · exact HQ9.out.b2.block (i := 0) rfl
      clear hK K
      (try simp only [Act.put, List.setIfInBounds_toArray, List.set_cons_zero, List.set_cons_succ, List.getElem_toArray, List.getElem_cons_succ, List.getElem_cons_zero])
      refine wpAnyH_done (by kernel_rfl) ?_ _
      clear hHeld
      go_wp2_with fail
      go_meet
      exact ⟨sg, c1, HQ9.out, HS9.out, HD9.out, HU9.out, by have := HSL.out; have := HSF.out; omega, by have := HSL.out; have := HSF.out; omega⟩
    · go_simp
      obtain ⟨W1, hV⟩ : ∃ V, W0.alloc (.cells #[.string nm1, .int .i64 0] 165) = V := ⟨_, rfl⟩
      have k : Below W0.heap.size W0 W1 := by rw [← hV]; exact (Below.refl _ _).alloc (Nat.le_refl _) _
      have bb : Bk W1 W0.heap.size [.string nm1, .int .i64 0] := by rw [← hV]; exact Bk.new W0 #[.string nm1, .int .i64 0] 165
      rw [hV]
      clear hV
      have HBB := Lib.hid bb
      clear bb
      have HQ1 := Lib.hid (HQ0.out.below k)
      have HD1 := Lib.hid (HD0.out.below k)
      have HU1 := Lib.hid (HU0.out.next k)
      clear k HQ0 HD0 HU0
      generalize W0.heap.size = sb at *
      (try dsimp only)
      refine hK.out _ _ ?_ (fun hHeld => ?_)
      · exact HQ1.out.b2.block (i := 0) rfl
      clear hK K
      (try simp only [Act.put, List.setIfInBounds_toArray, List.set_cons_zero, List.set_cons_succ, List.getElem_toArray, List.getElem_cons_succ, List.getElem_cons_zero])
      refine wpAnyH_ready (rs := [4]) (by kernel_rfl) (by simp) ?_
      refine AllReadyH.cons rfl (fun K hK => ?_) (AllReadyH.nil)
      have l2 := HQ1.out.bl.block (i := 2) rfl
      go_simp
      clear l2
      (try dsimp only)
      refine hK.out _ _ ?_ (fun hHeld => ?_)
      · exact HQ1.out.b2.block (i := 0) rfl
      clear hK K
      (try simp only [Act.put, List.setIfInBounds_toArray, List.set_cons_zero, List.set_cons_succ, List.getElem_toArray, List.getElem_cons_succ, List.getElem_cons_zero])
      refine wpAnyH_ready (rs := [8]) (by kernel_rfl) (by simp) ?_
      refine AllReadyH.cons rfl (fun K hK => ?_) (AllReadyH.nil)
      refine step_append_lies _ rfl (.tmp 78) (.tmp 81) _ rfl W1.heap.size 165 i0 _ 2 24 Tryz.underlying160 hi0 hz0 hz1 hz2 rfl (by decide) (.slice none 0 0) 0 [] rfl (World.ownsRow_nil _ _ _ _) ⟨sb, 0, none⟩ 1 1 [.string nm1, .int .i64 0] rfl rfl (fun j u hu => by rw [Addr.add_mid, Nat.zero_add]; exact HBB.out.c j u hu) (by simp [Value.oneCell']) (by omega) (by unfold maxLen; omega) (by omega) (Nat.le_refl _) _ rfl ?_
      intro sg c1 W2 hown hg hat hlt
      have k : Below W1.heap.size W1 W2 := (Below.refl _ _).grown hg (Nat.le_refl _) (fun i hi => by cases hi)
      have HSB := Lib.hid (bk2_own hown)
      have HSL : Hid (W1.heap.size ≤ sg) := Lib.hid (own_ge16 hown)
      have HSF : Hid (r5 < W1.heap.size ∧ fr < W1.heap.size) := Lib.hid ⟨HQ1.out.b5.lt, HD1.out.fr.lt⟩
      clear hown hg hat hlt HBB
      have HQ2 := Lib.hid (HQ1.out.below k)
      have HD2 := Lib.hid (HD1.out.below k)
      have HU2 := Lib.hid (HU1.out.next k)
      clear k HQ1 HD1 HU1
      (try dsimp only)
      refine hK.out _ _ ?_ (fun hHeld => ?_)
      · exact HQ2.out.b2.block (i := 0) rfl
      clear hK K
      (try simp only [Act.put, List.setIfInBounds_toArray, List.set_cons_zero, List.set_cons_succ, List.getElem_toArray, List.getElem_cons_succ, List.getElem_cons_zero])
      refine tk9 9 (hQ := by exact fun c x w h => hQ2 Tryz.results59 (by decide) (by decide) _ c x w h) ?_
      refine tk9 10 (hQ := by exact fun c x w h => hQ2 Tryz.results59 (by decide) (by decide) _ c x w h) ?_
      refine wpAnyH_ready (rs := [11]) (by kernel_rfl) (by simp) ?_
      refine AllReadyH.cons rfl (fun K hK => ?_) (AllReadyH.nil)
      have l2 := HQ2.out.bl.block (i := 2) rfl
      have f2 := HQ2.out.bl.fz 2
      go_simp
      clear l2 f2
      obtain ⟨W9, hV⟩ : ∃ V, W2.setCell ⟨l, 2, none⟩ (.slice (some ⟨sg, 0, none⟩) 1 c1) = V := ⟨_, rfl⟩
      have k : But (fun i => i = l) W2 W9 := by rw [← hV]; exact (But.refl (fun i => i = l) W2).setCell (p := ⟨l, 2, none⟩) (fun _ => rfl) _
      have bl9 : Bk W9 l [ptr d, .string ⟨#[109, 48, 46]⟩, .slice (some ⟨sg, 0, none⟩) 1 c1, .slice none 0 0, .int .i64 0, .bool false] := by rw [← hV]; exact HQ2.out.bl.set 2 (by simp) _
      rw [hV]
      clear hV
      have HQ9 : Hid (Aq l d r2 r4 r5 (.slice (some ⟨sg, 0, none⟩) 1 c1) (.slice none 0 0) W9) := Lib.hid ⟨HQ2.out.b2.but k (by have := HR.out; have := HN.out; omega), HQ2.out.b4.but k (by have := HR.out; have := HN.out; omega), HQ2.out.b5.but k (by have := HR.out; have := HN.out; omega), bl9⟩
      have HD9 := Lib.hid (HD2.out.but k (by have := HN.out; omega) (by have := HF.out; have := HR.out; have := HN.out; omega) (by have := HF.out; have := HR.out; have := HN.out; omega))
      have HS9 := Lib.hid (HSB.out.but k (by have := HSL.out; have := HSF.out; have := HR.out; have := HN.out; omega))
      have HU9 := Lib.hid (HU2.out.trans k (fun i _ e => Or.inl e))
      clear k bl9 HQ2 HD2 HU2 HSB
      (try dsimp only)
      refine hK.out _ _ ?_ (fun hHeld => ?_)
      · exact HQ9.out.b2.block (i := 0) rfl
      clear hK K
      (try simp only [Act.put, List.setIfInBounds_toArray, List.set_cons_zero, List.set_cons_succ, List.getElem_toArray, List.getElem_cons_succ, List.getElem_cons_zero])
      refine wpAnyH_done (by kernel_rfl) ?_ _
      clear hHeld
      go_wp2_with fail
      go_meet
      exact ⟨sg, c1, HQ9.out, HS9.out, HD9.out, HU9.out, by have := HSL.out; have := HSF.out; omega, by have := HSL.out; have := HSF.out; omega⟩
  case rest =>
    obtain ⟨sg, c1, h1, h2, h3, h4, h5⟩ := hcut
    generalize wc = V13 at *
    have HQ13 := Lib.hid h1
    have HS13 := Lib.hid h2
    have HD13 := Lib.hid h3
    have HU13 := Lib.hid h4
    have HSG := Lib.hid h5
    clear h1 h2 h3 h4 h5
    go_upto_region 22 with fail
    refine wp_region_lit ?_
    have c2 := HQ13.out.b2.block (i := 0) rfl
    unfold ptr at c2
    refine wpList_plain rfl (fun KK hKK => ?_)
    go_simp
    refine hKK _ _ ?_
    clear c2
    refine wpList_plain rfl (fun KK hKK => ?_)
    go_simp
    (go_at_call 107; refine (last_one l sg c1 _ _ _ _ _ V13 HQ13.out.bl).mono ?_; rintro e9 V14 ⟨rfl, k⟩)
    have HSGL : Hid (sg < V13.heap.size) := Lib.hid HS13.out.lt
    have HQ14 := Lib.hid (HQ13.out.below k)
    have HS14 := Lib.hid (HS13.out.below k)
    have HD14 := Lib.hid (HD13.out.below k)
    have HU14 := Lib.hid (HU13.out.next k)
    clear k HQ13 HS13 HD13 HU13
    refine hKK _ _ ?_
    have s1 := HS14.out.block (i := 1) rfl
    have g1' := HS14.out.fz 1
    have wk2 : IntKind.i64.wrap (bs.length : Int) = (bs.length : Int) := by have := HLB.out; exact IntWalk.i64_in _ (by omega)
    have wk3 : IntKind.i64.wrap ((0 : Int) + (bs.length : Int)) = (bs.length : Int) := by rw [Int.zero_add]; exact wk2
    refine wpList_plain rfl (fun KK hKK => ?_)
    go_simp
    refine hKK _ _ ?_
    refine wpList_plain rfl (fun KK hKK => ?_)
    go_simp
    refine hKK _ _ ?_
    refine wpList_plain rfl (fun KK hKK => ?_)
    go_simp
    refine hKK _ _ ?_
    refine wpList_plain rfl (fun KK hKK => ?_)
    go_simp
    refine hKK _ _ ?_
    refine wpList_plain rfl (fun KK hKK => ?_)
    go_simp
    refine hKK _ _ ?_
    refine wpList_plain rfl (fun KK hKK => ?_)
    go_simp
    refine hKK _ _ ?_
    refine wpList_plain rfl (fun KK hKK => ?_)
    go_simp
    refine hKK _ _ ?_
    refine wpList_plain rfl (fun KK hKK => ?_)
    go_simp
    refine hKK _ _ ?_
    refine wpList_plain rfl (fun KK hKK => ?_)
    go_simp
    refine hKK _ _ ?_
    clear s1 g1' wk2 wk3
    refine wpList_nil ?_
    obtain ⟨V15, hV⟩ : ∃ V, V14.setCell ⟨sg, 1, none⟩ (.int .i64 (bs.length : Int)) = V := ⟨_, rfl⟩
    have k : But (fun i => i = sg) V14 V15 := by rw [← hV]; exact (But.refl (fun i => i = sg) V14).setCell (p := ⟨sg, 1, none⟩) (fun _ => rfl) _
    have HS15 : Hid (Bk V15 sg [.string nm1, .int .i64 (bs.length : Int)]) := Lib.hid (by rw [← hV]; exact HS14.out.set 1 (by simp) _)
    rw [hV]
    clear hV
    have HQ15 := Lib.hid (HQ14.out.but k (by have := HSG.out; have := HR.out; omega) (by have := HSG.out; have := HR.out; omega) (by have := HSG.out; omega) (by have := HSG.out; have := HR.out; have := HN.out; omega))
    have HD15 := Lib.hid (HD14.out.but k (by have := HSG.out; have := HR.out; have := HN.out; omega) (by have := HSG.out; omega) (by have := HSG.out; have := HF.out; omega))
    have HU15 := Lib.hid (HU14.out.trans k (fun i hi e => by have := HSG.out; have := HR.out; omega))
    clear k HQ14 HS14 HD14 HU14
    go_upto_region 23 with fail
    go_cut [106] from 95 to 106 (fun _ wx => ∃ en c2, Aq l d r2 r4 r5 (.slice (some ⟨sg, 0, none⟩) 1 c1) (.slice (some ⟨en, 0, none⟩) 1 c2) wx ∧ Bk wx sg [.string nm1, .int .i64 (bs.length : Int)] ∧ Dq d fr cap f bs.length A' c' wx ∧ But (fun i => i = l ∨ i = d) w wx)
    case first =>
      refine wp_region_held_drew (S := fun w' => w'.cell? ⟨r2, 0, none⟩ = some (.pointer (some ⟨l, 0, none⟩))) (by kernel_rfl) ?_ (fun hHeld => ?_)
      · exact HQ15.out.b2.block (i := 0) rfl
      have k : Below V15.heap.size V15 V15.drew := (Below.refl _ _).drew
      obtain ⟨W0, hW0⟩ : ∃ V, V15.drew = V := ⟨_, rfl⟩
      rw [hW0] at k hHeld ⊢
      clear hW0
      have HQ0 := Lib.hid (HQ15.out.below k)
      have HS0 := Lib.hid (HS15.out.below k)
      have HD0 := Lib.hid (HD15.out.below k)
      have HU0 := Lib.hid (HU15.out.next k)
      clear k HQ15 HS15 HD15 HU15
      refine tk9 0 (hQ := by exact fun c x w h => hQ2 Tryz.results59 (by decide) (by decide) _ c x w h) ?_
      refine tk9 1 (hQ := by exact fun c x w h => hQ2 Tryz.results59 (by decide) (by decide) _ c x w h) ?_
      refine tk9 2 (hQ := by exact fun c x w h => hQ2 Tryz.results59 (by decide) (by decide) _ c x w h) ?_
      refine tk9 3 (hQ := by exact fun c x w h => hQ2 Tryz.results59 (by decide) (by decide) _ c x w h) ?_
      refine tk9 5 (hQ := by exact fun c x w h => hQ2 Tryz.results59 (by decide) (by decide) _ c x w h) ?_
      refine wpAnyH_ready (rs := [4, 6]) (by kernel_rfl) (by simp) ?_
      refine AllReadyH.cons rfl (fun K hK => ?_) (AllReadyH.cons rfl (fun K hK => ?_) (AllReadyH.nil))
      · have l3 := HQ0.out.bl.block (i := 3) rfl
        go_simp
        clear l3
        (try dsimp only)
        refine hK.out _ _ ?_ (fun hHeld => ?_)
        · exact HQ0.out.b2.block (i := 0) rfl
        clear hK K
        (try simp only [Act.put, List.setIfInBounds_toArray, List.set_cons_zero, List.set_cons_succ, List.getElem_toArray, List.getElem_cons_succ, List.getElem_cons_zero])
        refine wpAnyH_ready (rs := [6]) (by kernel_rfl) (by simp) ?_
        refine AllReadyH.cons rfl (fun K hK => ?_) (AllReadyH.nil)
        go_simp
        obtain ⟨W1, hV⟩ : ∃ V, W0.alloc (.cells #[.slice A p.length c] 42) = V := ⟨_, rfl⟩
        have k : Below W0.heap.size W0 W1 := by rw [← hV]; exact (Below.refl _ _).alloc (Nat.le_refl _) _
        have bb : Bk W1 W0.heap.size [.slice A p.length c] := by rw [← hV]; exact Bk.new W0 #[.slice A p.length c] 42
        rw [hV]
        clear hV
        have HBB := Lib.hid bb
        clear bb
        have HQ1 := Lib.hid (HQ0.out.below k)
        have HS1 := Lib.hid (HS0.out.below k)
        have HD1 := Lib.hid (HD0.out.below k)
        have HU1 := Lib.hid (HU0.out.next k)
        clear k HQ0 HS0 HD0 HU0
        generalize W0.heap.size = sb at *
        (try dsimp only)
        refine hK.out _ _ ?_ (fun hHeld => ?_)
        · exact HQ1.out.b2.block (i := 0) rfl
        clear hK K
        (try simp only [Act.put, List.setIfInBounds_toArray, List.set_cons_zero, List.set_cons_succ, List.getElem_toArray, List.getElem_cons_succ, List.getElem_cons_zero])
        refine wpAnyH_ready (rs := [7]) (by kernel_rfl) (by simp) ?_
        refine AllReadyH.cons rfl (fun K hK => ?_) (AllReadyH.nil)
        go_simp
        (go_at_call 30; refine (oct_join sb 1 c A p W1 HBB.out.lt (HBB.out.block (i := 0) rfl) (HPW.out.off16 HU1.out (fun ad e q => by have := HBD.out ad e; omega)) (fun e => absurd (HPW.out HPL.out.1) (by rintro ⟨B, O, q, _⟩; rw [e] at q; cases q)) (by have := HPL.out; omega)).mono ?_; rintro e10 W2 ⟨⟨gj, cj, rfl, hj⟩, k⟩)
        clear hj HBB
        have HQ2 := Lib.hid (HQ1.out.below k)
        have HS2 := Lib.hid (HS1.out.below k)
        have HD2 := Lib.hid (HD1.out.below k)
        have HU2 := Lib.hid (HU1.out.next k)
        clear k HQ1 HS1 HD1 HU1
        (try dsimp only)
        refine hK.out _ _ ?_ (fun hHeld => ?_)
        · exact HQ2.out.b2.block (i := 0) rfl
        clear hK K
        (try simp only [Act.put, List.setIfInBounds_toArray, List.set_cons_zero, List.set_cons_succ, List.getElem_toArray, List.getElem_cons_succ, List.getElem_cons_zero])
        refine wpAnyH_ready (rs := [8]) (by kernel_rfl) (by simp) ?_
        refine AllReadyH.cons rfl (fun K hK => ?_) (AllReadyH.nil)
        go_simp
        obtain ⟨W3, hV⟩ : ∃ V, W2.alloc (.cells #[.slice (some ⟨gj, 0, none⟩) p.length cj] 42) = V := ⟨_, rfl⟩
        have k : Below W2.heap.size W2 W3 := by rw [← hV]; exact (Below.refl _ _).alloc (Nat.le_refl _) _
        have bb : Bk W3 W2.heap.size [.slice (some ⟨gj, 0, none⟩) p.length cj] := by rw [← hV]; exact Bk.new W2 #[.slice (some ⟨gj, 0, none⟩) p.length cj] 42
        rw [hV]
        clear hV
        have HBJ := Lib.hid bb
        clear bb
        have HQ3 := Lib.hid (HQ2.out.below k)
        have HS3 := Lib.hid (HS2.out.below k)
        have HD3 := Lib.hid (HD2.out.below k)
        have HU3 := Lib.hid (HU2.out.next k)
        clear k HQ2 HS2 HD2 HU2
        generalize W2.heap.size = sj at *
        (try dsimp only)
        refine hK.out _ _ ?_ (fun hHeld => ?_)
        · exact HQ3.out.b2.block (i := 0) rfl
        clear hK K
        (try simp only [Act.put, List.setIfInBounds_toArray, List.set_cons_zero, List.set_cons_succ, List.getElem_toArray, List.getElem_cons_succ, List.getElem_cons_zero])
        refine wpAnyH_ready (rs := [9]) (by kernel_rfl) (by simp) ?_
        refine AllReadyH.cons rfl (fun K hK => ?_) (AllReadyH.nil)
        refine step_append_lies _ rfl (.tmp 99) (.tmp 103) _ rfl W3.heap.size 42 i1 _ 1 24 Tryz.underlying142 hi1 hy0 hy1 hy2 rfl (by decide) (.slice none 0 0) 0 [] rfl (World.ownsRow_nil _ _ _ _) ⟨sj, 0, none⟩ 1 1 [.slice (some ⟨gj, 0, none⟩) p.length cj] rfl rfl (fun j u hu => by rw [Addr.add_mid, Nat.zero_add]; exact HBJ.out.c j u hu) (by simp [Value.oneCell']) (by omega) (by unfold maxLen; omega) (by omega) (Nat.le_refl _) _ rfl ?_
        intro en c2 W4 hown hg hat hlt
        have k : Below W3.heap.size W3 W4 := (Below.refl _ _).grown hg (Nat.le_refl _) (fun i hi => by cases hi)
        clear hown hg hat hlt HBJ
        have HQ4 := Lib.hid (HQ3.out.below k)
        have HS4 := Lib.hid (HS3.out.below k)
        have HD4 := Lib.hid (HD3.out.below k)
        have HU4 := Lib.hid (HU3.out.next k)
        clear k HQ3 HS3 HD3 HU3
        (try dsimp only)
        refine hK.out _ _ ?_ (fun hHeld => ?_)
        · exact HQ4.out.b2.block (i := 0) rfl
        clear hK K
        (try simp only [Act.put, List.setIfInBounds_toArray, List.set_cons_zero, List.set_cons_succ, List.getElem_toArray, List.getElem_cons_succ, List.getElem_cons_zero])
        refine tk9 10 (hQ := by exact fun c x w h => hQ2 Tryz.results59 (by decide) (by decide) _ c x w h) ?_
        refine tk9 11 (hQ := by exact fun c x w h => hQ2 Tryz.results59 (by decide) (by decide) _ c x w h) ?_
        refine wpAnyH_ready (rs := [12]) (by kernel_rfl) (by simp) ?_
        refine AllReadyH.cons rfl (fun K hK => ?_) (AllReadyH.nil)
        have l3 := HQ4.out.bl.block (i := 3) rfl
        have f3 := HQ4.out.bl.fz 3
        go_simp
        clear l3 f3
        obtain ⟨W9, hV⟩ : ∃ V, W4.setCell ⟨l, 3, none⟩ (.slice (some ⟨en, 0, none⟩) 1 c2) = V := ⟨_, rfl⟩
        have k : But (fun i => i = l) W4 W9 := by rw [← hV]; exact (But.refl (fun i => i = l) W4).setCell (p := ⟨l, 3, none⟩) (fun _ => rfl) _
        have bl9 : Bk W9 l [ptr d, .string ⟨#[109, 48, 46]⟩, .slice (some ⟨sg, 0, none⟩) 1 c1, .slice (some ⟨en, 0, none⟩) 1 c2, .int .i64 0, .bool false] := by rw [← hV]; exact HQ4.out.bl.set 3 (by simp) _
        rw [hV]
        clear hV
        have HQ9 : Hid (Aq l d r2 r4 r5 (.slice (some ⟨sg, 0, none⟩) 1 c1) (.slice (some ⟨en, 0, none⟩) 1 c2) W9) := Lib.hid ⟨HQ4.out.b2.but k (by have := HR.out; have := HN.out; omega), HQ4.out.b4.but k (by have := HR.out; have := HN.out; omega), HQ4.out.b5.but k (by have := HR.out; have := HN.out; omega), bl9⟩
        have HD9 := Lib.hid (HD4.out.but k (by have := HN.out; omega) (by have := HF.out; have := HR.out; have := HN.out; omega) (by have := HF.out; have := HR.out; have := HN.out; omega))
        have HS9 := Lib.hid (HS4.out.but k (by have := HSG.out; have := HR.out; have := HN.out; omega))
        have HU9 := Lib.hid (HU4.out.trans k (fun i _ e => Or.inl e))
        clear k bl9 HQ4 HD4 HU4 HS4
        (try dsimp only)
        refine hK.out _ _ ?_ (fun hHeld => ?_)
        · exact HQ9.out.b2.block (i := 0) rfl
        clear hK K
        (try simp only [Act.put, List.setIfInBounds_toArray, List.set_cons_zero, List.set_cons_succ, List.getElem_toArray, List.getElem_cons_succ, List.getElem_cons_zero])
        refine wpAnyH_done (by kernel_rfl) ?_ _
        clear hHeld
        go_wp2_with fail
        go_meet
        exact ⟨en, c2, HQ9.out, HS9.out, HD9.out, HU9.out⟩
      · go_simp
        obtain ⟨W1, hV⟩ : ∃ V, W0.alloc (.cells #[.slice A p.length c] 42) = V := ⟨_, rfl⟩
        have k : Below W0.heap.size W0 W1 := by rw [← hV]; exact (Below.refl _ _).alloc (Nat.le_refl _) _
        have bb : Bk W1 W0.heap.size [.slice A p.length c] := by rw [← hV]; exact Bk.new W0 #[.slice A p.length c] 42
        rw [hV]
        clear hV
        have HBB := Lib.hid bb
        clear bb
        have HQ1 := Lib.hid (HQ0.out.below k)
        have HS1 := Lib.hid (HS0.out.below k)
        have HD1 := Lib.hid (HD0.out.below k)
        have HU1 := Lib.hid (HU0.out.next k)
        clear k HQ0 HS0 HD0 HU0
        generalize W0.heap.size = sb at *
        (try dsimp only)
        refine hK.out _ _ ?_ (fun hHeld => ?_)
        · exact HQ1.out.b2.block (i := 0) rfl
        clear hK K
        (try simp only [Act.put, List.setIfInBounds_toArray, List.set_cons_zero, List.set_cons_succ, List.getElem_toArray, List.getElem_cons_succ, List.getElem_cons_zero])
        refine wpAnyH_ready (rs := [4, 7]) (by kernel_rfl) (by simp) ?_
        refine AllReadyH.cons rfl (fun K hK => ?_) (AllReadyH.cons rfl (fun K hK => ?_) (AllReadyH.nil))
        · have l3 := HQ1.out.bl.block (i := 3) rfl
          go_simp
          clear l3
          (try dsimp only)
          refine hK.out _ _ ?_ (fun hHeld => ?_)
          · exact HQ1.out.b2.block (i := 0) rfl
          clear hK K
          (try simp only [Act.put, List.setIfInBounds_toArray, List.set_cons_zero, List.set_cons_succ, List.getElem_toArray, List.getElem_cons_succ, List.getElem_cons_zero])
          refine wpAnyH_ready (rs := [7]) (by kernel_rfl) (by simp) ?_
          refine AllReadyH.cons rfl (fun K hK => ?_) (AllReadyH.nil)
          go_simp
          (go_at_call 30; refine (oct_join sb 1 c A p W1 HBB.out.lt (HBB.out.block (i := 0) rfl) (HPW.out.off16 HU1.out (fun ad e q => by have := HBD.out ad e; omega)) (fun e => absurd (HPW.out HPL.out.1) (by rintro ⟨B, O, q, _⟩; rw [e] at q; cases q)) (by have := HPL.out; omega)).mono ?_; rintro e10 W2 ⟨⟨gj, cj, rfl, hj⟩, k⟩)
          clear hj HBB
          have HQ2 := Lib.hid (HQ1.out.below k)
          have HS2 := Lib.hid (HS1.out.below k)
          have HD2 := Lib.hid (HD1.out.below k)
          have HU2 := Lib.hid (HU1.out.next k)
          clear k HQ1 HS1 HD1 HU1
          (try dsimp only)
          refine hK.out _ _ ?_ (fun hHeld => ?_)
          · exact HQ2.out.b2.block (i := 0) rfl
          clear hK K
          (try simp only [Act.put, List.setIfInBounds_toArray, List.set_cons_zero, List.set_cons_succ, List.getElem_toArray, List.getElem_cons_succ, List.getElem_cons_zero])
          refine wpAnyH_ready (rs := [8]) (by kernel_rfl) (by simp) ?_
          refine AllReadyH.cons rfl (fun K hK => ?_) (AllReadyH.nil)
          go_simp
          obtain ⟨W3, hV⟩ : ∃ V, W2.alloc (.cells #[.slice (some ⟨gj, 0, none⟩) p.length cj] 42) = V := ⟨_, rfl⟩
          have k : Below W2.heap.size W2 W3 := by rw [← hV]; exact (Below.refl _ _).alloc (Nat.le_refl _) _
          have bb : Bk W3 W2.heap.size [.slice (some ⟨gj, 0, none⟩) p.length cj] := by rw [← hV]; exact Bk.new W2 #[.slice (some ⟨gj, 0, none⟩) p.length cj] 42
          rw [hV]
          clear hV
          have HBJ := Lib.hid bb
          clear bb
          have HQ3 := Lib.hid (HQ2.out.below k)
          have HS3 := Lib.hid (HS2.out.below k)
          have HD3 := Lib.hid (HD2.out.below k)
          have HU3 := Lib.hid (HU2.out.next k)
          clear k HQ2 HS2 HD2 HU2
          generalize W2.heap.size = sj at *
          (try dsimp only)
          refine hK.out _ _ ?_ (fun hHeld => ?_)
          · exact HQ3.out.b2.block (i := 0) rfl
          clear hK K
          (try simp only [Act.put, List.setIfInBounds_toArray, List.set_cons_zero, List.set_cons_succ, List.getElem_toArray, List.getElem_cons_succ, List.getElem_cons_zero])
          refine wpAnyH_ready (rs := [9]) (by kernel_rfl) (by simp) ?_
          refine AllReadyH.cons rfl (fun K hK => ?_) (AllReadyH.nil)
          refine step_append_lies _ rfl (.tmp 99) (.tmp 103) _ rfl W3.heap.size 42 i1 _ 1 24 Tryz.underlying142 hi1 hy0 hy1 hy2 rfl (by decide) (.slice none 0 0) 0 [] rfl (World.ownsRow_nil _ _ _ _) ⟨sj, 0, none⟩ 1 1 [.slice (some ⟨gj, 0, none⟩) p.length cj] rfl rfl (fun j u hu => by rw [Addr.add_mid, Nat.zero_add]; exact HBJ.out.c j u hu) (by simp [Value.oneCell']) (by omega) (by unfold maxLen; omega) (by omega) (Nat.le_refl _) _ rfl ?_
          intro en c2 W4 hown hg hat hlt
          have k : Below W3.heap.size W3 W4 := (Below.refl _ _).grown hg (Nat.le_refl _) (fun i hi => by cases hi)
          clear hown hg hat hlt HBJ
          have HQ4 := Lib.hid (HQ3.out.below k)
          have HS4 := Lib.hid (HS3.out.below k)
          have HD4 := Lib.hid (HD3.out.below k)
          have HU4 := Lib.hid (HU3.out.next k)
          clear k HQ3 HS3 HD3 HU3
          (try dsimp only)
          refine hK.out _ _ ?_ (fun hHeld => ?_)
          · exact HQ4.out.b2.block (i := 0) rfl
          clear hK K
          (try simp only [Act.put, List.setIfInBounds_toArray, List.set_cons_zero, List.set_cons_succ, List.getElem_toArray, List.getElem_cons_succ, List.getElem_cons_zero])
          refine tk9 10 (hQ := by exact fun c x w h => hQ2 Tryz.results59 (by decide) (by decide) _ c x w h) ?_
          refine tk9 11 (hQ := by exact fun c x w h => hQ2 Tryz.results59 (by decide) (by decide) _ c x w h) ?_
          refine wpAnyH_ready (rs := [12]) (by kernel_rfl) (by simp) ?_
          refine AllReadyH.cons rfl (fun K hK => ?_) (AllReadyH.nil)
          have l3 := HQ4.out.bl.block (i := 3) rfl
          have f3 := HQ4.out.bl.fz 3
          go_simp
          clear l3 f3
          obtain ⟨W9, hV⟩ : ∃ V, W4.setCell ⟨l, 3, none⟩ (.slice (some ⟨en, 0, none⟩) 1 c2) = V := ⟨_, rfl⟩
          have k : But (fun i => i = l) W4 W9 := by rw [← hV]; exact (But.refl (fun i => i = l) W4).setCell (p := ⟨l, 3, none⟩) (fun _ => rfl) _
          have bl9 : Bk W9 l [ptr d, .string ⟨#[109, 48, 46]⟩, .slice (some ⟨sg, 0, none⟩) 1 c1, .slice (some ⟨en, 0, none⟩) 1 c2, .int .i64 0, .bool false] := by rw [← hV]; exact HQ4.out.bl.set 3 (by simp) _
          rw [hV]
          clear hV
          have HQ9 : Hid (Aq l d r2 r4 r5 (.slice (some ⟨sg, 0, none⟩) 1 c1) (.slice (some ⟨en, 0, none⟩) 1 c2) W9) := Lib.hid ⟨HQ4.out.b2.but k (by have := HR.out; have := HN.out; omega), HQ4.out.b4.but k (by have := HR.out; have := HN.out; omega), HQ4.out.b5.but k (by have := HR.out; have := HN.out; omega), bl9⟩
          have HD9 := Lib.hid (HD4.out.but k (by have := HN.out; omega) (by have := HF.out; have := HR.out; have := HN.out; omega) (by have := HF.out; have := HR.out; have := HN.out; omega))
          have HS9 := Lib.hid (HS4.out.but k (by have := HSG.out; have := HR.out; have := HN.out; omega))
          have HU9 := Lib.hid (HU4.out.trans k (fun i _ e => Or.inl e))
          clear k bl9 HQ4 HD4 HU4 HS4
          (try dsimp only)
          refine hK.out _ _ ?_ (fun hHeld => ?_)
          · exact HQ9.out.b2.block (i := 0) rfl
          clear hK K
          (try simp only [Act.put, List.setIfInBounds_toArray, List.set_cons_zero, List.set_cons_succ, List.getElem_toArray, List.getElem_cons_succ, List.getElem_cons_zero])
          refine wpAnyH_done (by kernel_rfl) ?_ _
          clear hHeld
          go_wp2_with fail
          go_meet
          exact ⟨en, c2, HQ9.out, HS9.out, HD9.out, HU9.out⟩
        · go_simp
          (go_at_call 30; refine (oct_join sb 1 c A p W1 HBB.out.lt (HBB.out.block (i := 0) rfl) (HPW.out.off16 HU1.out (fun ad e q => by have := HBD.out ad e; omega)) (fun e => absurd (HPW.out HPL.out.1) (by rintro ⟨B, O, q, _⟩; rw [e] at q; cases q)) (by have := HPL.out; omega)).mono ?_; rintro e10 W2 ⟨⟨gj, cj, rfl, hj⟩, k⟩)
          clear hj HBB
          have HQ2 := Lib.hid (HQ1.out.below k)
          have HS2 := Lib.hid (HS1.out.below k)
          have HD2 := Lib.hid (HD1.out.below k)
          have HU2 := Lib.hid (HU1.out.next k)
          clear k HQ1 HS1 HD1 HU1
          (try dsimp only)
          refine hK.out _ _ ?_ (fun hHeld => ?_)
          · exact HQ2.out.b2.block (i := 0) rfl
          clear hK K
          (try simp only [Act.put, List.setIfInBounds_toArray, List.set_cons_zero, List.set_cons_succ, List.getElem_toArray, List.getElem_cons_succ, List.getElem_cons_zero])
          refine wpAnyH_ready (rs := [4, 8]) (by kernel_rfl) (by simp) ?_
          refine AllReadyH.cons rfl (fun K hK => ?_) (AllReadyH.cons rfl (fun K hK => ?_) (AllReadyH.nil))
          · have l3 := HQ2.out.bl.block (i := 3) rfl
            go_simp
            clear l3
            (try dsimp only)
            refine hK.out _ _ ?_ (fun hHeld => ?_)
            · exact HQ2.out.b2.block (i := 0) rfl
            clear hK K
            (try simp only [Act.put, List.setIfInBounds_toArray, List.set_cons_zero, List.set_cons_succ, List.getElem_toArray, List.getElem_cons_succ, List.getElem_cons_zero])
            refine wpAnyH_ready (rs := [8]) (by kernel_rfl) (by simp) ?_
            refine AllReadyH.cons rfl (fun K hK => ?_) (AllReadyH.nil)
            go_simp
            obtain ⟨W3, hV⟩ : ∃ V, W2.alloc (.cells #[.slice (some ⟨gj, 0, none⟩) p.length cj] 42) = V := ⟨_, rfl⟩
            have k : Below W2.heap.size W2 W3 := by rw [← hV]; exact (Below.refl _ _).alloc (Nat.le_refl _) _
            have bb : Bk W3 W2.heap.size [.slice (some ⟨gj, 0, none⟩) p.length cj] := by rw [← hV]; exact Bk.new W2 #[.slice (some ⟨gj, 0, none⟩) p.length cj] 42
            rw [hV]
            clear hV
            have HBJ := Lib.hid bb
            clear bb
            have HQ3 := Lib.hid (HQ2.out.below k)
            have HS3 := Lib.hid (HS2.out.below k)
            have HD3 := Lib.hid (HD2.out.below k)
            have HU3 := Lib.hid (HU2.out.next k)
            clear k HQ2 HS2 HD2 HU2
            generalize W2.heap.size = sj at *
            (try dsimp only)
            refine hK.out _ _ ?_ (fun hHeld => ?_)
            · exact HQ3.out.b2.block (i := 0) rfl
            clear hK K
            (try simp only [Act.put, List.setIfInBounds_toArray, List.set_cons_zero, List.set_cons_succ, List.getElem_toArray, List.getElem_cons_succ, List.getElem_cons_zero])
            refine wpAnyH_ready (rs := [9]) (by kernel_rfl) (by simp) ?_
            refine AllReadyH.cons rfl (fun K hK => ?_) (AllReadyH.nil)
            refine step_append_lies _ rfl (.tmp 99) (.tmp 103) _ rfl W3.heap.size 42 i1 _ 1 24 Tryz.underlying142 hi1 hy0 hy1 hy2 rfl (by decide) (.slice none 0 0) 0 [] rfl (World.ownsRow_nil _ _ _ _) ⟨sj, 0, none⟩ 1 1 [.slice (some ⟨gj, 0, none⟩) p.length cj] rfl rfl (fun j u hu => by rw [Addr.add_mid, Nat.zero_add]; exact HBJ.out.c j u hu) (by simp [Value.oneCell']) (by omega) (by unfold maxLen; omega) (by omega) (Nat.le_refl _) _ rfl ?_
            intro en c2 W4 hown hg hat hlt
            have k : Below W3.heap.size W3 W4 := (Below.refl _ _).grown hg (Nat.le_refl _) (fun i hi => by cases hi)
            clear hown hg hat hlt HBJ
            have HQ4 := Lib.hid (HQ3.out.below k)
            have HS4 := Lib.hid (HS3.out.below k)
            have HD4 := Lib.hid (HD3.out.below k)
            have HU4 := Lib.hid (HU3.out.next k)
            clear k HQ3 HS3 HD3 HU3
            (try dsimp only)
            refine hK.out _ _ ?_ (fun hHeld => ?_)
            · exact HQ4.out.b2.block (i := 0) rfl
            clear hK K
            (try simp only [Act.put, List.setIfInBounds_toArray, List.set_cons_zero, List.set_cons_succ, List.getElem_toArray, List.getElem_cons_succ, List.getElem_cons_zero])
            refine tk9 10 (hQ := by exact fun c x w h => hQ2 Tryz.results59 (by decide) (by decide) _ c x w h) ?_
            refine tk9 11 (hQ := by exact fun c x w h => hQ2 Tryz.results59 (by decide) (by decide) _ c x w h) ?_
            refine wpAnyH_ready (rs := [12]) (by kernel_rfl) (by simp) ?_
            refine AllReadyH.cons rfl (fun K hK => ?_) (AllReadyH.nil)
            have l3 := HQ4.out.bl.block (i := 3) rfl
            have f3 := HQ4.out.bl.fz 3
            go_simp
            clear l3 f3
            obtain ⟨W9, hV⟩ : ∃ V, W4.setCell ⟨l, 3, none⟩ (.slice (some ⟨en, 0, none⟩) 1 c2) = V := ⟨_, rfl⟩
            have k : But (fun i => i = l) W4 W9 := by rw [← hV]; exact (But.refl (fun i => i = l) W4).setCell (p := ⟨l, 3, none⟩) (fun _ => rfl) _
            have bl9 : Bk W9 l [ptr d, .string ⟨#[109, 48, 46]⟩, .slice (some ⟨sg, 0, none⟩) 1 c1, .slice (some ⟨en, 0, none⟩) 1 c2, .int .i64 0, .bool false] := by rw [← hV]; exact HQ4.out.bl.set 3 (by simp) _
            rw [hV]
            clear hV
            have HQ9 : Hid (Aq l d r2 r4 r5 (.slice (some ⟨sg, 0, none⟩) 1 c1) (.slice (some ⟨en, 0, none⟩) 1 c2) W9) := Lib.hid ⟨HQ4.out.b2.but k (by have := HR.out; have := HN.out; omega), HQ4.out.b4.but k (by have := HR.out; have := HN.out; omega), HQ4.out.b5.but k (by have := HR.out; have := HN.out; omega), bl9⟩
            have HD9 := Lib.hid (HD4.out.but k (by have := HN.out; omega) (by have := HF.out; have := HR.out; have := HN.out; omega) (by have := HF.out; have := HR.out; have := HN.out; omega))
            have HS9 := Lib.hid (HS4.out.but k (by have := HSG.out; have := HR.out; have := HN.out; omega))
            have HU9 := Lib.hid (HU4.out.trans k (fun i _ e => Or.inl e))
            clear k bl9 HQ4 HD4 HU4 HS4
            (try dsimp only)
            refine hK.out _ _ ?_ (fun hHeld => ?_)
            · exact HQ9.out.b2.block (i := 0) rfl
            clear hK K
            (try simp only [Act.put, List.setIfInBounds_toArray, List.set_cons_zero, List.set_cons_succ, List.getElem_toArray, List.getElem_cons_succ, List.getElem_cons_zero])
            refine wpAnyH_done (by kernel_rfl) ?_ _
            clear hHeld
            go_wp2_with fail
            go_meet
            exact ⟨en, c2, HQ9.out, HS9.out, HD9.out, HU9.out⟩
          · go_simp
            obtain ⟨W3, hV⟩ : ∃ V, W2.alloc (.cells #[.slice (some ⟨gj, 0, none⟩) p.length cj] 42) = V := ⟨_, rfl⟩
            have k : Below W2.heap.size W2 W3 := by rw [← hV]; exact (Below.refl _ _).alloc (Nat.le_refl _) _
            have bb : Bk W3 W2.heap.size [.slice (some ⟨gj, 0, none⟩) p.length cj] := by rw [← hV]; exact Bk.new W2 #[.slice (some ⟨gj, 0, none⟩) p.length cj] 42
            rw [hV]
            clear hV
            have HBJ := Lib.hid bb
            clear bb
            have HQ3 := Lib.hid (HQ2.out.below k)
            have HS3 := Lib.hid (HS2.out.below k)
            have HD3 := Lib.hid (HD2.out.below k)
            have HU3 := Lib.hid (HU2.out.next k)
            clear k HQ2 HS2 HD2 HU2
            generalize W2.heap.size = sj at *
            (try dsimp only)
            refine hK.out _ _ ?_ (fun hHeld => ?_)
            · exact HQ3.out.b2.block (i := 0) rfl
            clear hK K
            (try simp only [Act.put, List.setIfInBounds_toArray, List.set_cons_zero, List.set_cons_succ, List.getElem_toArray, List.getElem_cons_succ, List.getElem_cons_zero])
            refine wpAnyH_ready (rs := [4]) (by kernel_rfl) (by simp) ?_
            refine AllReadyH.cons rfl (fun K hK => ?_) (AllReadyH.nil)
            have l3 := HQ3.out.bl.block (i := 3) rfl
            go_simp
            clear l3
            (try dsimp only)
            refine hK.out _ _ ?_ (fun hHeld => ?_)
            · exact HQ3.out.b2.block (i := 0) rfl
            clear hK K
            (try simp only [Act.put, List.setIfInBounds_toArray, List.set_cons_zero, List.set_cons_succ, List.getElem_toArray, List.getElem_cons_succ, List.getElem_cons_zero])
            refine wpAnyH_ready (rs := [9]) (by kernel_rfl) (by simp) ?_
            refine AllReadyH.cons rfl (fun K hK => ?_) (AllReadyH.nil)
            refine step_append_lies _ rfl (.tmp 99) (.tmp 103) _ rfl W3.heap.size 42 i1 _ 1 24 Tryz.underlying142 hi1 hy0 hy1 hy2 rfl (by decide) (.slice none 0 0) 0 [] rfl (World.ownsRow_nil _ _ _ _) ⟨sj, 0, none⟩ 1 1 [.slice (some ⟨gj, 0, none⟩) p.length cj] rfl rfl (fun j u hu => by rw [Addr.add_mid, Nat.zero_add]; exact HBJ.out.c j u hu) (by simp [Value.oneCell']) (by omega) (by unfold maxLen; omega) (by omega) (Nat.le_refl _) _ rfl ?_
            intro en c2 W4 hown hg hat hlt
            have k : Below W3.heap.size W3 W4 := (Below.refl _ _).grown hg (Nat.le_refl _) (fun i hi => by cases hi)
            clear hown hg hat hlt HBJ
            have HQ4 := Lib.hid (HQ3.out.below k)
            have HS4 := Lib.hid (HS3.out.below k)
            have HD4 := Lib.hid (HD3.out.below k)
            have HU4 := Lib.hid (HU3.out.next k)
            clear k HQ3 HS3 HD3 HU3
            (try dsimp only)
            refine hK.out _ _ ?_ (fun hHeld => ?_)
            · exact HQ4.out.b2.block (i := 0) rfl
            clear hK K
            (try simp only [Act.put, List.setIfInBounds_toArray, List.set_cons_zero, List.set_cons_succ, List.getElem_toArray, List.getElem_cons_succ, List.getElem_cons_zero])
            refine tk9 10 (hQ := by exact fun c x w h => hQ2 Tryz.results59 (by decide) (by decide) _ c x w h) ?_
            refine tk9 11 (hQ := by exact fun c x w h => hQ2 Tryz.results59 (by decide) (by decide) _ c x w h) ?_
            refine wpAnyH_ready (rs := [12]) (by kernel_rfl) (by simp) ?_
            refine AllReadyH.cons rfl (fun K hK => ?_) (AllReadyH.nil)
            have l3 := HQ4.out.bl.block (i := 3) rfl
            have f3 := HQ4.out.bl.fz 3
            go_simp
            clear l3 f3
            obtain ⟨W9, hV⟩ : ∃ V, W4.setCell ⟨l, 3, none⟩ (.slice (some ⟨en, 0, none⟩) 1 c2) = V := ⟨_, rfl⟩
            have k : But (fun i => i = l) W4 W9 := by rw [← hV]; exact (But.refl (fun i => i = l) W4).setCell (p := ⟨l, 3, none⟩) (fun _ => rfl) _
            have bl9 : Bk W9 l [ptr d, .string ⟨#[109, 48, 46]⟩, .slice (some ⟨sg, 0, none⟩) 1 c1, .slice (some ⟨en, 0, none⟩) 1 c2, .int .i64 0, .bool false] := by rw [← hV]; exact HQ4.out.bl.set 3 (by simp) _
            rw [hV]
            clear hV
            have HQ9 : Hid (Aq l d r2 r4 r5 (.slice (some ⟨sg, 0, none⟩) 1 c1) (.slice (some ⟨en, 0, none⟩) 1 c2) W9) := Lib.hid ⟨HQ4.out.b2.but k (by have := HR.out; have := HN.out; omega), HQ4.out.b4.but k (by have := HR.out; have := HN.out; omega), HQ4.out.b5.but k (by have := HR.out; have := HN.out; omega), bl9⟩
            have HD9 := Lib.hid (HD4.out.but k (by have := HN.out; omega) (by have := HF.out; have := HR.out; have := HN.out; omega) (by have := HF.out; have := HR.out; have := HN.out; omega))
            have HS9 := Lib.hid (HS4.out.but k (by have := HSG.out; have := HR.out; have := HN.out; omega))
            have HU9 := Lib.hid (HU4.out.trans k (fun i _ e => Or.inl e))
            clear k bl9 HQ4 HD4 HU4 HS4
            (try dsimp only)
            refine hK.out _ _ ?_ (fun hHeld => ?_)
            · exact HQ9.out.b2.block (i := 0) rfl
            clear hK K
            (try simp only [Act.put, List.setIfInBounds_toArray, List.set_cons_zero, List.set_cons_succ, List.getElem_toArray, List.getElem_cons_succ, List.getElem_cons_zero])
            refine wpAnyH_done (by kernel_rfl) ?_ _
            clear hHeld
            go_wp2_with fail
            go_meet
            exact ⟨en, c2, HQ9.out, HS9.out, HD9.out, HU9.out⟩
    case rest =>
      obtain ⟨en, c2, h1, h2, h3, h4⟩ := hcut
      generalize wc = V16 at *
      have HQ16 := Lib.hid h1
      have HS16 := Lib.hid h2
      have HD16 := Lib.hid h3
      have HU16 := Lib.hid h4
      clear h1 h2 h3 h4
      have HLT : Hid (sg < V16.heap.size ∧ r2 ≤ f) := Lib.hid ⟨HS16.out.lt, by have := HF.out; have := HR.out; omega⟩
      go_upto_region 24 with fail
      refine wp_region_lit ?_
      refine wpList_plain rfl (fun KK hKK => ?_)
      go_simp
      refine hKK _ _ ?_
      have c4 := HQ16.out.b4.block (i := 0) rfl
      have f4 := HQ16.out.b4.fz 0
      refine wpList_plain rfl (fun KK hKK => ?_)
      go_simp
      refine hKK _ _ ?_
      clear c4 f4
      obtain ⟨V17, hV⟩ : ∃ V, V16.setCell ⟨r4, 0, none⟩ (.int .i64 1) = V := ⟨_, rfl⟩
      have k : But (fun i => i = r4) V16 V17 := by rw [← hV]; exact (But.refl (fun i => i = r4) V16).setCell (p := ⟨r4, 0, none⟩) (fun _ => rfl) _
      have b4 : Bk V17 r4 [.int .i64 1] := by rw [← hV]; exact HQ16.out.b4.set 0 (by simp) _
      rw [hV]
      clear hV
      have b5 := HQ16.out.b5.but k (by have := HR.out; omega)
      have c5 := b5.block (i := 0) rfl
      have f5 := b5.fz 0
      refine wpList_plain rfl (fun KK hKK => ?_)
      go_simp
      refine hKK _ _ ?_
      clear c5 f5
      refine wpList_nil ?_
      obtain ⟨V18, hV⟩ : ∃ V, V17.setCell ⟨r5, 0, none⟩ (.int .i64 0) = V := ⟨_, rfl⟩
      have k2 : But (fun i => i = r4 ∨ i = r5) V16 V18 := by rw [← hV]; exact (But.mono (T := fun i => i = r4 ∨ i = r5) k (fun i _ e => Or.inl e)).setCell (p := ⟨r5, 0, none⟩) (fun _ => Or.inr rfl) _
      have d4 : Bk V18 r4 [.int .i64 1] := by rw [← hV]; exact b4.other (p := ⟨r5, 0, none⟩) (by show r5 ≠ r4; have := HR.out; omega) _
      have d5 : Bk V18 r5 [.int .i64 0] := by rw [← hV]; exact b5.set 0 (by simp) _
      rw [hV]
      clear hV k b4 b5
      have HL := Lib.hid (HQ16.out.bl.but k2 (by have := HR.out; have := HN.out; omega))
      have HSX := Lib.hid (HS16.out.but k2 (by have := HSG.out; have := HR.out; omega))
      have HDX := Lib.hid (HD16.out.but k2 (by have := HR.out; have := HN.out; omega) (by have := HF.out; have := HR.out; omega) (by have := HF.out; have := HR.out; omega))
      have HUX := Lib.hid (HU16.out.trans k2 (fun i hi e => by have := HR.out; omega))
      have c4 := d4.block (i := 0) rfl
      have c5 := d5.block (i := 0) rfl
      clear k2 d4 d5 HQ16 HS16 HD16 HU16
      go_wp2_with fail
      refine leaves_cons (f := 103) (args := #[.pointer (some ⟨r4, 0, none⟩), .pointer (some ⟨r5, 0, none⟩), .pointer (some ⟨r2, 0, none⟩)]) (by simp) (by simp [go_sem]) ?_
      refine (append_idle _ _ _ _).mono ?_
      rintro e u' w'' ⟨rfl, rfl, rfl⟩
      have hfin : (∃ sg c1 en c2 fr cap f A' c' n, (Ending.returned (.tuple #[.int .i64 1, .int .i64 0])) = .returned (.tuple #[.int .i64 1, .int .i64 0]) ∧ Bk w'' l [ptr d, .string ⟨#[109, 48, 46]⟩, .slice (some ⟨sg, 0, none⟩) 1 c1, .slice (some ⟨en, 0, none⟩) 1 c2, .int .i64 0, .bool false] ∧ w''.cell? ⟨sg, 0, none⟩ = some (.string nm1) ∧ Bk w'' d (dk1 fr cap n) ∧ Bk1 w'' fr (ptr f) ∧ Bk w'' f [.string nm1, .slice A' n c', .int .i64 0] ∧ w.heap.size ≤ f ∧ f < fr ∧ w.heap.size ≤ sg ∧ sg < w''.heap.size ∧ fr < sg) ∧ But (fun i => i = l ∨ i = d) w w'' := ⟨⟨sg, c1, en, c2, fr, cap, f, A', c', bs.length, rfl, HL.out, HSX.out.block (i := 0) rfl, HDX.out.dk, HDX.out.fr, HDX.out.fl, by have := HLT.out; have := HR.out; omega, HF.out.2, by have := HSG.out; have := HR.out; omega, HSX.out.lt, HSG.out.2⟩, HUX.out⟩
      have HFIN := Lib.hid hfin
      clear hfin HL HSX HDX HUX
      unfold Leaves
      refine ⟨_, ?_, HFIN.out⟩
      simp [results, Tryz.results59, go_sem, c4, c5]
end Go.Proofs.YtpflbhcgkndpcaaGreatDoor
