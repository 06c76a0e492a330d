/- Stage 16: the store's write of the first entry (written by gen/wr16.py). -/
import Derived.Test.YtpflbhcgkndpcaaGreatDoorAp16
/- Stage 16: the log's Sync behind the first entry (written by gen/sy16.py). -/
set_option linter.unusedSimpArgs false
set_option linter.unusedVariables false
namespace Go.Proofs.YtpflbhcgkndpcaaGreatDoor
open Go.RowKit

/-- A segment whose name is known. -/
structure Sg1 (w : World) (sg : Nat) : Prop where
  c : w.cell? ⟨sg, 0, none⟩ = some (.string nm1)
  lt : sg < w.heap.size
theorem Sg1.but {S : Nat → Prop} {w w' : World} {sg : Nat} (h : Sg1 w sg) (k : But S w w') (hs : ¬ S sg) : Sg1 w' sg := ⟨(k.cell sg 0 h.lt hs).trans h.c, Nat.lt_of_lt_of_le h.lt k.size⟩
theorem Sg1.below {w w' : World} {sg : Nat} (h : Sg1 w sg) (k : Below w.heap.size w w') : Sg1 w' sg := h.but (S := fun _ => False) (But.of_below k) (fun q => q)
theorem wsync_idle (p q : Addr) (w : World) : CallsD Tryz.prog 110 #[.pointer (some p), .pointer (some q)] .returning w fun e u' w' => e = .returned (.tuple #[]) ∧ u' = .returning ∧ w' = w := by
  refine callsD_of_wpS Tryz.func110 rfl fun c₀ cs hu => ?_
  apply wpS_seq
  apply wpS_region
  simp [wpOpsS, go_sem, recoverD, hu, Tryz.ntmps110, Exit.thenS]
  apply wpS_seq
  apply wpS_region
  simp [wpOpsS, go_sem, recoverD, hu, Exit.thenS]
  refine wpS_cond (t := false) (by simp [Act.eval, Array.replicate]) ?_
  simp only [Bool.false_eq_true, if_false]
  refine wpS_of_wp (wp_skip ?_)
  cases c₀
  simp_all [bodyPostS, results, Tryz.results110]
set_option maxRecDepth 100000 in
set_option maxHeartbeats 8000000 in
theorem lsync_one (l d sg en c1 c2 fr cap f n : Nat) (A : Option Addr) (c : Nat) (w : World) (hl : Bk w l [ptr d, .string ⟨#[109, 48, 46]⟩, .slice (some ⟨sg, 0, none⟩) 1 c1, .slice (some ⟨en, 0, none⟩) 1 c2, .int .i64 0, .bool false]) (hs : Sg1 w sg) (hd : Dq d fr cap f n A c w) (hne : l ≠ d ∧ d ≠ f ∧ f ≠ fr ∧ l ≠ f ∧ l ≠ fr ∧ sg ≠ f ∧ sg ≠ l) : Calls Tryz.prog 108 #[.pointer (some ⟨l, 0, none⟩)] w fun e w' => e = .returned (.tuple #[]) ∧ Bk w' l [ptr d, .string ⟨#[109, 48, 46]⟩, .slice (some ⟨sg, 0, none⟩) 1 c1, .slice (some ⟨en, 0, none⟩) 1 c2, .int .i64 1, .bool false] ∧ Bk w' f [.string nm1, .slice A n c, .int .i64 (n : Int)] ∧ But (fun i => i = l ∨ i = f) w w' := by
  have HL := Lib.hid hl
  have HS := Lib.hid hs
  have HD := Lib.hid hd
  have HN := Lib.hid hne
  have c3 := hl.block (i := 3) rfl
  have c4 := hl.block (i := 4) rfl
  clear hl hs hd hne
  go_enter Tryz.func108, Tryz.ntmps108
  go_upto_region 0 with fail
  go_quiet (fail)
  clear c3 c4
  obtain ⟨V1, hV⟩ : ∃ V, w.drewN nq = V := ⟨_, rfl⟩
  have k : Below w.heap.size w V1 := by rw [← hV]; (repeat' (first | (with_reducible exact Below.refl _ _) | (with_reducible assumption) | (with_reducible refine Below.trans ?_ (Below.mono (by with_reducible assumption) ?_)) | (with_reducible refine Below.alloc ?_ ?_ _) | (with_reducible refine Below.setCell ?_ ?_ _) | (with_reducible refine below_drewN ?_ _) | (with_reducible refine Below.drew ?_) | go_size))
  rw [hV]
  clear hV
  have HL1 := Lib.hid (HL.out.below k)
  have HS1 := Lib.hid (HS.out.below k)
  have HD1 := Lib.hid (HD.out.below k)
  have HU1 := Lib.hid (But.of_below (S := fun i => i = l ∨ i = f) k)
  clear k HL HS HD
  go_upto_region 1 with fail
  refine wp_region_held_drew (S := fun w' => w'.cell? ⟨l, 0, none⟩ = some (.pointer (some ⟨d, 0, none⟩)) ∧ w'.cell? ⟨sg, 0, none⟩ = some (.string nm1)) (by kernel_rfl) ?_ (fun hHeld => ?_)
  · exact ⟨HL1.out.block (i := 0) rfl, HS1.out.c⟩
  have k : Below V1.heap.size V1 V1.drew := (Below.refl _ _).drew
  obtain ⟨V2, hV2⟩ : ∃ V, V1.drew = V := ⟨_, rfl⟩
  rw [hV2] at k hHeld ⊢
  clear hV2
  have HL2 := Lib.hid (HL1.out.below k)
  have HS2 := Lib.hid (HS1.out.below k)
  have HD2 := Lib.hid (HD1.out.below k)
  have HU2 := Lib.hid (HU1.out.next k)
  clear k HL1 HS1 HD1 HU1
  refine tk9 0 ?_
  refine tk9 1 ?_
  refine tk9 2 ?_
  refine tk9 3 ?_
  refine tk9 4 ?_
  refine wpAnyH_ready (rs := [5]) (by kernel_rfl) (by simp) ?_
  refine AllReadyH.cons rfl (fun K hK => ?_) (AllReadyH.nil)
  go_simp
  (go_at_call 107; refine (last_one l sg c1 _ _ _ _ _ V2 HL2.out).mono ?_; rintro e1 V3 ⟨rfl, k⟩)
  have HL3 := Lib.hid (HL2.out.below k)
  have HS3 := Lib.hid (HS2.out.below k)
  have HD3 := Lib.hid (HD2.out.below k)
  have HU3 := Lib.hid (HU2.out.next k)
  clear k HL2 HS2 HD2 HU2
  (try dsimp only)
  refine hK.out _ _ ?_ (fun hHeld => ?_)
  · exact ⟨HL3.out.block (i := 0) rfl, HS3.out.c⟩
  clear hK K
  (try simp only [Act.put, List.setIfInBounds_toArray, List.set_cons_zero, List.set_cons_succ, List.getElem_toArray, List.getElem_cons_succ, List.getElem_cons_zero])
  refine tk9 6 ?_
  refine tk9 7 ?_
  refine tk9 8 ?_
  refine wpAnyH_ready (rs := [9]) (by kernel_rfl) (by simp) ?_
  refine AllReadyH.cons rfl (fun K hK => ?_) (AllReadyH.nil)
  go_simp
  (go_at_call 85; refine (sync_one d fr cap f n nm1 A c V3 HD3.out.dk HD3.out.fr HD3.out.fl (by decide) (by decide) HN.out.2.1 HN.out.2.2.1).mono ?_; rintro e2 V4 ⟨rfl, hf4, k⟩)
  have HL4 := Lib.hid (HL3.out.but k (by have := HN.out; omega))
  have HS4 := Lib.hid (HS3.out.but k (by have := HN.out; omega))
  have HF4 := Lib.hid hf4
  have HU4 := Lib.hid (HU3.out.trans k (fun i _ e => Or.inr e))
  clear k hf4 HL3 HS3 HD3 HU3
  (try dsimp only)
  refine hK.out _ _ ?_ (fun hHeld => ?_)
  · exact ⟨HL4.out.block (i := 0) rfl, HS4.out.c⟩
  clear hK K
  (try simp only [Act.put, List.setIfInBounds_toArray, List.set_cons_zero, List.set_cons_succ, List.getElem_toArray, List.getElem_cons_succ, List.getElem_cons_zero])
  refine wpAnyH_ready (rs := [10]) (by kernel_rfl) (by simp) ?_
  refine AllReadyH.cons rfl (fun K hK => ?_) (AllReadyH.nil)
  go_simp
  (go_at_call 84; refine (gate_ok V4).mono ?_; rintro e3 V5 ⟨rfl, rfl⟩)
  (try dsimp only)
  refine hK.out _ _ ?_ (fun hHeld => ?_)
  · exact ⟨HL4.out.block (i := 0) rfl, HS4.out.c⟩
  clear hK K
  (try simp only [Act.put, List.setIfInBounds_toArray, List.set_cons_zero, List.set_cons_succ, List.getElem_toArray, List.getElem_cons_succ, List.getElem_cons_zero])
  refine wpAnyH_done (by kernel_rfl) ?_ _
  clear hHeld
  have c3 := HL4.out.block (i := 3) rfl
  have c4 := HL4.out.block (i := 4) rfl
  have f4 := HL4.out.fz 4
  go_upto_region 2 with fail
  refine wp_region_lit ?_
  refine wpList_plain rfl (fun KK hKK => ?_)
  go_simp
  refine hKK _ _ ?_
  refine wpList_plain rfl (fun KK hKK => ?_)
  go_simp
  refine hKK _ _ ?_
  refine wpList_plain rfl (fun KK hKK => ?_)
  go_simp
  refine hKK _ _ ?_
  refine wpList_plain rfl (fun KK hKK => ?_)
  go_simp
  refine hKK _ _ ?_
  refine wpList_plain rfl (fun KK hKK => ?_)
  go_simp
  refine hKK _ _ ?_
  refine wpList_plain rfl (fun KK hKK => ?_)
  go_simp
  refine hKK _ _ ?_
  refine wpList_plain rfl (fun KK hKK => ?_)
  go_simp
  refine hKK _ _ ?_
  refine wpList_plain rfl (fun KK hKK => ?_)
  go_simp
  refine hKK _ _ ?_
  refine wpList_plain rfl (fun KK hKK => ?_)
  go_simp
  refine hKK _ _ ?_
  refine wpList_nil ?_
  clear c3 c4 f4
  go_wp2_with fail
  go_end0
  exact ⟨rfl, HL4.out.set 4 (by simp) (.int .i64 1), HF4.out.other (p := ⟨l, 4, none⟩) (by show l ≠ f; exact HN.out.2.2.2.1) _, HU4.out.setCell (p := ⟨l, 4, none⟩) (fun _ => Or.inl rfl) _⟩
set_option maxRecDepth 100000 in
set_option maxHeartbeats 8000000 in
theorem wsync_first (l d sg en c1 c2 fr cap f n : Nat) (A : Option Addr) (c : Nat) (w : World) (hl : Bk w l [ptr d, .string ⟨#[109, 48, 46]⟩, .slice (some ⟨sg, 0, none⟩) 1 c1, .slice (some ⟨en, 0, none⟩) 1 c2, .int .i64 0, .bool false]) (hs : Sg1 w sg) (hd : Dq d fr cap f n A c w) (hne : l ≠ d ∧ d ≠ f ∧ f ≠ fr ∧ l ≠ f ∧ l ≠ fr ∧ sg ≠ f ∧ sg ≠ l) : Calls Tryz.prog 60 #[.pointer (some ⟨l, 0, none⟩)] w fun e w' => e = .returned (.int .i64 0) ∧ Bk w' l [ptr d, .string ⟨#[109, 48, 46]⟩, .slice (some ⟨sg, 0, none⟩) 1 c1, .slice (some ⟨en, 0, none⟩) 1 c2, .int .i64 1, .bool false] ∧ Bk w' f [.string nm1, .slice A n c, .int .i64 (n : Int)] ∧ But (fun i => i = l ∨ i = f) w w' := by
  have hmf : ∀ (fn : Fn) (first cap : Array Value) (w : World), (Instr.makeFunc fn first cap).run Tryz.prog w = .ok (.func fn first cap) w := fun _ _ _ _ => rfl
  have HL := Lib.hid hl
  have HS := Lib.hid hs
  have HD := Lib.hid hd
  have HN := Lib.hid hne
  clear hl hs hd hne
  go_enter_defers Tryz.func60, Tryz.ntmps60
  go_upto_region 1 with fail
  obtain ⟨V0, hV⟩ : ∃ V, ((w.alloc (.cells #[.pointer (some ⟨l, 0, none⟩)] 86)).alloc (.cells #[.int .i64 0] 47)) = V := ⟨_, rfl⟩
  have k : Below w.heap.size w V0 := by rw [← hV]; exact ((Below.refl _ _).alloc (Nat.le_refl _) _).alloc (by simp) _
  have b1 : Bk V0 w.heap.size [ptr l] := by
    rw [← hV]
    exact (Bk.new w #[ptr l] 86).below ((Below.refl _ _).alloc (Nat.le_refl _) _)
  have b2 : Bk V0 (w.heap.size + 1) [.int .i64 0] := by
    rw [← hV]
    have := Bk.new (w.alloc (.cells #[.pointer (some ⟨l, 0, none⟩)] 86)) #[.int .i64 0] 47
    rw [World.size_alloc] at this
    exact this
  rw [hV]
  clear hV
  have HL0 := Lib.hid (HL.out.below k)
  have HS0 := Lib.hid (HS.out.below k)
  have HD0 := Lib.hid (HD.out.below k)
  have HU0 := Lib.hid (But.of_below (S := fun i => i = l ∨ i = f) k)
  have HLT : Hid (l < w.heap.size ∧ f < w.heap.size) := Lib.hid ⟨HL.out.lt, HD.out.fl.lt⟩
  clear k HL HS HD
  generalize hr1 : w.heap.size = r1 at *
  generalize hr2 : r1 + 1 = r2 at *
  have HR : Hid (w.heap.size = r1 ∧ r1 < r2) := Lib.hid ⟨hr1, by omega⟩
  clear hr1 hr2
  have HB1 := Lib.hid b1
  have HB2 := Lib.hid b2
  have c1' := b1.block (i := 0) rfl
  have l5 := HL0.out.block (i := 5) rfl
  unfold ptr at c1'
  clear b1 b2
  go_upto_region 7 with (go_at_call 108; refine (lsync_one l d sg en c1 c2 fr cap f n A c V0 HL0.out HS0.out HD0.out HN.out).mono ?_; rintro e1 V1 ⟨rfl, hl1, hf1, k⟩)
  have HL1 := Lib.hid hl1
  have HF1 := Lib.hid hf1
  have HU1 := Lib.hid (HU0.out.trans k (fun i _ e => e))
  have B2 := HB2.out.but k (by have := HR.out; have := HLT.out; omega)
  clear k hl1 hf1 c1' l5 HL0 HS0 HD0 HU0
  have c2' := B2.block (i := 0) rfl
  have f2 := B2.fz 0
  go_wp2_with fail
  obtain ⟨V2, hV⟩ : ∃ V, V1.setCell ⟨r2, 0, none⟩ (.int .i64 0) = V := ⟨_, rfl⟩
  have k : But (fun i => i = r2) V1 V2 := by rw [← hV]; exact (But.refl (fun i => i = r2) V1).setCell (p := ⟨r2, 0, none⟩) (fun _ => rfl) _
  have b2 : Bk V2 r2 [.int .i64 0] := by rw [← hV]; exact B2.set 0 (by simp) _
  rw [hV]
  clear hV
  have HL2 := Lib.hid (HL1.out.but k (by have := HR.out; have := HLT.out; omega))
  have HF2 := Lib.hid (HF1.out.but k (by have := HR.out; have := HLT.out; omega))
  have HU2 := Lib.hid (HU1.out.trans k (fun i hi e => by have := HR.out; omega))
  have c2' := b2.block (i := 0) rfl
  clear k b2 B2 HL1 HF1 HU1
  refine leaves_cons (f := 110) (args := #[.pointer (some ⟨r2, 0, none⟩), .pointer (some ⟨r1, 0, none⟩)]) (by simp) (by simp [go_sem]) ?_
  refine (wsync_idle _ _ _).mono ?_
  rintro e u' w'' ⟨rfl, rfl, rfl⟩
  have HFIN := Lib.hid (And.intro (rfl : (Ending.returned (.int .i64 0)) = .returned (.int .i64 0)) (And.intro HL2.out (And.intro HF2.out HU2.out)))
  clear HL2 HF2 HU2
  unfold Leaves
  refine ⟨_, ?_, HFIN.out⟩
  simp [results, Tryz.results60, go_sem, c2']
end Go.Proofs.YtpflbhcgkndpcaaGreatDoor

/- Stage 16: the store's write of the first entry (written by gen/wr16.py). -/
namespace Go.Proofs.YtpflbhcgkndpcaaGreatDoor
open Go.RowKit

set_option maxRecDepth 100000 in
set_option maxHeartbeats 8000000 in
theorem swrite_first (s l d m : Nat) (A : Option Addr) (p : List Int) (c : Nat) (w : World) (ht : Nib w) (hs : Bk w s (stE d (ptr l) 0 m)) (hl : Bk w l (lgE d)) (hd : Bk w d (dkE 1048576)) (hp : ByL w A p) (hb : isBy p) (hp0 : 0 < p.length) (hpl : p.length ≤ 262134) (hne : l ≠ d ∧ s ≠ l ∧ s ≠ d) (hbd : ∀ ad, A = some ad → ad.block ≠ l ∧ ad.block ≠ d) : Calls Tryz.prog 29 #[.pointer (some ⟨s, 0, none⟩), .slice A p.length c] w fun e w' => e = .returned (.int .i64 0) ∧ Bk w' s (stE d (ptr l) 1 m) ∧ But (fun i => i = l ∨ i = d ∨ i = s) w w' := by
  have HA := Lib.hid (append_first l d A p c w ht hl hd hp hb hp0 hpl hne.1 hbd)
  have HS := Lib.hid hs
  have HN := Lib.hid (And.intro hne (And.intro hl.lt hd.lt))
  have c3 := hs.block (i := 3) rfl
  unfold ptr at c3
  clear ht hs hl hd hp hb hp0 hpl hne hbd
  go_enter Tryz.func29, Tryz.ntmps29
  go_upto_region 3 with (go_at_call 59; refine HA.out.mono ?_; rintro e1 V1 ⟨⟨sg, c1, en, c2, fr, cap, f, A', c', n, rfl, hl1, hs1, hd1, hr1, hf1, q1, q2, q3, q4, q5⟩, k⟩)
  have HS1 := Lib.hid (HS.out.but k (by have := HN.out; omega))
  have HU1 := Lib.hid (k.mono (T := fun i => i = l ∨ i = d ∨ i = s) (fun i _ e => e.elim Or.inl (fun q => Or.inr (Or.inl q))))
  have HL1 := Lib.hid hl1
  have HSG := Lib.hid (Sg1.mk hs1 q4)
  have HD1 := Lib.hid (Dq.mk hd1 hr1 hf1)
  have HQ := Lib.hid (And.intro q1 (And.intro q2 (And.intro q3 q5)))
  have HSX : Hid (s < w.heap.size) := Lib.hid HS.out.lt
  clear k hl1 hs1 hd1 hr1 hf1 q1 q2 q3 q4 q5 c3 HA HS
  have c3 := HS1.out.block (i := 3) rfl
  unfold ptr at c3
  have HY := Lib.hid (wsync_first l d sg en c1 c2 fr cap f n A' c' V1 HL1.out HSG.out HD1.out (by have := HN.out; have := HQ.out; omega))
  go_upto_region 7 with (go_at_call 60; refine HY.out.mono ?_; rintro e2 V2 ⟨rfl, _, _, k⟩)
  have HS2 := Lib.hid (HS1.out.but k (by have := HN.out; have := HQ.out; have := HSX.out; omega))
  have HU2 := Lib.hid (HU1.out.trans k (fun i hi e => by have := HQ.out; omega))
  clear k c3 HS1 HU1 HL1 HSG HD1 HY
  have c5 := HS2.out.block (i := 5) rfl
  have f5 := HS2.out.fz 5
  go_wp2_with fail
  go_ret
  exact ⟨rfl, HS2.out.set 5 (by simp [stE]) (.int .i64 1), HU2.out.setCell (p := ⟨s, 5, none⟩) (fun _ => Or.inr (Or.inr rfl)) _⟩
end Go.Proofs.YtpflbhcgkndpcaaGreatDoor

