/- stream: Take (written by gen/strd.py). -/
import Derived.Test.YtdffldlcbihjmaaDoorSmC
import Derived.Test.YtdffldlcbihjmaaDoorByClone
set_option linter.unusedSimpArgs false
set_option linter.unusedVariables false
namespace Go.Proofs.YtdffldlcbihjmaaDoor
open Go.RowKit Go.Sort

/-- What is taken of a row of records. -/
def takeS (o a : Int) : List Rc → List Rc → List Rc
  | acc, [] => acc
  | acc, r :: t => if okR r = true ∧ r.o = o ∧ r.s = a + 1 + (acc.length : Int) then takeS o a (acc ++ [r]) t else if acc.length = 0 then takeS o a [] t else acc
theorem takeS_yes {o a : Int} {acc t : List Rc} {r : Rc} (h : okR r = true ∧ r.o = o ∧ r.s = a + 1 + (acc.length : Int)) : takeS o a acc (r :: t) = takeS o a (acc ++ [r]) t := by rw [takeS, if_pos h]
theorem takeS_skip {o a : Int} {acc t : List Rc} {r : Rc} (h : ¬ (okR r = true ∧ r.o = o ∧ r.s = a + 1 + (acc.length : Int))) (h0 : acc.length = 0) : takeS o a acc (r :: t) = takeS o a acc t := by
  rw [takeS, if_neg h, if_pos h0, List.length_eq_zero_iff.1 h0]
theorem takeS_stop {o a : Int} {acc t : List Rc} {r : Rc} (h : ¬ (okR r = true ∧ r.o = o ∧ r.s = a + 1 + (acc.length : Int))) (h0 : ¬ acc.length = 0) : takeS o a acc (r :: t) = acc := by
  rw [takeS, if_neg h, if_neg h0]
theorem takeS_mem {o a : Int} : ∀ {rs acc : List Rc} {r : Rc}, r ∈ takeS o a acc rs → r ∈ acc ∨ r ∈ rs
  | [], _, _, h => .inl h
  | x :: t, acc, r, h => by
    rw [takeS] at h
    split at h
    · rcases takeS_mem h with q | q
      · rcases List.mem_append.1 q with q | q
        · exact .inl q
        · exact .inr (by rw [List.mem_singleton.1 q]; exact List.mem_cons_self ..)
      · exact .inr (List.mem_cons_of_mem _ q)
    · split at h
      · rcases takeS_mem h with q | q
        · cases q
        · exact .inr (List.mem_cons_of_mem _ q)
      · exact .inl h
/-- What Take tells. -/
def TakeR (o a : Int) (rs : List Rc) (w w' : World) (e : Ending) : Prop := ∃ v L, e = .returned v ∧ TL w w' v L.length L ∧ L.map Mr.r = takeS o a [] rs
set_option maxRecDepth 100000 in
set_option maxHeartbeats 8000000 in
theorem st_take (b : Nat) (f o a : Int) (A : Option Addr) (c : Nat) (L : List Mr) (w : World) (h : XB w b (inC f o a)) (hrow : RowAt w (.slice A L.length c) L) (hat : ∀ m ∈ L, m.At (fun _ => True) w) (hl : L.length ≤ 100000) (ha : 0 ≤ a ∧ a ≤ 1099511627776) :
    Calls Tryd.prog 40 #[.pointer (some ⟨b, 0, none⟩), .slice A L.length c] w fun e w' => TakeR o a (L.map Mr.r) w w' e := by
  obtain ⟨i0, hi0, hz0, hz1, hz2⟩ := info_parts rec_info
  obtain ⟨A', c', he', hc⟩ := hrow.ex
  obtain ⟨rfl, rfl⟩ : A = A' ∧ c = c' := by injection he' with q1 q2 q3; exact ⟨q1, q3⟩
  have hni : (L.length : Int) ≤ 100000 := by omega
  have HC := Lib.hid hc
  have HA := Lib.hid hat
  have HX := Lib.hid h
  have hal := ha.1
  have hah := ha.2
  have e1 : IntKind.i64.wrap (a + 1) = a + 1 := IntWalk.i64_in _ (by omega)
  clear h hrow hat hl he' hc ha
  go_enter Tryd.func40, Tryd.ntmps40
  go_wp2
  go_loopw [5, 12] (fun v i wr => ∃ (j k : Nat) (Z : List Mr), j ≤ L.length ∧ k ≤ j ∧ i = .int .i64 j ∧ TL w wr v k Z ∧ Hid (takeS o a [] (L.map Mr.r) = takeS o a (Z.map Mr.r) ((L.map Mr.r).drop j))) (fun _ i _ => L.length - (intOf i).toNat)
  case atStart => exact ⟨0, 0, [], Nat.zero_le _, Nat.le_refl _, rfl, TL.start w, Lib.hid rfl⟩
  case round =>
    obtain ⟨j, k, Z, hj, hkj, rfl, hT, hE⟩ := hrel
    obtain ⟨Av, cv, rfl⟩ := hT.shape
    have HT := Lib.hid hT
    have hBB := hT.bel
    clear hT
    by_cases hlt : j < L.length
    · have lk : (j : Int) < (L.length : Int) := by omega
      have hi1 : ((j : Int).toNat) = j := by simp
      obtain ⟨B, O, rfl, hBl, hcell⟩ := HC.out (by omega)
      have hx : L[j]? = some L[j] := List.getElem?_eq_getElem hlt
      have hm := HA.out L[j] (List.getElem_mem hlt)
      have hdr : (L.map Mr.r).drop j = L[j].r :: (L.map Mr.r).drop (j + 1) := by
        rw [List.drop_eq_getElem_cons (by simpa using hlt)]
        simp
      have hEE := hE.out
      rw [hdr] at hEE
      generalize L[j] = x at *
      have a0 : wr.cell? ⟨B, O + j * 9, none⟩ = some (.int .i64 x.r.o) := (hBB.cell (p := ⟨B, O + j * 9, none⟩) hBl).trans (hcell (j * 9) _ (by have := rowM_at hx 0 (by omega); rwa [Nat.add_zero] at this))
      have a1 : wr.cell? ⟨B, O + j * 9 + 1, none⟩ = some (.int .i64 x.r.s) := by rw [Nat.add_assoc]; exact (hBB.cell (p := ⟨B, O + (j * 9 + 1), none⟩) hBl).trans (hcell _ _ (rowM_at hx 1 (by omega)))
      have a2 : wr.cell? ⟨B, O + j * 9 + 2, none⟩ = some (.string (strB x.r.key)) := by rw [Nat.add_assoc]; exact (hBB.cell (p := ⟨B, O + (j * 9 + 2), none⟩) hBl).trans (hcell _ _ (rowM_at hx 2 (by omega)))
      have a3 : wr.cell? ⟨B, O + j * 9 + 3, none⟩ = some (.int .i64 x.r.ml) := by rw [Nat.add_assoc]; exact (hBB.cell (p := ⟨B, O + (j * 9 + 3), none⟩) hBl).trans (hcell _ _ (rowM_at hx 3 (by omega)))
      have a4 : wr.cell? ⟨B, O + j * 9 + 4, none⟩ = some (.int .i64 x.r.ct) := by rw [Nat.add_assoc]; exact (hBB.cell (p := ⟨B, O + (j * 9 + 4), none⟩) hBl).trans (hcell _ _ (rowM_at hx 4 (by omega)))
      have a5 : wr.cell? ⟨B, O + j * 9 + 5, none⟩ = some (.int .i64 x.r.vo) := by rw [Nat.add_assoc]; exact (hBB.cell (p := ⟨B, O + (j * 9 + 5), none⟩) hBl).trans (hcell _ _ (rowM_at hx 5 (by omega)))
      have a6 : wr.cell? ⟨B, O + j * 9 + 6, none⟩ = some (.slice x.A x.r.val.length x.c) := by rw [Nat.add_assoc]; exact (hBB.cell (p := ⟨B, O + (j * 9 + 6), none⟩) hBl).trans (hcell _ _ (rowM_at hx 6 (by omega)))
      have a7 : wr.cell? ⟨B, O + j * 9 + 7, none⟩ = some (.bool x.r.gone) := by rw [Nat.add_assoc]; exact (hBB.cell (p := ⟨B, O + (j * 9 + 7), none⟩) hBl).trans (hcell _ _ (rowM_at hx 7 (by omega)))
      have a8 : wr.cell? ⟨B, O + j * 9 + 8, none⟩ = some (.int .i64 x.r.tt) := by rw [Nat.add_assoc]; exact (hBB.cell (p := ⟨B, O + (j * 9 + 8), none⟩) hBl).trans (hcell _ _ (rowM_at hx 8 (by omega)))
      have HOK : Hid (okR x.r = okN x.r.o x.r.s (strB x.r.key).size x.r.ml x.r.ct x.r.vo x.r.val.length x.r.gone x.r.tt) := Lib.hid (by rw [okR_n, strB_size])
      have kA : Below wr.heap.size wr (wr.alloc (recO x.r.o x.r.s (strB x.r.key) x.r.ml x.r.ct x.r.vo x.A x.r.val.length x.c x.r.gone x.r.tt)) := (Below.refl _ _).alloc (Nat.le_refl _) _
      have X6 : XB (wr.alloc (recO x.r.o x.r.s (strB x.r.key) x.r.ml x.r.ct x.r.vo x.A x.r.val.length x.c x.r.gone x.r.tt)) wr.heap.size x.cs := XB.new wr _ _
      have Y6 := (HX.out.below hBB).below kA
      have HKA := Lib.hid kA
      have HX6 := Lib.hid X6
      have HM := Lib.hid (hm.below hBB)
      have hlz : wr.heap.size < (wr.alloc (recO x.r.o x.r.s (strB x.r.key) x.r.ml x.r.ct x.r.vo x.A x.r.val.length x.c x.r.gone x.r.tt)).heap.size := by simp
      have HCON : Hid (∀ W, Calls Tryd.prog 72 #[recV x.r.o x.r.s (strB x.r.key) x.r.ml x.r.ct x.r.vo x.A x.r.val.length x.c x.r.gone x.r.tt] W fun e w' => e = .returned (.bool (okR x.r)) ∧ Below W.heap.size W w') := Lib.hid (fun W => by rw [HOK.out]; exact rec_is x.r.o x.r.s (strB x.r.key) x.r.ml x.r.ct x.r.vo x.A x.r.val.length x.c x.r.gone x.r.tt W)
      have HEE := Lib.hid hEE
      have hZ := HT.out.len
      have HZ : Hid ((Z.map Mr.r).length = k) := Lib.hid (by simpa using hZ)
      have e2 : IntKind.i64.wrap (a + 1 + (k : Int)) = a + 1 + (k : Int) := IntWalk.i64_in _ (by omega)
      clear hEE hE hdr hx hm hcell hBB kA hlt HOK hZ
      go_wp2_with fail
      clear a0 a1 a2 a3 a4 a5 a6 a7 a8
      have r0 := fun d os => cell_regrown (X6.c 0 _ rfl) d os
      have r1 := fun d os => cell_regrown (X6.c 1 _ rfl) d os
      have r2 := fun d os => cell_regrown (X6.c 2 _ rfl) d os
      have r3 := fun d os => cell_regrown (X6.c 3 _ rfl) d os
      have r4 := fun d os => cell_regrown (X6.c 4 _ rfl) d os
      have r5 := fun d os => cell_regrown (X6.c 5 _ rfl) d os
      have r6 := fun d os => cell_regrown (X6.c 6 _ rfl) d os
      have r7 := fun d os => cell_regrown (X6.c 7 _ rfl) d os
      have r8 := fun d os => cell_regrown (X6.c 8 _ rfl) d os
      have y1 := fun d os => cell_regrown (Y6.c 1 _ rfl) d os
      have y2 := fun d os => cell_regrown (Y6.c 2 _ rfl) d os
      clear X6 Y6
      generalize wr.alloc (recO x.r.o x.r.s (strB x.r.key) x.r.ml x.r.ct x.r.vo x.A x.r.val.length x.c x.r.gone x.r.tt) = W6 at *
      have AC := Lib.hid fun (d' : Nat) (os : Array Obj) => Calls.regrown_of (HCON.out (grow (redrawn W6 d') os))
      clear HCON
      cases hok : okR x.r
      · rw [hok] at AC
        have HNO : Hid (¬ (okR x.r = true ∧ x.r.o = o ∧ x.r.s = a + 1 + ((Z.map Mr.r).length : Int))) := Lib.hid (by rw [HZ.out]; exact fun q => by have := q.1; rw [hok] at this; cases this)
        clear hok
        refine wp_region_quiet_below (by kernel_rfl) (by kernel_rfl) ?_
        repeat (go_big_quiet_step ((go_at_call 72; exact AC.out _ _)))
        refine wpQuiet_nil ?_
        intro _ hw'
        obtain ⟨⟨dq, osq⟩, hw''⟩ := hw'
        subst hw''
        have hq := below_regrown W6 dq osq
        have HK7 := Lib.hid (HKA.out.trans (hq.mono HKA.out.size))
        have HX7 := Lib.hid (HX6.out.below hq)
        have z7 := hq.size
        clear hq AC r0 r1 r2 r3 r4 r5 r6 r7 r8 y1 y2
        generalize hgw : grow (redrawn W6 dq) osq = W7 at *
        clear hgw
        have HT7 := Lib.hid (HT.out.below HK7.out)
        by_cases hk0 : k = 0
        · have HNX := Lib.hid (HEE.out.trans (takeS_skip HNO.out (by rw [HZ.out]; exact hk0)))
          subst hk0
          go_wp2
          go_roundw
          case rel => exact ⟨j + 1, 0, Z, by omega, by omega, by go_num, HT7.out, Lib.hid HNX.out⟩
          case measure => simp [intOf]; omega
        · have hkp : 0 < k := by omega
          have HNX := Lib.hid (HEE.out.trans (takeS_stop HNO.out (by rw [HZ.out]; exact hk0)))
          have HLK := Lib.hid HT7.out.len
          clear hk0
          go_wp2
          go_ret
          exact ⟨_, Z, rfl, by rw [HLK.out]; exact HT7.out, HNX.out.symm⟩
      rw [hok] at AC
      by_cases ho : x.r.o = o
      rotate_left
      · have t1 : (x.r.o == o) = false := by simpa using ho
        have HNO : Hid (¬ (okR x.r = true ∧ x.r.o = o ∧ x.r.s = a + 1 + ((Z.map Mr.r).length : Int))) := Lib.hid (by rw [HZ.out]; exact fun q => ho q.2.1)
        clear hok ho
        refine wp_region_quiet_below (by kernel_rfl) (by kernel_rfl) ?_
        repeat (go_big_quiet_step ((go_at_call 72; exact AC.out _ _)))
        refine wpQuiet_nil ?_
        intro _ hw'
        obtain ⟨⟨dq, osq⟩, hw''⟩ := hw'
        subst hw''
        have hq := below_regrown W6 dq osq
        have HK7 := Lib.hid (HKA.out.trans (hq.mono HKA.out.size))
        have HX7 := Lib.hid (HX6.out.below hq)
        have z7 := hq.size
        clear hq AC r0 r1 r2 r3 r4 r5 r6 r7 r8 y1 y2
        generalize hgw : grow (redrawn W6 dq) osq = W7 at *
        clear hgw
        have HT7 := Lib.hid (HT.out.below HK7.out)
        by_cases hk0 : k = 0
        · have HNX := Lib.hid (HEE.out.trans (takeS_skip HNO.out (by rw [HZ.out]; exact hk0)))
          subst hk0
          go_wp2
          go_roundw
          case rel => exact ⟨j + 1, 0, Z, by omega, by omega, by go_num, HT7.out, Lib.hid HNX.out⟩
          case measure => simp [intOf]; omega
        · have hkp : 0 < k := by omega
          have HNX := Lib.hid (HEE.out.trans (takeS_stop HNO.out (by rw [HZ.out]; exact hk0)))
          have HLK := Lib.hid HT7.out.len
          clear hk0
          go_wp2
          go_ret
          exact ⟨_, Z, rfl, by rw [HLK.out]; exact HT7.out, HNX.out.symm⟩
      have t1 : (x.r.o == o) = true := by simpa using ho
      by_cases hs : x.r.s = a + 1 + (k : Int)
      rotate_left
      · have t2 : (x.r.s == a + 1 + (k : Int)) = false := by simpa using hs
        have HNO : Hid (¬ (okR x.r = true ∧ x.r.o = o ∧ x.r.s = a + 1 + ((Z.map Mr.r).length : Int))) := Lib.hid (by rw [HZ.out]; exact fun q => hs q.2.2)
        clear hok ho hs
        refine wp_region_quiet_below (by kernel_rfl) (by kernel_rfl) ?_
        repeat (go_big_quiet_step ((go_at_call 72; exact AC.out _ _)))
        refine wpQuiet_nil ?_
        intro _ hw'
        obtain ⟨⟨dq, osq⟩, hw''⟩ := hw'
        subst hw''
        have hq := below_regrown W6 dq osq
        have HK7 := Lib.hid (HKA.out.trans (hq.mono HKA.out.size))
        have HX7 := Lib.hid (HX6.out.below hq)
        have z7 := hq.size
        clear hq AC r0 r1 r2 r3 r4 r5 r6 r7 r8 y1 y2
        generalize hgw : grow (redrawn W6 dq) osq = W7 at *
        clear hgw
        have HT7 := Lib.hid (HT.out.below HK7.out)
        by_cases hk0 : k = 0
        · have HNX := Lib.hid (HEE.out.trans (takeS_skip HNO.out (by rw [HZ.out]; exact hk0)))
          subst hk0
          go_wp2
          go_roundw
          case rel => exact ⟨j + 1, 0, Z, by omega, by omega, by go_num, HT7.out, Lib.hid HNX.out⟩
          case measure => simp [intOf]; omega
        · have hkp : 0 < k := by omega
          have HNX := Lib.hid (HEE.out.trans (takeS_stop HNO.out (by rw [HZ.out]; exact hk0)))
          have HLK := Lib.hid HT7.out.len
          clear hk0
          go_wp2
          go_ret
          exact ⟨_, Z, rfl, by rw [HLK.out]; exact HT7.out, HNX.out.symm⟩
      have t2 : (x.r.s == a + 1 + (k : Int)) = true := by simpa using hs
      have HYS : Hid (okR x.r = true ∧ x.r.o = o ∧ x.r.s = a + 1 + ((Z.map Mr.r).length : Int)) := Lib.hid (by rw [HZ.out]; exact ⟨hok, ho, hs⟩)
      have HVL : Hid (x.r.val.length ≤ 100000) := Lib.hid (by have := ((ok_iff _).1 hok).v1; omega)
      clear hok ho hs
      refine wp_region_quiet_below (by kernel_rfl) (by kernel_rfl) ?_
      repeat (go_big_quiet_step ((go_at_call 72; exact AC.out _ _)))
      refine wpQuiet_nil ?_
      intro _ hw'
      obtain ⟨⟨dq, osq⟩, hw''⟩ := hw'
      subst hw''
      have hq := below_regrown W6 dq osq
      have HK7 := Lib.hid (HKA.out.trans (hq.mono HKA.out.size))
      have HX7 := Lib.hid (HX6.out.below hq)
      have z7 := hq.size
      clear hq AC r0 r1 r2 r3 r4 r5 r6 r7 r8 y1 y2
      generalize hgw : grow (redrawn W6 dq) osq = W7 at *
      clear hgw
      have HCL := Lib.hid (bytes_clone x.A x.r.val x.c W7 (HM.out.below HK7.out).b HM.out.n HVL.out)
      have q0 := HX7.out.c 0 _ rfl
      have q1 := HX7.out.c 1 _ rfl
      have q2 := HX7.out.c 2 _ rfl
      have q3 := HX7.out.c 3 _ rfl
      have q4 := HX7.out.c 4 _ rfl
      have q5 := HX7.out.c 5 _ rfl
      have q6 := HX7.out.c 6 _ rfl
      have q7 := HX7.out.c 7 _ rfl
      have q8 := HX7.out.c 8 _ rfl
      have hl7 := HX7.out.lt
      go_wp2_with fail
      refine HCL.out.mono ?_; rintro e W8 ⟨v1, rfl, hown, k8⟩
      obtain ⟨A1, c1, rfl, _, hy1, hn1, hb1⟩ := own8_shape hown
      clear q0 q1 q2 q3 q4 q5 q6 q7 q8
      have X8 := HX7.out.below k8
      have X9 := X8.set 6 (by simp [Mr.cs]) (.slice A1 x.r.val.length c1)
      have HM8 : Hid ((Mr.mk x.r A1 c1).At (fun i => W7.heap.size ≤ i) W8) := Lib.hid ⟨hy1, hn1, fun _ ad had => (hb1 ad had).1⟩
      have HKB := Lib.hid (HK7.out.trans (k8.mono HK7.out.size))
      have O9 : Only wr.heap.size W8 (W8.setCell ⟨wr.heap.size, 6, none⟩ (.slice A1 x.r.val.length c1)) := (Only.refl _ _).setB _
      have HK9 := Lib.hid (HKB.out.setCell (p := ⟨wr.heap.size, 6, none⟩) (Nat.le_refl _) (.slice A1 x.r.val.length c1))
      have HM9 := Lib.hid (HM8.out.but (S := fun i => i = wr.heap.size) (But.of_only O9 rfl) (fun i e => by subst e; omega))
      have q0 := X8.c 0 _ rfl
      have q1 := X8.c 1 _ rfl
      have q2 := X8.c 2 _ rfl
      have q3 := X8.c 3 _ rfl
      have q4 := X8.c 4 _ rfl
      have q5 := X8.c 5 _ rfl
      have q6 := X8.c 6 _ rfl
      have q7 := X8.c 7 _ rfl
      have q8 := X8.c 8 _ rfl
      have p0 := X9.c 0 _ rfl
      have p1 := X9.c 1 _ rfl
      have p2 := X9.c 2 _ rfl
      have p3 := X9.c 3 _ rfl
      have p4 := X9.c 4 _ rfl
      have p5 := X9.c 5 _ rfl
      have p6 := X9.c 6 _ rfl
      have p7 := X9.c 7 _ rfl
      have p8 := X9.c 8 _ rfl
      have qf6 := X8.fz 6
      have hl8 := X8.lt
      have kB : Below (W8.setCell ⟨wr.heap.size, 6, none⟩ (.slice A1 x.r.val.length c1)).heap.size (W8.setCell ⟨wr.heap.size, 6, none⟩ (.slice A1 x.r.val.length c1)) ((W8.setCell ⟨wr.heap.size, 6, none⟩ (.slice A1 x.r.val.length c1)).alloc (.cells #[.int .i64 x.r.o, .int .i64 x.r.s, .string (strB x.r.key), .int .i64 x.r.ml, .int .i64 x.r.ct, .int .i64 x.r.vo, .slice A1 x.r.val.length c1, .bool x.r.gone, .int .i64 x.r.tt] 89)) := (Below.refl _ _).alloc (Nat.le_refl _) _
      have HKC := Lib.hid (HK9.out.trans (kB.mono HK9.out.size))
      have HM10 := Lib.hid (HM9.out.below kB)
      have hrow := ((HT.out.below HK9.out).below kB).row
      have HNEWS := Lib.hid (World.news_of_block (cs := #[.int .i64 x.r.o, .int .i64 x.r.s, .string (strB x.r.key), .int .i64 x.r.ml, .int .i64 x.r.ct, .int .i64 x.r.vo, .slice A1 x.r.val.length c1, .bool x.r.gone, .int .i64 x.r.tt]) (t := 89) (fr := (0, 0)) (heap_alloc_new (W8.setCell ⟨wr.heap.size, 6, none⟩ (.slice A1 x.r.val.length c1)) (.cells #[.int .i64 x.r.o, .int .i64 x.r.s, .string (strB x.r.key), .int .i64 x.r.ml, .int .i64 x.r.ct, .int .i64 x.r.vo, .slice A1 x.r.val.length c1, .bool x.r.gone, .int .i64 x.r.tt] 89)))
      have hz9 : (W8.setCell ⟨wr.heap.size, 6, none⟩ (.slice A1 x.r.val.length c1)).heap.size = W8.heap.size := World.size_setCell _ _ _
      rw [hz9] at HNEWS
      have hzw := HT.out.bel.size
      have hz8 : W7.heap.size ≤ W8.heap.size := k8.size
      clear hown k8 hy1 hn1 hb1 X8 X9 O9 kB HCL hz9
      go_wp2_with (at_builtin; refine wpList_append_lies _ rfl (.tmp 46) (.tmp 48) _ rfl w.heap.size 89 i0 _ 9 96 Tryd.underlying24 hi0 hz0 hz1 hz2 rfl (by decide) (.slice Av k cv) k _ rfl hrow ⟨W8.heap.size, 0, none⟩ 1 1 [.int .i64 x.r.o, .int .i64 x.r.s, .string (strB x.r.key), .int .i64 x.r.ml, .int .i64 x.r.ct, .int .i64 x.r.vo, .slice A1 x.r.val.length c1, .bool x.r.gone, .int .i64 x.r.tt] rfl rfl HNEWS.out (by simp [Value.oneCell']) (by omega) (by unfold maxLen; omega) (by omega) (by simp; omega) _ rfl ?_; intro g2 cap2 W5 hown2 hg2 hat2 hlt2)
      have HTf := Lib.hid (HT.out.app (HM10.out.mono (fun i _ hq => by omega)) HKC.out hg2 (by exact hown2) (hat2.imp_right (fun e => Nat.le_of_eq e.symm)))
      have HNX : Hid (takeS o a [] (L.map Mr.r) = takeS o a ((Z ++ [Mr.mk x.r A1 c1]).map Mr.r) ((L.map Mr.r).drop (j + 1))) := Lib.hid (by rw [HEE.out, takeS_yes HYS.out, List.map_append]; rfl)
      clear hown2 hg2 hat2 hlt2 hrow q0 q1 q2 q3 q4 q5 q6 q7 q8 p0 p1 p2 p3 p4 p5 p6 p7 p8 qf6
      go_wp2
      go_roundw
      case rel => exact ⟨j + 1, k + 1, Z ++ [Mr.mk x.r A1 c1], by omega, by omega, by go_num, HTf.out, Lib.hid HNX.out⟩
      case measure => simp [intOf]; omega
    · obtain rfl : j = L.length := by omega
      have HNX : Hid (takeS o a [] (L.map Mr.r) = Z.map Mr.r) := Lib.hid (by rw [hE.out, List.drop_of_length_le (by simp)]; rfl)
      have HLK := Lib.hid HT.out.len
      clear hlt hE
      go_wp2
      go_ret
      exact ⟨_, Z, by first | rfl | trivial, by rw [HLK.out]; exact HT.out, by rw [HNX.out]⟩
end Go.Proofs.YtdffldlcbihjmaaDoor
