/- stream: known (package meridianlaw18). -/
import Derived.Test.YtdffldlcbihjmaaDoorSmD
import Derived.Test.YtdffldlcbihjmaaDoorRecs18
set_option linter.unusedSimpArgs false
set_option linter.unusedVariables false
namespace Go.Proofs.YtdffldlcbihjmaaDoor
open Go.RowKit Go.Sort

theorem new_yes {cs : List Value} {ok : Bool} {w w' : World} {e : Ending} (h : NewRes cs ok w w' e) (hk : ok = true) : ∃ b, e = .returned (.tuple #[.pointer (some ⟨b, 0, none⟩), .int .i64 0]) ∧ w.heap.size ≤ b ∧ XB w' b cs ∧ Below w.heap.size w w' := by
  rcases h with ⟨q, _⟩ | ⟨_, q⟩
  · rw [hk] at q; cases q
  · exact q
/-- The record that the law makes, of a small number. -/
theorem rec_lit (s : Nat) (W : World) (h : s ≤ 255) : Calls Tryd.prog 69 #[.int .i64 0, .int .i64 s] W fun e w' => ∃ g, e = .returned (recV 0 s (strB [107]) s 0 0 (some ⟨g, 0, none⟩) 1 1 false 0) ∧ (Mr.mk (recS 0 s) (some ⟨g, 0, none⟩) 1).At (fun i => W.heap.size ≤ i) w' ∧ Below W.heap.size W w' :=
  (law_rec 0 s W).mono fun e w' ⟨g, he, h1, h2, h3, k⟩ => ⟨g, by rw [he, Nat.min_eq_left (by omega)], RecRes.at_ h1 h2 h3, k⟩
theorem rowAt_xb {W : World} {g n c : Nat} {L : List Mr} (h : XB W g (rowM L)) (hn : L.length = n) : RowAt W (.slice (some ⟨g, 0, none⟩) n c) L :=
  ⟨some ⟨g, 0, none⟩, c, by rw [hn], fun _ => ⟨g, 0, rfl, h.lt, fun j u hu => by rw [Nat.zero_add]; exact h.c j u hu⟩⟩
set_option maxRecDepth 100000 in
set_option maxHeartbeats 4000000 in
theorem known18 (w : World) : Calls Tryd.prog 24 #[] w fun e w' => e = .returned (.bool true) ∧ Below w.heap.size w w' := by
  have HI := Lib.hid (st_new_in 1 0 4 w)
  have R3 : Hid (∀ W, _) := Lib.hid (fun W => rec_lit 3 W (by omega))
  have R5 : Hid (∀ W, _) := Lib.hid (fun W => rec_lit 5 W (by omega))
  have R6 : Hid (∀ W, _) := Lib.hid (fun W => rec_lit 6 W (by omega))
  have R8 : Hid (∀ W, _) := Lib.hid (fun W => rec_lit 8 W (by omega))
  have HTK : Hid (takeS 0 4 [] [recS 0 3, recS 0 5, recS 0 6, recS 0 8] = someR 0 5 2) := Lib.hid (by kernel_rfl)
  have HND : Hid (needM 4 4 0 6 = (5, true)) := Lib.hid (by kernel_rfl)
  go_enter Tryd.func24, Tryd.ntmps24
  go_wp2_with fail
  refine HI.out.mono ?_; rintro e w1 hr
  obtain ⟨bi, rfl, hbi, xi, k1⟩ := new_yes hr (by decide)
  have HXI := Lib.hid xi
  have HB1 := Lib.hid k1
  clear xi k1 hr HI
  go_wp2_with fail
  refine (st_new_out 0 1 4 w1).mono ?_; rintro e w2 hr
  obtain ⟨bo, rfl, hbo, xo, k2⟩ := new_yes hr (by decide)
  have HXO := Lib.hid xo
  have HXI2 := Lib.hid (HXI.out.below k2)
  have HB2 := Lib.hid (HB1.out.trans (k2.mono HB1.out.size))
  clear xo k2 hr HXI HB1
  go_wp2_with fail
  refine (R3.out w2).mono ?_; rintro e w3 ⟨g3, rfl, m3, k3⟩
  have HM3 := Lib.hid m3
  have HK3 := Lib.hid k3
  clear m3 k3 R3
  go_wp2_with fail
  refine (R5.out w3).mono ?_; rintro e w4 ⟨g5, rfl, m5, k4⟩
  have HM5 := Lib.hid m5
  have HM3b := Lib.hid (HM3.out.below k4)
  have HK4 := Lib.hid (HK3.out.trans (k4.mono HK3.out.size))
  clear m5 k4 R5 HM3 HK3
  go_wp2_with fail
  refine (R6.out w4).mono ?_; rintro e w5 ⟨g6, rfl, m6, k5⟩
  have HM6 := Lib.hid m6
  have HM3c := Lib.hid (HM3b.out.below k5)
  have HM5b := Lib.hid (HM5.out.below k5)
  have HK5 := Lib.hid (HK4.out.trans (k5.mono HK4.out.size))
  clear m6 k5 R6 HM3b HM5 HK4
  go_wp2_with fail
  refine (R8.out w5).mono ?_; rintro e w6 ⟨g8, rfl, m8, k6⟩
  have HK6 := Lib.hid (HK5.out.trans (k6.mono HK5.out.size))
  have z2 := HB2.out.size
  have zk := HK6.out.size
  have HTAKE : Hid (∀ cs : Array Value, cs.toList = rowM [Mr.mk (recS 0 3) (some ⟨g3, 0, none⟩) 1, Mr.mk (recS 0 5) (some ⟨g5, 0, none⟩) 1, Mr.mk (recS 0 6) (some ⟨g6, 0, none⟩) 1, Mr.mk (recS 0 8) (some ⟨g8, 0, none⟩) 1] →
      Calls Tryd.prog 40 #[.pointer (some ⟨bi, 0, none⟩), .slice (some ⟨w6.heap.size, 0, none⟩) 4 4] (w6.alloc (.cells cs 89)) fun e w' => TakeR 0 4 [recS 0 3, recS 0 5, recS 0 6, recS 0 8] (w6.alloc (.cells cs 89)) w' e) := Lib.hid (fun cs hcs => by
    have kA : Below w6.heap.size w6 (w6.alloc (.cells cs 89)) := (Below.refl _ _).alloc (Nat.le_refl _) _
    have CS : XB (w6.alloc (.cells cs 89)) w6.heap.size (rowM [Mr.mk (recS 0 3) (some ⟨g3, 0, none⟩) 1, Mr.mk (recS 0 5) (some ⟨g5, 0, none⟩) 1, Mr.mk (recS 0 6) (some ⟨g6, 0, none⟩) 1, Mr.mk (recS 0 8) (some ⟨g8, 0, none⟩) 1]) := hcs ▸ XB.new w6 cs _
    exact st_take bi 1 0 4 (some ⟨w6.heap.size, 0, none⟩) 4 [Mr.mk (recS 0 3) (some ⟨g3, 0, none⟩) 1, Mr.mk (recS 0 5) (some ⟨g5, 0, none⟩) 1, Mr.mk (recS 0 6) (some ⟨g6, 0, none⟩) 1, Mr.mk (recS 0 8) (some ⟨g8, 0, none⟩) 1] _ (HXI2.out.below (HK6.out.trans (kA.mono zk))) (rowAt_xb CS rfl) (fun m hm => by
      simp only [List.mem_cons, List.not_mem_nil, or_false] at hm
      rcases hm with rfl | rfl | rfl | rfl
      · exact (((HM3c.out.below k6).below kA).mono (fun _ _ _ => trivial))
      · exact (((HM5b.out.below k6).below kA).mono (fun _ _ _ => trivial))
      · exact (((HM6.out.below k6).below kA).mono (fun _ _ _ => trivial))
      · exact ((m8.below kA).mono (fun _ _ _ => trivial))) (by simp) (by omega))
  clear m8 k6 R8 HM3c HM5b HM6 HK5 HXI2
  go_wp2_with fail
  refine (HTAKE.out _ rfl).mono ?_; rintro e w8 ⟨v8, Z, rfl, hT, hZ⟩
  have hZ' : Z.map Mr.r = someR 0 5 2 := hZ.trans HTK.out
  have HZ := Lib.hid hZ'
  have hTb := hT.bel
  have kA8 : Below w6.heap.size w6 w8 := ((Below.refl w6.heap.size w6).alloc (Nat.le_refl _) _).trans (hTb.mono (by simp))
  have HTA := Lib.hid hT.at_
  have HTL := Lib.hid hT.rowAt
  obtain ⟨A8, c8, rfl⟩ := hT.shape
  have HXO8 := Lib.hid (HXO.out.below (HK6.out.trans (kA8.mono zk)))
  have HB8 := Lib.hid (HB2.out.trans ((HK6.out.trans (kA8.mono zk)).mono z2))
  clear hT hZ hZ' HTAKE HXO HB2 hTb kA8 HK6
  have HN := Lib.hid (st_need bo 0 1 4 4 0 6 w8 HXO8.out (by omega) (by omega))
  rw [HND.out] at HN
  go_wp2_with fail
  refine HN.out.mono ?_; rintro e w9 ⟨rfl, rfl⟩
  clear HN HXO8
  go_wp2_with fail
  refine (law_some 0 5 2 w8 (by omega) (by omega)).mono ?_; rintro e w10 ⟨v10, Y, rfl, hT10, hY⟩
  have k10 := hT10.bel
  have HRC := Lib.hid (law_recs18 _ v10 Z Y w10 (HTL.out.below k10) hT10.rowAt (fun m hm => (HTA.out m hm).below k10) hT10.at_ (fun m hm => by
    have := List.mem_map_of_mem (f := Mr.r) hm
    rw [HZ.out] at this
    obtain ⟨i, _, e⟩ := someR_mem this
    rw [e]
    exact (recS_by _ _).2) (fun m hm => by
    have := List.mem_map_of_mem (f := Mr.r) hm
    rw [HZ.out] at this
    obtain ⟨i, _, e⟩ := someR_mem this
    rw [e]
    exact (recS_by _ _).1) (fun m hm => by
    have := List.mem_map_of_mem (f := Mr.r) hm
    rw [hY] at this
    obtain ⟨i, _, e⟩ := someR_mem this
    rw [e]
    exact recS_by _ _) (by have := congrArg List.length HZ.out; rw [someR_len] at this; simp at this; omega))
  have HEQ : Hid (Z.map Mr.r = Y.map Mr.r) := Lib.hid (HZ.out.trans hY.symm)
  have HB10 := Lib.hid (HB8.out.trans (k10.mono HB8.out.size))
  obtain ⟨A10, c10, rfl⟩ := hT10.shape
  clear hT10 hY k10 HTA HTL HB8
  go_wp2_with fail
  refine HRC.out.mono ?_; rintro e w11 ⟨⟨b, rfl, hb⟩, k11⟩
  obtain rfl : b = true := hb.2 HEQ.out
  have HB11 := Lib.hid (HB10.out.trans (k11.mono HB10.out.size))
  clear k11 hb HRC
  go_wp2
  go_ret
  exact ⟨rfl, HB11.out⟩
end Go.Proofs.YtdffldlcbihjmaaDoor
