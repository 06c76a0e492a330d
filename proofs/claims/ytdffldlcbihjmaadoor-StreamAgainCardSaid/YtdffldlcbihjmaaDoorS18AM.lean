/- Stage 18: StreamAgain: what was sent and is not there is sent again behind so many ticks, and not ahead of it. (for every count and acknowledged count) -/
import Derived.Test.YtdffldlcbihjmaaDoorCard17
import Derived.Test.YtdffldlcbihjmaaDoorOctMem
import Derived.Test.YtdffldlcbihjmaaDoorRecs18
import Derived.Test.YtdffldlcbihjmaaDoorSmC
import Derived.Test.YtdffldlcbihjmaaDoorSmD
import Derived.Test.YtdffldlcbihjmaaDoorWdEnc
/- stream: known (package meridianlaw18). -/
set_option linter.unusedSimpArgs false
set_option linter.unusedVariables false
namespace Go.Proofs.YtdffldlcbihjmaaDoor
open Go.RowKit Go.Sort

theorem new_yes {cs : List Value} {ok : Bool} {w w' : World} {e : Ending} (h : NewRes cs ok w w' e) (hk : ok = true) : ∃ b, e = .returned (.tuple #[.pointer (some ⟨b, 0, none⟩), .int .i64 0]) ∧ w.heap.size ≤ b ∧ XB w' b cs ∧ Below w.heap.size w w' := by
  rcases h with ⟨q, _⟩ | ⟨_, q⟩
  · rw [hk] at q; cases q
  · exact q
/-- The record that the law makes, of a small number. -/
theorem rec_lit (s : Nat) (W : World) (h : s ≤ 255) : Calls Tryd.prog 69 #[.int .i64 0, .int .i64 s] W fun e w' => ∃ g, e = .returned (recV 0 s (strB [107]) s 0 0 (some ⟨g, 0, none⟩) 1 1 false 0) ∧ (Mr.mk (recS 0 s) (some ⟨g, 0, none⟩) 1).At (fun i => W.heap.size ≤ i) w' ∧ Below W.heap.size W w' :=
  (law_rec 0 s W).mono fun e w' ⟨g, he, h1, h2, h3, k⟩ => ⟨g, by rw [he, Nat.min_eq_left (by omega)], RecRes.at_ h1 h2 h3, k⟩
theorem rowAt_xb {W : World} {g n c : Nat} {L : List Mr} (h : XB W g (rowM L)) (hn : L.length = n) : RowAt W (.slice (some ⟨g, 0, none⟩) n c) L :=
  ⟨some ⟨g, 0, none⟩, c, by rw [hn], fun _ => ⟨g, 0, rfl, h.lt, fun j u hu => by rw [Nat.zero_add]; exact h.c j u hu⟩⟩
set_option maxRecDepth 100000 in
set_option maxHeartbeats 4000000 in
theorem known18 (w : World) : Calls Tryd.prog 24 #[] w fun e w' => e = .returned (.bool true) ∧ Below w.heap.size w w' := by
  have HI := Lib.hid (st_new_in 1 0 4 w)
  have R3 : Hid (∀ W, _) := Lib.hid (fun W => rec_lit 3 W (by omega))
  have R5 : Hid (∀ W, _) := Lib.hid (fun W => rec_lit 5 W (by omega))
  have R6 : Hid (∀ W, _) := Lib.hid (fun W => rec_lit 6 W (by omega))
  have R8 : Hid (∀ W, _) := Lib.hid (fun W => rec_lit 8 W (by omega))
  have HTK : Hid (takeS 0 4 [] [recS 0 3, recS 0 5, recS 0 6, recS 0 8] = someR 0 5 2) := Lib.hid (by kernel_rfl)
  have HND : Hid (needM 4 4 0 6 = (5, true)) := Lib.hid (by kernel_rfl)
  go_enter Tryd.func24, Tryd.ntmps24
  go_wp2_with fail
  refine HI.out.mono ?_; rintro e w1 hr
  obtain ⟨bi, rfl, hbi, xi, k1⟩ := new_yes hr (by decide)
  have HXI := Lib.hid xi
  have HB1 := Lib.hid k1
  clear xi k1 hr HI
  go_wp2_with fail
  refine (st_new_out 0 1 4 w1).mono ?_; rintro e w2 hr
  obtain ⟨bo, rfl, hbo, xo, k2⟩ := new_yes hr (by decide)
  have HXO := Lib.hid xo
  have HXI2 := Lib.hid (HXI.out.below k2)
  have HB2 := Lib.hid (HB1.out.trans (k2.mono HB1.out.size))
  clear xo k2 hr HXI HB1
  go_wp2_with fail
  refine (R3.out w2).mono ?_; rintro e w3 ⟨g3, rfl, m3, k3⟩
  have HM3 := Lib.hid m3
  have HK3 := Lib.hid k3
  clear m3 k3 R3
  go_wp2_with fail
  refine (R5.out w3).mono ?_; rintro e w4 ⟨g5, rfl, m5, k4⟩
  have HM5 := Lib.hid m5
  have HM3b := Lib.hid (HM3.out.below k4)
  have HK4 := Lib.hid (HK3.out.trans (k4.mono HK3.out.size))
  clear m5 k4 R5 HM3 HK3
  go_wp2_with fail
  refine (R6.out w4).mono ?_; rintro e w5 ⟨g6, rfl, m6, k5⟩
  have HM6 := Lib.hid m6
  have HM3c := Lib.hid (HM3b.out.below k5)
  have HM5b := Lib.hid (HM5.out.below k5)
  have HK5 := Lib.hid (HK4.out.trans (k5.mono HK4.out.size))
  clear m6 k5 R6 HM3b HM5 HK4
  go_wp2_with fail
  refine (R8.out w5).mono ?_; rintro e w6 ⟨g8, rfl, m8, k6⟩
  have HK6 := Lib.hid (HK5.out.trans (k6.mono HK5.out.size))
  have z2 := HB2.out.size
  have zk := HK6.out.size
  have HTAKE : Hid (∀ cs : Array Value, cs.toList = rowM [Mr.mk (recS 0 3) (some ⟨g3, 0, none⟩) 1, Mr.mk (recS 0 5) (some ⟨g5, 0, none⟩) 1, Mr.mk (recS 0 6) (some ⟨g6, 0, none⟩) 1, Mr.mk (recS 0 8) (some ⟨g8, 0, none⟩) 1] →
      Calls Tryd.prog 40 #[.pointer (some ⟨bi, 0, none⟩), .slice (some ⟨w6.heap.size, 0, none⟩) 4 4] (w6.alloc (.cells cs 89)) fun e w' => TakeR 0 4 [recS 0 3, recS 0 5, recS 0 6, recS 0 8] (w6.alloc (.cells cs 89)) w' e) := Lib.hid (fun cs hcs => by
    have kA : Below w6.heap.size w6 (w6.alloc (.cells cs 89)) := (Below.refl _ _).alloc (Nat.le_refl _) _
    have CS : XB (w6.alloc (.cells cs 89)) w6.heap.size (rowM [Mr.mk (recS 0 3) (some ⟨g3, 0, none⟩) 1, Mr.mk (recS 0 5) (some ⟨g5, 0, none⟩) 1, Mr.mk (recS 0 6) (some ⟨g6, 0, none⟩) 1, Mr.mk (recS 0 8) (some ⟨g8, 0, none⟩) 1]) := hcs ▸ XB.new w6 cs _
    exact st_take bi 1 0 4 (some ⟨w6.heap.size, 0, none⟩) 4 [Mr.mk (recS 0 3) (some ⟨g3, 0, none⟩) 1, Mr.mk (recS 0 5) (some ⟨g5, 0, none⟩) 1, Mr.mk (recS 0 6) (some ⟨g6, 0, none⟩) 1, Mr.mk (recS 0 8) (some ⟨g8, 0, none⟩) 1] _ (HXI2.out.below (HK6.out.trans (kA.mono zk))) (rowAt_xb CS rfl) (fun m hm => by
      simp only [List.mem_cons, List.not_mem_nil, or_false] at hm
      rcases hm with rfl | rfl | rfl | rfl
      · exact (((HM3c.out.below k6).below kA).mono (fun _ _ _ => trivial))
      · exact (((HM5b.out.below k6).below kA).mono (fun _ _ _ => trivial))
      · exact (((HM6.out.below k6).below kA).mono (fun _ _ _ => trivial))
      · exact ((m8.below kA).mono (fun _ _ _ => trivial))) (by simp) (by omega))
  clear m8 k6 R8 HM3c HM5b HM6 HK5 HXI2
  go_wp2_with fail
  refine (HTAKE.out _ rfl).mono ?_; rintro e w8 ⟨v8, Z, rfl, hT, hZ⟩
  have hZ' : Z.map Mr.r = someR 0 5 2 := hZ.trans HTK.out
  have HZ := Lib.hid hZ'
  have hTb := hT.bel
  have kA8 : Below w6.heap.size w6 w8 := ((Below.refl w6.heap.size w6).alloc (Nat.le_refl _) _).trans (hTb.mono (by simp))
  have HTA := Lib.hid hT.at_
  have HTL := Lib.hid hT.rowAt
  obtain ⟨A8, c8, rfl⟩ := hT.shape
  have HXO8 := Lib.hid (HXO.out.below (HK6.out.trans (kA8.mono zk)))
  have HB8 := Lib.hid (HB2.out.trans ((HK6.out.trans (kA8.mono zk)).mono z2))
  clear hT hZ hZ' HTAKE HXO HB2 hTb kA8 HK6
  have HN := Lib.hid (st_need bo 0 1 4 4 0 6 w8 HXO8.out (by omega) (by omega))
  rw [HND.out] at HN
  go_wp2_with fail
  refine HN.out.mono ?_; rintro e w9 ⟨rfl, rfl⟩
  clear HN HXO8
  go_wp2_with fail
  refine (law_some 0 5 2 w8 (by omega) (by omega)).mono ?_; rintro e w10 ⟨v10, Y, rfl, hT10, hY⟩
  have k10 := hT10.bel
  have HRC := Lib.hid (law_recs18 _ v10 Z Y w10 (HTL.out.below k10) hT10.rowAt (fun m hm => (HTA.out m hm).below k10) hT10.at_ (fun m hm => by
    have := List.mem_map_of_mem (f := Mr.r) hm
    rw [HZ.out] at this
    obtain ⟨i, _, e⟩ := someR_mem this
    rw [e]
    exact (recS_by _ _).2) (fun m hm => by
    have := List.mem_map_of_mem (f := Mr.r) hm
    rw [HZ.out] at this
    obtain ⟨i, _, e⟩ := someR_mem this
    rw [e]
    exact (recS_by _ _).1) (fun m hm => by
    have := List.mem_map_of_mem (f := Mr.r) hm
    rw [hY] at this
    obtain ⟨i, _, e⟩ := someR_mem this
    rw [e]
    exact recS_by _ _) (by have := congrArg List.length HZ.out; rw [someR_len] at this; simp at this; omega))
  have HEQ : Hid (Z.map Mr.r = Y.map Mr.r) := Lib.hid (HZ.out.trans hY.symm)
  have HB10 := Lib.hid (HB8.out.trans (k10.mono HB8.out.size))
  obtain ⟨A10, c10, rfl⟩ := hT10.shape
  clear hT10 hY k10 HTA HTL HB8
  go_wp2_with fail
  refine HRC.out.mono ?_; rintro e w11 ⟨⟨b, rfl, hb⟩, k11⟩
  obtain rfl : b = true := hb.2 HEQ.out
  have HB11 := Lib.hid (HB10.out.trans (k11.mono HB10.out.size))
  clear k11 hb HRC
  go_wp2
  go_ret
  exact ⟨rfl, HB11.out⟩
end Go.Proofs.YtdffldlcbihjmaaDoor

/- The law's same: whether two rows of bytes are one (written by gen/lawbits.py). -/
namespace Go.Proofs.YtdffldlcbihjmaaDoor
open Go.RowKit

theorem take_same18 {p p' : List Int} {k : Nat} (h : p.length = p'.length) (hk : k < p.length) : p.take (k + 1) = p'.take (k + 1) ↔ (p.take k = p'.take k ∧ p[k] = p'[k]) := by
  have e1 := List.take_succ_eq_append_getElem hk
  have e2 := List.take_succ_eq_append_getElem (show k < p'.length by omega)
  rw [e1, e2]
  constructor
  · intro e
    have := List.append_inj e (by simp [List.length_take]; omega)
    exact ⟨this.1, by simpa using this.2⟩
  · rintro ⟨a, b⟩
    rw [a, b]
set_option maxHeartbeats 1000000 in
theorem lsame18 (A : Option Addr) (p : List Int) (c : Nat) (A' : Option Addr) (p' : List Int) (c' : Nat) (w : World) (hn : p.length ≤ 1000000) (hn' : p'.length ≤ 1000000) (h : ByL w A p) (h' : ByL w A' p') :
    Calls Tryd.prog 73 #[.slice A p.length c, .slice A' p'.length c'] w fun e w' => e = .returned (.bool (decide (p = p'))) ∧ ∃ q, w' = w.drewN q := by
  by_cases hne : p.length = p'.length
  · have HA := Lib.hid h
    have HA' := Lib.hid h'
    have HL := Lib.hid hne
    have HD : Hid (∀ k (q : k < p.length), p[k] ≠ p'[k]'(by rw [← HL.out]; exact q) → decide (p = p') = false) := Lib.hid (fun k q hk => by
      rw [decide_eq_false_iff_not]
      rintro rfl
      exact hk rfl)
    have HY : Hid (p.take p.length = p'.take p.length → decide (p = p') = true) := Lib.hid (fun e => by
      rw [decide_eq_true_eq]
      rw [List.take_length, hne, List.take_length] at e
      exact e)
    have t0 : ((p.length : Int) != (p'.length : Int)) = false := by simp [hne]
    have t0' : (p.length != p'.length) = false := by simp [hne]
    clear h h' hne
    have hni : (p.length : Int) ≤ 1000000 := by omega
    go_enter Tryd.func73, Tryd.ntmps73
    go_wp2
    go_loopw [5] (fun i wr => ∃ k : Nat, k ≤ p.length ∧ i = .int .i64 k ∧ p.take k = p'.take k ∧ ∃ q, wr = w.drewN q) (fun i _ => p.length - (intOf i).toNat)
    case atStart => exact ⟨0, Nat.zero_le _, rfl, by simp, 0, rfl⟩
    case round =>
      obtain ⟨k, hk, rfl, hE, q, hW⟩ := hrel
      by_cases hlt : k < p.length
      · obtain ⟨B, O, rfl, hB, hc⟩ := HA.out (by omega)
        obtain ⟨B', O', rfl, hB', hc'⟩ := HA'.out (by have := HL.out; omega)
        have hlt' : k < p'.length := by have := HL.out; omega
        have x0 : wr.cell? ⟨B, O + k, none⟩ = some (.int .u8 p[k]) := by rw [hW]; exact hc k _ (bC_at p k hlt)
        have x1 : wr.cell? ⟨B', O' + k, none⟩ = some (.int .u8 p'[k]) := by rw [hW]; exact hc' k _ (bC_at p' k hlt')
        have lk : (k : Int) < (p.length : Int) := by omega
        have lk' : (k : Int) < (p'.length : Int) := by omega
        have HS := Lib.hid (take_same18 HL.out hlt)
        have HN := Lib.hid (HD.out k hlt)
        have HW := Lib.hid hW
        have HE := Lib.hid hE
        clear hc hc' hW hE HD
        generalize p[k] = a at *
        generalize p'[k] = b at *
        by_cases hab : a = b
        · have t1 : (a != b) = false := by simp [hab]
          have HS2 : Hid (p.take (k + 1) = p'.take (k + 1)) := Lib.hid (HS.out.2 ⟨HE.out, hab⟩)
          clear hab HS HN
          go_wp2
          go_quiet (fail)
          go_wp2
          go_roundw
          case rel => exact ⟨k + 1, by omega, by go_num, HS2.out, q + nq, by rw [HW.out]; simp [World.drewN, Nat.add_assoc]⟩
          case measure => simp [intOf]; omega
        · have t1 : (a != b) = true := by simpa using hab
          have HN2 := Lib.hid (HN.out hab)
          clear hab HN HS
          go_wp2
          go_quiet (fail)
          go_wp2
          go_ret
          exact ⟨by rw [HN2.out]; rfl, q + nq, by rw [HW.out]; simp [World.drewN, Nat.add_assoc]⟩
      · obtain rfl : k = p.length := by omega
        have HE := Lib.hid (HY.out hE)
        clear hE HY HD
        have HW := Lib.hid hW
        clear hW
        go_wp2
        go_ret
        exact ⟨by rw [HE.out]; rfl, q, HW.out⟩
  · have t0 : ((p.length : Int) != (p'.length : Int)) = true := by simp; omega
    have t0' : (p.length != p'.length) = true := by simpa using hne
    have HEB : Hid (decide (p = p') = false) := Lib.hid (by rw [decide_eq_false_iff_not]; rintro rfl; exact hne rfl)
    clear hne
    go_enter Tryd.func73, Tryd.ntmps73
    go_wp2
    go_ret
    exact ⟨by rw [HEB.out]; rfl, 0, rfl⟩
theorem drewN_below18 (w : World) (q : Nat) : Below w.heap.size w (w.drewN q) := below_drewN (Below.refl _ _) q
end Go.Proofs.YtdffldlcbihjmaaDoor

/- stream: Done; messages (package meridianlaw18) of two rows of one message that are one (written by gen/strf.py). -/
namespace Go.Proofs.YtdffldlcbihjmaaDoor
open Go.RowKit Go.Sort

/-- A row of one message. -/
def Msg1 (base : Nat) (w : World) (v : Value) (f t : Int) (d : List Int) : Prop := ∃ B c g cap, base ≤ B ∧ base ≤ g ∧ v = .slice (some ⟨B, 0, none⟩) 1 c ∧ XB w B [.int .i64 f, .int .i64 t, .slice (some ⟨g, 0, none⟩) d.length cap] ∧ ByL w (some ⟨g, 0, none⟩) d ∧ d.length ≤ 1000000 ∧ d.length ≤ cap ∧ cap ≤ maxLen
theorem Msg1.below {base : Nat} {w w' : World} {v : Value} {f t : Int} {d : List Int} (h : Msg1 base w v f t d) (k : Below w.heap.size w w') : Msg1 base w' v f t d := by
  obtain ⟨B, c, g, cap, q1, q2, h1, h2, h3, h4⟩ := h
  exact ⟨B, c, g, cap, q1, q2, h1, h2.below k, h3.below k, h4⟩
theorem Msg1.only {base b : Nat} {w w' : World} {v : Value} {f t : Int} {d : List Int} (h : Msg1 base w v f t d) (k : Only b w w') (hb : b < base) : Msg1 base w' v f t d := by
  obtain ⟨B, c, g, cap, q1, q2, h1, h2, h3, h4⟩ := h
  exact ⟨B, c, g, cap, q1, q2, h1, h2.only k (by omega), h3.only k (fun ad had => by injection had with had; subst had; show g ≠ b; omega), h4⟩
theorem Msg1.mono {base base' : Nat} {w : World} {v : Value} {f t : Int} {d : List Int} (h : Msg1 base w v f t d) (hb : base' ≤ base) : Msg1 base' w v f t d := by
  obtain ⟨B, c, g, cap, q1, q2, h1⟩ := h
  exact ⟨B, c, g, cap, by omega, by omega, h1⟩
theorem Msg1.shape {base : Nat} {w : World} {v : Value} {f t : Int} {d : List Int} (h : Msg1 base w v f t d) : ∃ B c, v = .slice (some ⟨B, 0, none⟩) 1 c := by
  obtain ⟨B, c, g, cap, q1, q2, h1, _⟩ := h
  exact ⟨B, c, h1⟩
def doneM (a q : Int) : Int := max a (min q 1099511627776)
theorem doneM_bd {a q : Int} (h : 0 ≤ a ∧ a ≤ 1099511627776) : 0 ≤ doneM a q ∧ doneM a q ≤ 1099511627776 := by unfold doneM; omega
/-- The bytes of an ack. -/
def ackE (o a : Int) : List Int := frE (encW (wdOf 2 o a 0 0 0 0 []))
theorem ack_okW {o a : Int} (ho : 0 ≤ o ∧ o < 5) (ha : 0 ≤ a ∧ a ≤ 1099511627776) : okW (wdOf 2 o a 0 0 0 0 []) = true := by
  simp [okW, headW, bareW, wdOf, ho.1, ho.2, ha.1, ha.2]
/-- What Done tells. -/
def DoneRes (b : Nat) (f o a' : Int) (w w' : World) (e : Ending) : Prop := ∃ v, e = .returned v ∧ Msg1 w.heap.size w' v f o (ackE o a') ∧ StPost b (inC f o a') w w'
theorem done_fin {b : Nat} {f o z : Int} {w W1 w2 V : World} {g cap n : Nat} {D : List Int} (hD : ackE o z = D) (hO : Only b w W1) (h2 : Below W1.heap.size W1 w2) (hx : XB W1 b (inC f o z)) (hr : Row8 W1.heap.size w2 g cap n D) (hn : n ≤ 1000000)
    (hV : Below w2.heap.size w2 V) {B : Nat} (hBB : w2.heap.size ≤ B) (hB : XB V B [.int .i64 f, .int .i64 o, .slice (some ⟨g, 0, none⟩) n cap]) : DoneRes b f o z w V (.returned (.slice (some ⟨B, 0, none⟩) 1 1)) := by
  subst hD
  have hl := hr.len
  subst hl
  exact ⟨_, rfl, ⟨B, 1, g, cap, Nat.le_trans hO.size (Nat.le_trans h2.size hBB), Nat.le_trans hO.size hr.ge.1, rfl, hB, (hr.below hV).by_, hn, hr.cap_le.1, hr.cap_le.2⟩, (hx.below h2).below hV, hO.trans (Only.of_below (h2.trans (hV.mono h2.size)))⟩
set_option maxRecDepth 100000 in
set_option maxHeartbeats 4000000 in
theorem st_done (b : Nat) (f o a q : Int) (w : World) (h : XB w b (inC f o a)) (ho : 0 ≤ o ∧ o < 5) (ha : 0 ≤ a ∧ a ≤ 1099511627776) (ht : ∀ W, Only b w W → Nib W) :
    Calls Tryd.prog 43 #[.pointer (some ⟨b, 0, none⟩), .int .i64 q] w fun e w' => DoneRes b f o (doneM a q) w w' e := by
  have hz := doneM_bd (q := q) ha
  obtain ⟨z, hzz⟩ : ∃ z, doneM a q = z := ⟨_, rfl⟩
  rw [hzz] at hz ⊢
  have HQ3 : Hid (max a (min q 1099511627776) = z) := Lib.hid hzz
  clear hzz ha
  have c0 := h.c 0 _ rfl
  have c1 := h.c 1 _ rfl
  have c2 := h.c 2 _ rfl
  have f2 := h.fz 2
  have lt := h.lt
  obtain ⟨W1, hW1⟩ : ∃ W1, w.setCell ⟨b, 2, none⟩ (.int .i64 z) = W1 := ⟨_, rfl⟩
  have HX1 : Hid (XB W1 b (inC f o z)) := Lib.hid (by rw [← hW1]; exact h.set 2 (by simp) (.int .i64 z))
  have HO1 : Hid (Only b w W1) := Lib.hid (by rw [← hW1]; exact (Only.refl _ _).setB _)
  have HW1 := Lib.hid hW1
  obtain ⟨D, hD⟩ : ∃ D, ackE o z = D := ⟨_, rfl⟩
  obtain ⟨n, hn⟩ : ∃ n, 12 + (encW (wdOf 2 o z 0 0 0 0 [])).length = n := ⟨_, rfl⟩
  have HD := Lib.hid hD
  have HN : Hid (n ≤ 1000000) := Lib.hid (by have := encW_bd (ack_okW ho hz); omega)
  have HENC : Hid (∀ W, Only b w W → Calls Tryd.prog 13 #[wdV 2 o z 0 0 0 0 (.slice none 0 0)] W fun e w' => (∃ g cap, e = .returned (.tuple #[.slice (some ⟨g, 0, none⟩) n cap, .int .i64 0]) ∧ Row8 W.heap.size w' g cap n D) ∧ Below W.heap.size W w') := Lib.hid (fun W k => by
    subst hn hD
    exact wd_enc 2 o z 0 0 0 0 none 0 [] W (ht W k) ⟨_, _, rfl, fun h => absurd h (by simp)⟩ (fun _ h => by cases h) (fun _ h => by cases h) (by simp) (ack_okW ho hz))
  clear h ht ho hz hD hn hW1
  go_enter Tryd.func43, Tryd.ntmps43
  go_upto_region 4 with fail
  rw [HQ3.out, HW1.out]
  clear c0 c1 c2 f2 lt
  have lt := HX1.out.lt
  refine wp_region_held_drew (S := (fun w' => w'.cell? ⟨b, 1, none⟩ = some (.int .i64 o) ∧ w'.cell? ⟨b, 2, none⟩ = some (.int .i64 z))) (by kernel_rfl) ?_ (fun hHeld => ?_)
  · exact ⟨HX1.out.c 1 _ rfl, HX1.out.c 2 _ rfl⟩
  refine wpAnyH_take (i := 0) (v := ?_) rfl (by kernel_rfl) (by kernel_rfl) (by kernel_rfl) (fun _ _ _ h => h) (Or.inl ⟨by rfl, ?_⟩) (by assumption) ?_
  rotate_left
  · intro w' hSw; (try dsimp only at hSw); go_simp; (try with_reducible rfl)
  (try simp only [Act.put, List.setIfInBounds_toArray, List.set_cons_zero, List.set_cons_succ, List.getElem_toArray, List.getElem_cons_succ, List.getElem_cons_zero])
  refine wpAnyH_take (i := 1) (v := ?_) rfl (by kernel_rfl) (by kernel_rfl) (by kernel_rfl) (fun _ _ _ h => h) (Or.inl ⟨by rfl, ?_⟩) (by assumption) ?_
  rotate_left
  · intro w' hSw; (try dsimp only at hSw); go_simp; (try with_reducible rfl)
  (try simp only [Act.put, List.setIfInBounds_toArray, List.set_cons_zero, List.set_cons_succ, List.getElem_toArray, List.getElem_cons_succ, List.getElem_cons_zero])
  refine wpAnyH_take (i := 2) (v := ?_) rfl (by kernel_rfl) (by kernel_rfl) (by kernel_rfl) (fun _ _ _ h => h) (Or.inl ⟨by rfl, ?_⟩) (by assumption) ?_
  rotate_left
  · intro w' hSw; (try dsimp only at hSw); go_simp; (try with_reducible rfl)
  (try simp only [Act.put, List.setIfInBounds_toArray, List.set_cons_zero, List.set_cons_succ, List.getElem_toArray, List.getElem_cons_succ, List.getElem_cons_zero])
  refine wpAnyH_take (i := 3) (v := ?_) rfl (by kernel_rfl) (by kernel_rfl) (by kernel_rfl) (fun _ _ _ h => h) (Or.inl ⟨by rfl, ?_⟩) (by assumption) ?_
  rotate_left
  · intro w' hSw; (try dsimp only at hSw); go_simp; (try with_reducible rfl)
  (try simp only [Act.put, List.setIfInBounds_toArray, List.set_cons_zero, List.set_cons_succ, List.getElem_toArray, List.getElem_cons_succ, List.getElem_cons_zero])
  refine wpAnyH_take (i := 4) (v := ?_) rfl (by kernel_rfl) (by kernel_rfl) (by kernel_rfl) (fun _ _ _ h => h) (Or.inl ⟨by rfl, ?_⟩) (by assumption) ?_
  rotate_left
  · intro w' hSw; (try dsimp only at hSw); go_simp; (try with_reducible rfl)
  (try simp only [Act.put, List.setIfInBounds_toArray, List.set_cons_zero, List.set_cons_succ, List.getElem_toArray, List.getElem_cons_succ, List.getElem_cons_zero])
  refine wpAnyH_take (i := 5) (v := ?_) rfl (by kernel_rfl) (by kernel_rfl) (by kernel_rfl) (fun _ _ _ h => h) (Or.inl ⟨by rfl, ?_⟩) (by assumption) ?_
  rotate_left
  · intro w' hSw; (try dsimp only at hSw); go_simp; (try with_reducible rfl)
  (try simp only [Act.put, List.setIfInBounds_toArray, List.set_cons_zero, List.set_cons_succ, List.getElem_toArray, List.getElem_cons_succ, List.getElem_cons_zero])
  refine wpAnyH_take (i := 6) (v := ?_) rfl (by kernel_rfl) (by kernel_rfl) (by kernel_rfl) (fun _ _ _ h => h) (Or.inl ⟨by rfl, ?_⟩) (by assumption) ?_
  rotate_left
  · intro w' hSw; (try dsimp only at hSw); go_simp; (try with_reducible rfl)
  (try simp only [Act.put, List.setIfInBounds_toArray, List.set_cons_zero, List.set_cons_succ, List.getElem_toArray, List.getElem_cons_succ, List.getElem_cons_zero])
  refine wpAnyH_take (i := 7) (v := ?_) rfl (by kernel_rfl) (by kernel_rfl) (by kernel_rfl) (fun _ _ _ h => h) (Or.inl ⟨by rfl, ?_⟩) (by assumption) ?_
  rotate_left
  · intro w' hSw; (try dsimp only at hSw); go_simp; (try with_reducible rfl)
  (try simp only [Act.put, List.setIfInBounds_toArray, List.set_cons_zero, List.set_cons_succ, List.getElem_toArray, List.getElem_cons_succ, List.getElem_cons_zero])
  refine wpAnyH_take (i := 8) (v := ?_) rfl (by kernel_rfl) (by kernel_rfl) (by kernel_rfl) (fun _ _ _ h => h) (Or.inl ⟨by rfl, ?_⟩) (by assumption) ?_
  rotate_left
  · intro w' hSw; (try dsimp only at hSw); go_simp; (try with_reducible rfl)
  (try simp only [Act.put, List.setIfInBounds_toArray, List.set_cons_zero, List.set_cons_succ, List.getElem_toArray, List.getElem_cons_succ, List.getElem_cons_zero])
  refine wpAnyH_ready (rs := [9]) (by kernel_rfl) (by simp) ?_
  refine AllReadyH.cons rfl (fun K hK => ?_) AllReadyH.nil
  go_simp
  (go_at_call 13; refine (HENC.out _ HO1.out.drew).mono ?_; rintro e w2 ⟨⟨g, cap, rfl, hr⟩, k2⟩; have k2' : Below W1.heap.size W1 w2 := (Below.refl W1.heap.size W1).drew.trans k2; have HX2 := Lib.hid (HX1.out.below k2'); have HR2 : Hid (Row8 W1.heap.size w2 g cap n D) := Lib.hid hr; have HK2 : Hid (Below W1.heap.size W1 w2) := Lib.hid k2'; clear hr k2 k2')
  (try dsimp only)
  refine hK.out _ _ ?_ (fun hHeld => ?_)
  · exact ⟨HX2.out.c 1 _ rfl, HX2.out.c 2 _ rfl⟩
  clear hK K
  (try simp only [Act.put, List.setIfInBounds_toArray, List.set_cons_zero, List.set_cons_succ, List.getElem_toArray, List.getElem_cons_succ, List.getElem_cons_zero])
  refine wpAnyH_take (i := 10) (v := ?_) rfl (by kernel_rfl) (by kernel_rfl) (by kernel_rfl) (fun _ _ _ h => h) (Or.inl ⟨by rfl, ?_⟩) (by assumption) ?_
  rotate_left
  · intro w' hSw; (try dsimp only at hSw); go_simp; (try with_reducible rfl)
  (try simp only [Act.put, List.setIfInBounds_toArray, List.set_cons_zero, List.set_cons_succ, List.getElem_toArray, List.getElem_cons_succ, List.getElem_cons_zero])
  refine wpAnyH_take (i := 11) (v := ?_) rfl (by kernel_rfl) (by kernel_rfl) (by kernel_rfl) (fun _ _ _ h => h) (Or.inl ⟨by rfl, ?_⟩) (by assumption) ?_
  rotate_left
  · intro w' hSw; (try dsimp only at hSw); go_simp; (try with_reducible rfl)
  (try simp only [Act.put, List.setIfInBounds_toArray, List.set_cons_zero, List.set_cons_succ, List.getElem_toArray, List.getElem_cons_succ, List.getElem_cons_zero])
  refine wpAnyH_take (i := 12) (v := ?_) rfl (by kernel_rfl) (by kernel_rfl) (by kernel_rfl) (fun _ _ _ h => h) (Or.inl ⟨by rfl, ?_⟩) (by assumption) ?_
  rotate_left
  · intro w' hSw; (try dsimp only at hSw); go_simp; (try with_reducible rfl)
  (try simp only [Act.put, List.setIfInBounds_toArray, List.set_cons_zero, List.set_cons_succ, List.getElem_toArray, List.getElem_cons_succ, List.getElem_cons_zero])
  refine wpAnyH_take (i := 13) (v := ?_) rfl (by kernel_rfl) (by kernel_rfl) (by kernel_rfl) (fun _ _ _ h => h) (Or.inl ⟨by rfl, ?_⟩) (by assumption) ?_
  rotate_left
  · intro w' hSw; (try dsimp only at hSw); go_simp; (try with_reducible rfl)
  (try simp only [Act.put, List.setIfInBounds_toArray, List.set_cons_zero, List.set_cons_succ, List.getElem_toArray, List.getElem_cons_succ, List.getElem_cons_zero])
  refine wpAnyH_take (i := 14) (v := ?_) rfl (by kernel_rfl) (by kernel_rfl) (by kernel_rfl) (fun _ _ _ h => h) (Or.inl ⟨by rfl, ?_⟩) (by assumption) ?_
  rotate_left
  · intro w' hSw; (try dsimp only at hSw); go_simp; (try with_reducible rfl)
  (try simp only [Act.put, List.setIfInBounds_toArray, List.set_cons_zero, List.set_cons_succ, List.getElem_toArray, List.getElem_cons_succ, List.getElem_cons_zero])
  refine wpAnyH_done (by kernel_rfl) ?_ _
  clear hHeld lt
  have c0 := HX2.out.c 0 _ rfl
  have c1 := HX2.out.c 1 _ rfl
  have lt := HX2.out.lt
  go_wp2_with fail
  go_region
  go_wp2
  go_ret
  exact done_fin HD.out HO1.out HK2.out HX1.out HR2.out HN.out (by (repeat' (first | (with_reducible exact Below.refl _ _) | (with_reducible assumption) | (with_reducible refine Below.trans ?_ (Below.mono (by with_reducible assumption) ?_)) | (with_reducible refine Below.alloc ?_ ?_ _) | (with_reducible refine Below.setCell ?_ ?_ _) | (with_reducible refine below_drewN ?_ _) | (with_reducible refine Below.drew ?_) | go_size))) (Nat.le_refl _) ((XB.new w2 #[.int .i64 f, .int .i64 o, .slice (some ⟨g, 0, none⟩) n cap] 84).below (by (repeat' (first | (with_reducible exact Below.refl _ _) | (with_reducible assumption) | (with_reducible refine Below.trans ?_ (Below.mono (by with_reducible assumption) ?_)) | (with_reducible refine Below.alloc ?_ ?_ _) | (with_reducible refine Below.setCell ?_ ?_ _) | (with_reducible refine below_drewN ?_ _) | (with_reducible refine Below.drew ?_) | go_size))))

set_option maxRecDepth 100000 in
set_option maxHeartbeats 4000000 in
theorem law_messages (v v' : Value) (f t : Int) (d : List Int) (w : World) {base base' : Nat} (h : Msg1 base w v f t d) (h' : Msg1 base' w v' f t d) :
    Calls Tryd.prog 36 #[v, v'] w fun e w' => e = .returned (.bool true) ∧ Below w.heap.size w w' := by
  obtain ⟨B, c, g, cap, _, _, rfl, hx, hy, hl, _⟩ := h
  obtain ⟨B', c', g', cap', _, _, rfl, hx', hy', _, _⟩ := h'
  have HCON : Hid (∀ W, Below w.heap.size w W → Calls Tryd.prog 73 #[.slice (some ⟨g, 0, none⟩) d.length cap, .slice (some ⟨g', 0, none⟩) d.length cap'] W fun e w' => e = .returned (.bool true) ∧ Below W.heap.size W w') := Lib.hid (fun W k => (lsame18 (some ⟨g, 0, none⟩) d cap (some ⟨g', 0, none⟩) d cap' W hl hl (hy.below k) (hy'.below k)).mono fun e w' ⟨q1, q, q2⟩ => ⟨by rw [q1]; simp, by rw [q2]; exact drewN_below18 W q⟩)
  generalize d.length = n at *
  have x0 := fun d os => cell_regrown (hx.c 0 _ rfl) d os
  have x1 := fun d os => cell_regrown (hx.c 1 _ rfl) d os
  have x2 := fun d os => cell_regrown (hx.c 2 _ rfl) d os
  have y0 := fun d os => cell_regrown (hx'.c 0 _ rfl) d os
  have y1 := fun d os => cell_regrown (hx'.c 1 _ rfl) d os
  have y2 := fun d os => cell_regrown (hx'.c 2 _ rfl) d os
  have AC := Lib.hid fun (d' : Nat) (os : Array Obj) => Calls.regrown_of (HCON.out (grow (redrawn w d') os) (below_regrown w d' os))
  clear hx hx' hy hy' hl HCON
  go_enter Tryd.func36, Tryd.ntmps36
  go_wp2
  refine wp_loop_rounds 2 ?_
  rw [rounds_succ]
  go_wp2_with fail
  refine wp_region_quiet_below (by kernel_rfl) (by kernel_rfl) ?_
  repeat (go_big_quiet_step ((go_at_call 73; exact AC.out _ _)))
  refine wpQuiet_nil ?_
  intro _ hw'
  obtain ⟨⟨dq, osq⟩, hw''⟩ := hw'
  subst hw''
  have HQ := Lib.hid (below_regrown w dq osq)
  clear AC x0 x1 x2 y0 y1 y2
  generalize hgw : grow (redrawn w dq) osq = W2 at *
  clear hgw
  go_wp2
  rw [rounds_succ]
  go_wp2
  go_ret
  exact ⟨rfl, HQ.out⟩
end Go.Proofs.YtdffldlcbihjmaaDoor

/- stream: Send (written by gen/strg.py). -/
namespace Go.Proofs.YtdffldlcbihjmaaDoor
open Go.RowKit Go.Sort

def fstS (rs : List Rc) : Int := match rs with | [] => 0 | r :: _ => r.s
/-- What Send tells: an error, or none. -/
def sendC (f a s : Int) (rs : List Rc) : Int :=
  if rs.length = 0 then 1 else if ¬ (∀ r ∈ rs, okR r = true ∧ r.o = f) then 1 else if 8 < rs.length then 5 else if fstS rs ≤ a ∨ s + 1 < fstS rs then 12 else if rowB f (fstS rs) rs = true then 0 else 12
theorem send_bad {f a s : Int} {rs : List Rc} (h0 : 0 < rs.length) {r : Rc} (hr : r ∈ rs) (h : ¬ (okR r = true ∧ r.o = f)) : sendC f a s rs = 1 := by
  unfold sendC
  rw [if_neg (by omega), if_pos (fun q => h (q r hr))]
theorem send_long {f a s : Int} {rs : List Rc} (h0 : 0 < rs.length) (ha : ∀ r ∈ rs, okR r = true ∧ r.o = f) (h : 8 < rs.length) : sendC f a s rs = 5 := by
  unfold sendC
  rw [if_neg (by omega), if_neg (fun q => q ha), if_pos h]
theorem send_first {f a s : Int} {rs : List Rc} (h0 : 0 < rs.length) (ha : ∀ r ∈ rs, okR r = true ∧ r.o = f) (h : ¬ 8 < rs.length) (hf : fstS rs ≤ a ∨ s + 1 < fstS rs) : sendC f a s rs = 12 := by
  unfold sendC
  rw [if_neg (by omega), if_neg (fun q => q ha), if_neg h, if_pos hf]
theorem send_gap {f a s : Int} {rs : List Rc} (h0 : 0 < rs.length) (ha : ∀ r ∈ rs, okR r = true ∧ r.o = f) (h : ¬ 8 < rs.length) (hf : ¬ (fstS rs ≤ a ∨ s + 1 < fstS rs)) (hb : rowB f (fstS rs) rs = false) : sendC f a s rs = 12 := by
  unfold sendC
  rw [if_neg (by omega), if_neg (fun q => q ha), if_neg h, if_neg hf, if_neg (by rw [hb]; decide)]
theorem send_yes {f a s : Int} {rs : List Rc} (h0 : 0 < rs.length) (ha : ∀ r ∈ rs, okR r = true ∧ r.o = f) (h : ¬ 8 < rs.length) (hf : ¬ (fstS rs ≤ a ∨ s + 1 < fstS rs)) (hb : rowB f (fstS rs) rs = true) : sendC f a s rs = 0 := by
  unfold sendC
  rw [if_neg (by omega), if_neg (fun q => q ha), if_neg h, if_neg hf, if_pos hb]
theorem rowB_at' : ∀ {rs : List Rc} {o s : Int}, rowB o s rs = true → ∀ (i : Nat) (r : Rc), rs[i]? = some r → okR r = true ∧ r.o = o ∧ r.s = s + (i : Int)
  | [], _, _, _, i, r, hr => by simp at hr
  | x :: t, o, s, h, i, r, hr => by
    simp only [rowB, Bool.and_eq_true, decide_eq_true_eq] at h
    cases i with
    | zero =>
      simp at hr
      subst hr
      exact ⟨h.1, h.2.1, by simp [h.2.2.1]⟩
    | succ i =>
      have q := rowB_at' h.2.2.2 i r (by simpa using hr)
      exact ⟨q.1, q.2.1, by rw [q.2.2]; omega⟩
theorem rowB_of' : ∀ {rs : List Rc} {o s : Int}, (∀ (i : Nat) (r : Rc), rs[i]? = some r → okR r = true ∧ r.o = o ∧ r.s = s + (i : Int)) → rowB o s rs = true
  | [], _, _, _ => rfl
  | x :: t, o, s, h => by
    have q := h 0 x rfl
    simp only [rowB, Bool.and_eq_true, decide_eq_true_eq]
    exact ⟨q.1, q.2.1, by simpa using q.2.2, rowB_of' (fun i r hr => by
      have := h (i + 1) r (by simpa using hr)
      exact ⟨this.1, this.2.1, by rw [this.2.2]; omega⟩)⟩
def recE (f : Int) (rs : List Rc) : List Int := frE (encW ⟨1, f, fstS rs, 0, 0, 0, 0, rs⟩)
def SendRes (b : Nat) (f t a s n : Int) (rs : List Rc) (w w' : World) (e : Ending) : Prop :=
  (sendC f a s rs ≠ 0 ∧ e = .returned (.tuple #[.slice none 0 0, .int .i64 (sendC f a s rs)]) ∧ Below w.heap.size w w') ∨
  (sendC f a s rs = 0 ∧ ∃ v, e = .returned (.tuple #[v, .int .i64 0]) ∧ Msg1 w.heap.size w' v f t (recE f rs) ∧ StPost b (outC f t a (max s (fstS rs + (rs.length : Int) - 1)) 0) w w')
theorem send_no {b : Nat} {f t a s n k : Int} {rs : List Rc} {w w' : World} (h : sendC f a s rs = k) (hk : k ≠ 0) (hb : Below w.heap.size w w') : SendRes b f t a s n rs w w' (.returned (.tuple #[.slice none 0 0, .int .i64 k])) := .inl ⟨by rw [h]; exact hk, by rw [h], hb⟩
theorem st_send_nil (b : Nat) (f t a s n : Int) (A : Option Addr) (c : Nat) (w : World) (h : XB w b (outC f t a s n)) :
    Calls Tryd.prog 34 #[.pointer (some ⟨b, 0, none⟩), .slice A 0 c] w fun e w' => SendRes b f t a s n [] w w' e := by
  have lt := h.lt
  clear h
  go_enter Tryd.func34, Tryd.ntmps34
  go_wp2
  go_ret2
  exact send_no (k := 1) rfl (by decide) (Below.refl _ _)
theorem send_fin {b : Nat} {f t a s n : Int} {rs : List Rc} {w w2 V : World} {g cap m : Nat} {D : List Int} (hc : sendC f a s rs = 0) (hD : recE f rs = D) (hO : Only b w V) (hx : XB V b (outC f t a (max s (fstS rs + (rs.length : Int) - 1)) 0)) (hr : Row8 w.heap.size w2 g cap m D) (hm : m ≤ 1000000)
    (hV : But (fun i => i = b) w2 V) (hgb : b < w.heap.size) {B : Nat} (hBB : w.heap.size ≤ B) (hB : XB V B [.int .i64 f, .int .i64 t, .slice (some ⟨g, 0, none⟩) m cap]) : SendRes b f t a s n rs w V (.returned (.tuple #[.slice (some ⟨B, 0, none⟩) 1 1, .int .i64 0])) := by
  subst hD
  have hl := hr.len
  subst hl
  refine .inr ⟨hc, _, rfl, ⟨B, 1, g, cap, hBB, hr.ge.1, rfl, hB, ?_, hm, hr.cap_le.1, hr.cap_le.2⟩, hx, hO⟩
  exact hr.by_.but hV (fun _ ad had => by injection had with had; subst had; have := hr.ge.1; show ¬ g = b; omega)
set_option maxRecDepth 100000 in
set_option maxHeartbeats 8000000 in
theorem st_send (b : Nat) (f t a s n : Int) (B O c : Nat) (L : List Mr) (w : World) (h : XB w b (outC f t a s n)) (hrow : RowAt w (.slice (some ⟨B, O, none⟩) L.length c) L) (hat : ∀ m ∈ L, m.At (fun _ => True) w) (hkb : ∀ m ∈ L, isBy m.r.key ∧ isBy m.r.val) (hl0 : 0 < L.length) (hl : L.length ≤ 100000)
    (ha : 0 ≤ a ∧ a ≤ 2199023255552) (hs : 0 ≤ s ∧ s ≤ 2199023255552) (ht : Nib w) :
    Calls Tryd.prog 34 #[.pointer (some ⟨b, 0, none⟩), .slice (some ⟨B, O, none⟩) L.length c] w fun e w' => SendRes b f t a s n (L.map Mr.r) w w' e := by
  have hni : (L.length : Int) ≤ 100000 := by omega
  obtain ⟨A', c', he', hc'⟩ := hrow.ex
  have HC : Hid (B < w.heap.size ∧ ∀ j u, (rowM L)[j]? = some u → w.cell? ⟨B, O + j, none⟩ = some u) := Lib.hid (by
    obtain ⟨B', O', e, h⟩ := hc' (by omega)
    injection he' with q1 q2 q3
    rw [e] at q1
    injection q1 with q1
    injection q1 with q1 q4
    subst q1 q4
    exact h)
  have HX := Lib.hid h
  have HA := Lib.hid hat
  have HL : Hid (0 < (L.map Mr.r).length ∧ L.length ≤ 100000) := Lib.hid ⟨by simpa using hl0, hl⟩
  have hl0i : (0 : Int) < (L.length : Int) := by omega
  have hl0n : ¬ L.length = 0 := by omega
  have HSA := Lib.hid (And.intro ha hs)
  have e1 : IntKind.i64.wrap (s + 1) = s + 1 := IntWalk.i64_in _ (by omega)
  have HENC : Hid (okW ⟨1, f, fstS (L.map Mr.r), 0, 0, 0, 0, L.map Mr.r⟩ = true → ∀ W, Below w.heap.size w W → Calls Tryd.prog 13 #[wdV 1 f (fstS (L.map Mr.r)) 0 0 0 0 (.slice (some ⟨B, O, none⟩) L.length c)] W fun e w' => (∃ g2 cap2, e = .returned (.tuple #[.slice (some ⟨g2, 0, none⟩) (12 + (encW ⟨1, f, fstS (L.map Mr.r), 0, 0, 0, 0, L.map Mr.r⟩).length) cap2, .int .i64 0]) ∧ Row8 W.heap.size w' g2 cap2 (12 + (encW ⟨1, f, fstS (L.map Mr.r), 0, 0, 0, 0, L.map Mr.r⟩).length) (recE f (L.map Mr.r))) ∧ Below W.heap.size W w') := Lib.hid (fun hok W k =>
    wd_enc 1 f (fstS (L.map Mr.r)) 0 0 0 0 (some ⟨B, O, none⟩) c L W (ht.below k) (hrow.below k) (fun m hm => (hat m hm).below k) hkb (by omega) hok)
  clear h hrow hat hkb hl hl0 ha hs ht he' hc'
  go_enter Tryd.func34, Tryd.ntmps34
  go_wp2
  go_loopw [22] (fun i wr => ∃ j : Nat, j ≤ L.length ∧ i = .int .i64 j ∧ Below w.heap.size w wr ∧ Hid (∀ (i : Nat) (m : Mr), i < j → L[i]? = some m → okR m.r = true ∧ m.r.o = f)) (fun i _ => L.length - (intOf i).toNat)
  case atStart => exact ⟨0, Nat.zero_le _, rfl, Below.refl _ _, Lib.hid (fun _ _ h => by omega)⟩
  case round =>
    obtain ⟨j, hj, rfl, hBB, hO⟩ := hrel
    by_cases hlt : j < L.length
    · have lk : (j : Int) < (L.length : Int) := by omega
      have hi1 : ((j : Int).toNat) = j := by simp
      have hx : L[j]? = some L[j] := List.getElem?_eq_getElem hlt
      have hmem : L[j].r ∈ L.map Mr.r := List.mem_map_of_mem (List.getElem_mem hlt)
      generalize L[j] = x at *
      have hBl := HC.out.1
      have hcell := HC.out.2
      have a0 : wr.cell? ⟨B, O + j * 9, none⟩ = some (.int .i64 x.r.o) := (hBB.cell (p := ⟨B, O + j * 9, none⟩) hBl).trans (hcell (j * 9) _ (by have := rowM_at hx 0 (by omega); rwa [Nat.add_zero] at this))
      have a1 : wr.cell? ⟨B, O + j * 9 + 1, none⟩ = some (.int .i64 x.r.s) := by rw [Nat.add_assoc]; exact (hBB.cell (p := ⟨B, O + (j * 9 + 1), none⟩) hBl).trans (hcell _ _ (rowM_at hx 1 (by omega)))
      have a2 : wr.cell? ⟨B, O + j * 9 + 2, none⟩ = some (.string (strB x.r.key)) := by rw [Nat.add_assoc]; exact (hBB.cell (p := ⟨B, O + (j * 9 + 2), none⟩) hBl).trans (hcell _ _ (rowM_at hx 2 (by omega)))
      have a3 : wr.cell? ⟨B, O + j * 9 + 3, none⟩ = some (.int .i64 x.r.ml) := by rw [Nat.add_assoc]; exact (hBB.cell (p := ⟨B, O + (j * 9 + 3), none⟩) hBl).trans (hcell _ _ (rowM_at hx 3 (by omega)))
      have a4 : wr.cell? ⟨B, O + j * 9 + 4, none⟩ = some (.int .i64 x.r.ct) := by rw [Nat.add_assoc]; exact (hBB.cell (p := ⟨B, O + (j * 9 + 4), none⟩) hBl).trans (hcell _ _ (rowM_at hx 4 (by omega)))
      have a5 : wr.cell? ⟨B, O + j * 9 + 5, none⟩ = some (.int .i64 x.r.vo) := by rw [Nat.add_assoc]; exact (hBB.cell (p := ⟨B, O + (j * 9 + 5), none⟩) hBl).trans (hcell _ _ (rowM_at hx 5 (by omega)))
      have a6 : wr.cell? ⟨B, O + j * 9 + 6, none⟩ = some (.slice x.A x.r.val.length x.c) := by rw [Nat.add_assoc]; exact (hBB.cell (p := ⟨B, O + (j * 9 + 6), none⟩) hBl).trans (hcell _ _ (rowM_at hx 6 (by omega)))
      have a7 : wr.cell? ⟨B, O + j * 9 + 7, none⟩ = some (.bool x.r.gone) := by rw [Nat.add_assoc]; exact (hBB.cell (p := ⟨B, O + (j * 9 + 7), none⟩) hBl).trans (hcell _ _ (rowM_at hx 7 (by omega)))
      have a8 : wr.cell? ⟨B, O + j * 9 + 8, none⟩ = some (.int .i64 x.r.tt) := by rw [Nat.add_assoc]; exact (hBB.cell (p := ⟨B, O + (j * 9 + 8), none⟩) hBl).trans (hcell _ _ (rowM_at hx 8 (by omega)))
      have HOK : Hid (okR x.r = okN x.r.o x.r.s (strB x.r.key).size x.r.ml x.r.ct x.r.vo x.r.val.length x.r.gone x.r.tt) := Lib.hid (by rw [okR_n, strB_size])
      have kA : Below wr.heap.size wr (wr.alloc (recO x.r.o x.r.s (strB x.r.key) x.r.ml x.r.ct x.r.vo x.A x.r.val.length x.c x.r.gone x.r.tt)) := (Below.refl _ _).alloc (Nat.le_refl _) _
      have X6 : XB (wr.alloc (recO x.r.o x.r.s (strB x.r.key) x.r.ml x.r.ct x.r.vo x.A x.r.val.length x.c x.r.gone x.r.tt)) wr.heap.size x.cs := XB.new wr _ _
      have Y6 := (HX.out.below hBB).below kA
      have HKA := Lib.hid (hBB.trans (kA.mono hBB.size))
      have HCON : Hid (∀ W, Calls Tryd.prog 72 #[recV x.r.o x.r.s (strB x.r.key) x.r.ml x.r.ct x.r.vo x.A x.r.val.length x.c x.r.gone x.r.tt] W fun e w' => e = .returned (.bool (okR x.r)) ∧ Below W.heap.size W w') := Lib.hid (fun W => by rw [HOK.out]; exact rec_is x.r.o x.r.s (strB x.r.key) x.r.ml x.r.ct x.r.vo x.A x.r.val.length x.c x.r.gone x.r.tt W)
      have HNX : Hid (okR x.r = true ∧ x.r.o = f → ∀ (i : Nat) (m : Mr), i < j + 1 → L[i]? = some m → okR m.r = true ∧ m.r.o = f) := Lib.hid (fun q i m hi hm => by
        by_cases hij : i = j
        · subst hij
          rw [hx] at hm
          injection hm with hm
          subst hm
          exact q
        · exact hO.out i m (by omega) hm)
      have HBAD : Hid (¬ (okR x.r = true ∧ x.r.o = f) → sendC f a s (L.map Mr.r) = 1) := Lib.hid (fun q => send_bad HL.out.1 hmem q)
      clear hx hmem hcell hBl hBB kA hlt hO HOK
      go_wp2_with fail
      clear a0 a1 a2 a3 a4 a5 a6 a7 a8
      have r0 := fun d os => cell_regrown (X6.c 0 _ rfl) d os
      have r1 := fun d os => cell_regrown (X6.c 1 _ rfl) d os
      have r2 := fun d os => cell_regrown (X6.c 2 _ rfl) d os
      have r3 := fun d os => cell_regrown (X6.c 3 _ rfl) d os
      have r4 := fun d os => cell_regrown (X6.c 4 _ rfl) d os
      have r5 := fun d os => cell_regrown (X6.c 5 _ rfl) d os
      have r6 := fun d os => cell_regrown (X6.c 6 _ rfl) d os
      have r7 := fun d os => cell_regrown (X6.c 7 _ rfl) d os
      have r8 := fun d os => cell_regrown (X6.c 8 _ rfl) d os
      have y0 := fun d os => cell_regrown (Y6.c 0 _ rfl) d os
      clear X6 Y6
      generalize wr.alloc (recO x.r.o x.r.s (strB x.r.key) x.r.ml x.r.ct x.r.vo x.A x.r.val.length x.c x.r.gone x.r.tt) = W6 at *
      have AC := Lib.hid fun (d' : Nat) (os : Array Obj) => Calls.regrown_of (HCON.out (grow (redrawn W6 d') os))
      clear HCON
      cases hok : okR x.r
      · rw [hok] at AC
        have HE := Lib.hid (HBAD.out (fun q => by have := q.1; rw [hok] at this; cases this))
        clear hok
        refine wp_region_quiet_below (by kernel_rfl) (by kernel_rfl) ?_
        repeat (go_big_quiet_step ((go_at_call 72; exact AC.out _ _)))
        refine wpQuiet_nil ?_
        intro _ hw'
        obtain ⟨⟨dq, osq⟩, hw''⟩ := hw'
        subst hw''
        have hq := below_regrown W6 dq osq
        have HK7 := Lib.hid (HKA.out.trans (hq.mono HKA.out.size))
        clear hq AC r0 r1 r2 r3 r4 r5 r6 r7 r8 y0
        generalize hgw : grow (redrawn W6 dq) osq = W7 at *
        clear hgw
        go_wp2
        go_ret2
        exact send_no HE.out (by decide) HK7.out
      rw [hok] at AC
      by_cases ho : x.r.o = f
      rotate_left
      · have t1 : (x.r.o != f) = true := by simpa using ho
        have HE := Lib.hid (HBAD.out (fun q => ho q.2))
        clear hok ho
        refine wp_region_quiet_below (by kernel_rfl) (by kernel_rfl) ?_
        repeat (go_big_quiet_step ((go_at_call 72; exact AC.out _ _)))
        refine wpQuiet_nil ?_
        intro _ hw'
        obtain ⟨⟨dq, osq⟩, hw''⟩ := hw'
        subst hw''
        have hq := below_regrown W6 dq osq
        have HK7 := Lib.hid (HKA.out.trans (hq.mono HKA.out.size))
        clear hq AC r0 r1 r2 r3 r4 r5 r6 r7 r8 y0
        generalize hgw : grow (redrawn W6 dq) osq = W7 at *
        clear hgw
        go_wp2
        go_ret2
        exact send_no HE.out (by decide) HK7.out
      · have t1 : (x.r.o != f) = false := by simpa using ho
        have HNY := Lib.hid (HNX.out ⟨hok, ho⟩)
        clear hok ho HNX HBAD
        refine wp_region_quiet_below (by kernel_rfl) (by kernel_rfl) ?_
        repeat (go_big_quiet_step ((go_at_call 72; exact AC.out _ _)))
        refine wpQuiet_nil ?_
        intro _ hw'
        obtain ⟨⟨dq, osq⟩, hw''⟩ := hw'
        subst hw''
        have hq := below_regrown W6 dq osq
        have HK7 := Lib.hid (HKA.out.trans (hq.mono HKA.out.size))
        clear hq AC r0 r1 r2 r3 r4 r5 r6 r7 r8 y0
        generalize hgw : grow (redrawn W6 dq) osq = W7 at *
        clear hgw
        go_wp2
        go_roundw
        case rel => exact ⟨j + 1, by omega, by go_num, HK7.out, Lib.hid HNY.out⟩
        case measure => simp [intOf]; omega
    · obtain rfl : j = L.length := by omega
      have HALL : Hid (∀ r ∈ L.map Mr.r, okR r = true ∧ r.o = f) := Lib.hid (fun r hr => by
        obtain ⟨m, hm, rfl⟩ := List.mem_map.1 hr
        obtain ⟨i, hi, e⟩ := List.mem_iff_getElem.1 hm
        exact hO.out i m hi (by rw [← e]; exact List.getElem?_eq_getElem hi))
      have HB := Lib.hid hBB
      clear hlt hO
      by_cases h8 : 8 < L.length
      · have t8 : (8 : Int) < (L.length : Int) := by omega
        have HE := Lib.hid (send_long (a := a) (s := s) HL.out.1 HALL.out (by simpa using h8))
        clear hBB h8
        go_wp2
        go_ret2
        exact send_no HE.out (by decide) HB.out
      have t8 : ¬ (8 : Int) < (L.length : Int) := by omega
      have h8i : (L.length : Int) ≤ 8 := by omega
      have h0l : 0 < L.length := by omega
      have hx : L[0]? = some L[0] := List.getElem?_eq_getElem h0l
      have HF : Hid (fstS (L.map Mr.r) = L[0].r.s) := Lib.hid (by
        cases L with
        | nil => simp at h0l
        | cons m t => rfl)
      have HOK0 := HALL.out L[0].r (List.mem_map_of_mem (List.getElem_mem h0l))
      generalize L[0] = x at *
      have c0 : wr.cell? ⟨B, O + 1, none⟩ = some (.int .i64 x.r.s) := (hBB.cell (p := ⟨B, O + 1, none⟩) HC.out.1).trans (HC.out.2 1 _ (by have := rowM_at hx 1 (by omega); rw [Nat.zero_mul, Nat.zero_add] at this; exact this))
      have X1 := HX.out.below hBB
      have c2 := X1.c 2 _ rfl
      have c3 := X1.c 3 _ rfl
      have lt := X1.lt
      have hsb : 1 ≤ x.r.s ∧ x.r.s ≤ 1099511627776 := ⟨((ok_iff _).1 HOK0.1).s0, ((ok_iff _).1 HOK0.1).s1⟩
      have hfb : Hid (0 ≤ f ∧ f < 5) := Lib.hid (by have h1 := ((ok_iff _).1 HOK0.1).o0; have h2 := ((ok_iff _).1 HOK0.1).o1; rw [HOK0.2] at h1 h2; exact ⟨h1, h2⟩)
      rw [HF.out] at HENC
      obtain ⟨F, hF⟩ : ∃ F, x.r.s = F := ⟨_, rfl⟩
      rw [hF] at c0 hsb HENC HF
      have H8 := Lib.hid h8
      clear hx HOK0 hF h8 X1 hBB
      by_cases hfa : F ≤ a
      · have HE := Lib.hid (send_first (a := a) (s := s) HL.out.1 HALL.out (by simpa using H8.out) (.inl (by rw [HF.out]; exact hfa)))
        clear hsb
        go_wp2
        go_ret2
        exact send_no HE.out (by decide) HB.out
      have hfa' : ¬ F ≤ a := hfa
      by_cases hfs : s + 1 < F
      · have HE := Lib.hid (send_first (a := a) HL.out.1 HALL.out (by simpa using H8.out) (.inr (by rw [HF.out]; exact hfs)))
        clear hsb
        go_wp2
        go_ret2
        exact send_no HE.out (by decide) HB.out
      have HNF : Hid (¬ (fstS (L.map Mr.r) ≤ a ∨ s + 1 < fstS (L.map Mr.r))) := Lib.hid (by rw [HF.out]; omega)
      go_wp2
      clear c0 c2 c3 lt
      go_loopw [63] (fun i wr => ∃ j : Nat, j ≤ L.length ∧ i = .int .i64 j ∧ Below w.heap.size w wr ∧ Hid (∀ (i : Nat) (m : Mr), i < j → L[i]? = some m → m.r.s = F + (i : Int))) (fun i _ => L.length - (intOf i).toNat)
      case atStart => exact ⟨0, Nat.zero_le _, rfl, HB.out, Lib.hid (fun _ _ h => by omega)⟩
      case round =>
        obtain ⟨j, hj, rfl, hBB, hO⟩ := hrel
        clear HB
        by_cases hlt : j < L.length
        · have lk : (j : Int) < (L.length : Int) := by omega
          have hi1 : ((j : Int).toNat) = j := by simp
          have hx : L[j]? = some L[j] := List.getElem?_eq_getElem hlt
          generalize L[j] = x at *
          have hBl := HC.out.1
          have hcell := HC.out.2
          have a0 : wr.cell? ⟨B, O + j * 9, none⟩ = some (.int .i64 x.r.o) := (hBB.cell (p := ⟨B, O + j * 9, none⟩) hBl).trans (hcell (j * 9) _ (by have := rowM_at hx 0 (by omega); rwa [Nat.add_zero] at this))
          have a1 : wr.cell? ⟨B, O + j * 9 + 1, none⟩ = some (.int .i64 x.r.s) := by rw [Nat.add_assoc]; exact (hBB.cell (p := ⟨B, O + (j * 9 + 1), none⟩) hBl).trans (hcell _ _ (rowM_at hx 1 (by omega)))
          have a2 : wr.cell? ⟨B, O + j * 9 + 2, none⟩ = some (.string (strB x.r.key)) := by rw [Nat.add_assoc]; exact (hBB.cell (p := ⟨B, O + (j * 9 + 2), none⟩) hBl).trans (hcell _ _ (rowM_at hx 2 (by omega)))
          have a3 : wr.cell? ⟨B, O + j * 9 + 3, none⟩ = some (.int .i64 x.r.ml) := by rw [Nat.add_assoc]; exact (hBB.cell (p := ⟨B, O + (j * 9 + 3), none⟩) hBl).trans (hcell _ _ (rowM_at hx 3 (by omega)))
          have a4 : wr.cell? ⟨B, O + j * 9 + 4, none⟩ = some (.int .i64 x.r.ct) := by rw [Nat.add_assoc]; exact (hBB.cell (p := ⟨B, O + (j * 9 + 4), none⟩) hBl).trans (hcell _ _ (rowM_at hx 4 (by omega)))
          have a5 : wr.cell? ⟨B, O + j * 9 + 5, none⟩ = some (.int .i64 x.r.vo) := by rw [Nat.add_assoc]; exact (hBB.cell (p := ⟨B, O + (j * 9 + 5), none⟩) hBl).trans (hcell _ _ (rowM_at hx 5 (by omega)))
          have a6 : wr.cell? ⟨B, O + j * 9 + 6, none⟩ = some (.slice x.A x.r.val.length x.c) := by rw [Nat.add_assoc]; exact (hBB.cell (p := ⟨B, O + (j * 9 + 6), none⟩) hBl).trans (hcell _ _ (rowM_at hx 6 (by omega)))
          have a7 : wr.cell? ⟨B, O + j * 9 + 7, none⟩ = some (.bool x.r.gone) := by rw [Nat.add_assoc]; exact (hBB.cell (p := ⟨B, O + (j * 9 + 7), none⟩) hBl).trans (hcell _ _ (rowM_at hx 7 (by omega)))
          have a8 : wr.cell? ⟨B, O + j * 9 + 8, none⟩ = some (.int .i64 x.r.tt) := by rw [Nat.add_assoc]; exact (hBB.cell (p := ⟨B, O + (j * 9 + 8), none⟩) hBl).trans (hcell _ _ (rowM_at hx 8 (by omega)))
          have HKA := Lib.hid (hBB.alloc hBB.size (recO x.r.o x.r.s (strB x.r.key) x.r.ml x.r.ct x.r.vo x.A x.r.val.length x.c x.r.gone x.r.tt))
          have e2 : IntKind.i64.wrap (F + (j : Int)) = F + (j : Int) := IntWalk.i64_in _ (by omega)
          have HNX : Hid (x.r.s = F + (j : Int) → ∀ (i : Nat) (m : Mr), i < j + 1 → L[i]? = some m → m.r.s = F + (i : Int)) := Lib.hid (fun q i m hi hm => by
            by_cases hij : i = j
            · subst hij
              rw [hx] at hm
              injection hm with hm
              subst hm
              exact q
            · exact hO.out i m (by omega) hm)
          have HBAD : Hid (¬ x.r.s = F + (j : Int) → sendC f a s (L.map Mr.r) = 12) := Lib.hid (fun q => send_gap HL.out.1 HALL.out (by simpa using H8.out) HNF.out (by
            rw [HF.out]
            cases hb : rowB f F (L.map Mr.r)
            · rfl
            · exact absurd (rowB_at' hb j x.r (by rw [List.getElem?_map, hx]; rfl)).2.2 q))
          clear hx hcell hBl hBB hlt hO
          by_cases hs : x.r.s = F + (j : Int)
          · have t2 : (x.r.s != F + (j : Int)) = false := by simpa using hs
            have HNY := Lib.hid (HNX.out hs)
            clear hs HNX HBAD
            go_wp2
            go_roundw
            case rel => exact ⟨j + 1, by omega, by go_num, HKA.out, Lib.hid HNY.out⟩
            case measure => simp [intOf]; omega
          · have t2 : (x.r.s != F + (j : Int)) = true := by simpa using hs
            have HE := Lib.hid (HBAD.out hs)
            clear hs HNX HBAD
            go_wp2
            go_ret2
            exact send_no HE.out (by decide) HKA.out
        · obtain rfl : j = L.length := by omega
          have HROW : Hid (rowB f F (L.map Mr.r) = true) := Lib.hid (rowB_of' (fun i r hr => by
            rw [List.getElem?_map] at hr
            cases hm : L[i]? with
            | none => rw [hm] at hr; cases hr
            | some m =>
              rw [hm] at hr
              injection hr with hr
              subst hr
              have hi : i < L.length := by rw [List.getElem?_eq_some_iff] at hm; exact hm.1
              have q := HALL.out m.r (List.mem_map_of_mem (List.mem_of_getElem? hm))
              exact ⟨q.1, q.2, hO.out i m hi hm⟩))
          have HOKW : Hid (okW ⟨1, f, F, 0, 0, 0, 0, L.map Mr.r⟩ = true) := Lib.hid (by
            have h1 := hfb.out
            have h2 := HROW.out
            have h3 := H8.out
            simp [okW, headW, bareW, h1.1, h1.2, h2]
            omega)
          have HBD := Lib.hid (encW_bd HOKW.out)
          have HEC : Hid (sendC f a s (L.map Mr.r) = 0) := Lib.hid (send_yes HL.out.1 HALL.out (by simpa using H8.out) HNF.out (by rw [HF.out]; exact HROW.out))
          have HE := Lib.hid (HENC.out HOKW.out wr hBB)
          obtain ⟨m, hm⟩ : ∃ m, 12 + (encW ⟨1, f, F, 0, 0, 0, 0, L.map Mr.r⟩).length = m := ⟨_, rfl⟩
          have HM : Hid (m ≤ 1000000) := Lib.hid (by have := HBD.out; omega)
          rw [hm] at HE
          obtain ⟨D, hD⟩ : ∃ D, recE f (L.map Mr.r) = D := ⟨_, rfl⟩
          have HDE := Lib.hid hD
          rw [hD] at HE
          clear hD
          have X1 := HX.out.below hBB
          have c0 := X1.c 0 _ rfl
          have lt := X1.lt
          have HB := Lib.hid hBB
          clear hlt hO hm HENC X1 hBB
          go_wp2_with fail
          refine HE.out.mono ?_; rintro e w2 ⟨⟨g, cap, rfl, hr⟩, k2⟩
          have HB2 := Lib.hid (HB.out.trans (k2.mono HB.out.size))
          have HR2 : Hid (Row8 w.heap.size w2 g cap m D) := Lib.hid (hr.base HB.out.size)
          have X2 := HX.out.below HB2.out
          clear hr k2 HE c0 lt HB
          have c0 := X2.c 0 _ rfl
          have c1 := X2.c 1 _ rfl
          have c2 := X2.c 2 _ rfl
          have c3 := X2.c 3 _ rfl
          have c4 := X2.c 4 _ rfl
          have f3 := X2.fz 3
          have f4 := X2.fz 4
          have lt := X2.lt
          have e5 : IntKind.i64.wrap (F + (L.length : Int)) = F + (L.length : Int) := IntWalk.i64_in _ (by omega)
          have e6 : IntKind.i64.wrap (F + (L.length : Int) - 1) = F + (L.length : Int) - 1 := IntWalk.i64_in _ (by omega)
          obtain ⟨z, hz⟩ : ∃ z, max s (F + (L.length : Int) - 1) = z := ⟨_, rfl⟩
          have HZ := Lib.hid hz
          clear hz
          have HX2 := Lib.hid X2
          clear X2
          go_upto_region 25 with fail
          rw [HZ.out]
          obtain ⟨W3, hW3⟩ : ∃ W3, (w2.setCell ⟨b, 3, none⟩ (.int .i64 z)).setCell ⟨b, 4, none⟩ (.int .i64 0) = W3 := ⟨_, rfl⟩
          have HX3 : Hid (XB W3 b (outC f t a z 0)) := Lib.hid (by rw [← hW3]; exact (HX2.out.set 3 (by simp) (.int .i64 z)).set 4 (by simp) (.int .i64 0))
          have HO3 : Hid (Only b w2 W3) := Lib.hid (by rw [← hW3]; (repeat' (first | (with_reducible exact Only.refl _ _) | (with_reducible assumption) | (with_reducible refine Only.alloc ?_ _) | (with_reducible refine Only.setB ?_ _) | (refine Only.setCell ?_ (Or.inr ?_) _) | (with_reducible refine Only.drewN ?_ _) | (with_reducible refine Only.drew ?_) | (with_reducible refine Only.trans ?_ (by with_reducible assumption)) | (with_reducible refine Only.trans ?_ (Only.of_below (by with_reducible assumption))) | go_size)))
          rw [hW3]
          clear hW3 c0 c1 c2 c3 c4 f3 f4 lt
          have FIN : Hid (∀ V, Below W3.heap.size W3 V → XB V W3.heap.size [.int .i64 f, .int .i64 t, .slice (some ⟨g, 0, none⟩) m cap] → SendRes b f t a s n (L.map Mr.r) w V (.returned (.tuple #[.slice (some ⟨W3.heap.size, 0, none⟩) 1 1, .int .i64 0]))) := Lib.hid (fun V k hB =>
            send_fin HEC.out HDE.out (((Only.of_below HB2.out).trans HO3.out).trans (Only.of_below k)) (by rw [HF.out, List.length_map, HZ.out]; exact HX3.out.below k) HR2.out HM.out (But.of_only (HO3.out.trans (Only.of_below k)) rfl) HX.out.lt (Nat.le_trans HB2.out.size HO3.out.size) hB)
          have c0 := HX3.out.c 0 _ rfl
          have c1 := HX3.out.c 1 _ rfl
          have lt := HX3.out.lt
          go_region
          go_wp2
          go_ret2
          exact FIN.out _ (by (repeat' (first | (with_reducible exact Below.refl _ _) | (with_reducible assumption) | (with_reducible refine Below.trans ?_ (Below.mono (by with_reducible assumption) ?_)) | (with_reducible refine Below.alloc ?_ ?_ _) | (with_reducible refine Below.setCell ?_ ?_ _) | (with_reducible refine below_drewN ?_ _) | (with_reducible refine Below.drew ?_) | go_size))) ((XB.new W3 #[.int .i64 f, .int .i64 t, .slice (some ⟨g, 0, none⟩) m cap] 84).below (by (repeat' (first | (with_reducible exact Below.refl _ _) | (with_reducible assumption) | (with_reducible refine Below.trans ?_ (Below.mono (by with_reducible assumption) ?_)) | (with_reducible refine Below.alloc ?_ ?_ _) | (with_reducible refine Below.setCell ?_ ?_ _) | (with_reducible refine below_drewN ?_ _) | (with_reducible refine Below.drew ?_) | go_size))))
end Go.Proofs.YtdffldlcbihjmaaDoor

/- Stage 18: StreamAgain: what was sent and is not there is sent again behind so many ticks, and not ahead of it. (for every count and acknowledged count) -/
namespace Go.Proofs.YtdffldlcbihjmaaDoor
open Go.RowKit Go.Sort

theorem recS_ok' {o : Int} {s : Nat} (ho : 0 ≤ o ∧ o < 5) (hs : 1 ≤ s ∧ s ≤ 1099511627776) : okR (recS o s) = true := by
  rw [ok_iff]
  have hm : min s 1099511627776 = s := Nat.min_eq_left hs.2
  constructor <;> simp [recS] <;> omega
theorem fstS_some {o : Int} {f n : Nat} (h : 0 < n) : fstS (someR o f n) = f := by
  obtain ⟨m, rfl⟩ : ∃ m, n = m + 1 := ⟨n - 1, by omega⟩
  unfold someR
  rw [List.range_succ_eq_map]
  rfl
theorem send_some {o : Int} {f n : Nat} (ho : 0 ≤ o ∧ o < 5) (hf : 1 ≤ f) (hb : f + n ≤ 1099511627776) (h0 : 0 < n) (h8 : n ≤ 8) {a s : Int} (ha : a < f) (hs : (f : Int) ≤ s + 1) : sendC o a s (someR o f n) = 0 := by
  have hF := fstS_some (o := o) (f := f) h0
  have hall : ∀ r ∈ someR o f n, okR r = true ∧ r.o = o := fun r hr => by
    obtain ⟨i, hi, rfl⟩ := someR_mem hr
    exact ⟨recS_ok' ho (by omega), rfl⟩
  refine send_yes (by rw [someR_len]; exact h0) hall (by rw [someR_len]; omega) (by rw [hF]; omega) (by
    rw [hF]
    refine rowB_of' (fun i r hr => ?_)
    have hi : i < n := by
      have := (List.getElem?_eq_some_iff.1 hr).1
      rwa [someR_len] at this
    rw [someR_at hi] at hr
    injection hr with hr
    subst hr
    exact ⟨recS_ok' ho (by omega), rfl, by show ((f + i : Nat) : Int) = _; omega⟩)
theorem TL.some_ {w wr : World} {v : Value} {k : Nat} {L : List Mr} (h : TL w wr v k L) (h0 : 0 < k) : ∃ g c, v = .slice (some ⟨g, 0, none⟩) k c := by
  rcases h.row.2 with ⟨e, h1⟩ | ⟨g, cap, cur, e, _⟩
  · omega
  · exact ⟨g, cap, e⟩
theorem again_out (n z : Int) (w : World) (h : ¬ (1 ≤ n ∧ n ≤ 8 ∧ 0 ≤ z ∧ z ≤ n)) :
    Calls Tryd.prog 11 #[.int .i64 n, .int .i64 z] w fun e w' => e = .returned (.bool true) ∧ Below w.heap.size w w' := by
  by_cases h0 : n < 1
  · clear h
    go_enter Tryd.func11, Tryd.ntmps11
    go_wp2_with fail
    refine (known18 w).mono ?_; rintro e w1 ⟨rfl, k1⟩
    have HB := Lib.hid k1
    clear k1
    go_wp2
    go_ret
    exact ⟨rfl, HB.out⟩
  by_cases h1 : 8 < n
  · clear h
    go_enter Tryd.func11, Tryd.ntmps11
    go_wp2_with fail
    refine (known18 w).mono ?_; rintro e w1 ⟨rfl, k1⟩
    have HB := Lib.hid k1
    clear k1
    go_wp2
    go_ret
    exact ⟨rfl, HB.out⟩
  by_cases h2 : z < 0
  · clear h
    go_enter Tryd.func11, Tryd.ntmps11
    go_wp2_with fail
    refine (known18 w).mono ?_; rintro e w1 ⟨rfl, k1⟩
    have HB := Lib.hid k1
    clear k1
    go_wp2
    go_ret
    exact ⟨rfl, HB.out⟩
  by_cases h3 : n < z
  · clear h
    go_enter Tryd.func11, Tryd.ntmps11
    go_wp2_with fail
    refine (known18 w).mono ?_; rintro e w1 ⟨rfl, k1⟩
    have HB := Lib.hid k1
    clear k1
    go_wp2
    go_ret
    exact ⟨rfl, HB.out⟩
  exact absurd (by omega) h
set_option maxRecDepth 100000 in
set_option maxHeartbeats 8000000 in
theorem again_zero (n : Nat) (w : World) (ht : Nib w) (hn : 1 ≤ n) (hn2 : n ≤ 8)  :
    Calls Tryd.prog 11 #[.int .i64 n, .int .i64 0] w fun e w' => e = .returned (.bool true) ∧ Below w.heap.size w w' := by
  have a3 : ¬ (n : Int) < 0 := by omega
  have a4 : ((0 : Int) == (n : Int)) = false := by rw [beq_eq_false_iff_ne]; omega
  have a1 : ¬ (n : Int) < 1 := by omega
  have a2 : ¬ (8 : Int) < (n : Int) := by omega
  have HT := Lib.hid (fun (W : World) (q : Below w.heap.size w W) => ht.below q)
  have HI := Lib.hid (st_new_out 1 0 0 w)
  have HSC : Hid (sendC 1 0 0 (someR 1 1 n) = 0) := Lib.hid (send_some (by omega) (by omega) (by omega) hn hn2 (by omega) (by omega))
  have HMX : Hid (max (0 : Int) (fstS (someR 1 1 n) + ((someR 1 1 n).length : Int) - 1) = (n : Int)) := Lib.hid (by rw [fstS_some (by omega), someR_len]; omega)
  have HAK : Hid (ackB 0 (n : Int) 0 = false) := Lib.hid (by simp [ackB])
  have HNN : Hid (1 ≤ n ∧ n ≤ 8) := Lib.hid ⟨hn, hn2⟩
  have HNE : Hid (∀ k : Nat, k < 4 → needM 0 n k n = (0, false)) := Lib.hid (fun k hk => by unfold needM; rw [if_neg (by omega), if_neg (by omega)])
  have HTI : Hid (∀ k : Nat, tickM 0 n k = (k + 1 : Nat)) := Lib.hid (fun k => by unfold tickM; rw [if_pos (by omega)]; omega)
  have HEND : Hid (needM 0 n 4 n = (0 + 1, true)) := Lib.hid (by unfold needM; rw [if_neg (by omega), if_pos (by omega)])
  clear ht hn hn2
  go_enter Tryd.func11, Tryd.ntmps11
  go_wp2_with fail
  refine HI.out.mono ?_; rintro e w1 hr
  obtain ⟨b, rfl, hb, xi, k1⟩ := new_yes hr (by decide)
  have HXI := Lib.hid xi
  have HB1 := Lib.hid k1
  clear xi k1 hr HI
  go_wp2_with fail
  refine (law_some 1 1 n w1 (by omega) (by have := HNN.out; omega)).mono ?_; rintro e w2 ⟨vl, L, rfl, hT, hL⟩
  obtain ⟨gl, cl, rfl⟩ := hT.some_ HNN.out.1
  have hlen := hT.len
  have HB2 := Lib.hid (HB1.out.trans (hT.bel.mono HB1.out.size))
  have HSD : Hid (Calls Tryd.prog 34 #[.pointer (some ⟨b, 0, none⟩), .slice (some ⟨gl, 0, none⟩) n cl] w2 fun e w' => SendRes b 1 0 0 0 0 (someR 1 1 n) w2 w' e) := Lib.hid (by
    have h := st_send b 1 0 0 0 0 gl 0 cl L w2 (HXI.out.below hT.bel) (by have := hT.rowAt; rw [hlen]; exact this) hT.at_ (fun m hm => by
      have := List.mem_map_of_mem (f := Mr.r) hm
      rw [hL] at this
      obtain ⟨i, _, e⟩ := someR_mem this
      rw [e]
      exact recS_by _ _) (by have := HNN.out; omega) (by have := HNN.out; omega) (by omega) (by omega) (HT.out _ HB2.out)
    rw [hlen, hL] at h
    exact h)
  clear hT hL hlen HXI HB1
  go_wp2_with fail
  refine HSD.out.mono ?_; rintro e w3 hres
  rcases hres with ⟨hne, _⟩ | ⟨_, v3, rfl, hm3, hp3⟩
  · exact absurd HSC.out hne
  rw [HMX.out] at hp3
  have HB3 := Lib.hid (HB2.out.trans (hp3.only.below hb HB2.out.size))
  have HX3 := Lib.hid hp3.xb
  obtain ⟨B3, c3, rfl⟩ := hm3.shape
  clear hm3 hp3 HSD HB2
  have HA := Lib.hid (st_ack b 1 0 0 n 0 0 w3 HX3.out)
  rw [HAK.out] at HA
  go_wp2_with fail
  refine HA.out.mono ?_; rintro e w4 ⟨rfl, hp4⟩
  have HB4 := Lib.hid (HB3.out.trans (hp4.only.below hb HB3.out.size))
  have HX4 : Hid (XB w4 b (outC 1 0 0 n 0)) := Lib.hid (by have := hp4.xb; simpa using this)
  clear hp4 HA HX3 HB3
  go_wp2
  go_loopw [9] (fun i wr => ∃ k : Nat, k ≤ 4 ∧ i = .int .i64 k ∧ Below w.heap.size w wr ∧ XB wr b (outC 1 0 0 n k)) (fun i _ => 4 - (intOf i).toNat)
  case atStart => exact ⟨0, by omega, rfl, HB4.out, HX4.out⟩
  case round =>
    obtain ⟨k, hk, rfl, hB, hX⟩ := hrel
    have HB := Lib.hid hB
    have HX := Lib.hid hX
    clear hB hX HB4 HX4
    by_cases hlt : k < 4
    · have lk : (k : Int) < 4 := by omega
      have HN := Lib.hid (st_need b 1 0 0 n k n wr HX.out (by have := HNN.out; omega) (by have := HNN.out; omega))
      rw [HNE.out k hlt] at HN
      go_wp2_with fail
      refine HN.out.mono ?_; rintro e w5 ⟨rfl, rfl⟩
      have HTK := Lib.hid (st_tick b 1 0 0 n k wr HX.out (by omega))
      rw [HTI.out k] at HTK
      clear HN
      go_wp2_with fail
      refine HTK.out.mono ?_; rintro e w6 ⟨rfl, hp6⟩
      have HB6 := Lib.hid (HB.out.trans (hp6.only.below hb HB.out.size))
      have HX6 := Lib.hid hp6.xb
      clear hp6 HTK HB HX
      go_wp2
      go_roundw
      case rel => exact ⟨k + 1, by omega, by go_num, HB6.out, HX6.out⟩
      case measure => simp [intOf]; omega
    · obtain rfl : k = 4 := by omega
      have HN := Lib.hid (st_need b 1 0 0 n ((4 : Nat) : Int) n wr HX.out (by have := HNN.out; omega) (by have := HNN.out; omega))
      have HEND' : Hid (needM 0 n ((4 : Nat) : Int) n = (0 + 1, true)) := HEND
      rw [HEND'.out] at HN
      clear hlt
      go_wp2_with fail
      refine HN.out.mono ?_; rintro e w5 ⟨rfl, rfl⟩
      clear HN
      go_wp2_with fail
      refine (known18 wr).mono ?_; rintro e w10 ⟨rfl, k10⟩
      have HB10 := Lib.hid (HB.out.trans (k10.mono HB.out.size))
      clear k10
      go_wp2
      go_ret
      exact ⟨rfl, HB10.out⟩
set_option maxRecDepth 100000 in
set_option maxHeartbeats 8000000 in
theorem again_some (n z : Nat) (w : World) (ht : Nib w) (hn : 1 ≤ n) (hn2 : n ≤ 8) (hz : 0 < z) (hzn : z < n) :
    Calls Tryd.prog 11 #[.int .i64 n, .int .i64 (z : Int)] w fun e w' => e = .returned (.bool true) ∧ Below w.heap.size w w' := by
  have a3 : ¬ (z : Int) < 0 := by omega
  have a5 : ¬ (n : Int) < (z : Int) := by omega
  have a6 : (0 : Int) < (z : Int) := by omega
  have a4 : ((z : Int) == (n : Int)) = false := by rw [beq_eq_false_iff_ne]; omega
  have e9 : IntKind.i64.wrap ((z : Int) + 1) = (z : Int) + 1 := IntWalk.i64_in _ (by omega)
  have a1 : ¬ (n : Int) < 1 := by omega
  have a2 : ¬ (8 : Int) < (n : Int) := by omega
  have HT := Lib.hid (fun (W : World) (q : Below w.heap.size w W) => ht.below q)
  have HI := Lib.hid (st_new_out 1 0 0 w)
  have HSC : Hid (sendC 1 0 0 (someR 1 1 n) = 0) := Lib.hid (send_some (by omega) (by omega) (by omega) hn hn2 (by omega) (by omega))
  have HMX : Hid (max (0 : Int) (fstS (someR 1 1 n) + ((someR 1 1 n).length : Int) - 1) = (n : Int)) := Lib.hid (by rw [fstS_some (by omega), someR_len]; omega)
  have HAK : Hid (ackB 0 (n : Int) (z : Int) = true) := Lib.hid (by simp [ackB]; omega)
  have HNN : Hid (1 ≤ n ∧ n ≤ 8) := Lib.hid ⟨hn, hn2⟩
  have HNE : Hid (∀ k : Nat, k < 4 → needM (z : Int) n k n = (0, false)) := Lib.hid (fun k hk => by unfold needM; rw [if_neg (by omega), if_neg (by omega)])
  have HTI : Hid (∀ k : Nat, tickM (z : Int) n k = (k + 1 : Nat)) := Lib.hid (fun k => by unfold tickM; rw [if_pos (by omega)]; omega)
  have HEND : Hid (needM (z : Int) n 4 n = ((z : Int) + 1, true)) := Lib.hid (by unfold needM; rw [if_neg (by omega), if_pos (by omega)])
  clear ht hn hn2
  go_enter Tryd.func11, Tryd.ntmps11
  go_wp2_with fail
  refine HI.out.mono ?_; rintro e w1 hr
  obtain ⟨b, rfl, hb, xi, k1⟩ := new_yes hr (by decide)
  have HXI := Lib.hid xi
  have HB1 := Lib.hid k1
  clear xi k1 hr HI
  go_wp2_with fail
  refine (law_some 1 1 n w1 (by omega) (by have := HNN.out; omega)).mono ?_; rintro e w2 ⟨vl, L, rfl, hT, hL⟩
  obtain ⟨gl, cl, rfl⟩ := hT.some_ HNN.out.1
  have hlen := hT.len
  have HB2 := Lib.hid (HB1.out.trans (hT.bel.mono HB1.out.size))
  have HSD : Hid (Calls Tryd.prog 34 #[.pointer (some ⟨b, 0, none⟩), .slice (some ⟨gl, 0, none⟩) n cl] w2 fun e w' => SendRes b 1 0 0 0 0 (someR 1 1 n) w2 w' e) := Lib.hid (by
    have h := st_send b 1 0 0 0 0 gl 0 cl L w2 (HXI.out.below hT.bel) (by have := hT.rowAt; rw [hlen]; exact this) hT.at_ (fun m hm => by
      have := List.mem_map_of_mem (f := Mr.r) hm
      rw [hL] at this
      obtain ⟨i, _, e⟩ := someR_mem this
      rw [e]
      exact recS_by _ _) (by have := HNN.out; omega) (by have := HNN.out; omega) (by omega) (by omega) (HT.out _ HB2.out)
    rw [hlen, hL] at h
    exact h)
  clear hT hL hlen HXI HB1
  go_wp2_with fail
  refine HSD.out.mono ?_; rintro e w3 hres
  rcases hres with ⟨hne, _⟩ | ⟨_, v3, rfl, hm3, hp3⟩
  · exact absurd HSC.out hne
  rw [HMX.out] at hp3
  have HB3 := Lib.hid (HB2.out.trans (hp3.only.below hb HB2.out.size))
  have HX3 := Lib.hid hp3.xb
  obtain ⟨B3, c3, rfl⟩ := hm3.shape
  clear hm3 hp3 HSD HB2
  have HA := Lib.hid (st_ack b 1 0 0 n 0 (z : Int) w3 HX3.out)
  rw [HAK.out] at HA
  go_wp2_with fail
  refine HA.out.mono ?_; rintro e w4 ⟨rfl, hp4⟩
  have HB4 := Lib.hid (HB3.out.trans (hp4.only.below hb HB3.out.size))
  have HX4 : Hid (XB w4 b (outC 1 0 (z : Int) n 0)) := Lib.hid (by have := hp4.xb; simpa using this)
  clear hp4 HA HX3 HB3
  go_wp2
  go_loopw [9] (fun i wr => ∃ k : Nat, k ≤ 4 ∧ i = .int .i64 k ∧ Below w.heap.size w wr ∧ XB wr b (outC 1 0 (z : Int) n k)) (fun i _ => 4 - (intOf i).toNat)
  case atStart => exact ⟨0, by omega, rfl, HB4.out, HX4.out⟩
  case round =>
    obtain ⟨k, hk, rfl, hB, hX⟩ := hrel
    have HB := Lib.hid hB
    have HX := Lib.hid hX
    clear hB hX HB4 HX4
    by_cases hlt : k < 4
    · have lk : (k : Int) < 4 := by omega
      have HN := Lib.hid (st_need b 1 0 (z : Int) n k n wr HX.out (by have := HNN.out; omega) (by have := HNN.out; omega))
      rw [HNE.out k hlt] at HN
      go_wp2_with fail
      refine HN.out.mono ?_; rintro e w5 ⟨rfl, rfl⟩
      have HTK := Lib.hid (st_tick b 1 0 (z : Int) n k wr HX.out (by omega))
      rw [HTI.out k] at HTK
      clear HN
      go_wp2_with fail
      refine HTK.out.mono ?_; rintro e w6 ⟨rfl, hp6⟩
      have HB6 := Lib.hid (HB.out.trans (hp6.only.below hb HB.out.size))
      have HX6 := Lib.hid hp6.xb
      clear hp6 HTK HB HX
      go_wp2
      go_roundw
      case rel => exact ⟨k + 1, by omega, by go_num, HB6.out, HX6.out⟩
      case measure => simp [intOf]; omega
    · obtain rfl : k = 4 := by omega
      have HN := Lib.hid (st_need b 1 0 (z : Int) n ((4 : Nat) : Int) n wr HX.out (by have := HNN.out; omega) (by have := HNN.out; omega))
      have HEND' : Hid (needM (z : Int) n ((4 : Nat) : Int) n = ((z : Int) + 1, true)) := HEND
      rw [HEND'.out] at HN
      clear hlt
      go_wp2_with fail
      refine HN.out.mono ?_; rintro e w5 ⟨rfl, rfl⟩
      clear HN
      go_wp2_with fail
      refine (known18 wr).mono ?_; rintro e w10 ⟨rfl, k10⟩
      have HB10 := Lib.hid (HB.out.trans (k10.mono HB.out.size))
      clear k10
      go_wp2
      go_ret
      exact ⟨rfl, HB10.out⟩
set_option maxRecDepth 100000 in
set_option maxHeartbeats 8000000 in
theorem again_all (n : Nat) (w : World) (ht : Nib w) (hn : 1 ≤ n) (hn2 : n ≤ 8)  :
    Calls Tryd.prog 11 #[.int .i64 n, .int .i64 (n : Int)] w fun e w' => e = .returned (.bool true) ∧ Below w.heap.size w w' := by
  have a5 : ¬ (n : Int) < (n : Int) := by omega
  have a6 : (0 : Int) < (n : Int) := by omega
  have a7 : 0 < n := by omega
  have a1 : ¬ (n : Int) < 1 := by omega
  have a2 : ¬ (8 : Int) < (n : Int) := by omega
  have HT := Lib.hid (fun (W : World) (q : Below w.heap.size w W) => ht.below q)
  have HI := Lib.hid (st_new_out 1 0 0 w)
  have HSC : Hid (sendC 1 0 0 (someR 1 1 n) = 0) := Lib.hid (send_some (by omega) (by omega) (by omega) hn hn2 (by omega) (by omega))
  have HMX : Hid (max (0 : Int) (fstS (someR 1 1 n) + ((someR 1 1 n).length : Int) - 1) = (n : Int)) := Lib.hid (by rw [fstS_some (by omega), someR_len]; omega)
  have HAK : Hid (ackB 0 (n : Int) (n : Int) = true) := Lib.hid (by simp [ackB]; omega)
  have HNN : Hid (1 ≤ n ∧ n ≤ 8) := Lib.hid ⟨hn, hn2⟩
  have HNE : Hid (∀ k : Nat, k < 4 → needM (n : Int) n 0 n = (0, false)) := Lib.hid (fun k hk => by unfold needM; rw [if_neg (by omega), if_neg (by omega)])
  have HTI : Hid (∀ k : Nat, tickM (n : Int) n 0 = 0) := Lib.hid (fun k => by unfold tickM; rw [if_neg (by omega)])
  have HEND : Hid (needM (n : Int) n 0 n = (0, false)) := Lib.hid (by unfold needM; rw [if_neg (by omega), if_neg (by omega)])
  clear ht hn hn2
  go_enter Tryd.func11, Tryd.ntmps11
  go_wp2_with fail
  refine HI.out.mono ?_; rintro e w1 hr
  obtain ⟨b, rfl, hb, xi, k1⟩ := new_yes hr (by decide)
  have HXI := Lib.hid xi
  have HB1 := Lib.hid k1
  clear xi k1 hr HI
  go_wp2_with fail
  refine (law_some 1 1 n w1 (by omega) (by have := HNN.out; omega)).mono ?_; rintro e w2 ⟨vl, L, rfl, hT, hL⟩
  obtain ⟨gl, cl, rfl⟩ := hT.some_ HNN.out.1
  have hlen := hT.len
  have HB2 := Lib.hid (HB1.out.trans (hT.bel.mono HB1.out.size))
  have HSD : Hid (Calls Tryd.prog 34 #[.pointer (some ⟨b, 0, none⟩), .slice (some ⟨gl, 0, none⟩) n cl] w2 fun e w' => SendRes b 1 0 0 0 0 (someR 1 1 n) w2 w' e) := Lib.hid (by
    have h := st_send b 1 0 0 0 0 gl 0 cl L w2 (HXI.out.below hT.bel) (by have := hT.rowAt; rw [hlen]; exact this) hT.at_ (fun m hm => by
      have := List.mem_map_of_mem (f := Mr.r) hm
      rw [hL] at this
      obtain ⟨i, _, e⟩ := someR_mem this
      rw [e]
      exact recS_by _ _) (by have := HNN.out; omega) (by have := HNN.out; omega) (by omega) (by omega) (HT.out _ HB2.out)
    rw [hlen, hL] at h
    exact h)
  clear hT hL hlen HXI HB1
  go_wp2_with fail
  refine HSD.out.mono ?_; rintro e w3 hres
  rcases hres with ⟨hne, _⟩ | ⟨_, v3, rfl, hm3, hp3⟩
  · exact absurd HSC.out hne
  rw [HMX.out] at hp3
  have HB3 := Lib.hid (HB2.out.trans (hp3.only.below hb HB2.out.size))
  have HX3 := Lib.hid hp3.xb
  obtain ⟨B3, c3, rfl⟩ := hm3.shape
  clear hm3 hp3 HSD HB2
  have HA := Lib.hid (st_ack b 1 0 0 n 0 (n : Int) w3 HX3.out)
  rw [HAK.out] at HA
  go_wp2_with fail
  refine HA.out.mono ?_; rintro e w4 ⟨rfl, hp4⟩
  have HB4 := Lib.hid (HB3.out.trans (hp4.only.below hb HB3.out.size))
  have HX4 : Hid (XB w4 b (outC 1 0 (n : Int) n 0)) := Lib.hid (by have := hp4.xb; simpa using this)
  clear hp4 HA HX3 HB3
  go_wp2
  go_loopw [9] (fun i wr => ∃ k : Nat, k ≤ 4 ∧ i = .int .i64 k ∧ Below w.heap.size w wr ∧ XB wr b (outC 1 0 (n : Int) n 0)) (fun i _ => 4 - (intOf i).toNat)
  case atStart => exact ⟨0, by omega, rfl, HB4.out, HX4.out⟩
  case round =>
    obtain ⟨k, hk, rfl, hB, hX⟩ := hrel
    have HB := Lib.hid hB
    have HX := Lib.hid hX
    clear hB hX HB4 HX4
    by_cases hlt : k < 4
    · have lk : (k : Int) < 4 := by omega
      have HN := Lib.hid (st_need b 1 0 (n : Int) n 0 n wr HX.out (by have := HNN.out; omega) (by have := HNN.out; omega))
      rw [HNE.out k hlt] at HN
      go_wp2_with fail
      refine HN.out.mono ?_; rintro e w5 ⟨rfl, rfl⟩
      have HTK := Lib.hid (st_tick b 1 0 (n : Int) n 0 wr HX.out (by omega))
      rw [HTI.out k] at HTK
      clear HN
      go_wp2_with fail
      refine HTK.out.mono ?_; rintro e w6 ⟨rfl, hp6⟩
      have HB6 := Lib.hid (HB.out.trans (hp6.only.below hb HB.out.size))
      have HX6 := Lib.hid hp6.xb
      clear hp6 HTK HB HX
      go_wp2
      go_roundw
      case rel => exact ⟨k + 1, by omega, by go_num, HB6.out, HX6.out⟩
      case measure => simp [intOf]; omega
    · obtain rfl : k = 4 := by omega
      have HN := Lib.hid (st_need b 1 0 (n : Int) n 0 n wr HX.out (by have := HNN.out; omega) (by have := HNN.out; omega))
      have HEND' : Hid (needM (n : Int) n 0 n = (0, false)) := HEND
      rw [HEND'.out] at HN
      clear hlt
      go_wp2_with fail
      refine HN.out.mono ?_; rintro e w5 ⟨rfl, rfl⟩
      clear HN
      go_wp2_with fail
      refine (known18 wr).mono ?_; rintro e w10 ⟨rfl, k10⟩
      have HB10 := Lib.hid (HB.out.trans (k10.mono HB.out.size))
      clear k10
      go_wp2
      go_ret
      exact ⟨rfl, HB10.out⟩
end Go.Proofs.YtdffldlcbihjmaaDoor
namespace Go.Proofs.YtdffldlcbihjmaaDoor
open Go.ChangeShapes Go.WideShapes Go.ChangeAt Go.RowKit Go.Joins Go.Deep
set_option maxRecDepth 100000 in
theorem streamAgain_contract (H : Type) (enc : TypeId × Value → H) (W : World) (base : Nat) (args : Array Value) (ds gs : List (DataW H)) (before : List MemPlace)
    (hval0 : ∀ (j : Nat) t v, Tryd.f11.params[j]? = some t → args[j]? = some v → Value.okWide Tryd.prog W .any base t v)
    (hW : DataW.Whole enc Tryd.prog Tryd.f11.params.toList Rows.streamAgainSpec.vars false W args.toList ds gs before)
    (hsz0 : (DataW.weightsEach Tryd.prog (Tryd.f11.params.toList ++ (OpenSpec.ofChange Rows.streamAgainSpec).bare.plain.varTypes Tryd.prog) (ds ++ gs)).all (· ≤ reachBytes) = true) (hL : laidMetH Tryd.prog Rows.streamAgainRow.laid W) (hS : W.ShapedOpen Tryd.prog) :
    Calls Tryd.prog 11 args W fun e W' => ∃ v, e = .returned v ∧ Rows.streamAgainSpec.post enc Tryd.prog Tryd.f11 false true false false W args v W' := by
  have hval : ∀ (j : Nat) t v, Tryd.f11.params[j]? = some t → args[j]? = some v → Value.okWide Tryd.prog W .any base t v := hval0
  have hsz := hsz0
  have hW' := hW
  obtain ⟨p, q, hA0, hV, rfl, hfz, hnd⟩ := hW
  have hA : DataW.TrodAll enc Tryd.prog W 0 (fun _ => true) true Tryd.f11.params.toList args.toList ds p := hA0
  rw [Tryd.params11] at hA hval hsz
  have hsame : (Rows.streamAgainSpec.fn H (ds ++ gs)).results = [.lit (.bool true)] ∧ (Rows.streamAgainSpec.fn H (ds ++ gs)).args = ds ∧ (Rows.streamAgainSpec.fn H (ds ++ gs)).vars = [] → ∀ W', Below W.heap.size W W' → Rows.streamAgainSpec.post enc Tryd.prog Tryd.f11 false true false false W args (.bool true) W' :=
    fun h W' hb => law_post (tb := 4) hW' law_laid (by kernel_rfl) rfl Tryd.underlying4 h.1 h.2.1 rfl h.2.2 hb
  obtain ⟨v0, vs0, d0, ds0, p0, q0, hargs, rfl, rfl, h0, r0⟩ := trodAll_cons hA
  obtain ⟨v1, vs1, d1, ds1, p1, q1, rfl, rfl, rfl, h1, r1⟩ := trodAll_cons r0
  obtain ⟨rfl, rfl, rfl⟩ := trodAll_nil r1
  obtain rfl : args = #[v0, v1] := by cases args; simp_all
  obtain ⟨rfl, rfl⟩ := trodVars_none hV
  have hpost := hsame ⟨rfl, rfl, rfl⟩
  clear hsame hA0 hval0 hsz0
  obtain ⟨n, rfl, rfl, rfl, wf1⟩ := open_int Tryd.underlying3 (hval 0 3 v0 rfl rfl) h0
  obtain ⟨z, rfl, rfl, rfl, wf2⟩ := open_int Tryd.underlying3 (hval 1 3 v1 rfl rfl) h1
  have ht : Nib W := nib_of_laid hL
  by_cases hr : 1 ≤ n ∧ n ≤ 8 ∧ 0 ≤ z ∧ z ≤ n
  · obtain ⟨n', rfl⟩ : ∃ n' : Nat, n = (n' : Int) := ⟨n.toNat, by omega⟩
    obtain ⟨z', rfl⟩ : ∃ z' : Nat, z = (z' : Int) := ⟨z.toNat, by omega⟩
    by_cases hz0 : z' = 0
    · subst hz0
      exact (again_zero n' W ht (by omega) (by omega)).mono fun e W' ⟨he, hb⟩ => ⟨_, he, hpost W' hb⟩
    by_cases hzn : z' = n'
    · subst hzn
      exact (again_all z' W ht (by omega) (by omega)).mono fun e W' ⟨he, hb⟩ => ⟨_, he, hpost W' hb⟩
    · exact (again_some n' z' W ht (by omega) (by omega) (by omega) (by omega)).mono fun e W' ⟨he, hb⟩ => ⟨_, he, hpost W' hb⟩
  · exact (again_out n z W hr).mono fun e W' ⟨he, hb⟩ => ⟨_, he, hpost W' hb⟩
theorem streamAgain_reads (os : Os) {H : Type} (enc : TypeId × Value → H) : (DataW.whole enc Tryd.prog ((layW1 os).forCall (fun _ _ => 0) ⟨#[], #[.int .i64 0, .int .i64 0], []⟩).memory Tryd.f11.params.toList Rows.streamAgainSpec.vars false #[.int .i64 0, .int .i64 0].toList 8).isSome = true := by kernel_rfl
theorem streamAgain_met (os : Os) : laidMet Tryd.prog Rows.streamAgainRow.laid ((layW1 os).forCall (fun _ _ => 0) ⟨#[], #[.int .i64 0, .int .i64 0], []⟩).memory := laidMet_of_run' 8 (by kernel_rfl) (by kernel_rfl)
set_option maxRecDepth 100000 in
theorem streamAgain_lifted (os : Os) (started : os.Started) (H : Type) (enc : TypeId × Value → H) (F : Stop.Interp) :
    ReturnsInHanded {} Tryd.checked os 11 .any ((OpenSpec.ofChange Rows.streamAgainSpec).preRow enc Tryd.prog Tryd.f11 Rows.streamAgainRow.domain false Rows.streamAgainRow.laid) (((OpenSpec.ofChange Rows.streamAgainSpec).at F).post enc Tryd.prog Tryd.f11 false true false false) := by
  obtain ⟨x, hx⟩ := Option.isSome_iff_exists.1 (streamAgain_reads os enc)
  refine returnsInHanded_of_row (C := Tryd.checked) (s := OpenSpec.ofChange Rows.streamAgainSpec) law_own started (by kernel_rfl) Tryd.func11
    (witness_row_at (enc := enc) (C := Tryd.checked) false (layW1 os) #[.int .i64 0, .int .i64 0] rfl (by kernel_rfl) (by kernel_rfl) (by kernel_rfl)
      (OpenSpec.preRow_of_cond 8 hx (by rfl) (fun k hk => by cases hk) (by kernel_rfl) (streamAgain_met os))) ?_
  intro W base args ds gs before hval hW _ _ hsz hL hS _
  exact streamAgain_contract H enc W base args ds gs before hval hW hsz hL hS
theorem streamAgain_said : Rows.StreamAgainSaid :=
  OpenClaim.holds_of_cond 11 Tryd.f11 rfl rfl rfl rfl rfl rfl rfl ⟨rfl, rfl, rfl, rfl, rfl⟩ rfl rfl rfl rfl rfl (by kernel_rfl) Tryd.func11 (by kernel_rfl)
    (of_decide_eq_true (by kernel_rfl)) (by unfold Func.isWrapper; first | (rw [if_pos (by decide +kernel)]; kernel_rfl) | (rw [if_neg (by decide +kernel)]; exact ⟨rfl, rfl⟩))
    (fun os started H enc _ F => by rw [OpenClaim.pre_eq_preRow]; exact streamAgain_lifted os started H enc F)
theorem streamAgain_holds : Rows.StreamAgainCardSaid :=
  Claim7.holds_tied_plain_at .later [] _ _ _ _ streamAgain_said (fun _ h => by cases h) (by kernel_rfl) (fun _ h => by cases h) streamAgain_row_tie rfl ⟨rfl, rfl⟩ (by kernel_rfl) rfl (plain_of (f0 := 11) (fn0 := Tryd.f11) (by kernel_rfl) Tryd.func11 (by kernel_rfl) (by kernel_rfl)) (by kernel_rfl)
end Go.Proofs.YtdffldlcbihjmaaDoor

