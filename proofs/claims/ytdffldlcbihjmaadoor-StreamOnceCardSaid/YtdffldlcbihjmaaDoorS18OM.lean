/- Stage 18: StreamOnce: records that come again are taken no more. (for every first number, count of records, and how often they come again) -/
import Derived.Test.YtdffldlcbihjmaaDoorCard17
import Derived.Test.YtdffldlcbihjmaaDoorOctMem
import Derived.Test.YtdffldlcbihjmaaDoorRecs18
import Derived.Test.YtdffldlcbihjmaaDoorSmC
import Derived.Test.YtdffldlcbihjmaaDoorSmD
import Derived.Test.YtdffldlcbihjmaaDoorWdEnc
/- stream: known (package meridianlaw18). -/
set_option linter.unusedSimpArgs false
set_option linter.unusedVariables false
namespace Go.Proofs.YtdffldlcbihjmaaDoor
open Go.RowKit Go.Sort

theorem new_yes {cs : List Value} {ok : Bool} {w w' : World} {e : Ending} (h : NewRes cs ok w w' e) (hk : ok = true) : ∃ b, e = .returned (.tuple #[.pointer (some ⟨b, 0, none⟩), .int .i64 0]) ∧ w.heap.size ≤ b ∧ XB w' b cs ∧ Below w.heap.size w w' := by
  rcases h with ⟨q, _⟩ | ⟨_, q⟩
  · rw [hk] at q; cases q
  · exact q
/-- The record that the law makes, of a small number. -/
theorem rec_lit (s : Nat) (W : World) (h : s ≤ 255) : Calls Tryd.prog 69 #[.int .i64 0, .int .i64 s] W fun e w' => ∃ g, e = .returned (recV 0 s (strB [107]) s 0 0 (some ⟨g, 0, none⟩) 1 1 false 0) ∧ (Mr.mk (recS 0 s) (some ⟨g, 0, none⟩) 1).At (fun i => W.heap.size ≤ i) w' ∧ Below W.heap.size W w' :=
  (law_rec 0 s W).mono fun e w' ⟨g, he, h1, h2, h3, k⟩ => ⟨g, by rw [he, Nat.min_eq_left (by omega)], RecRes.at_ h1 h2 h3, k⟩
theorem rowAt_xb {W : World} {g n c : Nat} {L : List Mr} (h : XB W g (rowM L)) (hn : L.length = n) : RowAt W (.slice (some ⟨g, 0, none⟩) n c) L :=
  ⟨some ⟨g, 0, none⟩, c, by rw [hn], fun _ => ⟨g, 0, rfl, h.lt, fun j u hu => by rw [Nat.zero_add]; exact h.c j u hu⟩⟩
set_option maxRecDepth 100000 in
set_option maxHeartbeats 4000000 in
theorem known18 (w : World) : Calls Tryd.prog 24 #[] w fun e w' => e = .returned (.bool true) ∧ Below w.heap.size w w' := by
  have HI := Lib.hid (st_new_in 1 0 4 w)
  have R3 : Hid (∀ W, _) := Lib.hid (fun W => rec_lit 3 W (by omega))
  have R5 : Hid (∀ W, _) := Lib.hid (fun W => rec_lit 5 W (by omega))
  have R6 : Hid (∀ W, _) := Lib.hid (fun W => rec_lit 6 W (by omega))
  have R8 : Hid (∀ W, _) := Lib.hid (fun W => rec_lit 8 W (by omega))
  have HTK : Hid (takeS 0 4 [] [recS 0 3, recS 0 5, recS 0 6, recS 0 8] = someR 0 5 2) := Lib.hid (by kernel_rfl)
  have HND : Hid (needM 4 4 0 6 = (5, true)) := Lib.hid (by kernel_rfl)
  go_enter Tryd.func24, Tryd.ntmps24
  go_wp2_with fail
  refine HI.out.mono ?_; rintro e w1 hr
  obtain ⟨bi, rfl, hbi, xi, k1⟩ := new_yes hr (by decide)
  have HXI := Lib.hid xi
  have HB1 := Lib.hid k1
  clear xi k1 hr HI
  go_wp2_with fail
  refine (st_new_out 0 1 4 w1).mono ?_; rintro e w2 hr
  obtain ⟨bo, rfl, hbo, xo, k2⟩ := new_yes hr (by decide)
  have HXO := Lib.hid xo
  have HXI2 := Lib.hid (HXI.out.below k2)
  have HB2 := Lib.hid (HB1.out.trans (k2.mono HB1.out.size))
  clear xo k2 hr HXI HB1
  go_wp2_with fail
  refine (R3.out w2).mono ?_; rintro e w3 ⟨g3, rfl, m3, k3⟩
  have HM3 := Lib.hid m3
  have HK3 := Lib.hid k3
  clear m3 k3 R3
  go_wp2_with fail
  refine (R5.out w3).mono ?_; rintro e w4 ⟨g5, rfl, m5, k4⟩
  have HM5 := Lib.hid m5
  have HM3b := Lib.hid (HM3.out.below k4)
  have HK4 := Lib.hid (HK3.out.trans (k4.mono HK3.out.size))
  clear m5 k4 R5 HM3 HK3
  go_wp2_with fail
  refine (R6.out w4).mono ?_; rintro e w5 ⟨g6, rfl, m6, k5⟩
  have HM6 := Lib.hid m6
  have HM3c := Lib.hid (HM3b.out.below k5)
  have HM5b := Lib.hid (HM5.out.below k5)
  have HK5 := Lib.hid (HK4.out.trans (k5.mono HK4.out.size))
  clear m6 k5 R6 HM3b HM5 HK4
  go_wp2_with fail
  refine (R8.out w5).mono ?_; rintro e w6 ⟨g8, rfl, m8, k6⟩
  have HK6 := Lib.hid (HK5.out.trans (k6.mono HK5.out.size))
  have z2 := HB2.out.size
  have zk := HK6.out.size
  have HTAKE : Hid (∀ cs : Array Value, cs.toList = rowM [Mr.mk (recS 0 3) (some ⟨g3, 0, none⟩) 1, Mr.mk (recS 0 5) (some ⟨g5, 0, none⟩) 1, Mr.mk (recS 0 6) (some ⟨g6, 0, none⟩) 1, Mr.mk (recS 0 8) (some ⟨g8, 0, none⟩) 1] →
      Calls Tryd.prog 40 #[.pointer (some ⟨bi, 0, none⟩), .slice (some ⟨w6.heap.size, 0, none⟩) 4 4] (w6.alloc (.cells cs 89)) fun e w' => TakeR 0 4 [recS 0 3, recS 0 5, recS 0 6, recS 0 8] (w6.alloc (.cells cs 89)) w' e) := Lib.hid (fun cs hcs => by
    have kA : Below w6.heap.size w6 (w6.alloc (.cells cs 89)) := (Below.refl _ _).alloc (Nat.le_refl _) _
    have CS : XB (w6.alloc (.cells cs 89)) w6.heap.size (rowM [Mr.mk (recS 0 3) (some ⟨g3, 0, none⟩) 1, Mr.mk (recS 0 5) (some ⟨g5, 0, none⟩) 1, Mr.mk (recS 0 6) (some ⟨g6, 0, none⟩) 1, Mr.mk (recS 0 8) (some ⟨g8, 0, none⟩) 1]) := hcs ▸ XB.new w6 cs _
    exact st_take bi 1 0 4 (some ⟨w6.heap.size, 0, none⟩) 4 [Mr.mk (recS 0 3) (some ⟨g3, 0, none⟩) 1, Mr.mk (recS 0 5) (some ⟨g5, 0, none⟩) 1, Mr.mk (recS 0 6) (some ⟨g6, 0, none⟩) 1, Mr.mk (recS 0 8) (some ⟨g8, 0, none⟩) 1] _ (HXI2.out.below (HK6.out.trans (kA.mono zk))) (rowAt_xb CS rfl) (fun m hm => by
      simp only [List.mem_cons, List.not_mem_nil, or_false] at hm
      rcases hm with rfl | rfl | rfl | rfl
      · exact (((HM3c.out.below k6).below kA).mono (fun _ _ _ => trivial))
      · exact (((HM5b.out.below k6).below kA).mono (fun _ _ _ => trivial))
      · exact (((HM6.out.below k6).below kA).mono (fun _ _ _ => trivial))
      · exact ((m8.below kA).mono (fun _ _ _ => trivial))) (by simp) (by omega))
  clear m8 k6 R8 HM3c HM5b HM6 HK5 HXI2
  go_wp2_with fail
  refine (HTAKE.out _ rfl).mono ?_; rintro e w8 ⟨v8, Z, rfl, hT, hZ⟩
  have hZ' : Z.map Mr.r = someR 0 5 2 := hZ.trans HTK.out
  have HZ := Lib.hid hZ'
  have hTb := hT.bel
  have kA8 : Below w6.heap.size w6 w8 := ((Below.refl w6.heap.size w6).alloc (Nat.le_refl _) _).trans (hTb.mono (by simp))
  have HTA := Lib.hid hT.at_
  have HTL := Lib.hid hT.rowAt
  obtain ⟨A8, c8, rfl⟩ := hT.shape
  have HXO8 := Lib.hid (HXO.out.below (HK6.out.trans (kA8.mono zk)))
  have HB8 := Lib.hid (HB2.out.trans ((HK6.out.trans (kA8.mono zk)).mono z2))
  clear hT hZ hZ' HTAKE HXO HB2 hTb kA8 HK6
  have HN := Lib.hid (st_need bo 0 1 4 4 0 6 w8 HXO8.out (by omega) (by omega))
  rw [HND.out] at HN
  go_wp2_with fail
  refine HN.out.mono ?_; rintro e w9 ⟨rfl, rfl⟩
  clear HN HXO8
  go_wp2_with fail
  refine (law_some 0 5 2 w8 (by omega) (by omega)).mono ?_; rintro e w10 ⟨v10, Y, rfl, hT10, hY⟩
  have k10 := hT10.bel
  have HRC := Lib.hid (law_recs18 _ v10 Z Y w10 (HTL.out.below k10) hT10.rowAt (fun m hm => (HTA.out m hm).below k10) hT10.at_ (fun m hm => by
    have := List.mem_map_of_mem (f := Mr.r) hm
    rw [HZ.out] at this
    obtain ⟨i, _, e⟩ := someR_mem this
    rw [e]
    exact (recS_by _ _).2) (fun m hm => by
    have := List.mem_map_of_mem (f := Mr.r) hm
    rw [HZ.out] at this
    obtain ⟨i, _, e⟩ := someR_mem this
    rw [e]
    exact (recS_by _ _).1) (fun m hm => by
    have := List.mem_map_of_mem (f := Mr.r) hm
    rw [hY] at this
    obtain ⟨i, _, e⟩ := someR_mem this
    rw [e]
    exact recS_by _ _) (by have := congrArg List.length HZ.out; rw [someR_len] at this; simp at this; omega))
  have HEQ : Hid (Z.map Mr.r = Y.map Mr.r) := Lib.hid (HZ.out.trans hY.symm)
  have HB10 := Lib.hid (HB8.out.trans (k10.mono HB8.out.size))
  obtain ⟨A10, c10, rfl⟩ := hT10.shape
  clear hT10 hY k10 HTA HTL HB8
  go_wp2_with fail
  refine HRC.out.mono ?_; rintro e w11 ⟨⟨b, rfl, hb⟩, k11⟩
  obtain rfl : b = true := hb.2 HEQ.out
  have HB11 := Lib.hid (HB10.out.trans (k11.mono HB10.out.size))
  clear k11 hb HRC
  go_wp2
  go_ret
  exact ⟨rfl, HB11.out⟩
end Go.Proofs.YtdffldlcbihjmaaDoor

/- The law's same: whether two rows of bytes are one (written by gen/lawbits.py). -/
namespace Go.Proofs.YtdffldlcbihjmaaDoor
open Go.RowKit

theorem take_same18 {p p' : List Int} {k : Nat} (h : p.length = p'.length) (hk : k < p.length) : p.take (k + 1) = p'.take (k + 1) ↔ (p.take k = p'.take k ∧ p[k] = p'[k]) := by
  have e1 := List.take_succ_eq_append_getElem hk
  have e2 := List.take_succ_eq_append_getElem (show k < p'.length by omega)
  rw [e1, e2]
  constructor
  · intro e
    have := List.append_inj e (by simp [List.length_take]; omega)
    exact ⟨this.1, by simpa using this.2⟩
  · rintro ⟨a, b⟩
    rw [a, b]
set_option maxHeartbeats 1000000 in
theorem lsame18 (A : Option Addr) (p : List Int) (c : Nat) (A' : Option Addr) (p' : List Int) (c' : Nat) (w : World) (hn : p.length ≤ 1000000) (hn' : p'.length ≤ 1000000) (h : ByL w A p) (h' : ByL w A' p') :
    Calls Tryd.prog 73 #[.slice A p.length c, .slice A' p'.length c'] w fun e w' => e = .returned (.bool (decide (p = p'))) ∧ ∃ q, w' = w.drewN q := by
  by_cases hne : p.length = p'.length
  · have HA := Lib.hid h
    have HA' := Lib.hid h'
    have HL := Lib.hid hne
    have HD : Hid (∀ k (q : k < p.length), p[k] ≠ p'[k]'(by rw [← HL.out]; exact q) → decide (p = p') = false) := Lib.hid (fun k q hk => by
      rw [decide_eq_false_iff_not]
      rintro rfl
      exact hk rfl)
    have HY : Hid (p.take p.length = p'.take p.length → decide (p = p') = true) := Lib.hid (fun e => by
      rw [decide_eq_true_eq]
      rw [List.take_length, hne, List.take_length] at e
      exact e)
    have t0 : ((p.length : Int) != (p'.length : Int)) = false := by simp [hne]
    have t0' : (p.length != p'.length) = false := by simp [hne]
    clear h h' hne
    have hni : (p.length : Int) ≤ 1000000 := by omega
    go_enter Tryd.func73, Tryd.ntmps73
    go_wp2
    go_loopw [5] (fun i wr => ∃ k : Nat, k ≤ p.length ∧ i = .int .i64 k ∧ p.take k = p'.take k ∧ ∃ q, wr = w.drewN q) (fun i _ => p.length - (intOf i).toNat)
    case atStart => exact ⟨0, Nat.zero_le _, rfl, by simp, 0, rfl⟩
    case round =>
      obtain ⟨k, hk, rfl, hE, q, hW⟩ := hrel
      by_cases hlt : k < p.length
      · obtain ⟨B, O, rfl, hB, hc⟩ := HA.out (by omega)
        obtain ⟨B', O', rfl, hB', hc'⟩ := HA'.out (by have := HL.out; omega)
        have hlt' : k < p'.length := by have := HL.out; omega
        have x0 : wr.cell? ⟨B, O + k, none⟩ = some (.int .u8 p[k]) := by rw [hW]; exact hc k _ (bC_at p k hlt)
        have x1 : wr.cell? ⟨B', O' + k, none⟩ = some (.int .u8 p'[k]) := by rw [hW]; exact hc' k _ (bC_at p' k hlt')
        have lk : (k : Int) < (p.length : Int) := by omega
        have lk' : (k : Int) < (p'.length : Int) := by omega
        have HS := Lib.hid (take_same18 HL.out hlt)
        have HN := Lib.hid (HD.out k hlt)
        have HW := Lib.hid hW
        have HE := Lib.hid hE
        clear hc hc' hW hE HD
        generalize p[k] = a at *
        generalize p'[k] = b at *
        by_cases hab : a = b
        · have t1 : (a != b) = false := by simp [hab]
          have HS2 : Hid (p.take (k + 1) = p'.take (k + 1)) := Lib.hid (HS.out.2 ⟨HE.out, hab⟩)
          clear hab HS HN
          go_wp2
          go_quiet (fail)
          go_wp2
          go_roundw
          case rel => exact ⟨k + 1, by omega, by go_num, HS2.out, q + nq, by rw [HW.out]; simp [World.drewN, Nat.add_assoc]⟩
          case measure => simp [intOf]; omega
        · have t1 : (a != b) = true := by simpa using hab
          have HN2 := Lib.hid (HN.out hab)
          clear hab HN HS
          go_wp2
          go_quiet (fail)
          go_wp2
          go_ret
          exact ⟨by rw [HN2.out]; rfl, q + nq, by rw [HW.out]; simp [World.drewN, Nat.add_assoc]⟩
      · obtain rfl : k = p.length := by omega
        have HE := Lib.hid (HY.out hE)
        clear hE HY HD
        have HW := Lib.hid hW
        clear hW
        go_wp2
        go_ret
        exact ⟨by rw [HE.out]; rfl, q, HW.out⟩
  · have t0 : ((p.length : Int) != (p'.length : Int)) = true := by simp; omega
    have t0' : (p.length != p'.length) = true := by simpa using hne
    have HEB : Hid (decide (p = p') = false) := Lib.hid (by rw [decide_eq_false_iff_not]; rintro rfl; exact hne rfl)
    clear hne
    go_enter Tryd.func73, Tryd.ntmps73
    go_wp2
    go_ret
    exact ⟨by rw [HEB.out]; rfl, 0, rfl⟩
theorem drewN_below18 (w : World) (q : Nat) : Below w.heap.size w (w.drewN q) := below_drewN (Below.refl _ _) q
end Go.Proofs.YtdffldlcbihjmaaDoor

/- stream: Done; messages (package meridianlaw18) of two rows of one message that are one (written by gen/strf.py). -/
namespace Go.Proofs.YtdffldlcbihjmaaDoor
open Go.RowKit Go.Sort

/-- A row of one message. -/
def Msg1 (base : Nat) (w : World) (v : Value) (f t : Int) (d : List Int) : Prop := ∃ B c g cap, base ≤ B ∧ base ≤ g ∧ v = .slice (some ⟨B, 0, none⟩) 1 c ∧ XB w B [.int .i64 f, .int .i64 t, .slice (some ⟨g, 0, none⟩) d.length cap] ∧ ByL w (some ⟨g, 0, none⟩) d ∧ d.length ≤ 1000000 ∧ d.length ≤ cap ∧ cap ≤ maxLen
theorem Msg1.below {base : Nat} {w w' : World} {v : Value} {f t : Int} {d : List Int} (h : Msg1 base w v f t d) (k : Below w.heap.size w w') : Msg1 base w' v f t d := by
  obtain ⟨B, c, g, cap, q1, q2, h1, h2, h3, h4⟩ := h
  exact ⟨B, c, g, cap, q1, q2, h1, h2.below k, h3.below k, h4⟩
theorem Msg1.only {base b : Nat} {w w' : World} {v : Value} {f t : Int} {d : List Int} (h : Msg1 base w v f t d) (k : Only b w w') (hb : b < base) : Msg1 base w' v f t d := by
  obtain ⟨B, c, g, cap, q1, q2, h1, h2, h3, h4⟩ := h
  exact ⟨B, c, g, cap, q1, q2, h1, h2.only k (by omega), h3.only k (fun ad had => by injection had with had; subst had; show g ≠ b; omega), h4⟩
theorem Msg1.mono {base base' : Nat} {w : World} {v : Value} {f t : Int} {d : List Int} (h : Msg1 base w v f t d) (hb : base' ≤ base) : Msg1 base' w v f t d := by
  obtain ⟨B, c, g, cap, q1, q2, h1⟩ := h
  exact ⟨B, c, g, cap, by omega, by omega, h1⟩
theorem Msg1.shape {base : Nat} {w : World} {v : Value} {f t : Int} {d : List Int} (h : Msg1 base w v f t d) : ∃ B c, v = .slice (some ⟨B, 0, none⟩) 1 c := by
  obtain ⟨B, c, g, cap, q1, q2, h1, _⟩ := h
  exact ⟨B, c, h1⟩
def doneM (a q : Int) : Int := max a (min q 1099511627776)
theorem doneM_bd {a q : Int} (h : 0 ≤ a ∧ a ≤ 1099511627776) : 0 ≤ doneM a q ∧ doneM a q ≤ 1099511627776 := by unfold doneM; omega
/-- The bytes of an ack. -/
def ackE (o a : Int) : List Int := frE (encW (wdOf 2 o a 0 0 0 0 []))
theorem ack_okW {o a : Int} (ho : 0 ≤ o ∧ o < 5) (ha : 0 ≤ a ∧ a ≤ 1099511627776) : okW (wdOf 2 o a 0 0 0 0 []) = true := by
  simp [okW, headW, bareW, wdOf, ho.1, ho.2, ha.1, ha.2]
/-- What Done tells. -/
def DoneRes (b : Nat) (f o a' : Int) (w w' : World) (e : Ending) : Prop := ∃ v, e = .returned v ∧ Msg1 w.heap.size w' v f o (ackE o a') ∧ StPost b (inC f o a') w w'
theorem done_fin {b : Nat} {f o z : Int} {w W1 w2 V : World} {g cap n : Nat} {D : List Int} (hD : ackE o z = D) (hO : Only b w W1) (h2 : Below W1.heap.size W1 w2) (hx : XB W1 b (inC f o z)) (hr : Row8 W1.heap.size w2 g cap n D) (hn : n ≤ 1000000)
    (hV : Below w2.heap.size w2 V) {B : Nat} (hBB : w2.heap.size ≤ B) (hB : XB V B [.int .i64 f, .int .i64 o, .slice (some ⟨g, 0, none⟩) n cap]) : DoneRes b f o z w V (.returned (.slice (some ⟨B, 0, none⟩) 1 1)) := by
  subst hD
  have hl := hr.len
  subst hl
  exact ⟨_, rfl, ⟨B, 1, g, cap, Nat.le_trans hO.size (Nat.le_trans h2.size hBB), Nat.le_trans hO.size hr.ge.1, rfl, hB, (hr.below hV).by_, hn, hr.cap_le.1, hr.cap_le.2⟩, (hx.below h2).below hV, hO.trans (Only.of_below (h2.trans (hV.mono h2.size)))⟩
set_option maxRecDepth 100000 in
set_option maxHeartbeats 4000000 in
theorem st_done (b : Nat) (f o a q : Int) (w : World) (h : XB w b (inC f o a)) (ho : 0 ≤ o ∧ o < 5) (ha : 0 ≤ a ∧ a ≤ 1099511627776) (ht : ∀ W, Only b w W → Nib W) :
    Calls Tryd.prog 43 #[.pointer (some ⟨b, 0, none⟩), .int .i64 q] w fun e w' => DoneRes b f o (doneM a q) w w' e := by
  have hz := doneM_bd (q := q) ha
  obtain ⟨z, hzz⟩ : ∃ z, doneM a q = z := ⟨_, rfl⟩
  rw [hzz] at hz ⊢
  have HQ3 : Hid (max a (min q 1099511627776) = z) := Lib.hid hzz
  clear hzz ha
  have c0 := h.c 0 _ rfl
  have c1 := h.c 1 _ rfl
  have c2 := h.c 2 _ rfl
  have f2 := h.fz 2
  have lt := h.lt
  obtain ⟨W1, hW1⟩ : ∃ W1, w.setCell ⟨b, 2, none⟩ (.int .i64 z) = W1 := ⟨_, rfl⟩
  have HX1 : Hid (XB W1 b (inC f o z)) := Lib.hid (by rw [← hW1]; exact h.set 2 (by simp) (.int .i64 z))
  have HO1 : Hid (Only b w W1) := Lib.hid (by rw [← hW1]; exact (Only.refl _ _).setB _)
  have HW1 := Lib.hid hW1
  obtain ⟨D, hD⟩ : ∃ D, ackE o z = D := ⟨_, rfl⟩
  obtain ⟨n, hn⟩ : ∃ n, 12 + (encW (wdOf 2 o z 0 0 0 0 [])).length = n := ⟨_, rfl⟩
  have HD := Lib.hid hD
  have HN : Hid (n ≤ 1000000) := Lib.hid (by have := encW_bd (ack_okW ho hz); omega)
  have HENC : Hid (∀ W, Only b w W → Calls Tryd.prog 13 #[wdV 2 o z 0 0 0 0 (.slice none 0 0)] W fun e w' => (∃ g cap, e = .returned (.tuple #[.slice (some ⟨g, 0, none⟩) n cap, .int .i64 0]) ∧ Row8 W.heap.size w' g cap n D) ∧ Below W.heap.size W w') := Lib.hid (fun W k => by
    subst hn hD
    exact wd_enc 2 o z 0 0 0 0 none 0 [] W (ht W k) ⟨_, _, rfl, fun h => absurd h (by simp)⟩ (fun _ h => by cases h) (fun _ h => by cases h) (by simp) (ack_okW ho hz))
  clear h ht ho hz hD hn hW1
  go_enter Tryd.func43, Tryd.ntmps43
  go_upto_region 4 with fail
  rw [HQ3.out, HW1.out]
  clear c0 c1 c2 f2 lt
  have lt := HX1.out.lt
  refine wp_region_held_drew (S := (fun w' => w'.cell? ⟨b, 1, none⟩ = some (.int .i64 o) ∧ w'.cell? ⟨b, 2, none⟩ = some (.int .i64 z))) (by kernel_rfl) ?_ (fun hHeld => ?_)
  · exact ⟨HX1.out.c 1 _ rfl, HX1.out.c 2 _ rfl⟩
  refine wpAnyH_take (i := 0) (v := ?_) rfl (by kernel_rfl) (by kernel_rfl) (by kernel_rfl) (fun _ _ _ h => h) (Or.inl ⟨by rfl, ?_⟩) (by assumption) ?_
  rotate_left
  · intro w' hSw; (try dsimp only at hSw); go_simp; (try with_reducible rfl)
  (try simp only [Act.put, List.setIfInBounds_toArray, List.set_cons_zero, List.set_cons_succ, List.getElem_toArray, List.getElem_cons_succ, List.getElem_cons_zero])
  refine wpAnyH_take (i := 1) (v := ?_) rfl (by kernel_rfl) (by kernel_rfl) (by kernel_rfl) (fun _ _ _ h => h) (Or.inl ⟨by rfl, ?_⟩) (by assumption) ?_
  rotate_left
  · intro w' hSw; (try dsimp only at hSw); go_simp; (try with_reducible rfl)
  (try simp only [Act.put, List.setIfInBounds_toArray, List.set_cons_zero, List.set_cons_succ, List.getElem_toArray, List.getElem_cons_succ, List.getElem_cons_zero])
  refine wpAnyH_take (i := 2) (v := ?_) rfl (by kernel_rfl) (by kernel_rfl) (by kernel_rfl) (fun _ _ _ h => h) (Or.inl ⟨by rfl, ?_⟩) (by assumption) ?_
  rotate_left
  · intro w' hSw; (try dsimp only at hSw); go_simp; (try with_reducible rfl)
  (try simp only [Act.put, List.setIfInBounds_toArray, List.set_cons_zero, List.set_cons_succ, List.getElem_toArray, List.getElem_cons_succ, List.getElem_cons_zero])
  refine wpAnyH_take (i := 3) (v := ?_) rfl (by kernel_rfl) (by kernel_rfl) (by kernel_rfl) (fun _ _ _ h => h) (Or.inl ⟨by rfl, ?_⟩) (by assumption) ?_
  rotate_left
  · intro w' hSw; (try dsimp only at hSw); go_simp; (try with_reducible rfl)
  (try simp only [Act.put, List.setIfInBounds_toArray, List.set_cons_zero, List.set_cons_succ, List.getElem_toArray, List.getElem_cons_succ, List.getElem_cons_zero])
  refine wpAnyH_take (i := 4) (v := ?_) rfl (by kernel_rfl) (by kernel_rfl) (by kernel_rfl) (fun _ _ _ h => h) (Or.inl ⟨by rfl, ?_⟩) (by assumption) ?_
  rotate_left
  · intro w' hSw; (try dsimp only at hSw); go_simp; (try with_reducible rfl)
  (try simp only [Act.put, List.setIfInBounds_toArray, List.set_cons_zero, List.set_cons_succ, List.getElem_toArray, List.getElem_cons_succ, List.getElem_cons_zero])
  refine wpAnyH_take (i := 5) (v := ?_) rfl (by kernel_rfl) (by kernel_rfl) (by kernel_rfl) (fun _ _ _ h => h) (Or.inl ⟨by rfl, ?_⟩) (by assumption) ?_
  rotate_left
  · intro w' hSw; (try dsimp only at hSw); go_simp; (try with_reducible rfl)
  (try simp only [Act.put, List.setIfInBounds_toArray, List.set_cons_zero, List.set_cons_succ, List.getElem_toArray, List.getElem_cons_succ, List.getElem_cons_zero])
  refine wpAnyH_take (i := 6) (v := ?_) rfl (by kernel_rfl) (by kernel_rfl) (by kernel_rfl) (fun _ _ _ h => h) (Or.inl ⟨by rfl, ?_⟩) (by assumption) ?_
  rotate_left
  · intro w' hSw; (try dsimp only at hSw); go_simp; (try with_reducible rfl)
  (try simp only [Act.put, List.setIfInBounds_toArray, List.set_cons_zero, List.set_cons_succ, List.getElem_toArray, List.getElem_cons_succ, List.getElem_cons_zero])
  refine wpAnyH_take (i := 7) (v := ?_) rfl (by kernel_rfl) (by kernel_rfl) (by kernel_rfl) (fun _ _ _ h => h) (Or.inl ⟨by rfl, ?_⟩) (by assumption) ?_
  rotate_left
  · intro w' hSw; (try dsimp only at hSw); go_simp; (try with_reducible rfl)
  (try simp only [Act.put, List.setIfInBounds_toArray, List.set_cons_zero, List.set_cons_succ, List.getElem_toArray, List.getElem_cons_succ, List.getElem_cons_zero])
  refine wpAnyH_take (i := 8) (v := ?_) rfl (by kernel_rfl) (by kernel_rfl) (by kernel_rfl) (fun _ _ _ h => h) (Or.inl ⟨by rfl, ?_⟩) (by assumption) ?_
  rotate_left
  · intro w' hSw; (try dsimp only at hSw); go_simp; (try with_reducible rfl)
  (try simp only [Act.put, List.setIfInBounds_toArray, List.set_cons_zero, List.set_cons_succ, List.getElem_toArray, List.getElem_cons_succ, List.getElem_cons_zero])
  refine wpAnyH_ready (rs := [9]) (by kernel_rfl) (by simp) ?_
  refine AllReadyH.cons rfl (fun K hK => ?_) AllReadyH.nil
  go_simp
  (go_at_call 13; refine (HENC.out _ HO1.out.drew).mono ?_; rintro e w2 ⟨⟨g, cap, rfl, hr⟩, k2⟩; have k2' : Below W1.heap.size W1 w2 := (Below.refl W1.heap.size W1).drew.trans k2; have HX2 := Lib.hid (HX1.out.below k2'); have HR2 : Hid (Row8 W1.heap.size w2 g cap n D) := Lib.hid hr; have HK2 : Hid (Below W1.heap.size W1 w2) := Lib.hid k2'; clear hr k2 k2')
  (try dsimp only)
  refine hK.out _ _ ?_ (fun hHeld => ?_)
  · exact ⟨HX2.out.c 1 _ rfl, HX2.out.c 2 _ rfl⟩
  clear hK K
  (try simp only [Act.put, List.setIfInBounds_toArray, List.set_cons_zero, List.set_cons_succ, List.getElem_toArray, List.getElem_cons_succ, List.getElem_cons_zero])
  refine wpAnyH_take (i := 10) (v := ?_) rfl (by kernel_rfl) (by kernel_rfl) (by kernel_rfl) (fun _ _ _ h => h) (Or.inl ⟨by rfl, ?_⟩) (by assumption) ?_
  rotate_left
  · intro w' hSw; (try dsimp only at hSw); go_simp; (try with_reducible rfl)
  (try simp only [Act.put, List.setIfInBounds_toArray, List.set_cons_zero, List.set_cons_succ, List.getElem_toArray, List.getElem_cons_succ, List.getElem_cons_zero])
  refine wpAnyH_take (i := 11) (v := ?_) rfl (by kernel_rfl) (by kernel_rfl) (by kernel_rfl) (fun _ _ _ h => h) (Or.inl ⟨by rfl, ?_⟩) (by assumption) ?_
  rotate_left
  · intro w' hSw; (try dsimp only at hSw); go_simp; (try with_reducible rfl)
  (try simp only [Act.put, List.setIfInBounds_toArray, List.set_cons_zero, List.set_cons_succ, List.getElem_toArray, List.getElem_cons_succ, List.getElem_cons_zero])
  refine wpAnyH_take (i := 12) (v := ?_) rfl (by kernel_rfl) (by kernel_rfl) (by kernel_rfl) (fun _ _ _ h => h) (Or.inl ⟨by rfl, ?_⟩) (by assumption) ?_
  rotate_left
  · intro w' hSw; (try dsimp only at hSw); go_simp; (try with_reducible rfl)
  (try simp only [Act.put, List.setIfInBounds_toArray, List.set_cons_zero, List.set_cons_succ, List.getElem_toArray, List.getElem_cons_succ, List.getElem_cons_zero])
  refine wpAnyH_take (i := 13) (v := ?_) rfl (by kernel_rfl) (by kernel_rfl) (by kernel_rfl) (fun _ _ _ h => h) (Or.inl ⟨by rfl, ?_⟩) (by assumption) ?_
  rotate_left
  · intro w' hSw; (try dsimp only at hSw); go_simp; (try with_reducible rfl)
  (try simp only [Act.put, List.setIfInBounds_toArray, List.set_cons_zero, List.set_cons_succ, List.getElem_toArray, List.getElem_cons_succ, List.getElem_cons_zero])
  refine wpAnyH_take (i := 14) (v := ?_) rfl (by kernel_rfl) (by kernel_rfl) (by kernel_rfl) (fun _ _ _ h => h) (Or.inl ⟨by rfl, ?_⟩) (by assumption) ?_
  rotate_left
  · intro w' hSw; (try dsimp only at hSw); go_simp; (try with_reducible rfl)
  (try simp only [Act.put, List.setIfInBounds_toArray, List.set_cons_zero, List.set_cons_succ, List.getElem_toArray, List.getElem_cons_succ, List.getElem_cons_zero])
  refine wpAnyH_done (by kernel_rfl) ?_ _
  clear hHeld lt
  have c0 := HX2.out.c 0 _ rfl
  have c1 := HX2.out.c 1 _ rfl
  have lt := HX2.out.lt
  go_wp2_with fail
  go_region
  go_wp2
  go_ret
  exact done_fin HD.out HO1.out HK2.out HX1.out HR2.out HN.out (by (repeat' (first | (with_reducible exact Below.refl _ _) | (with_reducible assumption) | (with_reducible refine Below.trans ?_ (Below.mono (by with_reducible assumption) ?_)) | (with_reducible refine Below.alloc ?_ ?_ _) | (with_reducible refine Below.setCell ?_ ?_ _) | (with_reducible refine below_drewN ?_ _) | (with_reducible refine Below.drew ?_) | go_size))) (Nat.le_refl _) ((XB.new w2 #[.int .i64 f, .int .i64 o, .slice (some ⟨g, 0, none⟩) n cap] 84).below (by (repeat' (first | (with_reducible exact Below.refl _ _) | (with_reducible assumption) | (with_reducible refine Below.trans ?_ (Below.mono (by with_reducible assumption) ?_)) | (with_reducible refine Below.alloc ?_ ?_ _) | (with_reducible refine Below.setCell ?_ ?_ _) | (with_reducible refine below_drewN ?_ _) | (with_reducible refine Below.drew ?_) | go_size))))

set_option maxRecDepth 100000 in
set_option maxHeartbeats 4000000 in
theorem law_messages (v v' : Value) (f t : Int) (d : List Int) (w : World) {base base' : Nat} (h : Msg1 base w v f t d) (h' : Msg1 base' w v' f t d) :
    Calls Tryd.prog 36 #[v, v'] w fun e w' => e = .returned (.bool true) ∧ Below w.heap.size w w' := by
  obtain ⟨B, c, g, cap, _, _, rfl, hx, hy, hl, _⟩ := h
  obtain ⟨B', c', g', cap', _, _, rfl, hx', hy', _, _⟩ := h'
  have HCON : Hid (∀ W, Below w.heap.size w W → Calls Tryd.prog 73 #[.slice (some ⟨g, 0, none⟩) d.length cap, .slice (some ⟨g', 0, none⟩) d.length cap'] W fun e w' => e = .returned (.bool true) ∧ Below W.heap.size W w') := Lib.hid (fun W k => (lsame18 (some ⟨g, 0, none⟩) d cap (some ⟨g', 0, none⟩) d cap' W hl hl (hy.below k) (hy'.below k)).mono fun e w' ⟨q1, q, q2⟩ => ⟨by rw [q1]; simp, by rw [q2]; exact drewN_below18 W q⟩)
  generalize d.length = n at *
  have x0 := fun d os => cell_regrown (hx.c 0 _ rfl) d os
  have x1 := fun d os => cell_regrown (hx.c 1 _ rfl) d os
  have x2 := fun d os => cell_regrown (hx.c 2 _ rfl) d os
  have y0 := fun d os => cell_regrown (hx'.c 0 _ rfl) d os
  have y1 := fun d os => cell_regrown (hx'.c 1 _ rfl) d os
  have y2 := fun d os => cell_regrown (hx'.c 2 _ rfl) d os
  have AC := Lib.hid fun (d' : Nat) (os : Array Obj) => Calls.regrown_of (HCON.out (grow (redrawn w d') os) (below_regrown w d' os))
  clear hx hx' hy hy' hl HCON
  go_enter Tryd.func36, Tryd.ntmps36
  go_wp2
  refine wp_loop_rounds 2 ?_
  rw [rounds_succ]
  go_wp2_with fail
  refine wp_region_quiet_below (by kernel_rfl) (by kernel_rfl) ?_
  repeat (go_big_quiet_step ((go_at_call 73; exact AC.out _ _)))
  refine wpQuiet_nil ?_
  intro _ hw'
  obtain ⟨⟨dq, osq⟩, hw''⟩ := hw'
  subst hw''
  have HQ := Lib.hid (below_regrown w dq osq)
  clear AC x0 x1 x2 y0 y1 y2
  generalize hgw : grow (redrawn w dq) osq = W2 at *
  clear hgw
  go_wp2
  rw [rounds_succ]
  go_wp2
  go_ret
  exact ⟨rfl, HQ.out⟩
end Go.Proofs.YtdffldlcbihjmaaDoor

/- Stage 18: StreamOnce: records that come again are taken no more. (for every first number, count of records, and how often they come again) -/
namespace Go.Proofs.YtdffldlcbihjmaaDoor
open Go.RowKit Go.Sort

theorem recS_ok {o : Int} {s : Nat} (ho : 0 ≤ o ∧ o < 5) (hs : 1 ≤ s ∧ s ≤ 1099511627776) : okR (recS o s) = true := by
  rw [ok_iff]
  have hm : min s 1099511627776 = s := Nat.min_eq_left hs.2
  constructor <;> simp [recS] <;> omega
theorem takeS_all {o : Int} {f : Nat} (ho : 0 ≤ o ∧ o < 5) (h1 : 1 ≤ f) : ∀ (n : Nat) (acc : List Rc), f + acc.length + n ≤ 1099511627776 → takeS o ((f : Int) - 1) acc ((List.range' (f + acc.length) n).map (recS o)) = acc ++ (List.range' (f + acc.length) n).map (recS o)
  | 0, acc, _ => by simp [takeS]
  | n + 1, acc, hb => by
    have hc : okR (recS o (f + acc.length)) = true ∧ (recS o (f + acc.length)).o = o ∧ (recS o (f + acc.length)).s = (f : Int) - 1 + 1 + (acc.length : Int) := ⟨recS_ok ho (by omega), rfl, by show ((f + acc.length : Nat) : Int) = _; omega⟩
    rw [List.range'_succ, List.map_cons, takeS_yes hc]
    have h := takeS_all ho h1 n (acc ++ [recS o (f + acc.length)]) (by simp; omega)
    rw [List.length_append] at h
    simp only [List.length_cons, List.length_nil] at h
    rw [show f + acc.length + 1 = f + (acc.length + (0 + 1)) from by omega, h]
    simp
theorem someR_range (o : Int) (f n : Nat) : someR o f n = (List.range' f n).map (recS o) := by
  rw [List.range'_eq_map_range, List.map_map]
  rfl
theorem take_some {o : Int} {f n : Nat} (ho : 0 ≤ o ∧ o < 5) (h1 : 1 ≤ f) (hb : f + n ≤ 1099511627776) : takeS o ((f : Int) - 1) [] (someR o f n) = someR o f n := by
  have h := takeS_all ho h1 n [] (by simpa using hb)
  rw [someR_range]
  simpa using h
theorem take_none {o a : Int} : ∀ (rs : List Rc), (∀ r ∈ rs, r.s ≠ a + 1) → takeS o a [] rs = []
  | [], _ => rfl
  | r :: t, h => by
    rw [takeS_skip (fun q => h r (List.mem_cons_self ..) (by have := q.2.2; simpa using this)) rfl]
    exact take_none t (fun x hx => h x (List.mem_cons_of_mem _ hx))
/-- Records in memory that a side's own block is no part of. -/
structure RowS (b : Nat) (W : World) (v : Value) (L : List Mr) : Prop where
  row : RowAt W v L
  ab : ∀ A n c, v = .slice A n c → ∀ ad, A = some ad → ad.block ≠ b
  at_ : ∀ m ∈ L, m.At (fun i => i ≠ b) W
theorem RowS.only {b : Nat} {W W' : World} {v : Value} {L : List Mr} (h : RowS b W v L) (k : Only b W W') : RowS b W' v L := by
  obtain ⟨A, c, hv, hc⟩ := h.row.ex
  refine ⟨⟨A, c, hv, fun h0 => ?_⟩, h.ab, fun m hm => (h.at_ m hm).but (S := fun i => i = b) (But.of_only k rfl) (fun i e q => q e)⟩
  obtain ⟨B, O, hA, hl, hcell⟩ := hc h0
  have hne : B ≠ b := h.ab A _ c hv ⟨B, O, none⟩ hA
  exact ⟨B, O, hA, Nat.lt_of_lt_of_le hl k.size, fun j u hu => (k.cell B (O + j) hl hne).trans (hcell j u hu)⟩
theorem RowS.below {b : Nat} {W W' : World} {v : Value} {L : List Mr} (h : RowS b W v L) (k : Below W.heap.size W W') : RowS b W' v L :=
  ⟨h.row.below k, h.ab, fun m hm => (h.at_ m hm).below k⟩
theorem TL.rowS {w wr : World} {v : Value} {k b : Nat} {L : List Mr} (h : TL w wr v k L) (hb : b < w.heap.size) : RowS b wr v L := by
  refine ⟨h.rowAt, fun A n c hv ad hA => ?_, fun m hm => (h.ats m hm).mono (fun i _ hq e => by omega)⟩
  subst hv hA
  have hl := h.row
  rcases hl.2 with ⟨e, _⟩ | ⟨g, cap, cur, e, hg, _⟩
  · cases e
  · injection e with e1 e2 e3
    injection e1 with e1
    rw [e1]
    show g ≠ b
    omega
theorem once_out (f n z : Int) (w : World) (h : ¬ (1 ≤ f ∧ f ≤ 549755813888 ∧ 1 ≤ n ∧ n ≤ 40 ∧ 0 ≤ z ∧ z ≤ 20)) :
    Calls Tryd.prog 10 #[.int .i64 f, .int .i64 n, .int .i64 z] w fun e w' => e = .returned (.bool true) ∧ Below w.heap.size w w' := by
  by_cases h0 : f < 1
  · clear h
    go_enter Tryd.func10, Tryd.ntmps10
    go_wp2_with fail
    refine (known18 w).mono ?_; rintro e w1 ⟨rfl, k1⟩
    have HB := Lib.hid k1
    clear k1
    go_wp2
    go_ret
    exact ⟨rfl, HB.out⟩
  by_cases h1 : 549755813888 < f
  · clear h
    go_enter Tryd.func10, Tryd.ntmps10
    go_wp2_with fail
    refine (known18 w).mono ?_; rintro e w1 ⟨rfl, k1⟩
    have HB := Lib.hid k1
    clear k1
    go_wp2
    go_ret
    exact ⟨rfl, HB.out⟩
  by_cases h2 : n < 1
  · clear h
    go_enter Tryd.func10, Tryd.ntmps10
    go_wp2_with fail
    refine (known18 w).mono ?_; rintro e w1 ⟨rfl, k1⟩
    have HB := Lib.hid k1
    clear k1
    go_wp2
    go_ret
    exact ⟨rfl, HB.out⟩
  by_cases h3 : 40 < n
  · clear h
    go_enter Tryd.func10, Tryd.ntmps10
    go_wp2_with fail
    refine (known18 w).mono ?_; rintro e w1 ⟨rfl, k1⟩
    have HB := Lib.hid k1
    clear k1
    go_wp2
    go_ret
    exact ⟨rfl, HB.out⟩
  by_cases h4 : z < 0
  · clear h
    go_enter Tryd.func10, Tryd.ntmps10
    go_wp2_with fail
    refine (known18 w).mono ?_; rintro e w1 ⟨rfl, k1⟩
    have HB := Lib.hid k1
    clear k1
    go_wp2
    go_ret
    exact ⟨rfl, HB.out⟩
  by_cases h5 : 20 < z
  · clear h
    go_enter Tryd.func10, Tryd.ntmps10
    go_wp2_with fail
    refine (known18 w).mono ?_; rintro e w1 ⟨rfl, k1⟩
    have HB := Lib.hid k1
    clear k1
    go_wp2
    go_ret
    exact ⟨rfl, HB.out⟩
  exact absurd (by omega) h
set_option maxRecDepth 100000 in
set_option maxHeartbeats 8000000 in
theorem once_in (f n z : Nat) (w : World) (ht : Nib w) (hf : 1 ≤ f) (hf2 : f ≤ 549755813888) (hn : 1 ≤ n) (hn2 : n ≤ 40) (hz : z ≤ 20) :
    Calls Tryd.prog 10 #[.int .i64 f, .int .i64 n, .int .i64 z] w fun e w' => e = .returned (.bool true) ∧ Below w.heap.size w w' := by
  have a1 : ¬ (f : Int) < 1 := by omega
  have a2 : ¬ (549755813888 : Int) < (f : Int) := by omega
  have a3 : ¬ (n : Int) < 1 := by omega
  have a4 : ¬ (40 : Int) < (n : Int) := by omega
  have a5 : ¬ (z : Int) < 0 := by omega
  have a6 : ¬ (20 : Int) < (z : Int) := by omega
  have HT := Lib.hid (fun (W : World) (q : Below w.heap.size w W) => ht.below q)
  have e1 : IntKind.i64.wrap ((f : Int) - 1) = (f : Int) - 1 := IntWalk.i64_in _ (by omega)
  have e2 : IntKind.i64.wrap ((f : Int) + (n : Int)) = (f : Int) + (n : Int) := IntWalk.i64_in _ (by omega)
  have e3 : IntKind.i64.wrap ((f : Int) + (n : Int) - 1) = (f : Int) + (n : Int) - 1 := IntWalk.i64_in _ (by omega)
  have HI := Lib.hid (st_new_in 3 1 ((f : Int) - 1) w)
  have HNW : Hid (newOk 3 1 ((f : Int) - 1) = true) := Lib.hid (by simp [newOk, placesB]; omega)
  have HTA : Hid (takeS 1 ((f : Int) - 1) [] (someR 1 f n) = someR 1 f n) := Lib.hid (take_some (by omega) hf (by omega))
  have HTN : Hid (takeS 1 ((f : Int) + (n : Int) - 1) [] (someR 1 f n) = []) := Lib.hid (take_none _ (fun r hr e => by
    obtain ⟨i, hi, rfl⟩ := someR_mem hr
    have e' : ((f + i : Nat) : Int) = (f : Int) + (n : Int) - 1 + 1 := e
    omega))
  have HD1 : Hid (doneM ((f : Int) - 1) ((f : Int) + (n : Int) - 1) = (f : Int) + (n : Int) - 1) := Lib.hid (by unfold doneM; omega)
  have HD2 : Hid (doneM ((f : Int) + (n : Int) - 1) ((f : Int) + (n : Int) - 1) = (f : Int) + (n : Int) - 1) := Lib.hid (by unfold doneM; omega)
  have HBD : Hid ((0 ≤ (f : Int) - 1 ∧ (f : Int) - 1 ≤ 1099511627776) ∧ (0 ≤ (f : Int) + (n : Int) - 1 ∧ (f : Int) + (n : Int) - 1 ≤ 1099511627776)) := Lib.hid (by omega)
  have HFN : Hid (f ≤ 1099511627777 ∧ n ≤ 100000) := Lib.hid (by omega)
  clear ht hf hf2 hn hn2
  go_enter Tryd.func10, Tryd.ntmps10
  go_wp2_with fail
  refine HI.out.mono ?_; rintro e w1 hr
  obtain ⟨b, rfl, hb, xi, k1⟩ := new_yes hr HNW.out
  have HXI := Lib.hid xi
  have HB1 := Lib.hid k1
  have hbl := xi.lt
  clear xi k1 hr HI HNW
  go_wp2_with fail
  refine (law_some 1 f n w1 HFN.out.1 HFN.out.2).mono ?_; rintro e w2 ⟨vl, L, rfl, hT, hL⟩
  have HL := Lib.hid hL
  have HLN := Lib.hid hT.len
  have HRS := Lib.hid (hT.rowS hbl)
  have HXI2 := Lib.hid (HXI.out.below hT.bel)
  have HB2 := Lib.hid (HB1.out.trans (hT.bel.mono HB1.out.size))
  have hb2 : b < w2.heap.size := HXI2.out.lt
  obtain ⟨Al, cl, rfl⟩ := hT.shape
  have HTK : Hid (∀ (a : Int) (W : World), XB W b (inC 3 1 a) → RowS b W (.slice Al n cl) L → 0 ≤ a ∧ a ≤ 1099511627776 → Calls Tryd.prog 40 #[.pointer (some ⟨b, 0, none⟩), .slice Al n cl] W fun e w' => TakeR 1 a (someR 1 f n) W w' e) := Lib.hid (fun a W q1 q2 q3 => by
    have h := st_take b 3 1 a Al cl L W q1 (by have := q2.row; rw [HLN.out]; exact this) (fun m hm => (q2.at_ m hm).mono (fun _ _ _ => trivial)) (by rw [HLN.out]; exact HFN.out.2) q3
    rw [HLN.out, HL.out] at h
    exact h)
  have HLBY : Hid (∀ m ∈ L, isBy m.r.key ∧ isBy m.r.val) := Lib.hid (fun m hm => by
    have := List.mem_map_of_mem (f := Mr.r) hm
    rw [HL.out] at this
    obtain ⟨i, _, e⟩ := someR_mem this
    rw [e]
    exact recS_by _ _)
  clear hT hL hbl HXI HB1
  go_wp2_with fail
  refine (HTK.out _ w2 HXI2.out HRS.out HBD.out.1).mono ?_; rintro e w3 ⟨v3, Z, rfl, hT3, hZ⟩
  have hZ' : Z.map Mr.r = someR 1 f n := hZ.trans HTA.out
  have k3 := hT3.bel
  have HRC := Lib.hid (law_recs18 v3 (.slice Al n cl) Z L w3 hT3.rowAt (HRS.out.row.below k3) hT3.at_ (fun m hm => ((HRS.out.at_ m hm).below k3).mono (fun _ _ _ => trivial)) (fun m hm => by
    have := List.mem_map_of_mem (f := Mr.r) hm
    rw [hZ'] at this
    obtain ⟨i, _, e⟩ := someR_mem this
    rw [e]
    exact (recS_by _ _).2) (fun m hm => by
    have := List.mem_map_of_mem (f := Mr.r) hm
    rw [hZ'] at this
    obtain ⟨i, _, e⟩ := someR_mem this
    rw [e]
    exact (recS_by _ _).1) HLBY.out (by have := congrArg List.length hZ'; rw [someR_len] at this; simp at this; have := HFN.out.2; omega))
  have HEQ : Hid (Z.map Mr.r = L.map Mr.r) := Lib.hid (hZ'.trans HL.out.symm)
  have HB3 := Lib.hid (HB2.out.trans (k3.mono HB2.out.size))
  have HXI3 := Lib.hid (HXI2.out.below k3)
  have HRS3 := Lib.hid (HRS.out.below k3)
  obtain ⟨A3, c3, rfl⟩ := hT3.shape
  clear hT3 hZ hZ' k3 HB2 HXI2 HRS
  go_wp2_with fail
  refine HRC.out.mono ?_; rintro e w4 ⟨⟨b4, rfl, hb4⟩, k4⟩
  obtain rfl : b4 = true := hb4.2 HEQ.out
  have HB4 := Lib.hid (HB3.out.trans (k4.mono HB3.out.size))
  have HXI4 := Lib.hid (HXI3.out.below k4)
  have HRS4 := Lib.hid (HRS3.out.below k4)
  clear k4 hb4 HRC HB3 HXI3 HRS3
  have HDN : Hid (∀ (a q : Int) (W : World), XB W b (inC 3 1 a) → Below w.heap.size w W → 0 ≤ a ∧ a ≤ 1099511627776 → Calls Tryd.prog 43 #[.pointer (some ⟨b, 0, none⟩), .int .i64 q] W fun e w' => DoneRes b 3 1 (doneM a q) W w' e) := Lib.hid (fun a q W q1 q2 q3 => st_done b 3 1 a q W q1 (by omega) q3 (fun W' k => HT.out _ (q2.trans (k.below hb q2.size))))
  go_wp2_with fail
  refine (HDN.out _ _ w4 HXI4.out HB4.out HBD.out.1).mono ?_; rintro e w5 ⟨v5, rfl, hm5, hp5⟩
  rw [HD1.out] at hm5 hp5
  have HM5 := Lib.hid hm5
  have HP5 := Lib.hid hp5
  have HS5 : Hid (b < w4.heap.size) := Lib.hid HXI4.out.lt
  have HB5 := Lib.hid (HB4.out.trans (hp5.only.below hb HB4.out.size))
  have HRS5 := Lib.hid (HRS4.out.only hp5.only)
  obtain ⟨B5, c5, rfl⟩ := hm5.shape
  clear hm5 hp5 HB4 HXI4 HRS4
  go_wp2
  go_loopw [11] (fun i wr => ∃ k : Nat, k ≤ z ∧ i = .int .i64 k ∧ Below w.heap.size w wr ∧ XB wr b (inC 3 1 ((f : Int) + (n : Int) - 1)) ∧ RowS b wr (.slice Al n cl) L ∧ Msg1 w4.heap.size wr (.slice (some ⟨B5, 0, none⟩) 1 c5) 3 1 (ackE 1 ((f : Int) + (n : Int) - 1))) (fun i _ => z - (intOf i).toNat)
  case atStart => exact ⟨0, Nat.zero_le _, rfl, HB5.out, HP5.out.xb, HRS5.out, HM5.out⟩
  case round =>
    obtain ⟨k, hk, rfl, hB, hX, hR, hM⟩ := hrel
    have HB := Lib.hid hB
    have HX := Lib.hid hX
    have HR := Lib.hid hR
    have HM := Lib.hid hM
    clear hB hX hR hM HB5 HP5 HRS5 HM5
    by_cases hlt : k < z
    · have lk : (k : Int) < (z : Int) := by omega
      go_wp2_with fail
      refine (HTK.out _ wr HX.out HR.out HBD.out.2).mono ?_; rintro e w6 ⟨v6, Z6, rfl, hT6, hZ6⟩
      have hZ0 : Z6 = [] := by
        have := hZ6.trans HTN.out
        simpa using this
      subst hZ0
      obtain ⟨A6, c6, hv6⟩ := hT6.shape
      have hv6' : v6 = .slice A6 0 c6 := hv6
      subst hv6'
      have k6 := hT6.bel
      have HB6 := Lib.hid (HB.out.trans (k6.mono HB.out.size))
      have HX6 := Lib.hid (HX.out.below k6)
      have HR6 := Lib.hid (HR.out.below k6)
      have HM6 := Lib.hid (HM.out.below k6)
      clear hT6 hZ6 hv6 k6 HB HX HR HM
      go_wp2_with fail
      refine (st_applied b 3 1 _ w6 HX6.out).mono ?_; rintro e w7 ⟨rfl, rfl⟩
      go_wp2_with fail
      refine (HDN.out _ _ w6 HX6.out HB6.out HBD.out.2).mono ?_; rintro e w8 ⟨v8, rfl, hm8, hp8⟩
      rw [HD2.out] at hm8 hp8
      have HB8 := Lib.hid (HB6.out.trans (hp8.only.below hb HB6.out.size))
      have HX8 := Lib.hid hp8.xb
      have HR8 := Lib.hid (HR6.out.only hp8.only)
      have HM8 := Lib.hid (HM6.out.only hp8.only HS5.out)
      have HMS := Lib.hid (law_messages v8 (.slice (some ⟨B5, 0, none⟩) 1 c5) 3 1 _ w8 hm8 HM8.out)
      obtain ⟨B8, c8, rfl⟩ := hm8.shape
      clear hm8 hp8 HB6 HX6 HR6 HM6
      go_wp2_with fail
      refine HMS.out.mono ?_; rintro e w9 ⟨rfl, k9⟩
      have HB9 := Lib.hid (HB8.out.trans (k9.mono HB8.out.size))
      have HX9 := Lib.hid (HX8.out.below k9)
      have HR9 := Lib.hid (HR8.out.below k9)
      have HM9 := Lib.hid (HM8.out.below k9)
      clear k9 HMS HB8 HX8 HR8 HM8
      go_wp2
      go_roundw
      case rel => exact ⟨k + 1, by omega, by go_num, HB9.out, HX9.out, HR9.out, HM9.out⟩
      case measure => simp [intOf]; omega
    · obtain rfl : k = z := by omega
      clear hlt
      go_wp2_with fail
      refine (st_applied b 3 1 _ wr HX.out).mono ?_; rintro e w7 ⟨rfl, rfl⟩
      go_wp2_with fail
      refine (known18 wr).mono ?_; rintro e w10 ⟨rfl, k10⟩
      have HB10 := Lib.hid (HB.out.trans (k10.mono HB.out.size))
      clear k10
      go_wp2
      go_ret
      exact ⟨rfl, HB10.out⟩
end Go.Proofs.YtdffldlcbihjmaaDoor
namespace Go.Proofs.YtdffldlcbihjmaaDoor
open Go.ChangeShapes Go.WideShapes Go.ChangeAt Go.RowKit Go.Joins Go.Deep
set_option maxRecDepth 100000 in
theorem streamOnce_contract (H : Type) (enc : TypeId × Value → H) (W : World) (base : Nat) (args : Array Value) (ds gs : List (DataW H)) (before : List MemPlace)
    (hval0 : ∀ (j : Nat) t v, Tryd.f10.params[j]? = some t → args[j]? = some v → Value.okWide Tryd.prog W .any base t v)
    (hW : DataW.Whole enc Tryd.prog Tryd.f10.params.toList Rows.streamOnceSpec.vars false W args.toList ds gs before)
    (hsz0 : (DataW.weightsEach Tryd.prog (Tryd.f10.params.toList ++ (OpenSpec.ofChange Rows.streamOnceSpec).bare.plain.varTypes Tryd.prog) (ds ++ gs)).all (· ≤ reachBytes) = true) (hL : laidMetH Tryd.prog Rows.streamOnceRow.laid W) (hS : W.ShapedOpen Tryd.prog) :
    Calls Tryd.prog 10 args W fun e W' => ∃ v, e = .returned v ∧ Rows.streamOnceSpec.post enc Tryd.prog Tryd.f10 false true false false W args v W' := by
  have hval : ∀ (j : Nat) t v, Tryd.f10.params[j]? = some t → args[j]? = some v → Value.okWide Tryd.prog W .any base t v := hval0
  have hsz := hsz0
  have hW' := hW
  obtain ⟨p, q, hA0, hV, rfl, hfz, hnd⟩ := hW
  have hA : DataW.TrodAll enc Tryd.prog W 0 (fun _ => true) true Tryd.f10.params.toList args.toList ds p := hA0
  rw [Tryd.params10] at hA hval hsz
  have hsame : (Rows.streamOnceSpec.fn H (ds ++ gs)).results = [.lit (.bool true)] ∧ (Rows.streamOnceSpec.fn H (ds ++ gs)).args = ds ∧ (Rows.streamOnceSpec.fn H (ds ++ gs)).vars = [] → ∀ W', Below W.heap.size W W' → Rows.streamOnceSpec.post enc Tryd.prog Tryd.f10 false true false false W args (.bool true) W' :=
    fun h W' hb => law_post (tb := 4) hW' law_laid (by kernel_rfl) rfl Tryd.underlying4 h.1 h.2.1 rfl h.2.2 hb
  obtain ⟨v0, vs0, d0, ds0, p0, q0, hargs, rfl, rfl, h0, r0⟩ := trodAll_cons hA
  obtain ⟨v1, vs1, d1, ds1, p1, q1, rfl, rfl, rfl, h1, r1⟩ := trodAll_cons r0
  obtain ⟨v2, vs2, d2, ds2, p2, q2, rfl, rfl, rfl, h2, r2⟩ := trodAll_cons r1
  obtain ⟨rfl, rfl, rfl⟩ := trodAll_nil r2
  obtain rfl : args = #[v0, v1, v2] := by cases args; simp_all
  obtain ⟨rfl, rfl⟩ := trodVars_none hV
  have hpost := hsame ⟨rfl, rfl, rfl⟩
  clear hsame hA0 hval0 hsz0
  obtain ⟨f, rfl, rfl, rfl, wf0⟩ := open_int Tryd.underlying3 (hval 0 3 v0 rfl rfl) h0
  obtain ⟨n, rfl, rfl, rfl, wf1⟩ := open_int Tryd.underlying3 (hval 1 3 v1 rfl rfl) h1
  obtain ⟨z, rfl, rfl, rfl, wf2⟩ := open_int Tryd.underlying3 (hval 2 3 v2 rfl rfl) h2
  have ht : Nib W := nib_of_laid hL
  by_cases hr : 1 ≤ f ∧ f ≤ 549755813888 ∧ 1 ≤ n ∧ n ≤ 40 ∧ 0 ≤ z ∧ z ≤ 20
  · obtain ⟨f', rfl⟩ : ∃ f' : Nat, f = (f' : Int) := ⟨f.toNat, by omega⟩
    obtain ⟨n', rfl⟩ : ∃ n' : Nat, n = (n' : Int) := ⟨n.toNat, by omega⟩
    obtain ⟨z', rfl⟩ : ∃ z' : Nat, z = (z' : Int) := ⟨z.toNat, by omega⟩
    exact (once_in f' n' z' W ht (by omega) (by omega) (by omega) (by omega) (by omega)).mono fun e W' ⟨he, hb⟩ => ⟨_, he, hpost W' hb⟩
  · exact (once_out f n z W hr).mono fun e W' ⟨he, hb⟩ => ⟨_, he, hpost W' hb⟩
theorem streamOnce_reads (os : Os) {H : Type} (enc : TypeId × Value → H) : (DataW.whole enc Tryd.prog ((layW1 os).forCall (fun _ _ => 0) ⟨#[], #[.int .i64 0, .int .i64 0, .int .i64 0], []⟩).memory Tryd.f10.params.toList Rows.streamOnceSpec.vars false #[.int .i64 0, .int .i64 0, .int .i64 0].toList 8).isSome = true := by kernel_rfl
theorem streamOnce_met (os : Os) : laidMet Tryd.prog Rows.streamOnceRow.laid ((layW1 os).forCall (fun _ _ => 0) ⟨#[], #[.int .i64 0, .int .i64 0, .int .i64 0], []⟩).memory := laidMet_of_run' 8 (by kernel_rfl) (by kernel_rfl)
set_option maxRecDepth 100000 in
theorem streamOnce_lifted (os : Os) (started : os.Started) (H : Type) (enc : TypeId × Value → H) (F : Stop.Interp) :
    ReturnsInHanded {} Tryd.checked os 10 .any ((OpenSpec.ofChange Rows.streamOnceSpec).preRow enc Tryd.prog Tryd.f10 Rows.streamOnceRow.domain false Rows.streamOnceRow.laid) (((OpenSpec.ofChange Rows.streamOnceSpec).at F).post enc Tryd.prog Tryd.f10 false true false false) := by
  obtain ⟨x, hx⟩ := Option.isSome_iff_exists.1 (streamOnce_reads os enc)
  refine returnsInHanded_of_row (C := Tryd.checked) (s := OpenSpec.ofChange Rows.streamOnceSpec) law_own started (by kernel_rfl) Tryd.func10
    (witness_row_at (enc := enc) (C := Tryd.checked) false (layW1 os) #[.int .i64 0, .int .i64 0, .int .i64 0] rfl (by kernel_rfl) (by kernel_rfl) (by kernel_rfl)
      (OpenSpec.preRow_of_cond 8 hx (by rfl) (fun k hk => by cases hk) (by kernel_rfl) (streamOnce_met os))) ?_
  intro W base args ds gs before hval hW _ _ hsz hL hS _
  exact streamOnce_contract H enc W base args ds gs before hval hW hsz hL hS
theorem streamOnce_said : Rows.StreamOnceSaid :=
  OpenClaim.holds_of_cond 10 Tryd.f10 rfl rfl rfl rfl rfl rfl rfl ⟨rfl, rfl, rfl, rfl, rfl⟩ rfl rfl rfl rfl rfl (by kernel_rfl) Tryd.func10 (by kernel_rfl)
    (of_decide_eq_true (by kernel_rfl)) (by unfold Func.isWrapper; first | (rw [if_pos (by decide +kernel)]; kernel_rfl) | (rw [if_neg (by decide +kernel)]; exact ⟨rfl, rfl⟩))
    (fun os started H enc _ F => by rw [OpenClaim.pre_eq_preRow]; exact streamOnce_lifted os started H enc F)
theorem streamOnce_holds : Rows.StreamOnceCardSaid :=
  Claim7.holds_tied_plain_at .later [] _ _ _ _ streamOnce_said (fun _ h => by cases h) (by kernel_rfl) (fun _ h => by cases h) streamOnce_row_tie rfl ⟨rfl, rfl⟩ (by kernel_rfl) rfl (plain_of (f0 := 10) (fn0 := Tryd.f10) (by kernel_rfl) Tryd.func10 (by kernel_rfl) (by kernel_rfl)) (by kernel_rfl)
end Go.Proofs.YtdffldlcbihjmaaDoor

