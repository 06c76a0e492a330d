/- Stage 25: causal.Newest of any writes (written by gen/ng25.py). -/
import Derived.Test.YtdjhpajmbddffaaNg25
import Derived.Test.YtdjhpajmbddffaaWa25
import Derived.Test.YtdjhpajmbddffaaNw25
import Derived.Test.YtdjhpajmbddffaaTk9
import Derived.Deep.DeepCutAuto
set_option linter.unusedSimpArgs false
set_option linter.unusedVariables false
namespace Go.Proofs.Ytdjhpajmbddffaa
open Go.RowKit

/-- slices.Insert at the head of a row of values. -/
def InsOk : Prop := ∀ (B : Nat) (v : Value) (Vl : List Vq) (x : Vq) (b cap : Nat) (W : World), Vw B W v Vl → Vl.length ≤ 1000 → B ≤ W.heap.size → W.heap[b]? = some (.cells #[x.cell] 33) → v.ownBlock ≠ some b →
  ByL W x.A x.p → (x.A = none → x.p.length = 0) → (∀ ad, x.A = some ad → B ≤ ad.block ∧ ad.block < W.heap.size ∧ v.ownBlock ≠ some ad.block) →
  Calls Try.prog 50 #[v, .int .i64 0, .slice (some ⟨b, 0, none⟩) 1 cap] W fun e w' => (∃ v', e = .returned v' ∧ Vw B w' v' (x :: Vl)) ∧ But (fun i => v.ownBlock = some i) W w'
def suP (g o : Nat) : Option Nat → Value
  | none => .pointer none
  | some j => .pointer (some ⟨g, o + j * 9, none⟩)
theorem wq_stamp {w : World} {g o : Nat} {x : Wq} (h : w.rangeAt g o x.cs) : w.rangeAt g (o + 2) [.int .i64 x.m.tm, .int .i64 x.m.tc] := fun j u hu => by
  have := h (2 + j) u (by
    rcases j with _ | _ | j
    · exact hu
    · exact hu
    · simp at hu)
  rwa [← Nat.add_assoc] at this
theorem wq_ver {w : World} {g o : Nat} {x : Wq} (h : w.rangeAt g o x.cs) : w.rangeAt g (o + 2) [.int .i64 x.m.tm, .int .i64 x.m.tc, .int .i64 x.m.nd, .slice x.A x.m.p.length x.c, .bool x.m.gn, .int .i64 x.m.tt] := fun j u hu => by
  have := h (2 + j) u (by
    rcases j with _ | _ | _ | _ | _ | _ | j
    all_goals (first | exact hu | (simp at hu)))
  rwa [← Nat.add_assoc] at this
set_option maxRecDepth 100000 in
set_option maxHeartbeats 16000000 in
theorem newest_any (g o c : Nat) (L : List Wq) (key : ByteArray) (tm tc : Int) (w : World) (hins : InsOk) (h : RdW w (some ⟨g, o, none⟩) L) (hl : L.length ≤ 1000) (h0 : 0 < L.length) :
    Calls Try.prog 36 #[.slice (some ⟨g, o, none⟩) L.length c, .string key, .agg #[.int .i64 tm, .int .i64 tc]] w fun e w' => (∃ v Vl, e = .returned (.tuple #[v, .bool (newP (L.map Wq.m) key tm tc).2]) ∧ Vw w.heap.size w' v Vl ∧ Vl.map Vq.p = (newP (L.map Wq.m) key tm tc).1) ∧ Below w.heap.size w w' := by
  obtain ⟨i0, hi0, hz0, hz1, hz2⟩ := info_parts rb_info
  have HR := Lib.hid h
  have HI := Lib.hid hins
  have HH0 := Lib.hid h0
  obtain ⟨MM, hM⟩ : ∃ MM, L.map Wq.m = MM := ⟨_, rfl⟩
  have HM := Lib.hid hM
  rw [hM]
  have HML : Hid (MM.length = L.length) := Lib.hid (by rw [← hM, List.length_map])
  have HMA : Hid (∀ (k : Nat) (x : Wq), L[k]? = some x → MM[k]? = some x.m) := Lib.hid (fun k x hx => by rw [← hM, List.getElem?_map, hx]; rfl)
  clear h hins h0 hM
  have k0 : Below w.heap.size w (w.alloc (.cells #[.int .i64 tm, .int .i64 tc] 32)) := (Below.refl _ _).alloc (Nat.le_refl _) _
  have HB0 := Lib.hid k0
  have HBX := Lib.hid (range_new w [.int .i64 tm, .int .i64 tc] 32)
  have HLT : Hid (w.heap.size < (w.alloc (.cells #[.int .i64 tm, .int .i64 tc] 32)).heap.size) := Lib.hid (by simp)
  clear k0
  go_enter Try.func36, Try.ntmps36
  go_wp2_with fail
  go_loopw [8, 9, 10, 15] (fun su v un i wr => ∃ (k : Nat) (Vl : List Vq), k ≤ L.length ∧ i = .int .i64 (k : Int) ∧ su = suP g o (nsN MM key tm tc k).su ∧ un = .bool (nsN MM key tm tc k).un ∧ Vw w.heap.size wr v Vl ∧ Vl.map Vq.p = (nsN MM key tm tc k).vs ∧ Below w.heap.size w wr ∧ wr.rangeAt w.heap.size 0 [.int .i64 tm, .int .i64 tc] ∧ w.heap.size < wr.heap.size ∧ ¬ v.ownBlock = some w.heap.size) (fun _ _ _ i _ => L.length - (intOf i).toNat)
  case atStart => exact ⟨0, [], by omega, by simp, rfl, rfl, Vw.nil _ _, rfl, HB0.out, HBX.out, HLT.out, fun h => by cases h⟩
  case round =>
    obtain ⟨k, Vl, hk, rfl, hsu, hun, hvw, hvm, hb, hbx, hlt, hnb⟩ := hrel
    have HB := Lib.hid hb
    have wk : IntKind.i64.wrap ((k : Int) + 1) = (k : Int) + 1 := IntWalk.i64_in _ (by omega)
    obtain ⟨Av, cv, rfl⟩ := row_shapeW hvw.row
    have HVW := Lib.hid hvw
    have HVM := Lib.hid hvm
    have HNB : Hid (¬ (Value.slice Av Vl.length cv).ownBlock = some w.heap.size) := Lib.hid hnb
    have HVL : Hid (Vl.length ≤ 1000) := Lib.hid (by have h1 := nsN_vs MM key tm tc k; rw [← hvm, List.length_map] at h1; omega)
    obtain ⟨st, hst⟩ : ∃ st, nsN MM key tm tc k = st := ⟨_, rfl⟩
    rw [hst] at hsu hun HVM
    have HST := Lib.hid hst
    subst hsu hun
    clear hb hvw hvm hst hnb
    by_cases h1 : k < L.length
    · have t1 : decide ((k : Int) < (L.length : Int)) = true := by simpa using h1
      have hki : (k : Int) < (L.length : Int) := by omega
      obtain ⟨x, hx⟩ : ∃ x, L[k]? = some x := ⟨_, List.getElem?_eq_getElem h1⟩
      obtain ⟨g', o', he, hgl, hrg⟩ := (HR.out.below HB.out).at_ hx
      injection he with he
      injection he with e1 e2
      subst e1 e2
      obtain ⟨hpb, hpn, hpl⟩ := (HR.out.below HB.out).by_ x (List.mem_of_getElem? hx)
      have HPB := Lib.hid hpb
      have HPN := Lib.hid hpn
      have HPL := Lib.hid hpl
      have HX := Lib.hid hx
      have H1 := Lib.hid h1
      have HNX : Hid (nsN MM key tm tc (k + 1) = stepN MM key tm tc st k x.m) := Lib.hid (by rw [nsN_succ (HMA.out k x hx), HST.out])
      have c1 : wr.cell? ⟨g, o + k * 9 + 1, none⟩ = some (.string x.m.key) := hrg 1 _ rfl
      have c6 : wr.cell? ⟨g, o + k * 9 + 2 + 4, none⟩ = some (.bool x.m.gn) := hrg 6 _ rfl
      have c5 : wr.cell? ⟨g, o + k * 9 + 2 + 3, none⟩ = some (.slice x.A x.m.p.length x.c) := hrg 5 _ rfl
      have c8 : wr.cell? ⟨g, o + k * 9 + 8, none⟩ = some (.bool x.m.un) := hrg 8 _ rfl
      clear hpb hpn hpl hx h1 hk
      by_cases hkey : x.m.key = key
      · have hkb : (x.m.key.toList == key.toList) = true := by rw [hkey]; exact beq_self_eq_true _
        have HKEY := Lib.hid hkey
        clear hkey
        cases hun : x.m.un with
        | true =>
          rw [hun] at c8
          have HUN := Lib.hid hun
          clear hun
          cases hgn : x.m.gn with
          | true =>
            as_aux_lemma =>
            have HGN := Lib.hid hgn
            have HNE : Hid (nsN MM key tm tc (k + 1) = ⟨st.su, st.vs, true⟩) := Lib.hid (by rw [HNX.out]; unfold stepN; rw [if_pos HKEY.out, if_pos HUN.out, if_pos hgn])
            rw [hgn] at c6
            clear hgn
            go_wp2_with fail
            go_roundw
            case rel => exact ⟨k + 1, Vl, by have := H1.out; omega, by simp, by rw [HNE.out], by rw [HNE.out], HVW.out, by rw [HNE.out]; exact HVM.out, HB.out, hbx, hlt, HNB.out⟩
            all_goals ((try simp only [intOf]); have := H1.out; omega)
          | false =>
            as_aux_lemma =>
            have HGN := Lib.hid hgn
            have HNE : Hid (nsN MM key tm tc (k + 1) = ⟨st.su, st.vs ++ [x.m.p], true⟩) := Lib.hid (by rw [HNX.out]; unfold stepN; rw [if_pos HKEY.out, if_pos HUN.out, if_neg (by rw [hgn]; simp)])
            rw [hgn] at c6
            clear hgn
            have HCL := Lib.hid (bytes_clone x.A x.m.p x.c wr HPB.out HPN.out HPL.out)
            have HBX := Lib.hid hbx
            have HLW := Lib.hid hlt
            clear hbx
            go_upto_region 12 with fail
            refine wp_region_lit ?_
            refine wpList_plain rfl (fun KK hKK => ?_)
            go_simp
            refine hKK _ _ ?_
            refine wpList_plain rfl (fun KK hKK => ?_)
            go_simp
            refine hKK _ _ ?_
            refine wpList_plain rfl (fun KK hKK => ?_)
            go_simp
            refine hKK _ _ ?_
            refine wpList_plain rfl (fun KK hKK => ?_)
            go_simp
            refine hKK _ _ ?_
            refine wpList_plain rfl (fun KK hKK => ?_)
            go_simp
            refine hKK _ _ ?_
            refine wpList_plain rfl (fun KK hKK => ?_)
            go_simp
            refine hKK _ _ ?_
            refine wpList_plain rfl (fun KK hKK => ?_)
            go_simp
            (go_at_call 14; refine HCL.out.mono ?_; rintro e2 V2 ⟨v2, rfl, ho2, k2⟩)
            obtain ⟨A2, c2, rfl, hl2, hby2, hn2, ha2⟩ := own8_shape ho2
            refine hKK _ _ ?_
            have HV2 := Lib.hid (HVW.out.below k2)
            have HB2 := Lib.hid (HB.out.trans (k2.mono HB.out.size))
            have HX2 := Lib.hid (range_below HBX.out k2 HLW.out)
            have hw2 := Nat.lt_of_lt_of_le HLW.out k2.size
            have hzr : wr.heap.size ≤ V2.heap.size := k2.size
            have HY := Lib.hid (And.intro hby2 (And.intro hn2 ha2))
            clear k2 ho2 hl2 hby2 hn2 ha2 HCL hgl
            have hnw : ∀ j u, [Value.slice A2 x.m.p.length c2][j]? = some u → (V2.alloc (.cells #[.slice A2 x.m.p.length c2] 33)).cell? ((⟨V2.heap.size, 0, none⟩ : Addr).add j) = some u := World.news_of_block (cs := #[.slice A2 x.m.p.length c2]) (t := 33) (fr := (0, 0)) (heap_alloc_new V2 (.cells #[.slice A2 x.m.p.length c2] 33))
            have hrow := World.ownsRow.alloc HV2.out.row (.cells #[.slice A2 x.m.p.length c2] 33)
            have kA : Below V2.heap.size V2 (V2.alloc (.cells #[.slice A2 x.m.p.length c2] 33)) := (Below.refl _ _).alloc (Nat.le_refl _) _
            have HKA := Lib.hid kA
            clear kA
            refine wpList_plain rfl (fun KK hKK => ?_)
            go_simp
            refine hKK _ _ ?_
            refine wpList_append_lies _ rfl (.tmp 39) (.tmp 46) _ rfl w.heap.size 33 i0 _ 1 24 Try.underlying93 hi0 hz0 hz1 hz2 rfl (by decide) (.slice Av Vl.length cv) Vl.length (Vl.map Vq.cell) rfl hrow ⟨V2.heap.size, 0, none⟩ 1 1 [.slice A2 x.m.p.length c2] rfl rfl hnw (by simp [Value.oneCell']) (by omega) (by unfold maxLen; have := HVL.out; omega) (by have := HVL.out; omega) (by have := HB2.out.size; simp; omega) _ rfl ?_
            intro g2 cap2 W5 hown2 hg2 hat2 hlt2
            refine wpList_plain rfl (fun KK hKK => ?_)
            go_simp
            refine hKK _ _ ?_
            refine wpList_nil ?_
            have hlw : ∀ j, (Value.slice Av Vl.length cv).ownBlock = some j → w.heap.size ≤ j ∧ j < wr.heap.size := fun j hj => World.ownsRow.lt HVW.out.row j hj
            have HAPP := Lib.hid (Vw.app (x := ⟨x.m.p, A2, c2⟩) (HV2.out.below HKA.out) (HY.out.1.below HKA.out) HY.out.2.1 (fun ad ha => ⟨Nat.le_trans HB.out.size (HY.out.2.2 ad ha).1, Nat.lt_of_lt_of_le (HY.out.2.2 ad ha).2 HKA.out.size, fun q => by have := (hlw _ q).2; have := (HY.out.2.2 ad ha).1; omega⟩) hg2 hat2 hown2)
            have HBF := Lib.hid ((HB2.out.trans (HKA.out.mono HB2.out.size)).grown hg2 (by have := HB2.out.size; simp; omega) (fun j hj => (hlw j hj).1))
            have hx5 : W5.rangeAt w.heap.size 0 [.int .i64 tm, .int .i64 tc] := fun j u hu => by
              have hnb : ¬ (Value.slice Av Vl.length cv).ownBlock = some w.heap.size := fun q => HNB.out q
              have hbt : But (fun i => (Value.slice Av Vl.length cv).ownBlock = some i) _ W5 := But.of_grown hg2 (fun i hi => hi)
              exact (hbt.cell w.heap.size _ (Nat.lt_of_lt_of_le hw2 HKA.out.size) hnb).trans ((range_below HX2.out HKA.out hw2) j u hu)
            have HX5 := Lib.hid hx5
            have hw5 : w.heap.size < W5.heap.size := Nat.lt_of_lt_of_le (Nat.lt_of_lt_of_le hw2 HKA.out.size) hg2.size
            have HN5 : Hid (¬ (Value.slice (some ⟨g2, 0, none⟩) (Vl.length + 1) cap2).ownBlock = some w.heap.size) := Lib.hid (fun q => by
              have eg : g2 = w.heap.size := by simpa [Value.ownBlock] using q
              rcases hat2 with r | r
              · exact HNB.out (by rw [r, eg])
              · rw [r] at eg; have : (V2.alloc (.cells #[.slice A2 x.m.p.length c2] 33)).heap.size = V2.heap.size + 1 := by simp
                omega)
            clear hown2 hg2 hat2 hlt2 hrow HKA hlw hx5 hnw
            go_wp2_with fail
            go_roundw
            case rel => exact ⟨k + 1, Vl ++ [⟨x.m.p, A2, c2⟩], by have := H1.out; omega, by simp, by rw [HNE.out], by rw [HNE.out], by simpa using HAPP.out, by rw [HNE.out, List.map_append, HVM.out]; rfl, HBF.out, HX5.out, hw5, HN5.out⟩
            all_goals ((try simp only [intOf]); have := H1.out; omega)
        | false =>
          rw [hun] at c8
          have HUN := Lib.hid hun
          clear hun
          have hrs := wq_stamp hrg
          have hrv := wq_ver hrg
          obtain ⟨bq, hbq⟩ : ∃ b, updN MM tm tc st x.m = b := ⟨_, rfl⟩
          have HBQ := Lib.hid hbq
          have HSL : Hid (∀ j, st.su = some j → j < k) := Lib.hid (fun j hj => nsN_lt MM key tm tc k j (by rw [HST.out]; exact hj))
          clear hbq c5 c6
          go_upto_region 13 with fail
          go_cut [8, 48] (fun p8 p wx => p8 = suP g o st.su ∧ p = .bool bq ∧ Below wr.heap.size wr wx)
          case first =>
            have hC1 := fun W : World => hlc_compare x.m.tm x.m.tc tm tc W
            have hq0 := HBQ.out
            unfold updN at hq0
            generalize cmp2 x.m.tm x.m.tc tm tc = q at *
            have HC1 := Lib.hid hC1
            clear hC1
            by_cases hc : q ≤ 0
            · have hcd : decide (q ≤ 0) = true := decide_eq_true hc
              rw [hcd, Bool.true_and] at hq0
              clear hc
              cases hs : st.su with
              | none =>
                as_aux_lemma =>
                have HFIN : Hid (Value.bool true = .bool bq) := Lib.hid (by rw [← hq0, hs]; rfl)
                have HES : Hid (Value.pointer none = suP g o st.su) := Lib.hid (by rw [hs]; rfl)
                have es : suP g o none = .pointer none := rfl
                rw [es]
                clear es hs hq0 hrg c1 c8
                refine wp_region_held_drew (S := fun w' => w'.rangeAt g (o + k * 9 + 2) [.int .i64 x.m.tm, .int .i64 x.m.tc] ∧ w'.rangeAt w.heap.size 0 [.int .i64 tm, .int .i64 tc]) (by kernel_rfl) ?_ (fun hHeld => ?_)
                · exact ⟨hrs, hbx⟩
                have kd : Below wr.heap.size wr wr.drew := (Below.refl _ _).drew
                obtain ⟨V1, hV1⟩ : ∃ V1, wr.drew = V1 := ⟨_, rfl⟩
                rw [hV1] at kd hHeld ⊢
                clear hV1
                have hrs1 := range_below hrs kd hgl
                have hbx1 := range_below hbx kd hlt
                have hgl1 := Nat.lt_of_lt_of_le hgl kd.size
                have hlt1 := Nat.lt_of_lt_of_le hlt kd.size
                have HK1 := Lib.hid kd
                clear kd hrs hbx hgl hlt hrv
                refine tk9 0 ?_
                refine tk9 1 ?_
                refine tk9 2 ?_
                refine tk9 3 ?_
                refine tk9 4 (hy := yieldsIf_load_mid (by rfl) 32 (.tmp 52) rfl g (o + k * 9 + 2) rfl [.int .i64 x.m.tm, .int .i64 x.m.tc] _ (fun w' hw => hw.1) Try.underlying32 rfl stp_size) ?_
                refine tk9 5 (hy := yieldsIf_load_mid (by rfl) 32 (.tmp 5) rfl w.heap.size 0 rfl [.int .i64 tm, .int .i64 tc] _ (fun w' hw => hw.2) Try.underlying32 rfl stp_size) ?_
                refine wpAnyH_ready (rs := [6]) (by kernel_rfl) (by simp) ?_
                refine AllReadyH.cons rfl (fun K hK => ?_) (AllReadyH.nil)
                go_simp
                (go_at_call 20; refine (HC1.out V1).mono ?_; rintro e1 V2 ⟨rfl, k2⟩)
                have hrs2 := range_below hrs1 k2 hgl1
                have hbx2 := range_below hbx1 k2 hlt1
                have HK2 := Lib.hid (HK1.out.trans (k2.mono HK1.out.size))
                clear k2
                (try dsimp only)
                refine hK.out _ _ ?_ (fun hHeld => ?_)
                · exact ⟨hrs2, hbx2⟩
                clear hK K
                (try simp only [Act.put, List.setIfInBounds_toArray, List.set_cons_zero, List.set_cons_succ, List.getElem_toArray, List.getElem_cons_succ, List.getElem_cons_zero])
                refine tk9 7 ?_
                refine tk9 8 ?_
                refine tk9 9 ?_
                refine tk9 10 ?_
                refine tk9 11 ?_
                refine tk9 (v := undef) 12 (hy := Or.inr ⟨by rfl, rfl⟩) ?_
                refine tk9 (v := undef) 13 (hy := Or.inr ⟨by rfl, rfl⟩) ?_
                refine tk9 (v := undef) 14 (hy := Or.inr ⟨by rfl, rfl⟩) ?_
                refine tk9 (v := undef) 15 (hy := Or.inr ⟨by rfl, rfl⟩) ?_
                refine tk9 (v := undef) 16 (hy := Or.inr ⟨by rfl, rfl⟩) ?_
                refine tk9 (v := undef) 17 (hy := Or.inr ⟨by rfl, rfl⟩) ?_
                refine tk9 (v := undef) 18 (hy := Or.inr ⟨by rfl, rfl⟩) ?_
                refine tk9 (v := undef) 19 (hy := Or.inr ⟨by rfl, rfl⟩) ?_
                refine tk9 (v := undef) 20 (hy := Or.inr ⟨by rfl, rfl⟩) ?_
                refine tk9 (v := undef) 21 (hy := Or.inr ⟨by rfl, rfl⟩) ?_
                refine tk9 22 ?_
                refine tk9 23 ?_
                refine tk9 24 ?_
                refine wpAnyH_done (by kernel_rfl) ?_ _
                clear hHeld
                go_wp2_with fail
                go_meet
                exact ⟨HES.out, HFIN.out, HK2.out⟩
              | some j =>
                as_aux_lemma =>
                obtain ⟨y, hy⟩ : ∃ y, L[j]? = some y := ⟨_, List.getElem?_eq_getElem (show j < L.length by have h1 := HSL.out j hs; have h2 := H1.out; omega)⟩
                obtain ⟨g', o', he, _, hrgy⟩ := (HR.out.below HB.out).at_ hy
                injection he with he
                injection he with e1 e2
                subst e1 e2
                have hry := wq_ver hrgy
                have HFIN : Hid (Value.bool (decide (0 < or2 (cmp2 x.m.tm x.m.tc y.m.tm y.m.tc) (cmp1 x.m.nd y.m.nd))) = .bool bq) := Lib.hid (by
                  rw [← hq0, hs, aboveN_some (HMA.out j y hy)])
                have HC2 := Lib.hid (fun W : World => causal_compare x.m.tm x.m.tc x.m.nd x.A x.m.p.length x.c x.m.gn x.m.tt y.m.tm y.m.tc y.m.nd y.A y.m.p.length y.c y.m.gn y.m.tt W)
                have HES : Hid (Value.pointer (some ⟨g, o + j * 9, none⟩) = suP g o st.su) := Lib.hid (by rw [hs]; rfl)
                have es : suP g o (some j) = .pointer (some ⟨g, o + j * 9, none⟩) := rfl
                rw [es]
                clear es hs hq0 hrg c1 c8 hrgy hy
                refine wp_region_held_drew (S := fun w' => w'.rangeAt g (o + k * 9 + 2) [.int .i64 x.m.tm, .int .i64 x.m.tc] ∧ w'.rangeAt w.heap.size 0 [.int .i64 tm, .int .i64 tc] ∧ w'.rangeAt g (o + k * 9 + 2) [.int .i64 x.m.tm, .int .i64 x.m.tc, .int .i64 x.m.nd, .slice x.A x.m.p.length x.c, .bool x.m.gn, .int .i64 x.m.tt] ∧ w'.rangeAt g (o + j * 9 + 2) [.int .i64 y.m.tm, .int .i64 y.m.tc, .int .i64 y.m.nd, .slice y.A y.m.p.length y.c, .bool y.m.gn, .int .i64 y.m.tt]) (by kernel_rfl) ?_ (fun hHeld => ?_)
                · exact ⟨hrs, hbx, hrv, hry⟩
                have kd : Below wr.heap.size wr wr.drew := (Below.refl _ _).drew
                obtain ⟨V1, hV1⟩ : ∃ V1, wr.drew = V1 := ⟨_, rfl⟩
                rw [hV1] at kd hHeld ⊢
                clear hV1
                have hrs1 := range_below hrs kd hgl
                have hbx1 := range_below hbx kd hlt
                have hgl1 := Nat.lt_of_lt_of_le hgl kd.size
                have hlt1 := Nat.lt_of_lt_of_le hlt kd.size
                have hrv1 := range_below hrv kd hgl
                have hry1 := range_below hry kd hgl
                have HK1 := Lib.hid kd
                clear kd hrs hbx hgl hlt hrv hry
                refine tk9 0 ?_
                refine tk9 1 ?_
                refine tk9 2 ?_
                refine tk9 3 ?_
                refine tk9 4 (hy := yieldsIf_load_mid (by rfl) 32 (.tmp 52) rfl g (o + k * 9 + 2) rfl [.int .i64 x.m.tm, .int .i64 x.m.tc] _ (fun w' hw => hw.1) Try.underlying32 rfl stp_size) ?_
                refine tk9 5 (hy := yieldsIf_load_mid (by rfl) 32 (.tmp 5) rfl w.heap.size 0 rfl [.int .i64 tm, .int .i64 tc] _ (fun w' hw => hw.2.1) Try.underlying32 rfl stp_size) ?_
                refine wpAnyH_ready (rs := [6]) (by kernel_rfl) (by simp) ?_
                refine AllReadyH.cons rfl (fun K hK => ?_) (AllReadyH.nil)
                go_simp
                (go_at_call 20; refine (HC1.out V1).mono ?_; rintro e1 V2 ⟨rfl, k2⟩)
                have hrs2 := range_below hrs1 k2 hgl1
                have hbx2 := range_below hbx1 k2 hlt1
                have HK2 := Lib.hid (HK1.out.trans (k2.mono HK1.out.size))
                have hrv2 := range_below hrv1 k2 hgl1
                have hry2 := range_below hry1 k2 hgl1
                have hgl2 := Nat.lt_of_lt_of_le hgl1 k2.size
                have hlt2 := Nat.lt_of_lt_of_le hlt1 k2.size
                clear k2
                (try dsimp only)
                refine hK.out _ _ ?_ (fun hHeld => ?_)
                · exact ⟨hrs2, hbx2, hrv2, hry2⟩
                clear hK K
                (try simp only [Act.put, List.setIfInBounds_toArray, List.set_cons_zero, List.set_cons_succ, List.getElem_toArray, List.getElem_cons_succ, List.getElem_cons_zero])
                refine tk9 7 ?_
                refine tk9 8 ?_
                refine tk9 9 ?_
                refine tk9 10 ?_
                refine tk9 11 ?_
                refine tk9 12 ?_
                refine tk9 13 ?_
                refine tk9 14 ?_
                refine tk9 15 (hy := yieldsIf_load_mid (by rfl) 35 (.tmp 63) rfl g (o + k * 9 + 2) rfl [.int .i64 x.m.tm, .int .i64 x.m.tc, .int .i64 x.m.nd, .slice x.A x.m.p.length x.c, .bool x.m.gn, .int .i64 x.m.tt] _ (fun w' hw => hw.2.2.1) Try.underlying35 rfl vrs_size) ?_
                refine tk9 16 ?_
                refine tk9 17 ?_
                refine tk9 18 ?_
                refine tk9 19 (hy := yieldsIf_load_mid (by rfl) 35 (.tmp 67) rfl g (o + j * 9 + 2) rfl [.int .i64 y.m.tm, .int .i64 y.m.tc, .int .i64 y.m.nd, .slice y.A y.m.p.length y.c, .bool y.m.gn, .int .i64 y.m.tt] _ (fun w' hw => hw.2.2.2) Try.underlying35 rfl vrs_size) ?_
                refine wpAnyH_ready (rs := [20]) (by kernel_rfl) (by simp) ?_
                refine AllReadyH.cons rfl (fun K hK => ?_) (AllReadyH.nil)
                go_simp
                (go_at_call 48; refine (HC2.out V2).mono ?_; rintro e3 V3 ⟨rfl, k3⟩)
                have hrs3 := range_below hrs2 k3 hgl2
                have hbx3 := range_below hbx2 k3 hlt2
                have hrv3 := range_below hrv2 k3 hgl2
                have hry3 := range_below hry2 k3 hgl2
                have HK3 := Lib.hid (HK2.out.trans (k3.mono HK2.out.size))
                clear k3
                (try dsimp only)
                refine hK.out _ _ ?_ (fun hHeld => ?_)
                · exact ⟨hrs3, hbx3, hrv3, hry3⟩
                clear hK K
                (try simp only [Act.put, List.setIfInBounds_toArray, List.set_cons_zero, List.set_cons_succ, List.getElem_toArray, List.getElem_cons_succ, List.getElem_cons_zero])
                refine tk9 21 ?_
                refine tk9 22 ?_
                refine tk9 23 ?_
                refine tk9 24 ?_
                refine wpAnyH_done (by kernel_rfl) ?_ _
                clear hHeld
                go_wp2_with fail
                go_meet
                exact ⟨HES.out, HFIN.out, HK3.out⟩
            · as_aux_lemma =>
              have hcd : decide (q ≤ 0) = false := decide_eq_false hc
              have HFIN : Hid (Value.bool false = .bool bq) := Lib.hid (by rw [← hq0, hcd]; rfl)
              clear hc hq0 hrg c1 c8
              refine wp_region_held_drew (S := fun w' => w'.rangeAt g (o + k * 9 + 2) [.int .i64 x.m.tm, .int .i64 x.m.tc] ∧ w'.rangeAt w.heap.size 0 [.int .i64 tm, .int .i64 tc]) (by kernel_rfl) ?_ (fun hHeld => ?_)
              · exact ⟨hrs, hbx⟩
              have kd : Below wr.heap.size wr wr.drew := (Below.refl _ _).drew
              obtain ⟨V1, hV1⟩ : ∃ V1, wr.drew = V1 := ⟨_, rfl⟩
              rw [hV1] at kd hHeld ⊢
              clear hV1
              have hrs1 := range_below hrs kd hgl
              have hbx1 := range_below hbx kd hlt
              have hgl1 := Nat.lt_of_lt_of_le hgl kd.size
              have hlt1 := Nat.lt_of_lt_of_le hlt kd.size
              have HK1 := Lib.hid kd
              clear kd hrs hbx hgl hlt hrv
              refine tk9 0 ?_
              refine tk9 1 ?_
              refine tk9 2 ?_
              refine tk9 3 ?_
              refine tk9 4 (hy := yieldsIf_load_mid (by rfl) 32 (.tmp 52) rfl g (o + k * 9 + 2) rfl [.int .i64 x.m.tm, .int .i64 x.m.tc] _ (fun w' hw => hw.1) Try.underlying32 rfl stp_size) ?_
              refine tk9 5 (hy := yieldsIf_load_mid (by rfl) 32 (.tmp 5) rfl w.heap.size 0 rfl [.int .i64 tm, .int .i64 tc] _ (fun w' hw => hw.2) Try.underlying32 rfl stp_size) ?_
              refine wpAnyH_ready (rs := [6]) (by kernel_rfl) (by simp) ?_
              refine AllReadyH.cons rfl (fun K hK => ?_) (AllReadyH.nil)
              go_simp
              (go_at_call 20; refine (HC1.out V1).mono ?_; rintro e1 V2 ⟨rfl, k2⟩)
              have hrs2 := range_below hrs1 k2 hgl1
              have hbx2 := range_below hbx1 k2 hlt1
              have HK2 := Lib.hid (HK1.out.trans (k2.mono HK1.out.size))
              clear k2
              (try dsimp only)
              refine hK.out _ _ ?_ (fun hHeld => ?_)
              · exact ⟨hrs2, hbx2⟩
              clear hK K
              (try simp only [Act.put, List.setIfInBounds_toArray, List.set_cons_zero, List.set_cons_succ, List.getElem_toArray, List.getElem_cons_succ, List.getElem_cons_zero])
              refine tk9 7 ?_
              refine tk9 8 ?_
              refine tk9 (v := undef) 9 (hy := Or.inr ⟨by rfl, rfl⟩) ?_
              refine tk9 (v := undef) 10 (hy := Or.inr ⟨by rfl, rfl⟩) ?_
              refine tk9 (v := undef) 11 (hy := Or.inr ⟨by rfl, rfl⟩) ?_
              refine tk9 (v := undef) 12 (hy := Or.inr ⟨by rfl, rfl⟩) ?_
              refine tk9 (v := undef) 13 (hy := Or.inr ⟨by rfl, rfl⟩) ?_
              refine tk9 (v := undef) 14 (hy := Or.inr ⟨by rfl, rfl⟩) ?_
              refine tk9 (v := undef) 15 (hy := Or.inr ⟨by rfl, rfl⟩) ?_
              refine tk9 (v := undef) 16 (hy := Or.inr ⟨by rfl, rfl⟩) ?_
              refine tk9 (v := undef) 17 (hy := Or.inr ⟨by rfl, rfl⟩) ?_
              refine tk9 (v := undef) 18 (hy := Or.inr ⟨by rfl, rfl⟩) ?_
              refine tk9 (v := undef) 19 (hy := Or.inr ⟨by rfl, rfl⟩) ?_
              refine tk9 (v := undef) 20 (hy := Or.inr ⟨by rfl, rfl⟩) ?_
              refine tk9 (v := undef) 21 (hy := Or.inr ⟨by rfl, rfl⟩) ?_
              refine tk9 (v := undef) 22 (hy := Or.inr ⟨by rfl, rfl⟩) ?_
              refine tk9 23 ?_
              refine tk9 24 ?_
              refine wpAnyH_done (by kernel_rfl) ?_ _
              clear hHeld
              go_wp2_with fail
              go_meet
              exact ⟨rfl, HFIN.out, HK2.out⟩
          case rest =>
          obtain ⟨rfl, rfl, k13⟩ := hcut
          generalize wc = V1 at *
          have HVW1 := Lib.hid (HVW.out.below k13)
          have HB1 := Lib.hid (HB.out.trans (k13.mono HB.out.size))
          have hbx1 := range_below hbx k13 hlt
          have hlt1 := Nat.lt_of_lt_of_le hlt k13.size
          clear k13 hbx hlt hrs hrv hrg hgl c1 c8
          cases bq
          · as_aux_lemma =>
            have HNE : Hid (nsN MM key tm tc (k + 1) = st) := Lib.hid (by rw [HNX.out]; unfold stepN; rw [if_pos HKEY.out, if_neg (by rw [HUN.out]; simp), if_neg (by rw [HBQ.out]; simp)])
            go_wp2_with fail
            go_roundw
            case rel => exact ⟨k + 1, Vl, by have := H1.out; omega, by simp, by rw [HNE.out], by rw [HNE.out], HVW1.out, by rw [HNE.out]; exact HVM.out, HB1.out, hbx1, hlt1, HNB.out⟩
            all_goals ((try simp only [intOf]); have := H1.out; omega)
          · as_aux_lemma =>
            have HNE : Hid (nsN MM key tm tc (k + 1) = ⟨some k, st.vs, st.un⟩) := Lib.hid (by rw [HNX.out]; unfold stepN; rw [if_pos HKEY.out, if_neg (by rw [HUN.out]; simp), if_pos HBQ.out])
            go_wp2_with fail
            go_roundw
            case rel => exact ⟨k + 1, Vl, by have := H1.out; omega, by simp, by rw [HNE.out]; rfl, by rw [HNE.out], HVW1.out, by rw [HNE.out]; exact HVM.out, HB1.out, hbx1, hlt1, HNB.out⟩
            all_goals ((try simp only [intOf]); have := H1.out; omega)
      · as_aux_lemma =>
        have hkb : (x.m.key.toList == key.toList) = false := by rw [beq_eq_false_iff_ne]; exact fun h => hkey (tl_inj h)
        have HNE : Hid (nsN MM key tm tc (k + 1) = st) := Lib.hid (by rw [HNX.out]; unfold stepN; rw [if_neg hkey])
        clear hkey
        go_wp2_with fail
        go_roundw
        case rel => exact ⟨k + 1, Vl, by have := H1.out; omega, by simp, by rw [HNE.out], by rw [HNE.out], HVW.out, by rw [HNE.out]; exact HVM.out, HB.out, hbx, hlt, HNB.out⟩
        all_goals ((try simp only [intOf]); have := H1.out; omega)
    · obtain rfl : k = L.length := by omega
      have t1 : decide ((L.length : Int) < (L.length : Int)) = false := by simp
      clear h1 hk
      have HVV : Hid (nsN MM key tm tc MM.length = st) := Lib.hid (by rw [HML.out]; exact HST.out)
      have HSL : Hid (∀ j, st.su = some j → j < L.length) := Lib.hid (fun j hj => nsN_lt MM key tm tc L.length j (by rw [HST.out]; exact hj))
      go_upto_region 16 with fail
      cases hs : st.su with
      | none =>
        as_aux_lemma =>
        have HNP := Lib.hid (newP_none HVV.out hs)
        rw [show suP g o none = .pointer none from rfl]
        clear hs
        refine wp_region_held_drew (S := fun w' => w'.rangeAt w.heap.size 0 [.int .i64 tm, .int .i64 tc]) (by kernel_rfl) ?_ (fun hHeld => ?_)
        · exact hbx
        have kd : Below wr.heap.size wr wr.drew := (Below.refl _ _).drew
        obtain ⟨V1, hV1⟩ : ∃ V1, wr.drew = V1 := ⟨_, rfl⟩
        rw [hV1] at kd hHeld ⊢
        clear hV1
        have HK1 := Lib.hid kd
        clear kd
        refine tk9 0 ?_
        refine tk9 1 ?_
        refine tk9 2 ?_
        refine tk9 (v := undef) 3 (hy := Or.inr ⟨by rfl, rfl⟩) ?_
        refine tk9 (v := undef) 4 (hy := Or.inr ⟨by rfl, rfl⟩) ?_
        refine tk9 (v := undef) 5 (hy := Or.inr ⟨by rfl, rfl⟩) ?_
        refine tk9 (v := undef) 6 (hy := Or.inr ⟨by rfl, rfl⟩) ?_
        refine tk9 (v := undef) 7 (hy := Or.inr ⟨by rfl, rfl⟩) ?_
        refine tk9 (v := undef) 8 (hy := Or.inr ⟨by rfl, rfl⟩) ?_
        refine tk9 (v := undef) 9 (hy := Or.inr ⟨by rfl, rfl⟩) ?_
        refine tk9 10 ?_
        refine wpAnyH_done (by kernel_rfl) ?_ _
        clear hHeld
        clear hbx hlt
        go_wp2_with fail
        refine bodyPost_ret (v := .tuple #[.slice Av Vl.length cv, .bool true]) (by simp [results, Try.results36, go_sem]) rfl ⟨⟨_, Vl, by rw [HNP.out], HVW.out.below HK1.out, by rw [HNP.out]; exact HVM.out⟩, HB.out.trans (HK1.out.mono HB.out.size)⟩
      | some j =>
        obtain ⟨y, hy⟩ : ∃ y, L[j]? = some y := ⟨_, List.getElem?_eq_getElem (HSL.out j hs)⟩
        obtain ⟨g', o', he, hgl, hrgy⟩ := (HR.out.below HB.out).at_ hy
        injection he with he
        injection he with e1 e2
        subst e1 e2
        have hry := wq_ver hrgy
        obtain ⟨hpb, hpn, hpl⟩ := (HR.out.below HB.out).by_ y (List.mem_of_getElem? hy)
        have HPB := Lib.hid hpb
        have HPN := Lib.hid hpn
        have HPL := Lib.hid hpl
        have HYM := Lib.hid (HMA.out j y hy)
        have HSS := Lib.hid hs
        obtain ⟨sq, hsq⟩ : ∃ b, seenQ y.m.tm y.m.tc y.m.gn y.m.tt tm tc = b := ⟨_, rfl⟩
        have hsn := fun W : World => seen_any y.m.tm y.m.tc y.m.nd y.A y.m.p.length y.c y.m.gn y.m.tt tm tc W
        rw [hsq] at hsn
        have HSN := Lib.hid hsn
        have HSQ := Lib.hid hsq
        rw [show suP g o (some j) = .pointer (some ⟨g, o + j * 9, none⟩) from rfl]
        clear hs hy hrgy hpb hpn hpl hsn hsq
        refine wp_region_held_drew (S := fun w' => w'.rangeAt w.heap.size 0 [.int .i64 tm, .int .i64 tc] ∧ w'.rangeAt g (o + j * 9 + 2) [.int .i64 y.m.tm, .int .i64 y.m.tc, .int .i64 y.m.nd, .slice y.A y.m.p.length y.c, .bool y.m.gn, .int .i64 y.m.tt]) (by kernel_rfl) ?_ (fun hHeld => ?_)
        · exact ⟨hbx, hry⟩
        have kd : Below wr.heap.size wr wr.drew := (Below.refl _ _).drew
        obtain ⟨V1, hV1⟩ : ∃ V1, wr.drew = V1 := ⟨_, rfl⟩
        rw [hV1] at kd hHeld ⊢
        clear hV1
        have HK1 := Lib.hid kd
        have hbx1 := range_below hbx kd hlt
        have hry1 := range_below hry kd hgl
        have hlt1 := Nat.lt_of_lt_of_le hlt kd.size
        have hgl1 := Nat.lt_of_lt_of_le hgl kd.size
        clear kd
        refine tk9 0 ?_
        refine tk9 1 ?_
        refine tk9 2 ?_
        refine tk9 3 ?_
        refine tk9 4 ?_
        refine tk9 5 ?_
        refine tk9 6 (hy := yieldsIf_load_mid (by rfl) 35 (.tmp 80) rfl g (o + j * 9 + 2) rfl [.int .i64 y.m.tm, .int .i64 y.m.tc, .int .i64 y.m.nd, .slice y.A y.m.p.length y.c, .bool y.m.gn, .int .i64 y.m.tt] _ (fun w' hw => hw.2) Try.underlying35 rfl vrs_size) ?_
        refine tk9 7 (hy := yieldsIf_load_mid (by rfl) 32 (.tmp 5) rfl w.heap.size 0 rfl [.int .i64 tm, .int .i64 tc] _ (fun w' hw => hw.1) Try.underlying32 rfl stp_size) ?_
        refine wpAnyH_ready (rs := [8]) (by kernel_rfl) (by simp) ?_
        refine AllReadyH.cons rfl (fun K hK => ?_) (AllReadyH.nil)
        go_simp
        (go_at_call 49; refine (HSN.out V1).mono ?_; rintro e1 V2 ⟨rfl, k2⟩)
        have hbx2 := range_below hbx1 k2 hlt1
        have hry2 := range_below hry1 k2 hgl1
        have HK2 := Lib.hid (HK1.out.trans (k2.mono HK1.out.size))
        have hgl2 := Nat.lt_of_lt_of_le hgl1 k2.size
        clear k2
        (try dsimp only)
        refine hK.out _ _ ?_ (fun hHeld => ?_)
        · exact ⟨hbx2, hry2⟩
        clear hK K
        (try simp only [Act.put, List.setIfInBounds_toArray, List.set_cons_zero, List.set_cons_succ, List.getElem_toArray, List.getElem_cons_succ, List.getElem_cons_zero])
        refine tk9 9 ?_
        refine tk9 10 ?_
        refine wpAnyH_done (by kernel_rfl) ?_ _
        clear hHeld
        have HVW2 := Lib.hid (HVW.out.below HK2.out)
        have HB2 := Lib.hid (HB.out.trans (HK2.out.mono HB.out.size))
        have hzr : wr.heap.size ≤ V2.heap.size := HK2.out.size
        clear hbx hlt hbx1 hlt1 hry hry1 hgl hgl1 hbx2
        cases sq
        · as_aux_lemma =>
          have HNP := Lib.hid (newP_no HVV.out HSS.out HYM.out HSQ.out)
          clear hry2 hgl2
          go_wp2_with fail
          refine bodyPost_ret (v := .tuple #[.slice Av Vl.length cv, .bool true]) (by simp [results, Try.results36, go_sem]) rfl ⟨⟨_, by rw [HNP.out], Vl, HVW2.out, by rw [HNP.out]; exact HVM.out⟩, HB2.out⟩
        · as_aux_lemma =>
          have HNP := Lib.hid (newP_yes HVV.out HSS.out HYM.out HSQ.out)
          have c5 : V2.cell? ⟨g, o + j * 9 + 2 + 3, none⟩ = some (.slice y.A y.m.p.length y.c) := hry2 3 _ rfl
          have HCL := Lib.hid (bytes_clone y.A y.m.p y.c V2 (HPB.out.below HK2.out) HPN.out HPL.out)
          clear hry2
          go_upto_region 18 with fail
          refine wp_region_lit ?_
          refine wpList_plain rfl (fun KK hKK => ?_)
          go_simp
          refine hKK _ _ ?_
          refine wpList_plain rfl (fun KK hKK => ?_)
          go_simp
          refine hKK _ _ ?_
          refine wpList_plain rfl (fun KK hKK => ?_)
          go_simp
          refine hKK _ _ ?_
          refine wpList_plain rfl (fun KK hKK => ?_)
          go_simp
          refine hKK _ _ ?_
          refine wpList_plain rfl (fun KK hKK => ?_)
          go_simp
          refine hKK _ _ ?_
          refine wpList_plain rfl (fun KK hKK => ?_)
          go_simp
          refine hKK _ _ ?_
          refine wpList_plain rfl (fun KK hKK => ?_)
          go_simp
          (go_at_call 14; refine HCL.out.mono ?_; rintro e2 V3 ⟨v3, rfl, ho3, k3⟩)
          obtain ⟨A3, c3, rfl, hl3, hby3, hn3, ha3⟩ := own8_shape ho3
          refine hKK _ _ ?_
          refine wpList_plain rfl (fun KK hKK => ?_)
          go_simp
          refine hKK _ _ ?_
          have kA : Below V3.heap.size V3 (V3.alloc (.cells #[.slice A3 y.m.p.length c3] 33)) := (Below.refl _ _).alloc (Nat.le_refl _) _
          have HV3 := Lib.hid ((HVW2.out.below k3).below kA)
          have HB3 := Lib.hid ((HB2.out.trans (k3.mono HB2.out.size)).trans (kA.mono (Nat.le_trans HB2.out.size k3.size)))
          have hlw : ∀ j, (Value.slice Av Vl.length cv).ownBlock = some j → w.heap.size ≤ j ∧ j < wr.heap.size := fun j hj => World.ownsRow.lt HVW.out.row j hj
          have hz3 : V2.heap.size ≤ V3.heap.size := k3.size
          have hblk : (V3.alloc (.cells #[.slice A3 y.m.p.length c3] 33)).heap[V3.heap.size]? = some (.cells #[(⟨y.m.p, A3, c3⟩ : Vq).cell] 33) := heap_alloc_new V3 (.cells #[.slice A3 y.m.p.length c3] 33)
          have HIN := Lib.hid (HI.out w.heap.size (.slice Av Vl.length cv) Vl ⟨y.m.p, A3, c3⟩ V3.heap.size 1 (V3.alloc (.cells #[.slice A3 y.m.p.length c3] 33)) HV3.out HVL.out HB3.out.size hblk (fun q => by have := (hlw _ q).2; omega) (ByL.below hby3 kA) hn3 (fun ad ha => ⟨by have h1 := (ha3 ad ha).1; have h2 := HB2.out.size; show w.heap.size ≤ ad.block; omega, Nat.lt_of_lt_of_le (ha3 ad ha).2 kA.size, fun q => by have h1 := (hlw _ q).2; have h2 := (ha3 ad ha).1; omega⟩))
          have HLW := Lib.hid hlw
          clear ho3 hl3 hby3 hn3 ha3 k3 kA hblk hlw HCL c5
          refine wpList_plain rfl (fun KK hKK => ?_)
          go_simp
          (go_at_call 50; refine HIN.out.mono ?_; rintro e4 V4 ⟨⟨v4, rfl, hw4⟩, hb4⟩)
          have HW4 := Lib.hid hw4
          have HB4 := Lib.hid (HB3.out.trans (hb4.below (fun i hi => (HLW.out i hi).1) HB3.out.size))
          clear hw4 hb4 HIN
          refine hKK _ _ ?_
          refine wpList_plain rfl (fun KK hKK => ?_)
          go_simp
          refine hKK _ _ ?_
          refine wpList_plain rfl (fun KK hKK => ?_)
          go_simp
          refine hKK _ _ ?_
          refine wpList_plain rfl (fun KK hKK => ?_)
          go_simp
          refine hKK _ _ ?_
          refine wpList_nil ?_
          go_wp2_with fail
          refine bodyPost_ret (v := .tuple #[v4, .bool st.un]) (by simp [results, Try.results36, go_sem]) rfl ⟨⟨_, by rw [HNP.out], ⟨y.m.p, A3, c3⟩ :: Vl, HW4.out, by rw [HNP.out, List.map_cons, HVM.out]⟩, HB4.out⟩
end Go.Proofs.Ytdjhpajmbddffaa
