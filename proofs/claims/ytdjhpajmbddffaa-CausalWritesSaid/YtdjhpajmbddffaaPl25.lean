/- Stage 25: the law's plain: a row of the reference's events (written by gen/pl25.py). -/
import Derived.Test.YtdjhpajmbddffaaEv25
import Derived.Test.YtdjhpajmbddffaaWm25
set_option linter.unusedSimpArgs false
set_option linter.unusedVariables false
namespace Go.Proofs.Ytdjhpajmbddffaa
open Go.RowKit

theorem fillN (n : Nat) (hn : 0 < n) (i0 : TypeInfo) (hs : i0.size = n) (z : Value) (C : List Value) (hC : C.length = n) : Instr.fill (fun i => some (i * i0.size, i0.size)) ((Array.range (1 * i0.size)).map (z.cells[· % z.cells.size]!)) [(0, .agg C.toArray)] = some C.toArray := by
  rw [hs]
  obtain ⟨r, h1, h2, h3⟩ := Great.fill_dense (s := n) hn [.agg C.toArray] 0 ((Array.range (1 * n)).map (z.cells[· % z.cells.size]!)) (by intro v hv; simp at hv; subst hv; simpa [Value.cells] using hC) (by simp)
  have hr : r = C.toArray := by
    apply Array.ext_getElem?
    intro k
    rw [h3 k]
    by_cases hk : k < n
    · rw [if_pos (by simp; omega)]
      have e1 : k / n = 0 := Nat.div_eq_of_lt hk
      have e2 : k % n = k := Nat.mod_eq_of_lt hk
      simp [e1, e2, Value.cells]
    · rw [if_neg (by simp; omega), Array.getElem?_eq_none (by simp; omega), Array.getElem?_eq_none (by simp; omega)]
  subst hr
  exact h1
theorem rev_info : (Try.prog.info? 60).map (fun i => (i.zero, i.size, i.bytes)) = some (some (.agg #[.int .i64 0, .int .i64 0, .int .i64 0, .int .i64 0, .int .i64 0, .int .u8 0, .int .i64 0, .int .i64 0, .string ⟨#[]⟩, .string ⟨#[]⟩, .slice none 0 0, .int .i64 0, .int .i64 0, .int .i64 0, .int .i64 0, .bool false, .slice none 0 0, .slice none 0 0]), 18, 208) := by kernel_rfl
theorem build_y {P : Program} {ops : Array Oper} {S : World → Prop} {o : Oper} {a : Go.Act} (hw : Region.wanted o (yielded ops a.tmps) = true) (t : TypeId) (parts : Array (Nat × Operand)) (ho : o.op = .build t parts) (vs : List (Nat × Value))
    (hv : (parts.map fun (i, x) => (i, a.eval x)).toList = vs) (cells : Array Value) (hb : P.built t vs = some cells) : YieldsIf P ops S o (.agg cells) a :=
  .inl ⟨hw, fun w _ => by
    unfold execOp
    simp only [ho, Sem.run_bind]
    rw [run_build w t _ cells (by rw [hv]; exact hb)]
    rfl⟩
theorem bld58 (er an tm tc : Int) (fd : Bool) (B P : Option Addr) (bl bc pl pc : Nat) : (Try.prog).built 58 [(0, .int .i64 er), (1, .int .i64 an), (2, .agg #[.int .i64 tm, .int .i64 tc]), (3, .bool fd), (4, .slice B bl bc), (5, .slice P pl pc)] = some #[.int .i64 er, .int .i64 an, .int .i64 tm, .int .i64 tc, .bool fd, .slice B bl bc, .slice P pl pc] := by kernel_rfl
theorem bld60 (e : Ev) : (Try.prog).built 60 [(0, .int .i64 e.who), (1, .agg #[.int .i64 e.kd, .int .i64 e.nd, .int .i64 e.n, .int .i64 e.m, .int .u8 e.by_, .int .i64 e.sm, .int .i64 e.sc, .string e.key, .string e.hi, .slice e.A e.vl e.vc]), (2, .agg #[.int .i64 e.er, .int .i64 e.an, .int .i64 e.tm, .int .i64 e.tc, .bool e.fd, .slice e.B e.bl e.bc, .slice e.P e.pl e.pc])] = some e.cs.toArray := by kernel_rfl
theorem row_shapeE {w : World} {base n : Nat} {v : Value} {xs : List Value} (h : w.ownsRow base 60 18 v n xs) : ∃ A c, v = .slice A n c := by
  rcases h.2 with ⟨e, h0⟩ | ⟨g, cap, cur, e, _⟩
  · exact ⟨none, 0, by rw [e, h0]⟩
  · exact ⟨_, _, e⟩
set_option maxRecDepth 100000 in
set_option maxHeartbeats 16000000 in
theorem law_plain25 (B O c : Nat) (L : List Ev) (w : World) (h : RowE w B O L) (hl : L.length ≤ 1000) :
    Calls Try.prog 9 #[.slice (some ⟨B, O, none⟩) L.length c] w fun e' w' => (∃ v, e' = .returned v ∧ w'.ownsRow w.heap.size 60 18 v L.length (L.flatMap Ev.cs)) ∧ Below w.heap.size w w' := by
  obtain ⟨i0, hi0, hz0, hz1, hz2⟩ := info_parts rev_info
  have HR := Lib.hid h
  clear h
  go_enter Try.func9, Try.ntmps9
  go_wp2_with fail
  go_loopw [4, 3] (fun i v wr => ∃ k : Nat, k ≤ L.length ∧ i = .int .i64 (k : Int) ∧ wr.ownsRow w.heap.size 60 18 v k ((L.take k).flatMap Ev.cs) ∧ Below w.heap.size w wr) (fun i _ _ => (1001 - intOf i).toNat)
  case atStart => exact ⟨0, by omega, by simp, World.ownsRow_nil _ _ _ _, Below.refl _ _⟩
  case round =>
    obtain ⟨k, hk, rfl, hrw, hb⟩ := hrel
    have HB := Lib.hid hb
    have wk : IntKind.i64.wrap ((k : Int) + 1) = (k : Int) + 1 := IntWalk.i64_in _ (by omega)
    obtain ⟨Av, cv, rfl⟩ := row_shapeE hrw
    have HRW := Lib.hid hrw
    clear hb hrw
    by_cases h1 : k < L.length
    · as_aux_lemma =>
      have t1 : decide ((k : Int) < (L.length : Int)) = true := by simpa using h1
      have hki : (k : Int) < (L.length : Int) := by omega
      obtain ⟨e, he⟩ : ∃ e, L[k]? = some e := ⟨_, List.getElem?_eq_getElem h1⟩
      have hrg := Ev.range (HR.out.below HB.out) he
      have hB : B < wr.heap.size := (HR.out.below HB.out).1
      have HE := Lib.hid he
      have H1 := Lib.hid h1
      have hst : wr.rangeAt B (O + k * 18 + 1) e.st := fun j u hu => by
        have := hrg (1 + j) u (by rw [e.st_eq, List.getElem?_take] at hu; split at hu; · rwa [List.getElem?_drop] at hu
                                  · cases hu)
        rwa [← Nat.add_assoc] at this
      have han : wr.rangeAt B (O + k * 18 + 11) e.an_ := fun j u hu => by
        have := hrg (11 + j) u (by rw [e.an_eq, List.getElem?_take] at hu; split at hu; · rwa [List.getElem?_drop] at hu
                                   · cases hu)
        rwa [← Nat.add_assoc] at this
      have hwho : wr.cell? ⟨B, O + k * 18, none⟩ = some (.int .i64 e.who) := hrg 0 _ rfl
      clear he hk hrg h1
      go_upto_region 5 with fail
      refine wp_region_lit ?_
      refine wpList_plain rfl (fun KK hKK => ?_)
      go_simp
      refine hKK _ _ ?_
      refine wpList_plain rfl (fun KK hKK => ?_)
      go_simp
      refine hKK _ _ ?_
      refine wpList_plain rfl (fun KK hKK => ?_)
      go_simp
      refine hKK _ _ ?_
      refine wpList_plain rfl (fun KK hKK => ?_)
      go_simp
      refine hKK _ _ ?_
      refine wpList_load_mid rfl 45 (.tmp 15) rfl B (O + k * 18 + 11) rfl e.an_ _ han Try.underlying45 rfl an_info ?_
      refine wpList_plain rfl (fun KK hKK => ?_)
      go_simp
      refine hKK _ _ ?_
      refine wpList_store_new25 rfl 45 (.tmp 5) (.tmp 16) rfl #[.int .i64 0, .int .i64 0, .int .i64 0, .int .i64 0, .bool false, .slice none 0 0, .slice none 0 0] e.an_.toArray rfl rfl an_info rfl e.an_one ?_
      refine wpList_nil ?_
      obtain ⟨V0, hV0⟩ : ∃ V, wr.alloc (.cells e.an_.toArray 45) = V := ⟨_, rfl⟩
      have rx := range_new wr e.an_ 45
      have k0 : Below wr.heap.size wr V0 := by rw [← hV0]; exact (Below.refl _ _).alloc (Nat.le_refl _) _
      have l0 : wr.heap.size < V0.heap.size := by rw [← hV0]; simp
      rw [hV0] at rx ⊢
      clear hV0 han
      replace hst := range_below hst k0 hB
      replace hwho := (k0.cell (p := ⟨B, O + k * 18, none⟩) hB).trans hwho
      replace hB := Nat.lt_of_lt_of_le hB k0.size
      have HK0 := Lib.hid k0
      clear k0
      generalize hg5 : wr.heap.size = g5 at rx l0 ⊢
      have HG5 := Lib.hid hg5
      clear hg5
      go_upto_region 6 with fail
      refine wp_region_held_drew (S := fun w' => w'.cell? ⟨B, O + k * 18, none⟩ = some (.int .i64 e.who) ∧ w'.rangeAt B (O + k * 18 + 1) [.int .i64 e.kd, .int .i64 e.nd, .int .i64 e.n, .int .i64 e.m, .int .u8 e.by_, .int .i64 e.sm, .int .i64 e.sc, .string e.key, .string e.hi, .slice e.A e.vl e.vc] ∧ w'.cell? ⟨g5, 0, none⟩ = some (.int .i64 e.er) ∧ w'.cell? ⟨g5, 1, none⟩ = some (.int .i64 e.an) ∧ w'.cell? ⟨g5, 2, none⟩ = some (.int .i64 e.tm) ∧ w'.cell? ⟨g5, 3, none⟩ = some (.int .i64 e.tc) ∧ w'.cell? ⟨g5, 4, none⟩ = some (.bool e.fd) ∧ w'.cell? ⟨g5, 5, none⟩ = some (.slice e.B e.bl e.bc) ∧ w'.cell? ⟨g5, 6, none⟩ = some (.slice e.P e.pl e.pc)) (by kernel_rfl) ?_ (fun hHeld => ?_)
      · exact ⟨hwho, hst, rx 0 _ rfl, rx 1 _ rfl, rx 2 _ rfl, rx 3 _ rfl, rx 4 _ rfl, rx 5 _ rfl, rx 6 _ rfl⟩
      have k1 : Below V0.heap.size V0 V0.drew := (Below.refl _ _).drew
      obtain ⟨V1, hV1⟩ : ∃ V1, V0.drew = V1 := ⟨_, rfl⟩
      rw [hV1] at k1 hHeld ⊢
      clear hV1
      replace rx := range_below rx k1 l0
      replace hst := range_below hst k1 hB
      replace hwho := (k1.cell (p := ⟨B, O + k * 18, none⟩) hB).trans hwho
      replace hB := Nat.lt_of_lt_of_le hB k1.size
      replace l0 := Nat.lt_of_lt_of_le l0 k1.size
      have HK1 := Lib.hid (HK0.out.trans (k1.mono HK0.out.size))
      clear k1
      refine tk9 0 ?_
      refine tk9 1 ?_
      refine tk9 2 ?_
      refine tk9 3 ?_
      refine tk9 4 ?_
      refine tk9 5 ?_
      refine tk9 6 ?_
      refine tk9 7 ?_
      refine tk9 8 ?_
      refine tk9 9 ?_
      refine tk9 10 (hy := yieldsIf_load_mid (by rfl) 41 (.tmp 26) rfl B (O + k * 18 + 1) rfl [.int .i64 e.kd, .int .i64 e.nd, .int .i64 e.n, .int .i64 e.m, .int .u8 e.by_, .int .i64 e.sm, .int .i64 e.sc, .string e.key, .string e.hi, .slice e.A e.vl e.vc] _ (fun w' hw => hw.2.1) Try.underlying41 rfl st_info) ?_
      refine tk9 11 ?_
      refine tk9 12 ?_
      refine tk9 13 ?_
      refine tk9 14 ?_
      refine tk9 15 ?_
      refine tk9 16 ?_
      refine tk9 17 ?_
      refine tk9 18 ?_
      refine tk9 19 ?_
      refine tk9 20 ?_
      refine tk9 21 ?_
      refine tk9 22 ?_
      refine tk9 23 (hy := build_y (by rfl) 58 _ rfl _ (by rw [Array.toList_map]; rfl) _ (bld58 e.er e.an e.tm e.tc e.fd e.B e.P e.bl e.bc e.pl e.pc)) ?_
      refine tk9 24 (hy := build_y (by rfl) 60 _ rfl _ (by rw [Array.toList_map]; rfl) _ (bld60 e)) ?_
      refine wpAnyH_ready (rs := [25]) (by kernel_rfl) (by simp) ?_
      refine AllReadyH.cons rfl (fun K hK => ?_) (AllReadyH.nil)
      rw [if_pos (by rfl)]
      refine wp_buildSlice 28 60 1 _ rfl e.cs.toArray i0 _ Try.underlying28 hi0 hz0 (by rw [hz1]; omega) (by rw [hz1]; omega) (by rw [Array.toList_map]; exact fillN 18 (by omega) i0 hz1 (.agg #[.int .i64 0, .int .i64 0, .int .i64 0, .int .i64 0, .int .i64 0, .int .u8 0, .int .i64 0, .int .i64 0, .string ⟨#[]⟩, .string ⟨#[]⟩, .slice none 0 0, .int .i64 0, .int .i64 0, .int .i64 0, .int .i64 0, .bool false, .slice none 0 0, .slice none 0 0]) e.cs e.len) ?_
      obtain ⟨V2, hV2⟩ : ∃ V, V1.alloc (.cells e.cs.toArray 60) = V := ⟨_, rfl⟩
      have ry : V2.rangeAt V1.heap.size 0 e.cs := by rw [← hV2]; exact range_new _ _ _
      have k2 : Below V1.heap.size V1 V2 := by rw [← hV2]; exact (Below.refl _ _).alloc (Nat.le_refl _) _
      rw [hV2]
      clear hV2
      replace rx := range_below rx k2 l0
      replace hst := range_below hst k2 hB
      replace hwho := (k2.cell (p := ⟨B, O + k * 18, none⟩) hB).trans hwho
      replace hB := Nat.lt_of_lt_of_le hB k2.size
      replace l0 := Nat.lt_of_lt_of_le l0 k2.size
      have HK2 := Lib.hid (HK1.out.trans (k2.mono HK1.out.size))
      clear k2
      refine hK.out _ _ ?_ (fun hHeld => ?_)
      · exact ⟨hwho, hst, rx 0 _ rfl, rx 1 _ rfl, rx 2 _ rfl, rx 3 _ rfl, rx 4 _ rfl, rx 5 _ rfl, rx 6 _ rfl⟩
      clear hK K
      (try simp only [Act.put, List.setIfInBounds_toArray, List.set_cons_zero, List.set_cons_succ, List.getElem_toArray, List.getElem_cons_succ, List.getElem_cons_zero])
      generalize V1.heap.size = y at *
      have HRY := Lib.hid ry
      have HR2 := Lib.hid ((But.of_below (S := fun _ => False) HK2.out).row HRW.out (fun _ _ hf => hf))
      have hnb : w.heap.size ≤ V2.heap.size := Nat.le_trans HB.out.size HK2.out.size
      refine wpAnyH_ready (rs := [26]) (by kernel_rfl) (by simp) ?_
      refine AllReadyH.cons rfl (fun K hK => ?_) (AllReadyH.nil)
      refine step_append_lies _ rfl (.tmp 17) (.tmp 42) _ rfl w.heap.size 60 i0 _ 18 208 Try.underlying28 hi0 hz0 hz1 hz2 rfl (by decide) (.slice Av k cv) k ((L.take k).flatMap Ev.cs) rfl HR2.out ⟨y, 0, none⟩ 1 1 e.cs rfl e.len (fun j u hu => by rw [Addr.add_mid]; exact HRY.out j u hu) (by simp [Ev.cs, Value.oneCell']) (by omega) (by unfold maxLen; omega) (by have := H1.out; omega) hnb _ rfl ?_
      intro g2 cap2 V3 hown hg hat _
      have hlw : ∀ j, (Value.slice Av k cv).ownBlock = some j → w.heap.size ≤ j ∧ j < wr.heap.size := fun j hj => World.ownsRow.lt HRW.out j hj
      have HBF := Lib.hid ((HB.out.trans (HK2.out.mono HB.out.size)).grown hg hnb (fun j hj => (hlw j hj).1))
      have hbt : But (fun i => (Value.slice Av k cv).ownBlock = some i) V2 V3 := But.of_grown hg (fun i hi => hi)
      have HBT := Lib.hid (And.intro hbt hlw)
      have HOW : Hid (V3.ownsRow w.heap.size 60 18 (.slice (some ⟨g2, 0, none⟩) (k + 1) cap2) (k + 1) ((L.take (k + 1)).flatMap Ev.cs)) := Lib.hid (by
        have ht : L.take (k + 1) = L.take k ++ [e] := by
          have hk := H1.out
          have h2 : L[k]? = some L[k] := List.getElem?_eq_getElem hk
          rw [HE.out] at h2
          rw [List.take_succ_eq_append_getElem hk]
          injection h2 with h3
          rw [h3]
        rw [ht, List.flatMap_append]
        simpa using hown)
      have hnB : ¬ (Value.slice Av k cv).ownBlock = some B := fun q => by have := (hlw _ q).1; have := HR.out.1; omega
      have hnG : ¬ (Value.slice Av k cv).ownBlock = some g5 := fun q => by have := (hlw _ q).2; have := HG5.out; omega
      have hwho3 := (hbt.cell B _ hB hnB).trans hwho
      have hst3 : V3.rangeAt B (O + k * 18 + 1) e.st := fun j u hu => (hbt.cell B _ hB hnB).trans (hst j u hu)
      have rx3 : V3.rangeAt g5 0 e.an_ := fun j u hu => (hbt.cell g5 _ l0 hnG).trans (rx j u hu)
      clear hown hg hat hbt hlw hnB hnG
      refine hK.out _ _ ?_ (fun hHeld => ?_)
      · exact ⟨hwho3, hst3, rx3 0 _ rfl, rx3 1 _ rfl, rx3 2 _ rfl, rx3 3 _ rfl, rx3 4 _ rfl, rx3 5 _ rfl, rx3 6 _ rfl⟩
      clear hK K
      (try simp only [Act.put, List.setIfInBounds_toArray, List.set_cons_zero, List.set_cons_succ, List.getElem_toArray, List.getElem_cons_succ, List.getElem_cons_zero])
      refine tk9 27 ?_
      refine wpAnyH_done (by kernel_rfl) ?_ _
      clear hHeld hwho3 hst3 rx3 hwho hst rx ry hB l0
      go_wp2_with fail
      go_roundw
      case rel => exact ⟨k + 1, by have := H1.out; omega, by simp, by simpa using HOW.out, HBF.out⟩
      all_goals ((try simp only [intOf]); have := H1.out; omega)
    · as_aux_lemma =>
      have t1 : decide ((k : Int) < (L.length : Int)) = false := by simp; omega
      obtain rfl : k = L.length := by omega
      clear hk h1
      rw [List.take_length] at HRW
      go_wp2_with fail
      go_ret
      exact ⟨⟨_, rfl, HRW.out⟩, HB.out⟩
end Go.Proofs.Ytdjhpajmbddffaa
