/- Stage 25: scanned (written by gen/sc25.py). -/
import Derived.Test.YtdjhpajmbddffaaRe25
import Derived.Test.YtdjhpajmbddffaaWi25
import Derived.Test.YtdjhpajmbddffaaArgEv25
import Derived.Test.YtdjhpajmbddffaaTk9
import Derived.Deep.DeepCutAuto
set_option linter.unusedSimpArgs false
set_option linter.unusedVariables false
namespace Go.Proofs.Ytdjhpajmbddffaa
open Go.RowKit

/-- Is a key not above the one ahead of it? -/
def prevLe (Ps : List Pr) (i : Nat) (key : ByteArray) : Bool := match i with
  | 0 => false
  | j + 1 => match Ps[j]? with
    | none => false
    | some y => Op.bytesLess key.toList y.key.toList || key.toList == y.key.toList
def pairOk (ws : List Wm) (e : Ev) (t1 t2 : Int) (Ps : List Pr) (i : Nat) (x : Pr) : Bool := withinP e.key e.hi x.key && (!(prevLe Ps i x.key) && readP (ws.filter (fun m => decide (m.key = x.key))) x.key t1 t2 true x.p)
def pairsP (ws : List Wm) (e : Ev) (t1 t2 : Int) (Ps : List Pr) : Bool := (List.range Ps.length).all (fun i => match Ps[i]? with | none => true | some x => pairOk ws e t1 t2 Ps i x)
theorem pairsP_no {ws : List Wm} {e : Ev} {t1 t2 : Int} {Ps : List Pr} {i : Nat} {x : Pr} (hx : Ps[i]? = some x) (h : pairOk ws e t1 t2 Ps i x = false) : pairsP ws e t1 t2 Ps = false := by
  rw [Bool.eq_false_iff]
  intro q
  have := List.all_eq_true.1 q i (List.mem_range.2 (List.getElem?_eq_some_iff.1 hx).1)
  rw [hx] at this
  rw [show (match some x with | none => true | some x => pairOk ws e t1 t2 Ps i x) = pairOk ws e t1 t2 Ps i x from rfl, h] at this
  cases this
theorem pairsP_yes {ws : List Wm} {e : Ev} {t1 t2 : Int} {Ps : List Pr} (h : ∀ i x, Ps[i]? = some x → pairOk ws e t1 t2 Ps i x = true) : pairsP ws e t1 t2 Ps = true := by
  refine List.all_eq_true.2 (fun i _ => ?_)
  cases hx : Ps[i]? with
  | none => rfl
  | some x => exact h i x hx
theorem pr_at {w : World} {A : Option Addr} {Ps : List Pr} (h : RowG Pr.cs w A Ps) {i : Nat} {x : Pr} (hx : Ps[i]? = some x) : ∃ g o, A = some ⟨g, o, none⟩ ∧ g < w.heap.size ∧ w.cell? ⟨g, o + i * 2, none⟩ = some (.string x.key) ∧ w.cell? ⟨g, o + i * 2 + 1, none⟩ = some (.slice x.A x.p.length x.c) := by
  have hil := (List.getElem?_eq_some_iff.1 hx).1
  obtain ⟨g, o, rfl, hg, hc⟩ := h (by omega)
  have h0 := hc (i * 2 + 0) (.string x.key) (by rw [fm_at Pr.cs 2 Pr.len hx 0 (by omega)]; rfl)
  have h1 := hc (i * 2 + 1) (.slice x.A x.p.length x.c) (by rw [fm_at Pr.cs 2 Pr.len hx 1 (by omega)]; rfl)
  exact ⟨g, o, rfl, hg, by simpa using h0, by rw [← Nat.add_assoc] at h1; exact h1⟩
/-- A row of texts. -/
def StrRow (w : World) (A : Option Addr) (L : List ByteArray) : Prop := 0 < L.length → ∃ g o, A = some ⟨g, o, none⟩ ∧ g < w.heap.size ∧ ∀ i k, L[i]? = some k → w.cell? ⟨g, o + i, none⟩ = some (.string k)
theorem StrRow.below {w w' : World} {A : Option Addr} {L : List ByteArray} (h : StrRow w A L) (k : Below w.heap.size w w') : StrRow w' A L := fun h0 => by
  obtain ⟨g, o, h1, h2, h3⟩ := h h0
  exact ⟨g, o, h1, Nat.lt_of_lt_of_le h2 k.size, fun i x hx => (k.cell (p := ⟨g, o + i, none⟩) h2).trans (h3 i x hx)⟩
/-- How far next goes. -/
def advN (Ps : List Pr) (key : ByteArray) (n : Nat) : Nat := n + ((Ps.drop n).takeWhile (fun x => Op.bytesLess x.key.toList key.toList)).length
def amongN (Ps : List Pr) (key : ByteArray) (n : Nat) : Bool := match Ps[n]? with
  | none => false
  | some x => x.key.toList == key.toList
def keysP (ws : List Wm) (e : Ev) (t1 t2 : Int) (Ps : List Pr) (full : Bool) : Nat → List ByteArray → Bool
  | _, [] => true
  | n, key :: t =>
    if (decide (advN Ps key n = Ps.length) && full) = true then true
    else if (withinP e.key e.hi key && (!(amongN Ps key (advN Ps key n)) && !(readP (ws.filter (fun m => decide (m.key = key))) key t1 t2 false []))) = true then false
    else keysP ws e t1 t2 Ps full (advN Ps key n) t
theorem advN_end {Ps : List Pr} {key : ByteArray} : advN Ps key Ps.length = Ps.length := by unfold advN; rw [List.drop_length]; rfl
theorem advN_step {Ps : List Pr} {key : ByteArray} {q : Nat} {x : Pr} (hx : Ps[q]? = some x) (h : Op.bytesLess x.key.toList key.toList = true) : advN Ps key (q + 1) = advN Ps key q := by
  obtain ⟨hl, rfl⟩ := List.getElem?_eq_some_iff.1 hx
  unfold advN
  rw [List.drop_eq_getElem_cons hl, List.takeWhile_cons, if_pos h, List.length_cons]
  omega
theorem advN_stop {Ps : List Pr} {key : ByteArray} {q : Nat} {x : Pr} (hx : Ps[q]? = some x) (h : Op.bytesLess x.key.toList key.toList = false) : advN Ps key q = q := by
  obtain ⟨hl, rfl⟩ := List.getElem?_eq_some_iff.1 hx
  unfold advN
  rw [List.drop_eq_getElem_cons hl, List.takeWhile_cons, if_neg (by rw [h]; exact Bool.false_ne_true)]
  rfl
def badP (ws : List Wm) (e : Ev) (t1 t2 : Int) (Ps : List Pr) (key : ByteArray) (q : Nat) : Bool := withinP e.key e.hi key && (!(amongN Ps key q) && !(readP (ws.filter (fun m => decide (m.key = key))) key t1 t2 false []))
theorem keysP_out {ws : List Wm} {e : Ev} {t1 t2 : Int} {Ps : List Pr} {key : ByteArray} {t : List ByteArray} {m : Nat} (h : advN Ps key m = Ps.length) : keysP ws e t1 t2 Ps true m (key :: t) = true := by
  unfold keysP
  rw [h, decide_eq_true rfl]
  rfl
theorem keysP_bad {ws : List Wm} {e : Ev} {t1 t2 : Int} {Ps : List Pr} {key : ByteArray} {t : List ByteArray} {m q : Nat} {fb : Bool} (h : advN Ps key m = q) (hf : (decide (q = Ps.length) && fb) = false) (hb : badP ws e t1 t2 Ps key q = true) : keysP ws e t1 t2 Ps fb m (key :: t) = false := by
  subst h
  unfold keysP
  rw [if_neg (by rw [hf]; exact Bool.false_ne_true)]
  exact if_pos (show _ = true from hb)
theorem keysP_next {ws : List Wm} {e : Ev} {t1 t2 : Int} {Ps : List Pr} {key : ByteArray} {t : List ByteArray} {m q : Nat} {fb : Bool} (h : advN Ps key m = q) (hf : (decide (q = Ps.length) && fb) = false) (hb : badP ws e t1 t2 Ps key q = false) : keysP ws e t1 t2 Ps fb m (key :: t) = keysP ws e t1 t2 Ps fb q t := by
  subst h
  rw [keysP.eq_2, if_neg (by rw [hf]; exact Bool.false_ne_true), if_neg (show ¬ _ = true from by show ¬ badP ws e t1 t2 Ps key _ = true; rw [hb]; exact Bool.false_ne_true)]
/-- Could a scan be? -/
def scanP (ws : List Wm) (keys : List ByteArray) (e : Ev) (t1 t2 : Int) (Ps : List Pr) : Bool :=
  !(decide (max e.m 0 < (Ps.length : Int))) && (pairsP ws e t1 t2 Ps && keysP ws e t1 t2 Ps (decide (e.m ≤ (Ps.length : Int))) 0 keys)
set_option maxRecDepth 100000 in
set_option maxHeartbeats 16000000 in
theorem scanned_any (kb r mc : Nat) (l : List En) (ws : List Wm) (keys : List ByteArray) (KA : Option Addr) (kc : Nat) (Ps : List Pr) (A : Option Addr) (pc : Nat) (e : Ev) (t1 t2 : Int) (w : World)
    (hk0 : w.cell? ⟨kb, 0, none⟩ = some (.slice KA keys.length kc)) (hK : StrRow w KA keys) (hkl : keys.length ≤ 1000)
    (hk : w.cell? ⟨kb, 1, none⟩ = some (.map (some r))) (hlt : kb < w.heap.size) (hm : w.heap[r]? = some (.map (l.map En.e).toArray mc)) (hM : MapOk w l ws)
    (hR : RowG Pr.cs w A Ps) (hall : ∀ x ∈ Ps, PrIn w x) (hl : Ps.length ≤ 9223372036854775807) :
    Calls Try.prog 22 #[.pointer (some ⟨kb, 0, none⟩), .agg e.st.toArray, .agg #[.int .i64 t1, .int .i64 t2], .slice A Ps.length pc] w fun r' w' => r' = .returned (.bool (scanP ws keys e t1 t2 Ps)) ∧ Below w.heap.size w w' := by
  have HRD := Lib.hid (fun (key : ByteArray) (fd : Bool) (A' : Option Addr) (c' : Nat) (p : List Int) (W : World) (k : Below w.heap.size w W) (hA : ByL W A' p) (hp : isBy p) => read_any kb r mc l ws key t1 t2 fd A' c' p W ((k.cell (p := ⟨kb, 1, none⟩) hlt).trans hk) (Nat.lt_of_lt_of_le hlt k.size) (map_but (S := fun _ => False) hm (But.of_below k) (fun h => h)) (hM.below k) hA hp)
  have HRR := Lib.hid hR
  have HALL := Lib.hid hall
  have HKR := Lib.hid hK
  have HK0 := Lib.hid (And.intro hk0 hlt)
  have HE : Hid (scanP ws keys e t1 t2 Ps = (!(decide (max e.m 0 < (Ps.length : Int))) && (pairsP ws e t1 t2 Ps && keysP ws e t1 t2 Ps (decide (e.m ≤ (Ps.length : Int))) 0 keys))) := Lib.hid rfl
  obtain ⟨res, hres⟩ : ∃ b, scanP ws keys e t1 t2 Ps = b := ⟨_, rfl⟩
  rw [hres]
  rw [hres] at HE
  clear hres hk0 hK hk hlt hm hM hR hall
  obtain ⟨V0, hV0⟩ : ∃ V, (w.alloc (.cells e.st.toArray 41)).alloc (.cells #[.int .i64 t1, .int .i64 t2] 32) = V := ⟨_, rfl⟩
  have k0 : Below w.heap.size w V0 := by rw [← hV0]; exact ((Below.refl _ _).alloc (Nat.le_refl _) _).alloc (by simp) _
  have hst : V0.rangeAt w.heap.size 0 e.st := by rw [← hV0]; exact World.rangeAt_alloc (range_new w e.st 41) _
  have htt : V0.rangeAt (w.heap.size + 1) 0 [.int .i64 t1, .int .i64 t2] := by
    rw [← hV0]
    have := range_new (w.alloc (.cells e.st.toArray 41)) [.int .i64 t1, .int .i64 t2] 32
    rwa [show (w.alloc (.cells e.st.toArray 41)).heap.size = w.heap.size + 1 from by simp] at this
  have l0 : w.heap.size + 1 < V0.heap.size := by rw [← hV0]; simp
  have HB0 := Lib.hid k0
  have HST := Lib.hid hst
  have HTT := Lib.hid htt
  have HL0 := Lib.hid l0
  have m0 : V0.cell? ⟨w.heap.size, 3, none⟩ = some (.int .i64 e.m) := hst 3 _ rfl
  clear k0 hst htt l0
  obtain ⟨X, hX⟩ : ∃ X : Array Value, e.st.toArray = X := ⟨_, rfl⟩
  rw [hX] at hV0 ⊢
  have HV0 := Lib.hid hV0
  clear hV0
  go_enter Try.func22, Try.ntmps22
  go_upto_region 1 with fail
  rw [HV0.out]
  by_cases hmx : max e.m 0 < (Ps.length : Int)
  · as_aux_lemma =>
    have hd : decide (max e.m 0 < (Ps.length : Int)) = true := decide_eq_true hmx
    rw [hd] at HE
    clear hmx
    go_wp2_with fail
    go_ret
    exact ⟨by rw [HE.out]; rfl, HB0.out⟩
  have hd : decide (max e.m 0 < (Ps.length : Int)) = false := decide_eq_false hmx
  rw [hd] at HE
  clear hmx HV0 hX
  go_wp2_with fail
  go_loopw [24] (fun i wr => ∃ k : Nat, k ≤ Ps.length ∧ i = .int .i64 (k : Int) ∧ (∀ j x, j < k → Ps[j]? = some x → pairOk ws e t1 t2 Ps j x = true) ∧ Below V0.heap.size V0 wr) (fun i _ => Ps.length - (intOf i).toNat)
  case atStart => exact ⟨0, by omega, by simp, fun j x h => by omega, Below.refl _ _⟩
  case round =>
    obtain ⟨k, hk, rfl, hok, hb⟩ := hrel
    have HOK := Lib.hid hok
    have HB := Lib.hid hb
    clear hok hb
    by_cases h1 : k < Ps.length
    · have wk : IntKind.i64.wrap ((k : Int) + 1) = (k : Int) + 1 := IntWalk.i64_in _ (by omega)
      have t6 : decide ((k : Int) < (Ps.length : Int)) = true := by simpa using h1
      have hki : (k : Int) < (Ps.length : Int) := by omega
      obtain ⟨x, hx⟩ : ∃ x, Ps[k]? = some x := ⟨_, List.getElem?_eq_getElem h1⟩
      have HBW := Lib.hid (HB0.out.trans (HB.out.mono HB0.out.size))
      obtain ⟨g, o, rfl, hgl, c0, c1⟩ := pr_at (HRR.out.below HBW.out) hx
      have hin := HALL.out x (List.mem_of_getElem? hx)
      have HIN := Lib.hid hin
      have H1 := Lib.hid h1
      have HX := Lib.hid hx
      have HST1 := Lib.hid (range_below HST.out HB.out (Nat.lt_of_succ_lt HL0.out))
      have HTT1 := Lib.hid (range_below HTT.out HB.out HL0.out)
      have HL1 := Lib.hid (Nat.lt_of_lt_of_le HL0.out HB.out.size)
      clear hin hx h1 hk m0
      go_upto_region 6 with fail
      obtain ⟨Va, hVa⟩ : ∃ V, wr.alloc (.cells #[.string x.key, .slice x.A x.p.length x.c] 53) = V := ⟨_, rfl⟩
      have ka : Below wr.heap.size wr Va := by rw [← hVa]; exact (Below.refl _ _).alloc (Nat.le_refl _) _
      have p00 : Va.cell? ⟨wr.heap.size, 0, none⟩ = some (.string x.key) := by rw [← hVa]; simp
      have p10 : Va.cell? ⟨wr.heap.size, 1, none⟩ = some (.slice x.A x.p.length x.c) := by rw [← hVa]; simp
      have la0 : wr.heap.size < Va.heap.size := by rw [← hVa]; simp
      rw [hVa]
      clear hVa
      have hst0 := range_below HST1.out ka (Nat.lt_of_succ_lt HL1.out)
      have htt0 := range_below HTT1.out ka HL1.out
      have lw0 := Nat.lt_of_lt_of_le HL1.out ka.size
      have HKA := Lib.hid ka
      have HBA := Lib.hid (HBW.out.trans (ka.mono HBW.out.size))
      have gla := Nat.lt_of_lt_of_le hgl ka.size
      clear ka c0 c1
      go_cut [58] (fun p wx => p = .bool (!(pairOk ws e t1 t2 Ps k x)) ∧ Below Va.heap.size Va wx)
      case first =>
        obtain ⟨bw, hbw⟩ : ∃ b, withinP e.key e.hi x.key = b := ⟨_, rfl⟩
        have hwi := fun W : World => within_any e x.key W
        rw [hbw] at hwi
        have HWI := Lib.hid hwi
        obtain ⟨br, hbr⟩ : ∃ b, readP (ws.filter (fun m => decide (m.key = x.key))) x.key t1 t2 true x.p = b := ⟨_, rfl⟩
        have hrx := fun (W : World) (q : Below Va.heap.size Va W) => HRD.out x.key true x.A x.c x.p W (HBA.out.trans (q.mono HBA.out.size)) (HIN.out.1.below (HBA.out.trans (q.mono HBA.out.size))) HIN.out.2.1
        rw [hbr] at hrx
        have HRX := Lib.hid hrx
        have HPO : Hid (pairOk ws e t1 t2 Ps k x = (bw && (!(prevLe Ps k x.key) && br))) := Lib.hid (by unfold pairOk; rw [hbw, hbr])
        clear hwi hrx hbw hbr
        cases bw
        · as_aux_lemma =>
          have HFIN : Hid ((!(pairOk ws e t1 t2 Ps k x)) = true) := Lib.hid (by rw [HPO.out]; rfl)
          refine wp_region_held_drew (S := fun w' => w'.rangeAt w.heap.size 0 e.st ∧ w'.cell? ⟨wr.heap.size, 0, none⟩ = some (.string x.key) ∧ w'.cell? ⟨wr.heap.size, 1, none⟩ = some (.slice x.A x.p.length x.c) ∧ w'.rangeAt (w.heap.size + 1) 0 [.int .i64 t1, .int .i64 t2]) (by kernel_rfl) ?_ (fun hHeld => ?_)
          · exact ⟨hst0, p00, p10, htt0⟩
          have kd : Below Va.heap.size Va Va.drew := (Below.refl _ _).drew
          obtain ⟨V1, hV1⟩ : ∃ V1, Va.drew = V1 := ⟨_, rfl⟩
          rw [hV1] at kd hHeld ⊢
          clear hV1
          have hst1 := range_below hst0 kd (Nat.lt_of_succ_lt lw0)
          have htt1 := range_below htt0 kd lw0
          have p01 := (kd.cell (p := ⟨wr.heap.size, 0, none⟩) la0).trans p00
          have p11 := (kd.cell (p := ⟨wr.heap.size, 1, none⟩) la0).trans p10
          have la1 := Nat.lt_of_lt_of_le la0 kd.size
          have lw1 := Nat.lt_of_lt_of_le lw0 kd.size
          have HK1 := Lib.hid kd
          clear kd
          refine tk9 0 (hy := yieldsIf_load_mid (by rfl) 41 (.tmp 5) rfl w.heap.size 0 rfl e.st _ (fun w' hw => hw.1) Try.underlying41 rfl st_info) ?_
          refine tk9 1 ?_
          refine tk9 2 ?_
          refine wpAnyH_ready (rs := [3]) (by kernel_rfl) (by simp) ?_
          refine AllReadyH.cons rfl (fun K hK => ?_) (AllReadyH.nil)
          go_simp
          (go_at_call 40; refine (HWI.out V1).mono ?_; rintro e1 V2 ⟨rfl, k2⟩)
          have hst2 := range_below hst1 k2 (Nat.lt_of_succ_lt lw1)
          have htt2 := range_below htt1 k2 lw1
          have p02 := (k2.cell (p := ⟨wr.heap.size, 0, none⟩) la1).trans p01
          have p12 := (k2.cell (p := ⟨wr.heap.size, 1, none⟩) la1).trans p11
          have la2 := Nat.lt_of_lt_of_le la1 k2.size
          have lw2 := Nat.lt_of_lt_of_le lw1 k2.size
          have HK2 := Lib.hid (HK1.out.trans (k2.mono HK1.out.size))
          clear k2
          (try dsimp only)
          refine hK.out _ _ ?_ (fun hHeld => ?_)
          · exact ⟨hst2, p02, p12, htt2⟩
          clear hK K
          (try simp only [Act.put, List.setIfInBounds_toArray, List.set_cons_zero, List.set_cons_succ, List.getElem_toArray, List.getElem_cons_succ, List.getElem_cons_zero])
          refine tk9 4 ?_
          refine tk9 5 ?_
          refine tk9 (v := undef) 6 (hy := Or.inr ⟨by rfl, rfl⟩) ?_
          refine tk9 (v := undef) 7 (hy := Or.inr ⟨by rfl, rfl⟩) ?_
          refine tk9 (v := undef) 8 (hy := Or.inr ⟨by rfl, rfl⟩) ?_
          refine tk9 (v := undef) 9 (hy := Or.inr ⟨by rfl, rfl⟩) ?_
          refine tk9 (v := undef) 10 (hy := Or.inr ⟨by rfl, rfl⟩) ?_
          refine tk9 (v := undef) 11 (hy := Or.inr ⟨by rfl, rfl⟩) ?_
          refine tk9 (v := undef) 12 (hy := Or.inr ⟨by rfl, rfl⟩) ?_
          refine tk9 (v := undef) 13 (hy := Or.inr ⟨by rfl, rfl⟩) ?_
          refine tk9 (v := undef) 14 (hy := Or.inr ⟨by rfl, rfl⟩) ?_
          refine tk9 (v := undef) 15 (hy := Or.inr ⟨by rfl, rfl⟩) ?_
          refine tk9 (v := undef) 16 (hy := Or.inr ⟨by rfl, rfl⟩) ?_
          refine tk9 (v := undef) 17 (hy := Or.inr ⟨by rfl, rfl⟩) ?_
          refine tk9 (v := undef) 18 (hy := Or.inr ⟨by rfl, rfl⟩) ?_
          refine tk9 19 ?_
          refine tk9 20 ?_
          refine tk9 (v := undef) 21 (hy := Or.inr ⟨by rfl, rfl⟩) ?_
          refine tk9 (v := undef) 22 (hy := Or.inr ⟨by rfl, rfl⟩) ?_
          refine tk9 (v := undef) 23 (hy := Or.inr ⟨by rfl, rfl⟩) ?_
          refine tk9 (v := undef) 24 (hy := Or.inr ⟨by rfl, rfl⟩) ?_
          refine tk9 (v := undef) 25 (hy := Or.inr ⟨by rfl, rfl⟩) ?_
          refine tk9 (v := undef) 26 (hy := Or.inr ⟨by rfl, rfl⟩) ?_
          refine tk9 (v := undef) 27 (hy := Or.inr ⟨by rfl, rfl⟩) ?_
          refine tk9 (v := undef) 28 (hy := Or.inr ⟨by rfl, rfl⟩) ?_
          refine tk9 29 ?_
          refine wpAnyH_done (by kernel_rfl) ?_ _
          clear hHeld
          go_wp2_with fail
          go_meet
          exact ⟨by rw [HFIN.out], HK2.out⟩
        · cases k with
          | zero =>
            as_aux_lemma =>
            have HFIN : Hid ((!(pairOk ws e t1 t2 Ps 0 x)) = !br) := Lib.hid (by rw [HPO.out]; rfl)
            refine wp_region_held_drew (S := fun w' => w'.rangeAt w.heap.size 0 e.st ∧ w'.cell? ⟨wr.heap.size, 0, none⟩ = some (.string x.key) ∧ w'.cell? ⟨wr.heap.size, 1, none⟩ = some (.slice x.A x.p.length x.c) ∧ w'.rangeAt (w.heap.size + 1) 0 [.int .i64 t1, .int .i64 t2]) (by kernel_rfl) ?_ (fun hHeld => ?_)
            · exact ⟨hst0, p00, p10, htt0⟩
            have kd : Below Va.heap.size Va Va.drew := (Below.refl _ _).drew
            obtain ⟨V1, hV1⟩ : ∃ V1, Va.drew = V1 := ⟨_, rfl⟩
            rw [hV1] at kd hHeld ⊢
            clear hV1
            have hst1 := range_below hst0 kd (Nat.lt_of_succ_lt lw0)
            have htt1 := range_below htt0 kd lw0
            have p01 := (kd.cell (p := ⟨wr.heap.size, 0, none⟩) la0).trans p00
            have p11 := (kd.cell (p := ⟨wr.heap.size, 1, none⟩) la0).trans p10
            have la1 := Nat.lt_of_lt_of_le la0 kd.size
            have lw1 := Nat.lt_of_lt_of_le lw0 kd.size
            have HK1 := Lib.hid kd
            clear kd
            refine tk9 0 (hy := yieldsIf_load_mid (by rfl) 41 (.tmp 5) rfl w.heap.size 0 rfl e.st _ (fun w' hw => hw.1) Try.underlying41 rfl st_info) ?_
            refine tk9 1 ?_
            refine tk9 2 ?_
            refine wpAnyH_ready (rs := [3]) (by kernel_rfl) (by simp) ?_
            refine AllReadyH.cons rfl (fun K hK => ?_) (AllReadyH.nil)
            go_simp
            (go_at_call 40; refine (HWI.out V1).mono ?_; rintro e1 V2 ⟨rfl, k2⟩)
            have hst2 := range_below hst1 k2 (Nat.lt_of_succ_lt lw1)
            have htt2 := range_below htt1 k2 lw1
            have p02 := (k2.cell (p := ⟨wr.heap.size, 0, none⟩) la1).trans p01
            have p12 := (k2.cell (p := ⟨wr.heap.size, 1, none⟩) la1).trans p11
            have la2 := Nat.lt_of_lt_of_le la1 k2.size
            have lw2 := Nat.lt_of_lt_of_le lw1 k2.size
            have HK2 := Lib.hid (HK1.out.trans (k2.mono HK1.out.size))
            clear k2
            (try dsimp only)
            refine hK.out _ _ ?_ (fun hHeld => ?_)
            · exact ⟨hst2, p02, p12, htt2⟩
            clear hK K
            (try simp only [Act.put, List.setIfInBounds_toArray, List.set_cons_zero, List.set_cons_succ, List.getElem_toArray, List.getElem_cons_succ, List.getElem_cons_zero])
            refine tk9 4 ?_
            refine tk9 5 ?_
            refine tk9 6 ?_
            refine tk9 7 ?_
            refine tk9 8 ?_
            refine tk9 (v := undef) 9 (hy := Or.inr ⟨by rfl, rfl⟩) ?_
            refine tk9 (v := undef) 10 (hy := Or.inr ⟨by rfl, rfl⟩) ?_
            refine tk9 (v := undef) 11 (hy := Or.inr ⟨by rfl, rfl⟩) ?_
            refine tk9 (v := undef) 12 (hy := Or.inr ⟨by rfl, rfl⟩) ?_
            refine tk9 (v := undef) 13 (hy := Or.inr ⟨by rfl, rfl⟩) ?_
            refine tk9 (v := undef) 14 (hy := Or.inr ⟨by rfl, rfl⟩) ?_
            refine tk9 (v := undef) 15 (hy := Or.inr ⟨by rfl, rfl⟩) ?_
            refine tk9 (v := undef) 16 (hy := Or.inr ⟨by rfl, rfl⟩) ?_
            refine tk9 (v := undef) 17 (hy := Or.inr ⟨by rfl, rfl⟩) ?_
            refine tk9 18 ?_
            refine tk9 19 ?_
            refine tk9 20 ?_
            refine tk9 21 ?_
            refine tk9 22 ?_
            refine tk9 23 ?_
            refine tk9 24 (hy := yieldsIf_load_mid (by rfl) 32 (.tmp 6) rfl (w.heap.size + 1) 0 rfl [.int .i64 t1, .int .i64 t2] _ (fun w' hw => hw.2.2.2) Try.underlying32 rfl stp_size) ?_
            refine tk9 25 ?_
            refine tk9 26 ?_
            refine wpAnyH_ready (rs := [27]) (by kernel_rfl) (by simp) ?_
            refine AllReadyH.cons rfl (fun K hK => ?_) (AllReadyH.nil)
            go_simp
            (go_at_call 21; refine (HRX.out V2 HK2.out).mono ?_; rintro e3 V3 ⟨rfl, k3⟩)
            have hst3 := range_below hst2 k3 (Nat.lt_of_succ_lt lw2)
            have htt3 := range_below htt2 k3 lw2
            have p03 := (k3.cell (p := ⟨wr.heap.size, 0, none⟩) la2).trans p02
            have p13 := (k3.cell (p := ⟨wr.heap.size, 1, none⟩) la2).trans p12
            have la3 := Nat.lt_of_lt_of_le la2 k3.size
            have lw3 := Nat.lt_of_lt_of_le lw2 k3.size
            have HK3 := Lib.hid (HK2.out.trans (k3.mono HK2.out.size))
            clear k3
            (try dsimp only)
            refine hK.out _ _ ?_ (fun hHeld => ?_)
            · exact ⟨hst3, p03, p13, htt3⟩
            clear hK K
            (try simp only [Act.put, List.setIfInBounds_toArray, List.set_cons_zero, List.set_cons_succ, List.getElem_toArray, List.getElem_cons_succ, List.getElem_cons_zero])
            refine tk9 28 ?_
            refine tk9 29 ?_
            refine wpAnyH_done (by kernel_rfl) ?_ _
            clear hHeld
            go_wp2_with fail
            go_meet
            exact ⟨by rw [HFIN.out], HK3.out⟩
          | succ j =>
            obtain ⟨y, hyy⟩ : ∃ y, Ps[j]? = some y := ⟨_, List.getElem?_eq_getElem (show j < Ps.length by have := H1.out; omega)⟩
            obtain ⟨g', o', he, gl0, hy0, _⟩ := pr_at (HRR.out.below HBA.out) hyy
            injection he with he
            injection he with e1 e2
            subst e1 e2
            have HPR : Hid (prevLe Ps (j + 1) x.key = (Op.bytesLess x.key.toList y.key.toList || x.key.toList == y.key.toList)) := Lib.hid (by
              show (match Ps[j]? with | none => false | some y => _) = _
              rw [hyy])
            have wj : IntKind.i64.wrap ((j : Int) + 1 - 1) = (j : Int) := by rw [show (j : Int) + 1 - 1 = (j : Int) from by omega]; exact IntWalk.i64_in _ (by have := H1.out; omega)
            have wj2 : IntKind.i64.wrap (j : Int) = (j : Int) := IntWalk.i64_in _ (by have := H1.out; omega)
            have j0 : decide ((0 : Int) < (j : Int) + 1) = true := decide_eq_true (by omega)
            have jl : (j : Int) < (Ps.length : Int) := by have := H1.out; omega
            obtain ⟨b1, hb1⟩ : ∃ b, Op.bytesLess x.key.toList y.key.toList = b := ⟨_, rfl⟩
            obtain ⟨b2, hb2⟩ : ∃ b, (x.key.toList == y.key.toList) = b := ⟨_, rfl⟩
            rw [hb1, hb2] at HPR
            clear hyy
            cases b1
            · cases b2
              · as_aux_lemma =>
                have HFIN : Hid ((!(pairOk ws e t1 t2 Ps (j + 1) x)) = !br) := Lib.hid (by rw [HPO.out, HPR.out]; rfl)
                refine wp_region_held_drew (S := fun w' => w'.rangeAt w.heap.size 0 e.st ∧ w'.cell? ⟨wr.heap.size, 0, none⟩ = some (.string x.key) ∧ w'.cell? ⟨wr.heap.size, 1, none⟩ = some (.slice x.A x.p.length x.c) ∧ w'.rangeAt (w.heap.size + 1) 0 [.int .i64 t1, .int .i64 t2] ∧ w'.cell? ⟨g, o + j * 2, none⟩ = some (.string y.key)) (by kernel_rfl) ?_ (fun hHeld => ?_)
                · exact ⟨hst0, p00, p10, htt0, hy0⟩
                have kd : Below Va.heap.size Va Va.drew := (Below.refl _ _).drew
                obtain ⟨V1, hV1⟩ : ∃ V1, Va.drew = V1 := ⟨_, rfl⟩
                rw [hV1] at kd hHeld ⊢
                clear hV1
                have hst1 := range_below hst0 kd (Nat.lt_of_succ_lt lw0)
                have htt1 := range_below htt0 kd lw0
                have p01 := (kd.cell (p := ⟨wr.heap.size, 0, none⟩) la0).trans p00
                have p11 := (kd.cell (p := ⟨wr.heap.size, 1, none⟩) la0).trans p10
                have hy1 := (kd.cell (p := ⟨g, o + j * 2, none⟩) gl0).trans hy0
                have gl1 := Nat.lt_of_lt_of_le gl0 kd.size
                have la1 := Nat.lt_of_lt_of_le la0 kd.size
                have lw1 := Nat.lt_of_lt_of_le lw0 kd.size
                have HK1 := Lib.hid kd
                clear kd
                refine tk9 0 (hy := yieldsIf_load_mid (by rfl) 41 (.tmp 5) rfl w.heap.size 0 rfl e.st _ (fun w' hw => hw.1) Try.underlying41 rfl st_info) ?_
                refine tk9 1 ?_
                refine tk9 2 ?_
                refine wpAnyH_ready (rs := [3]) (by kernel_rfl) (by simp) ?_
                refine AllReadyH.cons rfl (fun K hK => ?_) (AllReadyH.nil)
                go_simp
                (go_at_call 40; refine (HWI.out V1).mono ?_; rintro e1 V2 ⟨rfl, k2⟩)
                have hst2 := range_below hst1 k2 (Nat.lt_of_succ_lt lw1)
                have htt2 := range_below htt1 k2 lw1
                have p02 := (k2.cell (p := ⟨wr.heap.size, 0, none⟩) la1).trans p01
                have p12 := (k2.cell (p := ⟨wr.heap.size, 1, none⟩) la1).trans p11
                have hy2 := (k2.cell (p := ⟨g, o + j * 2, none⟩) gl1).trans hy1
                have gl2 := Nat.lt_of_lt_of_le gl1 k2.size
                have la2 := Nat.lt_of_lt_of_le la1 k2.size
                have lw2 := Nat.lt_of_lt_of_le lw1 k2.size
                have HK2 := Lib.hid (HK1.out.trans (k2.mono HK1.out.size))
                clear k2
                (try dsimp only)
                refine hK.out _ _ ?_ (fun hHeld => ?_)
                · exact ⟨hst2, p02, p12, htt2, hy2⟩
                clear hK K
                (try simp only [Act.put, List.setIfInBounds_toArray, List.set_cons_zero, List.set_cons_succ, List.getElem_toArray, List.getElem_cons_succ, List.getElem_cons_zero])
                refine tk9 4 ?_
                refine tk9 5 ?_
                refine tk9 6 ?_
                refine tk9 7 ?_
                refine tk9 8 ?_
                refine tk9 9 ?_
                refine tk9 10 ?_
                refine tk9 11 ?_
                refine tk9 12 ?_
                refine tk9 13 ?_
                refine tk9 14 ?_
                refine tk9 15 ?_
                refine tk9 16 ?_
                refine tk9 17 ?_
                refine tk9 18 ?_
                refine tk9 19 ?_
                refine tk9 20 ?_
                refine tk9 21 ?_
                refine tk9 22 ?_
                refine tk9 23 ?_
                refine tk9 24 (hy := yieldsIf_load_mid (by rfl) 32 (.tmp 6) rfl (w.heap.size + 1) 0 rfl [.int .i64 t1, .int .i64 t2] _ (fun w' hw => hw.2.2.2.1) Try.underlying32 rfl stp_size) ?_
                refine tk9 25 ?_
                refine tk9 26 ?_
                refine wpAnyH_ready (rs := [27]) (by kernel_rfl) (by simp) ?_
                refine AllReadyH.cons rfl (fun K hK => ?_) (AllReadyH.nil)
                go_simp
                (go_at_call 21; refine (HRX.out V2 HK2.out).mono ?_; rintro e3 V3 ⟨rfl, k3⟩)
                have hst3 := range_below hst2 k3 (Nat.lt_of_succ_lt lw2)
                have htt3 := range_below htt2 k3 lw2
                have p03 := (k3.cell (p := ⟨wr.heap.size, 0, none⟩) la2).trans p02
                have p13 := (k3.cell (p := ⟨wr.heap.size, 1, none⟩) la2).trans p12
                have hy3 := (k3.cell (p := ⟨g, o + j * 2, none⟩) gl2).trans hy2
                have gl3 := Nat.lt_of_lt_of_le gl2 k3.size
                have la3 := Nat.lt_of_lt_of_le la2 k3.size
                have lw3 := Nat.lt_of_lt_of_le lw2 k3.size
                have HK3 := Lib.hid (HK2.out.trans (k3.mono HK2.out.size))
                clear k3
                (try dsimp only)
                refine hK.out _ _ ?_ (fun hHeld => ?_)
                · exact ⟨hst3, p03, p13, htt3, hy3⟩
                clear hK K
                (try simp only [Act.put, List.setIfInBounds_toArray, List.set_cons_zero, List.set_cons_succ, List.getElem_toArray, List.getElem_cons_succ, List.getElem_cons_zero])
                refine tk9 28 ?_
                refine tk9 29 ?_
                refine wpAnyH_done (by kernel_rfl) ?_ _
                clear hHeld
                go_wp2_with fail
                go_meet
                exact ⟨by rw [HFIN.out], HK3.out⟩
              · as_aux_lemma =>
                have HFIN : Hid ((!(pairOk ws e t1 t2 Ps (j + 1) x)) = true) := Lib.hid (by rw [HPO.out, HPR.out]; rfl)
                refine wp_region_held_drew (S := fun w' => w'.rangeAt w.heap.size 0 e.st ∧ w'.cell? ⟨wr.heap.size, 0, none⟩ = some (.string x.key) ∧ w'.cell? ⟨wr.heap.size, 1, none⟩ = some (.slice x.A x.p.length x.c) ∧ w'.rangeAt (w.heap.size + 1) 0 [.int .i64 t1, .int .i64 t2] ∧ w'.cell? ⟨g, o + j * 2, none⟩ = some (.string y.key)) (by kernel_rfl) ?_ (fun hHeld => ?_)
                · exact ⟨hst0, p00, p10, htt0, hy0⟩
                have kd : Below Va.heap.size Va Va.drew := (Below.refl _ _).drew
                obtain ⟨V1, hV1⟩ : ∃ V1, Va.drew = V1 := ⟨_, rfl⟩
                rw [hV1] at kd hHeld ⊢
                clear hV1
                have hst1 := range_below hst0 kd (Nat.lt_of_succ_lt lw0)
                have htt1 := range_below htt0 kd lw0
                have p01 := (kd.cell (p := ⟨wr.heap.size, 0, none⟩) la0).trans p00
                have p11 := (kd.cell (p := ⟨wr.heap.size, 1, none⟩) la0).trans p10
                have hy1 := (kd.cell (p := ⟨g, o + j * 2, none⟩) gl0).trans hy0
                have gl1 := Nat.lt_of_lt_of_le gl0 kd.size
                have la1 := Nat.lt_of_lt_of_le la0 kd.size
                have lw1 := Nat.lt_of_lt_of_le lw0 kd.size
                have HK1 := Lib.hid kd
                clear kd
                refine tk9 0 (hy := yieldsIf_load_mid (by rfl) 41 (.tmp 5) rfl w.heap.size 0 rfl e.st _ (fun w' hw => hw.1) Try.underlying41 rfl st_info) ?_
                refine tk9 1 ?_
                refine tk9 2 ?_
                refine wpAnyH_ready (rs := [3]) (by kernel_rfl) (by simp) ?_
                refine AllReadyH.cons rfl (fun K hK => ?_) (AllReadyH.nil)
                go_simp
                (go_at_call 40; refine (HWI.out V1).mono ?_; rintro e1 V2 ⟨rfl, k2⟩)
                have hst2 := range_below hst1 k2 (Nat.lt_of_succ_lt lw1)
                have htt2 := range_below htt1 k2 lw1
                have p02 := (k2.cell (p := ⟨wr.heap.size, 0, none⟩) la1).trans p01
                have p12 := (k2.cell (p := ⟨wr.heap.size, 1, none⟩) la1).trans p11
                have hy2 := (k2.cell (p := ⟨g, o + j * 2, none⟩) gl1).trans hy1
                have gl2 := Nat.lt_of_lt_of_le gl1 k2.size
                have la2 := Nat.lt_of_lt_of_le la1 k2.size
                have lw2 := Nat.lt_of_lt_of_le lw1 k2.size
                have HK2 := Lib.hid (HK1.out.trans (k2.mono HK1.out.size))
                clear k2
                (try dsimp only)
                refine hK.out _ _ ?_ (fun hHeld => ?_)
                · exact ⟨hst2, p02, p12, htt2, hy2⟩
                clear hK K
                (try simp only [Act.put, List.setIfInBounds_toArray, List.set_cons_zero, List.set_cons_succ, List.getElem_toArray, List.getElem_cons_succ, List.getElem_cons_zero])
                refine tk9 4 ?_
                refine tk9 5 ?_
                refine tk9 6 ?_
                refine tk9 7 ?_
                refine tk9 8 ?_
                refine tk9 9 ?_
                refine tk9 10 ?_
                refine tk9 11 ?_
                refine tk9 12 ?_
                refine tk9 13 ?_
                refine tk9 14 ?_
                refine tk9 15 ?_
                refine tk9 16 ?_
                refine tk9 17 ?_
                refine tk9 18 ?_
                refine tk9 19 ?_
                refine tk9 20 ?_
                refine tk9 (v := undef) 21 (hy := Or.inr ⟨by rfl, rfl⟩) ?_
                refine tk9 (v := undef) 22 (hy := Or.inr ⟨by rfl, rfl⟩) ?_
                refine tk9 (v := undef) 23 (hy := Or.inr ⟨by rfl, rfl⟩) ?_
                refine tk9 (v := undef) 24 (hy := Or.inr ⟨by rfl, rfl⟩) ?_
                refine tk9 (v := undef) 25 (hy := Or.inr ⟨by rfl, rfl⟩) ?_
                refine tk9 (v := undef) 26 (hy := Or.inr ⟨by rfl, rfl⟩) ?_
                refine tk9 (v := undef) 27 (hy := Or.inr ⟨by rfl, rfl⟩) ?_
                refine tk9 (v := undef) 28 (hy := Or.inr ⟨by rfl, rfl⟩) ?_
                refine tk9 29 ?_
                refine wpAnyH_done (by kernel_rfl) ?_ _
                clear hHeld
                go_wp2_with fail
                go_meet
                exact ⟨by rw [HFIN.out], HK2.out⟩
            · as_aux_lemma =>
              have HFIN : Hid ((!(pairOk ws e t1 t2 Ps (j + 1) x)) = true) := Lib.hid (by rw [HPO.out, HPR.out]; cases b2 <;> rfl)
              refine wp_region_held_drew (S := fun w' => w'.rangeAt w.heap.size 0 e.st ∧ w'.cell? ⟨wr.heap.size, 0, none⟩ = some (.string x.key) ∧ w'.cell? ⟨wr.heap.size, 1, none⟩ = some (.slice x.A x.p.length x.c) ∧ w'.rangeAt (w.heap.size + 1) 0 [.int .i64 t1, .int .i64 t2] ∧ w'.cell? ⟨g, o + j * 2, none⟩ = some (.string y.key)) (by kernel_rfl) ?_ (fun hHeld => ?_)
              · exact ⟨hst0, p00, p10, htt0, hy0⟩
              have kd : Below Va.heap.size Va Va.drew := (Below.refl _ _).drew
              obtain ⟨V1, hV1⟩ : ∃ V1, Va.drew = V1 := ⟨_, rfl⟩
              rw [hV1] at kd hHeld ⊢
              clear hV1
              have hst1 := range_below hst0 kd (Nat.lt_of_succ_lt lw0)
              have htt1 := range_below htt0 kd lw0
              have p01 := (kd.cell (p := ⟨wr.heap.size, 0, none⟩) la0).trans p00
              have p11 := (kd.cell (p := ⟨wr.heap.size, 1, none⟩) la0).trans p10
              have hy1 := (kd.cell (p := ⟨g, o + j * 2, none⟩) gl0).trans hy0
              have gl1 := Nat.lt_of_lt_of_le gl0 kd.size
              have la1 := Nat.lt_of_lt_of_le la0 kd.size
              have lw1 := Nat.lt_of_lt_of_le lw0 kd.size
              have HK1 := Lib.hid kd
              clear kd
              refine tk9 0 (hy := yieldsIf_load_mid (by rfl) 41 (.tmp 5) rfl w.heap.size 0 rfl e.st _ (fun w' hw => hw.1) Try.underlying41 rfl st_info) ?_
              refine tk9 1 ?_
              refine tk9 2 ?_
              refine wpAnyH_ready (rs := [3]) (by kernel_rfl) (by simp) ?_
              refine AllReadyH.cons rfl (fun K hK => ?_) (AllReadyH.nil)
              go_simp
              (go_at_call 40; refine (HWI.out V1).mono ?_; rintro e1 V2 ⟨rfl, k2⟩)
              have hst2 := range_below hst1 k2 (Nat.lt_of_succ_lt lw1)
              have htt2 := range_below htt1 k2 lw1
              have p02 := (k2.cell (p := ⟨wr.heap.size, 0, none⟩) la1).trans p01
              have p12 := (k2.cell (p := ⟨wr.heap.size, 1, none⟩) la1).trans p11
              have hy2 := (k2.cell (p := ⟨g, o + j * 2, none⟩) gl1).trans hy1
              have gl2 := Nat.lt_of_lt_of_le gl1 k2.size
              have la2 := Nat.lt_of_lt_of_le la1 k2.size
              have lw2 := Nat.lt_of_lt_of_le lw1 k2.size
              have HK2 := Lib.hid (HK1.out.trans (k2.mono HK1.out.size))
              clear k2
              (try dsimp only)
              refine hK.out _ _ ?_ (fun hHeld => ?_)
              · exact ⟨hst2, p02, p12, htt2, hy2⟩
              clear hK K
              (try simp only [Act.put, List.setIfInBounds_toArray, List.set_cons_zero, List.set_cons_succ, List.getElem_toArray, List.getElem_cons_succ, List.getElem_cons_zero])
              refine tk9 4 ?_
              refine tk9 5 ?_
              refine tk9 6 ?_
              refine tk9 7 ?_
              refine tk9 8 ?_
              refine tk9 9 ?_
              refine tk9 10 ?_
              refine tk9 11 ?_
              refine tk9 12 ?_
              refine tk9 13 ?_
              refine tk9 14 ?_
              refine tk9 15 ?_
              refine tk9 16 ?_
              refine tk9 17 ?_
              refine tk9 18 ?_
              refine tk9 19 ?_
              refine tk9 20 ?_
              refine tk9 (v := undef) 21 (hy := Or.inr ⟨by rfl, rfl⟩) ?_
              refine tk9 (v := undef) 22 (hy := Or.inr ⟨by rfl, rfl⟩) ?_
              refine tk9 (v := undef) 23 (hy := Or.inr ⟨by rfl, rfl⟩) ?_
              refine tk9 (v := undef) 24 (hy := Or.inr ⟨by rfl, rfl⟩) ?_
              refine tk9 (v := undef) 25 (hy := Or.inr ⟨by rfl, rfl⟩) ?_
              refine tk9 (v := undef) 26 (hy := Or.inr ⟨by rfl, rfl⟩) ?_
              refine tk9 (v := undef) 27 (hy := Or.inr ⟨by rfl, rfl⟩) ?_
              refine tk9 (v := undef) 28 (hy := Or.inr ⟨by rfl, rfl⟩) ?_
              refine tk9 29 ?_
              refine wpAnyH_done (by kernel_rfl) ?_ _
              clear hHeld
              go_wp2_with fail
              go_meet
              exact ⟨by rw [HFIN.out], HK2.out⟩
      case rest =>
      obtain ⟨rfl, hb6⟩ := hcut
      generalize wc = V6 at *
      have HB6 := Lib.hid ((HB.out.trans (HKA.out.mono HB.out.size)).trans (hb6.mono (Nat.le_trans HB.out.size HKA.out.size)))
      obtain ⟨bo, hbo⟩ : ∃ b, pairOk ws e t1 t2 Ps k x = b := ⟨_, rfl⟩
      rw [hbo]
      have HBO := Lib.hid hbo
      clear hbo hb6 p00 p10 la0 hst0 htt0 lw0 gla hgl
      cases bo
      · as_aux_lemma =>
        have HRES : Hid (res = false) := Lib.hid (by rw [HE.out, pairsP_no HX.out HBO.out]; rfl)
        go_wp2_with fail
        go_ret
        exact ⟨by rw [HRES.out]; rfl, HB0.out.trans (HB6.out.mono HB0.out.size)⟩
      · as_aux_lemma =>
        have HOK2 : Hid (∀ j y, j < k + 1 → Ps[j]? = some y → pairOk ws e t1 t2 Ps j y = true) := Lib.hid (fun j y hj hy => by
          rcases Nat.lt_or_ge j k with q | q
          · exact HOK.out j y q hy
          · obtain rfl : j = k := by omega
            rw [HX.out] at hy
            injection hy with hy
            rw [← hy]
            exact HBO.out)
        go_wp2_with fail
        go_roundw
        case rel => exact ⟨k + 1, by have := H1.out; omega, by simp, HOK2.out, HB6.out⟩
        all_goals ((try simp only [intOf]); have := H1.out; omega)
    · have e0 : k = Ps.length := by omega
      subst e0
      have t6 : decide ((Ps.length : Int) < (Ps.length : Int)) = false := by simp
      have hyes : pairsP ws e t1 t2 Ps = true := pairsP_yes (fun i x hx => HOK.out i x (List.getElem?_eq_some_iff.1 hx).1 hx)
      have he : res = keysP ws e t1 t2 Ps (decide (e.m ≤ (Ps.length : Int))) 0 keys := by rw [HE.out, hyes]; rfl
      have HBW := Lib.hid (HB0.out.trans (HB.out.mono HB0.out.size))
      have HST1 := Lib.hid (range_below HST.out HB.out (Nat.lt_of_succ_lt HL0.out))
      have HTT1 := Lib.hid (range_below HTT.out HB.out HL0.out)
      have HL1 := Lib.hid (Nat.lt_of_lt_of_le HL0.out HB.out.size)
      have m9 := (HB.out.cell (p := ⟨w.heap.size, 3, none⟩) (Nat.lt_of_succ_lt HL0.out)).trans m0
      have c11 := (HBW.out.cell (p := ⟨kb, 0, none⟩) HK0.out.2).trans HK0.out.1
      clear hyes h1 m0 hk HE
      go_wp2_with fail
      obtain ⟨fb, hfb⟩ : ∃ b, decide (e.m ≤ (Ps.length : Int)) = b := ⟨_, rfl⟩
      rw [hfb] at he ⊢
      have HE2 := Lib.hid he
      clear hfb he m9 c11 t6
      generalize wr = wv at *
      go_loopw [12, 70] (fun n i wr => ∃ k m : Nat, k ≤ keys.length ∧ m ≤ Ps.length ∧ i = .int .i64 (k : Int) ∧ n = .int .i64 (m : Int) ∧ Hid (res = keysP ws e t1 t2 Ps fb m (keys.drop k)) ∧ Below wv.heap.size wv wr) (fun _ i _ => keys.length - (intOf i).toNat)
      case atStart => exact ⟨0, 0, by omega, by omega, by simp, by simp, Lib.hid (by rw [HE2.out]; rfl), Below.refl _ _⟩
      case round =>
        obtain ⟨k, m, hk, hm, rfl, rfl, HRES, hb⟩ := hrel
        have HBB := Lib.hid hb
        have wk : IntKind.i64.wrap ((k : Int) + 1) = (k : Int) + 1 := IntWalk.i64_in _ (by omega)
        clear hb
        by_cases h1 : k < keys.length
        · have t12 : decide ((k : Int) < (keys.length : Int)) = true := by simpa using h1
          have hki : (k : Int) < (keys.length : Int) := by omega
          obtain ⟨key, hx⟩ : ∃ x, keys[k]? = some x := ⟨_, List.getElem?_eq_getElem h1⟩
          have HDR : Hid (keys.drop k = key :: keys.drop (k + 1)) := Lib.hid (by
            obtain ⟨hl, rfl⟩ := List.getElem?_eq_some_iff.1 hx
            rw [List.drop_eq_getElem_cons hl])
          obtain ⟨g, o, hKA, hgl, hck⟩ := (HKR.out.below (HBW.out.trans (HBB.out.mono HBW.out.size))) (by omega)
          subst hKA
          have c13 := hck k key hx
          clear hck hx hgl
          go_wp2_with fail
          clear c13 t12
          generalize wr = wm at *
          go_loopw [12] (fun n wr => ∃ q : Nat, m ≤ q ∧ q ≤ Ps.length ∧ n = .int .i64 (q : Int) ∧ Hid (advN Ps key m = advN Ps key q) ∧ Below wm.heap.size wm wr) (fun n _ => Ps.length - (intOf n).toNat)
          case atStart => exact ⟨m, by omega, by omega, by simp, Lib.hid rfl, Below.refl _ _⟩
          case round =>
            obtain ⟨q, hmq, hq, rfl, HQ, hb2⟩ := hrel
            have HVB := Lib.hid (HBB.out.trans (hb2.mono HBB.out.size))
            have HBM := Lib.hid hb2
            have HBA := Lib.hid (HBW.out.trans (HVB.out.mono HBW.out.size))
            have hst0 := range_below HST1.out HVB.out (Nat.lt_of_succ_lt HL1.out)
            have htt0 := range_below HTT1.out HVB.out HL1.out
            have lw0 := Nat.lt_of_lt_of_le HL1.out HVB.out.size
            clear hb2
            by_cases h2 : q < Ps.length
            · have t14 : decide ((q : Int) < (Ps.length : Int)) = true := by simpa using h2
              have t16 : ((q : Int) == (Ps.length : Int)) = false := beq_eq_false_iff_ne.2 (by omega)
              have hqi : (q : Int) < (Ps.length : Int) := by omega
              obtain ⟨x, hx⟩ : ∃ x, Ps[q]? = some x := ⟨_, List.getElem?_eq_getElem h2⟩
              obtain ⟨g', o', rfl, hgl, c0, _⟩ := pr_at (HRR.out.below HBA.out) hx
              have HX := Lib.hid hx
              obtain ⟨b1, hb1⟩ : ∃ b, Op.bytesLess x.key.toList key.toList = b := ⟨_, rfl⟩
              obtain ⟨am, hb2⟩ : ∃ b, (x.key.toList == key.toList) = b := ⟨_, rfl⟩
              have HAM : Hid (amongN Ps key q = am) := Lib.hid (by unfold amongN; rw [hx]; exact hb2)
              clear hx
              cases b1
              · have HADV : Hid (advN Ps key m = q) := Lib.hid (by rw [HQ.out, advN_stop HX.out hb1])
                have HF : Hid ((decide (q = Ps.length) && fb) = false) := Lib.hid (by rw [decide_eq_false (by omega)]; rfl)
                go_upto_region 19 with fail
                clear c0 hgl t14 t16 hb1 hb2 hqi
                generalize wr = Va at *
                go_cut [122] (fun p wx => p = .bool (badP ws e t1 t2 Ps key q) ∧ Below Va.heap.size Va wx)
                case first =>
                  obtain ⟨bw, hbw⟩ : ∃ b, withinP e.key e.hi key = b := ⟨_, rfl⟩
                  have hwi := fun W : World => within_any e key W
                  rw [hbw] at hwi
                  have HWI := Lib.hid hwi
                  obtain ⟨br, hbr⟩ : ∃ b, readP (ws.filter (fun m => decide (m.key = key))) key t1 t2 false [] = b := ⟨_, rfl⟩
                  have hrx := fun (W : World) (u : Below Va.heap.size Va W) => HRD.out key false none 0 [] W (HBA.out.trans (u.mono HBA.out.size)) (fun h => absurd h (Nat.lt_irrefl 0)) (fun _ h => by cases h)
                  rw [hbr] at hrx
                  simp only [List.length_nil] at hrx
                  have HRX := Lib.hid hrx
                  have HBP : Hid (badP ws e t1 t2 Ps key q = (bw && (!am && !br))) := Lib.hid (by unfold badP; rw [hbw, hbr, HAM.out])
                  clear hwi hrx hbw hbr
                  cases bw
                  · as_aux_lemma =>
                    have HFIN : Hid ((badP ws e t1 t2 Ps key q) = false) := Lib.hid (by rw [HBP.out]; rfl)
                    refine wp_region_lit ?_
                    refine wpList_load_mid rfl 41 (.tmp 5) rfl w.heap.size 0 (by first | rfl | simp) e.st _ hst0 Try.underlying41 rfl st_info ?_
                    refine wpList_plain rfl (fun KK hKK => ?_)
                    go_simp
                    refine hKK _ _ ?_
                    refine wpList_plain rfl (fun KK hKK => ?_)
                    go_simp
                    (go_at_call 40; refine (HWI.out Va).mono ?_; rintro e1 V2 ⟨rfl, k2⟩)
                    have htt2 := range_below htt0 k2 lw0
                    have HK2 := Lib.hid k2
                    clear k2
                    refine hKK _ _ ?_
                    refine wpList_plain rfl (fun KK hKK => ?_)
                    go_simp
                    refine hKK _ _ ?_
                    refine wpList_step (fun KK hKK => ?_)
                    go_simp
                    refine hKK _ _ ?_
                    refine wpList_step (fun KK hKK => ?_)
                    go_simp
                    refine hKK _ _ ?_
                    refine wpList_plain rfl (fun KK hKK => ?_)
                    go_simp
                    refine hKK _ _ ?_
                    refine wpList_plain rfl (fun KK hKK => ?_)
                    go_simp
                    refine hKK _ _ ?_
                    refine wpList_step (fun KK hKK => ?_)
                    go_simp
                    refine hKK _ _ ?_
                    refine wpList_step (fun KK hKK => ?_)
                    go_simp
                    refine hKK _ _ ?_
                    refine wpList_step (fun KK hKK => ?_)
                    go_simp
                    refine hKK _ _ ?_
                    refine wpList_step (fun KK hKK => ?_)
                    go_simp
                    refine hKK _ _ ?_
                    refine wpList_step (fun KK hKK => ?_)
                    go_simp
                    refine hKK _ _ ?_
                    refine wpList_plain rfl (fun KK hKK => ?_)
                    go_simp
                    refine hKK _ _ ?_
                    refine wpList_nil ?_
                    go_wp2_with fail
                    go_meet
                    exact ⟨by rw [HFIN.out], HK2.out⟩
                  · cases am
                    · as_aux_lemma =>
                      have HFIN : Hid ((badP ws e t1 t2 Ps key q) = !br) := Lib.hid (by rw [HBP.out]; rfl)
                      refine wp_region_lit ?_
                      refine wpList_load_mid rfl 41 (.tmp 5) rfl w.heap.size 0 (by first | rfl | simp) e.st _ hst0 Try.underlying41 rfl st_info ?_
                      refine wpList_plain rfl (fun KK hKK => ?_)
                      go_simp
                      refine hKK _ _ ?_
                      refine wpList_plain rfl (fun KK hKK => ?_)
                      go_simp
                      (go_at_call 40; refine (HWI.out Va).mono ?_; rintro e1 V2 ⟨rfl, k2⟩)
                      have htt2 := range_below htt0 k2 lw0
                      have HK2 := Lib.hid k2
                      clear k2
                      refine hKK _ _ ?_
                      refine wpList_plain rfl (fun KK hKK => ?_)
                      go_simp
                      refine hKK _ _ ?_
                      refine wpList_step (fun KK hKK => ?_)
                      go_simp
                      refine hKK _ _ ?_
                      refine wpList_step (fun KK hKK => ?_)
                      go_simp
                      refine hKK _ _ ?_
                      refine wpList_plain rfl (fun KK hKK => ?_)
                      go_simp
                      refine hKK _ _ ?_
                      refine wpList_plain rfl (fun KK hKK => ?_)
                      go_simp
                      refine hKK _ _ ?_
                      refine wpList_step (fun KK hKK => ?_)
                      go_simp
                      refine hKK _ _ ?_
                      refine wpList_step (fun KK hKK => ?_)
                      go_simp
                      refine hKK _ _ ?_
                      refine wpList_step (fun KK hKK => ?_)
                      rw [if_pos (by rfl)]
                      refine wp_load_mid 32 (.tmp 6) rfl (w.heap.size + 1) 0 (by first | rfl | simp) [.int .i64 t1, .int .i64 t2] _ htt2 Try.underlying32 rfl stp_size ?_
                      refine hKK _ _ ?_
                      refine wpList_step (fun KK hKK => ?_)
                      rw [if_pos (by rfl)]
                      go_simp
                      (go_at_call 21; refine (HRX.out V2 HK2.out).mono ?_; rintro e3 V3 ⟨rfl, k3⟩)
                      have HK3 := Lib.hid (HK2.out.trans (k3.mono HK2.out.size))
                      clear k3
                      refine hKK _ _ ?_
                      refine wpList_step (fun KK hKK => ?_)
                      go_simp
                      refine hKK _ _ ?_
                      refine wpList_plain rfl (fun KK hKK => ?_)
                      go_simp
                      refine hKK _ _ ?_
                      refine wpList_nil ?_
                      go_wp2_with fail
                      go_meet
                      exact ⟨by rw [HFIN.out], HK3.out⟩
                    · as_aux_lemma =>
                      have HFIN : Hid ((badP ws e t1 t2 Ps key q) = false) := Lib.hid (by rw [HBP.out]; rfl)
                      refine wp_region_lit ?_
                      refine wpList_load_mid rfl 41 (.tmp 5) rfl w.heap.size 0 (by first | rfl | simp) e.st _ hst0 Try.underlying41 rfl st_info ?_
                      refine wpList_plain rfl (fun KK hKK => ?_)
                      go_simp
                      refine hKK _ _ ?_
                      refine wpList_plain rfl (fun KK hKK => ?_)
                      go_simp
                      (go_at_call 40; refine (HWI.out Va).mono ?_; rintro e1 V2 ⟨rfl, k2⟩)
                      have htt2 := range_below htt0 k2 lw0
                      have HK2 := Lib.hid k2
                      clear k2
                      refine hKK _ _ ?_
                      refine wpList_plain rfl (fun KK hKK => ?_)
                      go_simp
                      refine hKK _ _ ?_
                      refine wpList_step (fun KK hKK => ?_)
                      go_simp
                      refine hKK _ _ ?_
                      refine wpList_step (fun KK hKK => ?_)
                      go_simp
                      refine hKK _ _ ?_
                      refine wpList_plain rfl (fun KK hKK => ?_)
                      go_simp
                      refine hKK _ _ ?_
                      refine wpList_plain rfl (fun KK hKK => ?_)
                      go_simp
                      refine hKK _ _ ?_
                      refine wpList_step (fun KK hKK => ?_)
                      go_simp
                      refine hKK _ _ ?_
                      refine wpList_step (fun KK hKK => ?_)
                      go_simp
                      refine hKK _ _ ?_
                      refine wpList_step (fun KK hKK => ?_)
                      go_simp
                      refine hKK _ _ ?_
                      refine wpList_step (fun KK hKK => ?_)
                      go_simp
                      refine hKK _ _ ?_
                      refine wpList_step (fun KK hKK => ?_)
                      go_simp
                      refine hKK _ _ ?_
                      refine wpList_plain rfl (fun KK hKK => ?_)
                      go_simp
                      refine hKK _ _ ?_
                      refine wpList_nil ?_
                      go_wp2_with fail
                      go_meet
                      exact ⟨by rw [HFIN.out], HK2.out⟩
                case rest =>
                obtain ⟨rfl, hb9⟩ := hcut
                generalize wc = V9 at *
                have HB9 := Lib.hid (HVB.out.trans (hb9.mono HVB.out.size))
                obtain ⟨bo, hbo⟩ : ∃ b, badP ws e t1 t2 Ps key q = b := ⟨_, rfl⟩
                rw [hbo]
                have HBO := Lib.hid hbo
                clear hbo hb9 hst0 htt0 lw0
                cases bo
                · as_aux_lemma =>
                  have HN : Hid (res = keysP ws e t1 t2 Ps fb q (keys.drop (k + 1))) := Lib.hid (by rw [HRES.out, HDR.out, keysP_next HADV.out HF.out HBO.out])
                  go_wp2_with fail
                  go_roundw
                  case rel => exact ⟨k + 1, q, by omega, by omega, by simp, rfl, HN.out, HB9.out⟩
                  all_goals ((try simp only [intOf]); omega)
                · as_aux_lemma =>
                  have HN : Hid (res = false) := Lib.hid (by rw [HRES.out, HDR.out, keysP_bad HADV.out HF.out HBO.out])
                  go_wp2_with fail
                  go_ret
                  exact ⟨by rw [HN.out]; rfl, HBW.out.trans (HB9.out.mono HBW.out.size)⟩
              · have wq : IntKind.i64.wrap ((q : Int) + 1) = (q : Int) + 1 := IntWalk.i64_in _ (by omega)
                have HQ2 : Hid (advN Ps key m = advN Ps key (q + 1)) := Lib.hid (by rw [HQ.out, advN_step HX.out hb1])
                go_wp2_with fail
                go_roundw
                case rel => exact ⟨q + 1, by omega, by omega, by simp, HQ2.out |> Lib.hid, HBM.out⟩
                all_goals ((try simp only [intOf]); omega)
            · have e1 : q = Ps.length := by omega
              have t14 : decide ((q : Int) < (Ps.length : Int)) = false := by simpa using (show ¬ q < Ps.length from h2)
              have t16 : ((q : Int) == (Ps.length : Int)) = true := beq_iff_eq.2 (by omega)
              have HADV : Hid (advN Ps key m = q) := Lib.hid (by rw [HQ.out, e1, advN_end])
              cases fb
              · have HF : Hid ((decide (q = Ps.length) && false) = false) := Lib.hid (by rw [Bool.and_false])
                have HAM : Hid (amongN Ps key q = false) := Lib.hid (by unfold amongN; rw [List.getElem?_eq_none (by omega)])
                go_upto_region 19 with fail
                clear t14 t16 e1
                generalize wr = Va at *
                go_cut [122] (fun p wx => p = .bool (badP ws e t1 t2 Ps key q) ∧ Below Va.heap.size Va wx)
                case first =>
                  obtain ⟨bw, hbw⟩ : ∃ b, withinP e.key e.hi key = b := ⟨_, rfl⟩
                  have hwi := fun W : World => within_any e key W
                  rw [hbw] at hwi
                  have HWI := Lib.hid hwi
                  obtain ⟨br, hbr⟩ : ∃ b, readP (ws.filter (fun m => decide (m.key = key))) key t1 t2 false [] = b := ⟨_, rfl⟩
                  have hrx := fun (W : World) (u : Below Va.heap.size Va W) => HRD.out key false none 0 [] W (HBA.out.trans (u.mono HBA.out.size)) (fun h => absurd h (Nat.lt_irrefl 0)) (fun _ h => by cases h)
                  rw [hbr] at hrx
                  simp only [List.length_nil] at hrx
                  have HRX := Lib.hid hrx
                  have HBP : Hid (badP ws e t1 t2 Ps key q = (bw && (!false && !br))) := Lib.hid (by unfold badP; rw [hbw, hbr, HAM.out])
                  clear hwi hrx hbw hbr
                  cases bw
                  · as_aux_lemma =>
                    have HFIN : Hid ((badP ws e t1 t2 Ps key q) = false) := Lib.hid (by rw [HBP.out]; rfl)
                    refine wp_region_lit ?_
                    refine wpList_load_mid rfl 41 (.tmp 5) rfl w.heap.size 0 (by first | rfl | simp) e.st _ hst0 Try.underlying41 rfl st_info ?_
                    refine wpList_plain rfl (fun KK hKK => ?_)
                    go_simp
                    refine hKK _ _ ?_
                    refine wpList_plain rfl (fun KK hKK => ?_)
                    go_simp
                    (go_at_call 40; refine (HWI.out Va).mono ?_; rintro e1 V2 ⟨rfl, k2⟩)
                    have htt2 := range_below htt0 k2 lw0
                    have HK2 := Lib.hid k2
                    clear k2
                    refine hKK _ _ ?_
                    refine wpList_plain rfl (fun KK hKK => ?_)
                    go_simp
                    refine hKK _ _ ?_
                    refine wpList_step (fun KK hKK => ?_)
                    go_simp
                    refine hKK _ _ ?_
                    refine wpList_step (fun KK hKK => ?_)
                    go_simp
                    refine hKK _ _ ?_
                    refine wpList_plain rfl (fun KK hKK => ?_)
                    go_simp
                    refine hKK _ _ ?_
                    refine wpList_plain rfl (fun KK hKK => ?_)
                    go_simp
                    refine hKK _ _ ?_
                    refine wpList_step (fun KK hKK => ?_)
                    go_simp
                    refine hKK _ _ ?_
                    refine wpList_step (fun KK hKK => ?_)
                    go_simp
                    refine hKK _ _ ?_
                    refine wpList_step (fun KK hKK => ?_)
                    go_simp
                    refine hKK _ _ ?_
                    refine wpList_step (fun KK hKK => ?_)
                    go_simp
                    refine hKK _ _ ?_
                    refine wpList_step (fun KK hKK => ?_)
                    go_simp
                    refine hKK _ _ ?_
                    refine wpList_plain rfl (fun KK hKK => ?_)
                    go_simp
                    refine hKK _ _ ?_
                    refine wpList_nil ?_
                    go_wp2_with fail
                    go_meet
                    exact ⟨by rw [HFIN.out], HK2.out⟩
                  · as_aux_lemma =>
                    have HFIN : Hid ((badP ws e t1 t2 Ps key q) = !br) := Lib.hid (by rw [HBP.out]; rfl)
                    refine wp_region_lit ?_
                    refine wpList_load_mid rfl 41 (.tmp 5) rfl w.heap.size 0 (by first | rfl | simp) e.st _ hst0 Try.underlying41 rfl st_info ?_
                    refine wpList_plain rfl (fun KK hKK => ?_)
                    go_simp
                    refine hKK _ _ ?_
                    refine wpList_plain rfl (fun KK hKK => ?_)
                    go_simp
                    (go_at_call 40; refine (HWI.out Va).mono ?_; rintro e1 V2 ⟨rfl, k2⟩)
                    have htt2 := range_below htt0 k2 lw0
                    have HK2 := Lib.hid k2
                    clear k2
                    refine hKK _ _ ?_
                    refine wpList_plain rfl (fun KK hKK => ?_)
                    go_simp
                    refine hKK _ _ ?_
                    refine wpList_step (fun KK hKK => ?_)
                    go_simp
                    refine hKK _ _ ?_
                    refine wpList_step (fun KK hKK => ?_)
                    go_simp
                    refine hKK _ _ ?_
                    refine wpList_plain rfl (fun KK hKK => ?_)
                    go_simp
                    refine hKK _ _ ?_
                    refine wpList_plain rfl (fun KK hKK => ?_)
                    go_simp
                    refine hKK _ _ ?_
                    refine wpList_step (fun KK hKK => ?_)
                    go_simp
                    refine hKK _ _ ?_
                    refine wpList_step (fun KK hKK => ?_)
                    go_simp
                    refine hKK _ _ ?_
                    refine wpList_step (fun KK hKK => ?_)
                    rw [if_pos (by rfl)]
                    refine wp_load_mid 32 (.tmp 6) rfl (w.heap.size + 1) 0 (by first | rfl | simp) [.int .i64 t1, .int .i64 t2] _ htt2 Try.underlying32 rfl stp_size ?_
                    refine hKK _ _ ?_
                    refine wpList_step (fun KK hKK => ?_)
                    rw [if_pos (by rfl)]
                    go_simp
                    (go_at_call 21; refine (HRX.out V2 HK2.out).mono ?_; rintro e3 V3 ⟨rfl, k3⟩)
                    have HK3 := Lib.hid (HK2.out.trans (k3.mono HK2.out.size))
                    clear k3
                    refine hKK _ _ ?_
                    refine wpList_step (fun KK hKK => ?_)
                    go_simp
                    refine hKK _ _ ?_
                    refine wpList_plain rfl (fun KK hKK => ?_)
                    go_simp
                    refine hKK _ _ ?_
                    refine wpList_nil ?_
                    go_wp2_with fail
                    go_meet
                    exact ⟨by rw [HFIN.out], HK3.out⟩
                case rest =>
                obtain ⟨rfl, hb9⟩ := hcut
                generalize wc = V9 at *
                have HB9 := Lib.hid (HVB.out.trans (hb9.mono HVB.out.size))
                obtain ⟨bo, hbo⟩ : ∃ b, badP ws e t1 t2 Ps key q = b := ⟨_, rfl⟩
                rw [hbo]
                have HBO := Lib.hid hbo
                clear hbo hb9 hst0 htt0 lw0
                cases bo
                · as_aux_lemma =>
                  have HN : Hid (res = keysP ws e t1 t2 Ps false q (keys.drop (k + 1))) := Lib.hid (by rw [HRES.out, HDR.out, keysP_next HADV.out HF.out HBO.out])
                  go_wp2_with fail
                  go_roundw
                  case rel => exact ⟨k + 1, q, by omega, by omega, by simp, rfl, HN.out, HB9.out⟩
                  all_goals ((try simp only [intOf]); omega)
                · as_aux_lemma =>
                  have HN : Hid (res = false) := Lib.hid (by rw [HRES.out, HDR.out, keysP_bad HADV.out HF.out HBO.out])
                  go_wp2_with fail
                  go_ret
                  exact ⟨by rw [HN.out]; rfl, HBW.out.trans (HB9.out.mono HBW.out.size)⟩
              · have HN : Hid (res = true) := Lib.hid (by rw [HRES.out, HDR.out, keysP_out (by rw [HADV.out, e1])])
                go_wp2_with fail
                go_ret
                exact ⟨by rw [HN.out]; rfl, HBA.out⟩
        · have t12 : decide ((k : Int) < (keys.length : Int)) = false := by simpa using h1
          have HN : Hid (res = true) := Lib.hid (by rw [HRES.out, List.drop_eq_nil_of_le (by omega)]; rfl)
          go_wp2_with fail
          go_ret
          exact ⟨by rw [HN.out]; rfl, HBW.out.trans (HBB.out.mono HBW.out.size)⟩
end Go.Proofs.Ytdjhpajmbddffaa
