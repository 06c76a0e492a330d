/- stream: Take (written by gen/strd.py). -/
import Derived.BigQuiet
import Derived.Deep.AppendLies
import Derived.Lib.QuietBelow
import Derived.Lib.SliceRun
import Derived.Test.YtdffldlcbihjmaaDoorBut
import Derived.Test.YtdffldlcbihjmaaDoorOctBytes
import Derived.Test.YtdffldlcbihjmaaDoorOctJoin
import Derived.Test.YtdffldlcbihjmaaDoorRecDec
import Derived.Test.YtdffldlcbihjmaaDoorRecIs
import Derived.Test.YtdffldlcbihjmaaDoorRecRow
import Derived.Test.YtdffldlcbihjmaaDoorRecordsR
/- The records of a script: record, some (package meridianlaw18). -/
set_option linter.unusedSimpArgs false
set_option linter.unusedVariables false
namespace Go.Proofs.YtdffldlcbihjmaaDoor
open Go.RowKit Go.Sort

theorem u8_wrap (n : Nat) : IntKind.u8.wrap (n : Int) = ((n % 256 : Nat) : Int) := by
  simp [IntKind.wrap, IntKind.signed, IntKind.bits]
/-- The so many-th record of a place. -/
def recS (o : Int) (s : Nat) : Rc := ⟨o, s, [107], (min s 1099511627776 : Nat), 0, o, [((s % 256 : Nat) : Int)], false, 0⟩
theorem recS_by (o : Int) (s : Nat) : isBy (recS o s).key ∧ isBy (recS o s).val := by
  refine ⟨?_, ?_⟩ <;> intro j hj <;> simp [recS] at hj ⊢ <;> omega
/-- Records of a place from one on. -/
def someR (o : Int) (f n : Nat) : List Rc := (List.range n).map fun i => recS o (f + i)
theorem someR_zero (o : Int) (f : Nat) : someR o f 0 = [] := rfl
theorem someR_succ (o : Int) (f n : Nat) : someR o f (n + 1) = someR o f n ++ [recS o (f + n)] := by simp [someR, List.range_succ]
theorem someR_len (o : Int) (f n : Nat) : (someR o f n).length = n := by simp [someR]
theorem someR_at {o : Int} {f n i : Nat} (h : i < n) : (someR o f n)[i]? = some (recS o (f + i)) := by simp [someR, h]
theorem someR_mem {o : Int} {f n : Nat} {r : Rc} (h : r ∈ someR o f n) : ∃ i, i < n ∧ r = recS o (f + i) := by
  simp [someR] at h
  obtain ⟨i, hi, rfl⟩ := h
  exact ⟨i, hi, rfl⟩
/-- A record that the law makes. -/
def RecRes (o : Int) (s : Nat) (w w' : World) (e : Ending) : Prop := ∃ g, e = .returned (recV o s (strB [107]) (min s 1099511627776 : Nat) 0 o (some ⟨g, 0, none⟩) 1 1 false 0) ∧ w.heap.size ≤ g ∧ g < w'.heap.size ∧ w'.cell? ⟨g, 0, none⟩ = some (.int .u8 ((s % 256 : Nat) : Int)) ∧ Below w.heap.size w w'
theorem RecRes.at_ {o : Int} {s g : Nat} {w w' : World} (h1 : w.heap.size ≤ g) (h2 : g < w'.heap.size) (h3 : w'.cell? ⟨g, 0, none⟩ = some (.int .u8 ((s % 256 : Nat) : Int))) : (Mr.mk (recS o s) (some ⟨g, 0, none⟩) 1).At (fun i => w.heap.size ≤ i) w' :=
  ⟨fun _ => ⟨g, 0, rfl, h2, fun j u hj => by
    obtain ⟨q, rfl⟩ := bC_some hj
    have : j = 0 := by simp [recS] at q; omega
    subst this
    simpa [recS] using h3⟩, (fun e => by cases e), fun _ ad had => by injection had with had; subst had; exact h1⟩
theorem rec_fin (o : Int) (s : Nat) (m : Int) (b : Nat) (w : World) (hm : m = (min s 1099511627776 : Nat)) (hb : s % 256 = b) : ∀ (v : Value) (w' : World), v = recV o s (strB [107]) m 0 o (some ⟨w.heap.size + 1, 0, none⟩) 1 1 false 0 →
    w' = (w.alloc (.cells #[.int .i64 o, .int .i64 s, .string ⟨#[107]⟩, .int .i64 m, .int .i64 0, .int .i64 o, .slice (some ⟨w.heap.size + 1, 0, none⟩) 1 1, .bool false, .int .i64 0] 89)).alloc (.cells #[.int .u8 b] 5) → RecRes o s w w' (.returned v) := by
  rintro v w' rfl rfl
  subst hm hb
  exact ⟨w.heap.size + 1, rfl, by omega, by simp, by simp, by (repeat' (first | (with_reducible exact Below.refl _ _) | (with_reducible assumption) | (with_reducible refine Below.trans ?_ (Below.mono (by with_reducible assumption) ?_)) | (with_reducible refine Below.alloc ?_ ?_ _) | (with_reducible refine Below.setCell ?_ ?_ _) | (with_reducible refine below_drewN ?_ _) | (with_reducible refine Below.drew ?_) | go_size))⟩
set_option maxRecDepth 100000 in
set_option maxHeartbeats 4000000 in
theorem law_rec (o : Int) (s : Nat) (w : World) : Calls Tryd.prog 69 #[.int .i64 o, .int .i64 s] w fun e w' => RecRes o s w w' e := by
  have hk : strB [107] = ⟨#[107]⟩ := by rfl
  have hw := u8_wrap s
  have HB : ∀ b, Hid (s % 256 = b → s % 256 = b) := fun b => Lib.hid id
  obtain ⟨b, hb⟩ : ∃ b, s % 256 = b := ⟨_, rfl⟩
  have HBB := Lib.hid hb
  rw [hb] at hw
  clear hb HB
  obtain rfl | h0 : s = 0 ∨ 0 < s := by omega
  · have FIN := Lib.hid (rec_fin o 0 0 0 w (by simp) rfl)
    go_enter Tryd.func69, Tryd.ntmps69
    go_wp2
    refine bodyPost_ret (v := recV o 0 (strB [107]) 0 0 o (some ⟨w.heap.size + 1, 0, none⟩) 1 1 false 0) (by simp [results, Tryd.results69, go_sem, World.cell?_alloc_past, hk]) rfl (FIN.out _ _ rfl rfl)
  by_cases h : s ≤ 1099511627776
  · have t3 : ¬ (1099511627776 : Int) < (s : Int) := by omega
    have t4 : (0 : Int) < (s : Int) := by omega
    have FIN := Lib.hid (rec_fin o s s b w (by rw [Nat.min_eq_left h]) HBB.out)
    clear h
    go_enter Tryd.func69, Tryd.ntmps69
    go_wp2
    refine bodyPost_ret (v := recV o s (strB [107]) s 0 o (some ⟨w.heap.size + 1, 0, none⟩) 1 1 false 0) (by simp [results, Tryd.results69, go_sem, World.cell?_alloc_past, hk]) rfl (FIN.out _ _ rfl rfl)
  · have t3 : (1099511627776 : Int) < (s : Int) := by omega
    have FIN := Lib.hid (rec_fin o s 1099511627776 b w (by rw [Nat.min_eq_right (by omega)]; rfl) HBB.out)
    clear h
    go_enter Tryd.func69, Tryd.ntmps69
    go_wp2
    refine bodyPost_ret (v := recV o s (strB [107]) 1099511627776 0 o (some ⟨w.heap.size + 1, 0, none⟩) 1 1 false 0) (by simp [results, Tryd.results69, go_sem, World.cell?_alloc_past, hk]) rfl (FIN.out _ _ rfl rfl)
/-- A row of records that the call lays. -/
structure TL (w wr : World) (v : Value) (k : Nat) (L : List Mr) : Prop where
  row : wr.ownsRow w.heap.size 89 9 v k (rowM L)
  len : L.length = k
  ats : ∀ m ∈ L, m.At (fun i => w.heap.size ≤ i ∧ v.ownBlock ≠ some i) wr
  bel : Below w.heap.size w wr
theorem TL.below {w wr wa : World} {v : Value} {k : Nat} {L : List Mr} (h : TL w wr v k L) (hk : Below wr.heap.size wr wa) : TL w wa v k L :=
  ⟨(But.of_below (S := fun _ => False) hk).row h.row (fun _ _ hf => hf), h.len, fun m hm => (h.ats m hm).below hk, h.bel.trans (hk.mono h.bel.size)⟩
theorem TL.start (w : World) : TL w w (.slice none 0 0) 0 [] := ⟨World.ownsRow_nil _ _ _ _, rfl, (fun _ h => by cases h), Below.refl _ _⟩
theorem TL.start' {w wr : World} (h : Below w.heap.size w wr) : TL w wr (.slice none 0 0) 0 [] := ⟨World.ownsRow_nil _ _ _ _, rfl, (fun _ h => by cases h), h⟩
theorem TL.shape {w wr : World} {v : Value} {k : Nat} {L : List Mr} (h : TL w wr v k L) : ∃ A c, v = .slice A k c := by
  rcases h.row.2 with ⟨e, h0⟩ | ⟨g, cap, cur, e, _⟩
  · exact ⟨none, 0, by rw [e, h0]⟩
  · exact ⟨_, _, e⟩
theorem TL.rowAt {w wr : World} {v : Value} {k : Nat} {L : List Mr} (h : TL w wr v k L) : RowAt wr v L := RowAt.of (by rw [h.len]; exact h.row)
theorem TL.at_ {w wr : World} {v : Value} {k : Nat} {L : List Mr} (h : TL w wr v k L) : ∀ m ∈ L, m.At (fun _ => True) wr := fun m hm => (h.ats m hm).mono (fun _ _ _ => trivial)
theorem TL.app {w wr wa wb : World} {g cap : Nat} {v : Value} {k : Nat} {L : List Mr} {m : Mr} (h : TL w wr v k L) (hm : m.At (fun i => wr.heap.size ≤ i) wa) (ha : Below wr.heap.size wr wa) (hg : wa.grownBy wb v.ownBlock)
    (ho : wb.ownsRow w.heap.size 89 9 (.slice (some ⟨g, 0, none⟩) (k + 1) cap) (k + 1) (rowM L ++ m.cs)) (hat : v.ownBlock = some g ∨ wa.heap.size ≤ g) : TL w wb (.slice (some ⟨g, 0, none⟩) (k + 1) cap) (k + 1) (L ++ [m]) := by
  have h1 := h.below ha
  have hbt : But (fun i => v.ownBlock = some i) wa wb := But.of_grown hg (fun i hi => hi)
  have hown : ∀ i, v.ownBlock = some i → i < wr.heap.size := fun i hi => (World.ownsRow.lt h.row i hi).2
  have key : ∀ x : Mr, x.At (fun i => w.heap.size ≤ i ∧ v.ownBlock ≠ some i) wa → x.At (fun i => w.heap.size ≤ i ∧ (Value.slice (some ⟨g, 0, none⟩) (k + 1) cap).ownBlock ≠ some i) wb := fun x hx =>
    ((hx.mono (Q' := fun i => (w.heap.size ≤ i ∧ v.ownBlock ≠ some i) ∧ i < wa.heap.size) (fun i hi hq => ⟨hq, hi⟩)).but hbt (fun i hi hq => hq.1.2 hi)).mono (fun i _ hq => ⟨hq.1.1, fun e => by
      have e' : g = i := by simpa [Value.ownBlock] using e
      subst e'
      rcases hat with q | q
      · exact hq.1.2 q
      · have := hq.2; omega⟩)
  refine ⟨by rw [rowM_append, rowM_one]; exact ho, by rw [List.length_append, h.len]; rfl, fun x hx => ?_, h1.bel.trans (hbt.below (fun i hi => (World.ownsRow.lt h1.row i hi).1) h1.bel.size)⟩
  rcases List.mem_append.1 hx with q | q
  · exact key x (h1.ats x q)
  · rw [List.mem_singleton.1 q]
    exact key m (hm.mono (fun i _ hq => ⟨Nat.le_trans h.bel.size hq, fun e => by have := hown i e; omega⟩))
/-- What some tells. -/
def SomeRes (o : Int) (f n : Nat) (w w' : World) (e : Ending) : Prop := ∃ v L, e = .returned v ∧ TL w w' v n L ∧ L.map Mr.r = someR o f n
set_option maxRecDepth 100000 in
set_option maxHeartbeats 4000000 in
theorem law_some (o : Int) (f n : Nat) (w : World) (hf : f ≤ 1099511627777) (hn : n ≤ 100000) :
    Calls Tryd.prog 29 #[.int .i64 o, .int .i64 f, .int .i64 n] w fun e w' => SomeRes o f n w w' e := by
  obtain ⟨i0, hi0, hz0, hz1, hz2⟩ := info_parts rec_info
  have hni : (n : Int) ≤ 100000 := by omega
  have hfi : (f : Int) ≤ 1099511627777 := by omega
  have hkb : Hid (strB [107] = ⟨#[107]⟩) := Lib.hid (by rfl)
  go_enter Tryd.func29, Tryd.ntmps29
  go_wp2
  go_loopw [7, 8] (fun v i wr => ∃ (k : Nat) (L : List Mr), k ≤ n ∧ i = .int .i64 k ∧ TL w wr v k L ∧ Hid (L.map Mr.r = someR o f k)) (fun _ i _ => n - (intOf i).toNat)
  case atStart => exact ⟨0, [], Nat.zero_le _, rfl, TL.start w, Lib.hid rfl⟩
  case round =>
    obtain ⟨k, L, hk, rfl, hT, hE⟩ := hrel
    obtain ⟨Av, cv, rfl⟩ := hT.shape
    have HT := Lib.hid hT
    clear hT
    by_cases hlt : k < n
    · have lk : (k : Int) < (n : Int) := by omega
      have e1 : IntKind.i64.wrap ((f : Int) + (k : Int)) = ((f + k : Nat) : Int) := by rw [IntWalk.i64_in _ (by omega)]; omega
      have HC := Lib.hid (law_rec o (f + k) wr)
      obtain ⟨q, hq⟩ : ∃ q, f + k = q := ⟨_, rfl⟩
      have HQ := Lib.hid hq
      rw [hq] at e1 HC
      clear hq
      go_wp2_with fail
      refine HC.out.mono ?_; rintro e W1 ⟨g, rfl, hg1, hg2, hg3, k1⟩
      generalize hm : (min q 1099511627776 : Nat) = ml at *
      have HM1 := Lib.hid (RecRes.at_ (o := o) hg1 hg2 hg3)
      have HCS : Hid ((Mr.mk (recS o q) (some ⟨g, 0, none⟩) 1).cs = [.int .i64 o, .int .i64 q, .string (strB [107]), .int .i64 ml, .int .i64 0, .int .i64 o, .slice (some ⟨g, 0, none⟩) 1 1, .bool false, .int .i64 0]) := Lib.hid (by subst hm; rfl)
      have HT1 := Lib.hid (HT.out.below k1)
      have kA : Below W1.heap.size W1 (W1.alloc (.cells #[.int .i64 o, .int .i64 q, .string (strB [107]), .int .i64 ml, .int .i64 0, .int .i64 o, .slice (some ⟨g, 0, none⟩) 1 1, .bool false, .int .i64 0] 89)) := (Below.refl _ _).alloc (Nat.le_refl _) _
      have HKA := Lib.hid (k1.trans (kA.mono k1.size))
      have hrow := (HT1.out.below kA).row
      have HMA := Lib.hid (HM1.out.below kA)
      have HNEWS := Lib.hid (World.news_of_block (cs := #[.int .i64 o, .int .i64 q, .string (strB [107]), .int .i64 ml, .int .i64 0, .int .i64 o, .slice (some ⟨g, 0, none⟩) 1 1, .bool false, .int .i64 0]) (t := 89) (fr := (0, 0)) (heap_alloc_new W1 (.cells #[.int .i64 o, .int .i64 q, .string (strB [107]), .int .i64 ml, .int .i64 0, .int .i64 o, .slice (some ⟨g, 0, none⟩) 1 1, .bool false, .int .i64 0] 89)))
      have hz := HT1.out.bel.size
      clear hm k1 kA hg1 hg2 hg3 HC hlt
      go_wp2_with (at_builtin; refine wpList_append_lies _ rfl (.tmp 14) (.tmp 20) _ rfl w.heap.size 89 i0 _ 9 96 Tryd.underlying24 hi0 hz0 hz1 hz2 rfl (by decide) (.slice Av k cv) k _ rfl hrow ⟨W1.heap.size, 0, none⟩ 1 1 [.int .i64 o, .int .i64 q, .string (strB [107]), .int .i64 ml, .int .i64 0, .int .i64 o, .slice (some ⟨g, 0, none⟩) 1 1, .bool false, .int .i64 0] rfl rfl HNEWS.out (by simp [Value.oneCell']) (by omega) (by unfold maxLen; omega) (by omega) (by simp; omega) _ rfl ?_; intro g2 cap2 W5 hown2 hg2 hat2 hlt2)
      have HTf := Lib.hid (HT.out.app HMA.out HKA.out hg2 (by rw [HCS.out]; exact hown2) (hat2.imp_right (fun e => Nat.le_of_eq e.symm)))
      clear hown2 hg2 hat2 hlt2 hrow
      go_roundw
      case rel => exact ⟨k + 1, L ++ [Mr.mk (recS o q) (some ⟨g, 0, none⟩) 1], by omega, by go_num, HTf.out, Lib.hid (by rw [List.map_append, hE.out, someR_succ, HQ.out]; rfl)⟩
      case measure => simp [intOf]; omega
    · obtain rfl : k = n := by omega
      clear hlt
      go_wp2
      go_ret
      exact ⟨_, L, rfl, HT.out, hE.out⟩
end Go.Proofs.YtdffldlcbihjmaaDoor

/- stream: the two sides, but what sends, takes, says. -/
namespace Go.Proofs.YtdffldlcbihjmaaDoor
open Go.RowKit Go.Sort

abbrev outC (f t a s n : Int) : List Value := [.int .i64 f, .int .i64 t, .int .i64 a, .int .i64 s, .int .i64 n]
abbrev inC (f o a : Int) : List Value := [.int .i64 f, .int .i64 o, .int .i64 a]
def placesB (a b : Int) : Bool := decide (0 ≤ a) && (decide (a < 5) && (decide (0 ≤ b) && (decide (b < 5) && decide (a ≠ b))))
set_option maxRecDepth 100000 in
set_option maxHeartbeats 4000000 in
theorem st_places (a b : Int) (w : World) : Calls Tryd.prog 70 #[.int .i64 a, .int .i64 b] w fun e w' => e = .returned (.bool (placesB a b)) ∧ w = w' := by
  by_cases h1 : 0 ≤ a
  rotate_left
  · have e : placesB a b = false := by simp [placesB, h1]
    rw [e]
    go_enter Tryd.func70, Tryd.ntmps70
    go_wp2
    go_ret
    exact ⟨rfl, rfl⟩
  by_cases h2 : a < 5
  rotate_left
  · have e : placesB a b = false := by simp [placesB, h2]
    rw [e]
    go_enter Tryd.func70, Tryd.ntmps70
    go_wp2
    go_ret
    exact ⟨rfl, rfl⟩
  by_cases h3 : 0 ≤ b
  rotate_left
  · have e : placesB a b = false := by simp [placesB, h3]
    rw [e]
    go_enter Tryd.func70, Tryd.ntmps70
    go_wp2
    go_ret
    exact ⟨rfl, rfl⟩
  by_cases h4 : b < 5
  rotate_left
  · have e : placesB a b = false := by simp [placesB, h4]
    rw [e]
    go_enter Tryd.func70, Tryd.ntmps70
    go_wp2
    go_ret
    exact ⟨rfl, rfl⟩
  have e : placesB a b = decide (a ≠ b) := by simp [placesB, h1, h2, h3, h4]
  rw [e]
  by_cases h5 : a = b
  · have h5' : (a != b) = false := by simpa using h5
    have h6 : decide (a ≠ b) = false := by simpa using h5
    rw [h6]
    clear h6
    have H5 := Lib.hid h5
    clear h5 e
    go_enter Tryd.func70, Tryd.ntmps70
    go_wp2
    go_ret
    exact ⟨rfl, rfl⟩
  · have h5' : (a != b) = true := by simpa using h5
    have h6 : decide (a ≠ b) = true := by simpa using h5
    rw [h6]
    clear h6 e
    go_enter Tryd.func70, Tryd.ntmps70
    go_wp2
    go_ret
    exact ⟨rfl, rfl⟩
def newOk (f t a : Int) : Bool := placesB f t && (decide (0 ≤ a) && decide (a ≤ 1099511627776))
/-- A side that is made, or none. -/
def NewRes (cs : List Value) (ok : Bool) (w w' : World) (e : Ending) : Prop := (ok = false ∧ e = .returned (.tuple #[.pointer none, .int .i64 1]) ∧ Below w.heap.size w w') ∨
  (ok = true ∧ ∃ b, e = .returned (.tuple #[.pointer (some ⟨b, 0, none⟩), .int .i64 0]) ∧ w.heap.size ≤ b ∧ XB w' b cs ∧ Below w.heap.size w w')
set_option maxRecDepth 100000 in
set_option maxHeartbeats 4000000 in
theorem st_new_out (f t a : Int) (w : World) : Calls Tryd.prog 25 #[.int .i64 f, .int .i64 t, .int .i64 a] w fun e w' => NewRes (outC f t a a 0) (newOk f t a) w w' e := by
  have HP := Lib.hid (st_places f t w)
  cases hp : placesB f t
  · rw [hp] at HP
    have e : newOk f t a = false := by simp [newOk, hp]
    rw [e]
    clear e hp
    go_enter Tryd.func25, Tryd.ntmps25
    go_wp2_with (go_at_call 70; refine HP.out.mono ?_; rintro e w1 ⟨rfl, rfl⟩)
    go_ret2
    exact .inl ⟨rfl, rfl, Below.refl _ _⟩
  rw [hp] at HP
  by_cases h1 : 0 ≤ a
  rotate_left
  · have e : newOk f t a = false := by simp [newOk, h1]
    rw [e]
    have h1' : a < 0 := by omega
    clear e hp h1
    go_enter Tryd.func25, Tryd.ntmps25
    go_wp2_with (go_at_call 70; refine HP.out.mono ?_; rintro e w1 ⟨rfl, rfl⟩)
    go_ret2
    exact .inl ⟨rfl, rfl, Below.refl _ _⟩
  have h1' : ¬ a < 0 := by omega
  by_cases h2 : a ≤ 1099511627776
  rotate_left
  · have e : newOk f t a = false := by simp [newOk, h2]
    rw [e]
    have h2' : 1099511627776 < a := by omega
    clear e hp h1 h2
    go_enter Tryd.func25, Tryd.ntmps25
    go_wp2_with (go_at_call 70; refine HP.out.mono ?_; rintro e w1 ⟨rfl, rfl⟩)
    go_ret2
    exact .inl ⟨rfl, rfl, Below.refl _ _⟩
  · have e : newOk f t a = true := by simp [newOk, h1, h2, hp]
    rw [e]
    have h2' : ¬ 1099511627776 < a := by omega
    clear e hp h1 h2
    go_enter Tryd.func25, Tryd.ntmps25
    go_wp2_with (go_at_call 70; refine HP.out.mono ?_; rintro e w1 ⟨rfl, rfl⟩)
    go_ret2
    exact .inr ⟨rfl, _, rfl, Nat.le_refl _, XB.new w _ _, by (repeat' (first | (with_reducible exact Below.refl _ _) | (with_reducible assumption) | (with_reducible refine Below.trans ?_ (Below.mono (by with_reducible assumption) ?_)) | (with_reducible refine Below.alloc ?_ ?_ _) | (with_reducible refine Below.setCell ?_ ?_ _) | (with_reducible refine below_drewN ?_ _) | (with_reducible refine Below.drew ?_) | go_size))⟩
set_option maxRecDepth 100000 in
set_option maxHeartbeats 4000000 in
theorem st_new_in (f t a : Int) (w : World) : Calls Tryd.prog 38 #[.int .i64 f, .int .i64 t, .int .i64 a] w fun e w' => NewRes (inC f t a) (newOk f t a) w w' e := by
  have HP := Lib.hid (st_places f t w)
  cases hp : placesB f t
  · rw [hp] at HP
    have e : newOk f t a = false := by simp [newOk, hp]
    rw [e]
    clear e hp
    go_enter Tryd.func38, Tryd.ntmps38
    go_wp2_with (go_at_call 70; refine HP.out.mono ?_; rintro e w1 ⟨rfl, rfl⟩)
    go_ret2
    exact .inl ⟨rfl, rfl, Below.refl _ _⟩
  rw [hp] at HP
  by_cases h1 : 0 ≤ a
  rotate_left
  · have e : newOk f t a = false := by simp [newOk, h1]
    rw [e]
    have h1' : a < 0 := by omega
    clear e hp h1
    go_enter Tryd.func38, Tryd.ntmps38
    go_wp2_with (go_at_call 70; refine HP.out.mono ?_; rintro e w1 ⟨rfl, rfl⟩)
    go_ret2
    exact .inl ⟨rfl, rfl, Below.refl _ _⟩
  have h1' : ¬ a < 0 := by omega
  by_cases h2 : a ≤ 1099511627776
  rotate_left
  · have e : newOk f t a = false := by simp [newOk, h2]
    rw [e]
    have h2' : 1099511627776 < a := by omega
    clear e hp h1 h2
    go_enter Tryd.func38, Tryd.ntmps38
    go_wp2_with (go_at_call 70; refine HP.out.mono ?_; rintro e w1 ⟨rfl, rfl⟩)
    go_ret2
    exact .inl ⟨rfl, rfl, Below.refl _ _⟩
  · have e : newOk f t a = true := by simp [newOk, h1, h2, hp]
    rw [e]
    have h2' : ¬ 1099511627776 < a := by omega
    clear e hp h1 h2
    go_enter Tryd.func38, Tryd.ntmps38
    go_wp2_with (go_at_call 70; refine HP.out.mono ?_; rintro e w1 ⟨rfl, rfl⟩)
    go_ret2
    exact .inr ⟨rfl, _, rfl, Nat.le_refl _, XB.new w _ _, by (repeat' (first | (with_reducible exact Below.refl _ _) | (with_reducible assumption) | (with_reducible refine Below.trans ?_ (Below.mono (by with_reducible assumption) ?_)) | (with_reducible refine Below.alloc ?_ ?_ _) | (with_reducible refine Below.setCell ?_ ?_ _) | (with_reducible refine below_drewN ?_ _) | (with_reducible refine Below.drew ?_) | go_size))⟩
end Go.Proofs.YtdffldlcbihjmaaDoor

/- stream: Need, Ack, Acked, Tick, Applied; nil sides. -/
namespace Go.Proofs.YtdffldlcbihjmaaDoor
open Go.RowKit Go.Sort

/-- What is to be sent. -/
def needM (a s n last : Int) : Int × Bool := if s < last then (s + 1, true) else if a < last ∧ 4 ≤ n then (a + 1, true) else (0, false)
set_option maxRecDepth 100000 in
set_option maxHeartbeats 4000000 in
theorem st_need (b : Nat) (f t a s n last : Int) (w : World) (h : XB w b (outC f t a s n)) (ha : 0 ≤ a ∧ a ≤ 4611686018427387904) (hs : 0 ≤ s ∧ s ≤ 4611686018427387904) :
    Calls Tryd.prog 27 #[.pointer (some ⟨b, 0, none⟩), .int .i64 last] w fun e w' => e = .returned (.tuple #[.int .i64 (needM a s n last).1, .bool (needM a s n last).2]) ∧ w = w' := by
  have c2 := h.c 2 _ rfl
  have c3 := h.c 3 _ rfl
  have c4 := h.c 4 _ rfl
  have lt := h.lt
  have e1 : IntKind.i64.wrap (s + 1) = s + 1 := IntWalk.i64_in _ (by omega)
  have e2 : IntKind.i64.wrap (a + 1) = a + 1 := IntWalk.i64_in _ (by omega)
  clear h ha hs
  by_cases h1 : s < last
  · have e : needM a s n last = (s + 1, true) := by simp [needM, h1]
    rw [e]
    clear e
    go_enter Tryd.func27, Tryd.ntmps27
    go_wp2
    go_ret2
    exact ⟨rfl, rfl⟩
  by_cases h2 : a < last
  rotate_left
  · have e : needM a s n last = (0, false) := by simp [needM, h1, h2]
    rw [e]
    clear e
    go_enter Tryd.func27, Tryd.ntmps27
    go_wp2
    go_ret2
    exact ⟨rfl, rfl⟩
  by_cases h3 : 4 ≤ n
  · have e : needM a s n last = (a + 1, true) := by simp [needM, h1, h2, h3]
    rw [e]
    clear e
    go_enter Tryd.func27, Tryd.ntmps27
    go_wp2
    go_ret2
    exact ⟨rfl, rfl⟩
  · have e : needM a s n last = (0, false) := by simp [needM, h1, h3]
    rw [e]
    clear e
    go_enter Tryd.func27, Tryd.ntmps27
    go_wp2
    go_ret2
    exact ⟨rfl, rfl⟩
theorem st_acked (b : Nat) (f t a s n : Int) (w : World) (h : XB w b (outC f t a s n)) :
    Calls Tryd.prog 37 #[.pointer (some ⟨b, 0, none⟩)] w fun e w' => e = .returned (.int .i64 a) ∧ w = w' := by
  have c2 := h.c 2 _ rfl
  have lt := h.lt
  clear h
  go_enter Tryd.func37, Tryd.ntmps37
  go_wp2
  go_ret
  exact ⟨rfl, rfl⟩
theorem st_applied (b : Nat) (f t a : Int) (w : World) (h : XB w b (inC f t a)) :
    Calls Tryd.prog 45 #[.pointer (some ⟨b, 0, none⟩)] w fun e w' => e = .returned (.int .i64 a) ∧ w = w' := by
  have c2 := h.c 2 _ rfl
  have lt := h.lt
  clear h
  go_enter Tryd.func45, Tryd.ntmps45
  go_wp2
  go_ret
  exact ⟨rfl, rfl⟩
/-- A side that was written. -/
structure StPost (b : Nat) (cs : List Value) (w w' : World) : Prop where
  xb : XB w' b cs
  only : Only b w w'
def ackB (a s q : Int) : Bool := decide (a < q) && decide (q ≤ s)
set_option maxRecDepth 100000 in
set_option maxHeartbeats 4000000 in
theorem st_ack (b : Nat) (f t a s n q : Int) (w : World) (h : XB w b (outC f t a s n)) :
    Calls Tryd.prog 30 #[.pointer (some ⟨b, 0, none⟩), .int .i64 q] w fun e w' => e = .returned (.bool (ackB a s q)) ∧ StPost b (if ackB a s q = true then outC f t q s 0 else outC f t a s n) w w' := by
  have c2 := h.c 2 _ rfl
  have c3 := h.c 3 _ rfl
  have c4 := h.c 4 _ rfl
  have f2 := h.fz 2
  have f4 := h.fz 4
  have lt := h.lt
  have HX := Lib.hid h
  clear h
  by_cases h1 : a < q
  rotate_left
  · have e : ackB a s q = false := by simp [ackB, h1]
    rw [e]
    have h1' : q ≤ a := by omega
    clear e h1
    go_enter Tryd.func30, Tryd.ntmps30
    go_wp2
    go_ret
    exact ⟨rfl, HX.out, Only.refl _ _⟩
  have h1' : ¬ q ≤ a := by omega
  by_cases h2 : q ≤ s
  rotate_left
  · have e : ackB a s q = false := by simp [ackB, h2]
    rw [e]
    have h2' : s < q := by omega
    clear e h1 h2
    go_enter Tryd.func30, Tryd.ntmps30
    go_wp2
    go_ret
    exact ⟨rfl, HX.out, Only.refl _ _⟩
  · have e : ackB a s q = true := by simp [ackB, h1, h2]
    rw [e]
    have h2' : ¬ s < q := by omega
    clear e h1 h2
    have FIN : Hid (StPost b (outC f t q s 0) w ((w.setCell ⟨b, 2, none⟩ (.int .i64 q)).setCell ⟨b, 4, none⟩ (.int .i64 0))) := Lib.hid ⟨(HX.out.set 2 (by simp) (.int .i64 q)).set 4 (by simp) (.int .i64 0), by (repeat' (first | (with_reducible exact Only.refl _ _) | (with_reducible assumption) | (with_reducible refine Only.alloc ?_ _) | (with_reducible refine Only.setB ?_ _) | (refine Only.setCell ?_ (Or.inr ?_) _) | (with_reducible refine Only.drewN ?_ _) | (with_reducible refine Only.drew ?_) | (with_reducible refine Only.trans ?_ (by with_reducible assumption)) | (with_reducible refine Only.trans ?_ (Only.of_below (by with_reducible assumption))) | go_size))⟩
    go_enter Tryd.func30, Tryd.ntmps30
    go_wp2
    go_ret
    exact ⟨rfl, FIN.out⟩
def tickM (a s n : Int) : Int := if a < s then n + 1 else n
set_option maxRecDepth 100000 in
set_option maxHeartbeats 4000000 in
theorem st_tick (b : Nat) (f t a s n : Int) (w : World) (h : XB w b (outC f t a s n)) (hn : 0 ≤ n ∧ n ≤ 4611686018427387904) :
    Calls Tryd.prog 32 #[.pointer (some ⟨b, 0, none⟩)] w fun e w' => e = .returned (.tuple #[]) ∧ StPost b (outC f t a s (tickM a s n)) w w' := by
  have c2 := h.c 2 _ rfl
  have c3 := h.c 3 _ rfl
  have c4 := h.c 4 _ rfl
  have f4 := h.fz 4
  have lt := h.lt
  have e1 : IntKind.i64.wrap (n + 1) = n + 1 := IntWalk.i64_in _ (by omega)
  have HX := Lib.hid h
  clear h hn
  by_cases h1 : a < s
  · have e : tickM a s n = n + 1 := by simp [tickM, h1]
    rw [e]
    have hd : decide (a < s) = true := by simpa using h1
    clear e h1
    have FIN : Hid (∀ k, StPost b (outC f t a s (n + 1)) w ((w.drewN k).setCell ⟨b, 4, none⟩ (.int .i64 (n + 1)))) := Lib.hid (fun k => ⟨(HX.out.below (below_drewN (Below.refl _ _) k)).set 4 (by simp) (.int .i64 (n + 1)), by (repeat' (first | (with_reducible exact Only.refl _ _) | (with_reducible assumption) | (with_reducible refine Only.alloc ?_ _) | (with_reducible refine Only.setB ?_ _) | (refine Only.setCell ?_ (Or.inr ?_) _) | (with_reducible refine Only.drewN ?_ _) | (with_reducible refine Only.drew ?_) | (with_reducible refine Only.trans ?_ (by with_reducible assumption)) | (with_reducible refine Only.trans ?_ (Only.of_below (by with_reducible assumption))) | go_size))⟩)
    go_enter Tryd.func32, Tryd.ntmps32
    go_wp2_with fail
    go_quiet (fail)
    go_wp2
    exact bodyPost_end (by simp [results, Tryd.results32, go_sem]) rfl ⟨rfl, FIN.out _⟩
  · have e : tickM a s n = n := by simp [tickM, h1]
    rw [e]
    have hd : decide (a < s) = false := by simpa using h1
    clear e h1
    have FIN : Hid (∀ k, StPost b (outC f t a s n) w (w.drewN k)) := Lib.hid (fun k => ⟨HX.out.below (below_drewN (Below.refl _ _) k), by (repeat' (first | (with_reducible exact Only.refl _ _) | (with_reducible assumption) | (with_reducible refine Only.alloc ?_ _) | (with_reducible refine Only.setB ?_ _) | (refine Only.setCell ?_ (Or.inr ?_) _) | (with_reducible refine Only.drewN ?_ _) | (with_reducible refine Only.drew ?_) | (with_reducible refine Only.trans ?_ (by with_reducible assumption)) | (with_reducible refine Only.trans ?_ (Only.of_below (by with_reducible assumption))) | go_size))⟩)
    go_enter Tryd.func32, Tryd.ntmps32
    go_wp2_with fail
    go_quiet (fail)
    go_wp2
    exact bodyPost_end (by simp [results, Tryd.results32, go_sem]) rfl ⟨rfl, FIN.out _⟩
-- nil sides
theorem nil_need (last : Int) (w : World) : Calls Tryd.prog 27 #[.pointer none, .int .i64 last] w fun e w' => e = .returned (.tuple #[.int .i64 0, .bool false]) ∧ w = w' := by
  go_enter Tryd.func27, Tryd.ntmps27
  go_wp2
  go_ret2
  exact ⟨rfl, rfl⟩
theorem nil_send (v : Value) (w : World) (hv : ∃ A n c, v = .slice A n c) : Calls Tryd.prog 34 #[.pointer none, v] w fun e w' => e = .returned (.tuple #[.slice none 0 0, .int .i64 1]) ∧ w = w' := by
  obtain ⟨A, n, c, rfl⟩ := hv
  go_enter Tryd.func34, Tryd.ntmps34
  go_wp2
  go_ret2
  exact ⟨rfl, rfl⟩
theorem nil_ack (last : Int) (w : World) : Calls Tryd.prog 30 #[.pointer none, .int .i64 last] w fun e w' => e = .returned (.bool false) ∧ w = w' := by
  go_enter Tryd.func30, Tryd.ntmps30
  go_wp2
  go_ret
  exact ⟨rfl, rfl⟩
theorem nil_acked (w : World) : Calls Tryd.prog 37 #[.pointer none] w fun e w' => e = .returned (.int .i64 0) ∧ w = w' := by
  go_enter Tryd.func37, Tryd.ntmps37
  go_wp2
  go_ret
  exact ⟨rfl, rfl⟩
theorem nil_applied (w : World) : Calls Tryd.prog 45 #[.pointer none] w fun e w' => e = .returned (.int .i64 0) ∧ w = w' := by
  go_enter Tryd.func45, Tryd.ntmps45
  go_wp2
  go_ret
  exact ⟨rfl, rfl⟩
theorem nil_tick (w : World) : Calls Tryd.prog 32 #[.pointer none] w fun e w' => e = .returned (.tuple #[]) ∧ Below w.heap.size w w' := by
  have FIN : Hid (∀ k, Below w.heap.size w (w.drewN k)) := Lib.hid (fun k => by (repeat' (first | (with_reducible exact Below.refl _ _) | (with_reducible assumption) | (with_reducible refine Below.trans ?_ (Below.mono (by with_reducible assumption) ?_)) | (with_reducible refine Below.alloc ?_ ?_ _) | (with_reducible refine Below.setCell ?_ ?_ _) | (with_reducible refine below_drewN ?_ _) | (with_reducible refine Below.drew ?_) | go_size)))
  go_enter Tryd.func32, Tryd.ntmps32
  go_wp2_with fail
  go_quiet (fail)
  go_wp2
  exact bodyPost_end (by simp [results, Tryd.results32, go_sem]) rfl ⟨rfl, FIN.out _⟩
theorem nil_take (v : Value) (w : World) (hv : ∃ A n c, v = .slice A n c) : Calls Tryd.prog 40 #[.pointer none, v] w fun e w' => e = .returned (.slice none 0 0) ∧ w = w' := by
  obtain ⟨A, n, c, rfl⟩ := hv
  go_enter Tryd.func40, Tryd.ntmps40
  go_wp2
  go_ret
  exact ⟨rfl, rfl⟩
theorem nil_done (q : Int) (w : World) : Calls Tryd.prog 43 #[.pointer none, .int .i64 q] w fun e w' => e = .returned (.slice none 0 0) ∧ w = w' := by
  go_enter Tryd.func43, Tryd.ntmps43
  go_wp2
  go_ret
  exact ⟨rfl, rfl⟩
end Go.Proofs.YtdffldlcbihjmaaDoor

/- bytes.Clone (of gen/strd.py). -/
namespace Go.Proofs.YtdffldlcbihjmaaDoor
open Go.RowKit

/-- What a row of bytes of the call's own is. -/
theorem own8_shape {w : World} {base n : Nat} {v : Value} {p : List Int} (h : w.ownsRow base 5 1 v n (bC p)) :
    ∃ A c, v = .slice A n c ∧ p.length = n ∧ ByL w A p ∧ (A = none → n = 0) ∧ (∀ ad, A = some ad → base ≤ ad.block ∧ ad.block < w.heap.size) := by
  have hl : p.length = n := by have := h.1; rw [bC_len] at this; omega
  have hc0 := fun g hg => World.ownsRow.cells h (g := g) hg
  rcases h.2 with ⟨rfl, h0⟩ | ⟨g, cap, cur, rfl, hb', hh, _⟩
  · exact ⟨none, 0, by rw [h0], hl, fun hn => absurd hn (by omega), fun _ => h0, fun _ e => by cases e⟩
  · refine ⟨_, _, rfl, hl, fun hn => ⟨g, 0, rfl, (World.ownsRow.lt h g rfl).2, fun j u hj => ?_⟩, (fun e => by cases e), fun ad e => ?_⟩
    · have := hc0 g rfl j u hj
      rwa [at_add] at this
    · injection e with e
      subst e
      exact World.ownsRow.lt h g rfl
theorem own_far {w w' : World} {B : Nat} {e : TypeId} {size n : Nat} {v : Value} {xs : List Value} (h : w.ownsRow B e size v n xs) (k : But (fun i => i < B) w w') : w'.ownsRow B e size v n xs :=
  k.row h (fun i hi hb => by have := (World.ownsRow.lt h i hi).1; omega)
set_option maxRecDepth 100000 in
set_option maxHeartbeats 4000000 in
theorem bytes_clone (A : Option Addr) (p : List Int) (c : Nat) (w : World) (hp : ByL w A p) (hn : A = none → p.length = 0) (hl : p.length ≤ 100000) :
    Calls Tryd.prog 74 #[.slice A p.length c] w fun e w' => ∃ v, e = .returned v ∧ w'.ownsRow w.heap.size 5 1 v p.length (bC p) ∧ Below w.heap.size w w' := by
  obtain ⟨i0, hi0, hz0, hz1, hz2⟩ := info_parts u8_info
  have HW0 : Below w.heap.size w (w.alloc (.cells #[] 5)) := by (repeat' (first | (with_reducible exact Below.refl _ _) | (with_reducible assumption) | (with_reducible refine Below.trans ?_ (Below.mono (by with_reducible assumption) ?_)) | (with_reducible refine Below.alloc ?_ ?_ _) | (with_reducible refine Below.setCell ?_ ?_ _) | (with_reducible refine below_drewN ?_ _) | (with_reducible refine Below.drew ?_) | go_size))
  have hmade := World.ownsRow_made (base := w.heap.size) (e := 5) (size := 1) w #[] 0 (Nat.le_refl _) (Nat.zero_le _) rfl
  have hni : (p.length : Int) ≤ 100000 := by omega
  have q22 : ∀ (w : World) (a : Option Addr) (n c n' c' : Nat), (binOp .eql 28 (.slice a n c) (.slice none n' c')).run Tryd.prog w = .ok (.bool a.isNone) w := fun w a n c n' c' => Lib.run_eql_slice_nil w _ _ a n c n' c' Tryd.underlying28
  have HP := Lib.hid (hp.below HW0)
  clear hp
  cases A with
  | none =>
    have h0 := hn rfl
    have hp1 : p = [] := List.length_eq_zero_iff.1 h0
    subst hp1
    clear hn HP h0 hmade HW0
    go_enter Tryd.func74, Tryd.ntmps74
    go_wp2
    go_ret
    exact ⟨_, rfl, World.ownsRow_nil _ _ _ _, Below.refl _ _⟩
  | some ad =>
    clear hn
    by_cases hp0 : 0 < p.length
    · have hsrc := HP.out.cells
      go_enter Tryd.func74, Tryd.ntmps74
      go_wp2_with (at_builtin; refine wpList_append_lies _ rfl (.tmp 5) (.tmp 6) _ rfl w.heap.size 5 i0 _ 1 1 Tryd.underlying28 hi0 hz0 hz1 hz2 rfl (by decide) (.slice (some ⟨w.heap.size, 0, none⟩) 0 0) 0 [] rfl hmade ad p.length c (bC p) rfl (by rw [bC_len]; omega) hsrc (bC_one _) hp0 (by unfold maxLen; omega) (by omega) (by simp) _ rfl ?_; intro g1 cap1 w1 hown0 hg1 hat1 hlt1; have hown1 : w1.ownsRow w.heap.size 5 1 (.slice (some ⟨g1, 0, none⟩) p.length cap1) p.length (bC p) := (by simpa using hown0); clear hown0)
      have HB : Below w.heap.size w w1 := HW0.grown hg1 (by simp) (fun k hk => by simp [Value.ownBlock] at hk; omega)
      have HH := Lib.hid (And.intro hown1 HB)
      clear hown1 hg1 hat1 HB hsrc hmade
      (try go_wp2)
      go_ret
      first | exact ⟨_, rfl, HH.out.1, HH.out.2⟩ | (simp only [Nat.zero_add]; exact ⟨_, rfl, HH.out.1, HH.out.2⟩)
    · have hp1 : p = [] := List.length_eq_zero_iff.1 (by omega)
      subst hp1
      have hld := empty_loads.1
      have hst := empty_loads.2
      have HH := Lib.hid (And.intro hmade HW0)
      clear HP hmade HW0
      go_enter Tryd.func74, Tryd.ntmps74
      go_wp2
      go_ret
      exact ⟨_, rfl, HH.out.1, HH.out.2⟩
end Go.Proofs.YtdffldlcbihjmaaDoor

/- stream: Take (written by gen/strd.py). -/
namespace Go.Proofs.YtdffldlcbihjmaaDoor
open Go.RowKit Go.Sort

/-- What is taken of a row of records. -/
def takeS (o a : Int) : List Rc → List Rc → List Rc
  | acc, [] => acc
  | acc, r :: t => if okR r = true ∧ r.o = o ∧ r.s = a + 1 + (acc.length : Int) then takeS o a (acc ++ [r]) t else if acc.length = 0 then takeS o a [] t else acc
theorem takeS_yes {o a : Int} {acc t : List Rc} {r : Rc} (h : okR r = true ∧ r.o = o ∧ r.s = a + 1 + (acc.length : Int)) : takeS o a acc (r :: t) = takeS o a (acc ++ [r]) t := by rw [takeS, if_pos h]
theorem takeS_skip {o a : Int} {acc t : List Rc} {r : Rc} (h : ¬ (okR r = true ∧ r.o = o ∧ r.s = a + 1 + (acc.length : Int))) (h0 : acc.length = 0) : takeS o a acc (r :: t) = takeS o a acc t := by
  rw [takeS, if_neg h, if_pos h0, List.length_eq_zero_iff.1 h0]
theorem takeS_stop {o a : Int} {acc t : List Rc} {r : Rc} (h : ¬ (okR r = true ∧ r.o = o ∧ r.s = a + 1 + (acc.length : Int))) (h0 : ¬ acc.length = 0) : takeS o a acc (r :: t) = acc := by
  rw [takeS, if_neg h, if_neg h0]
theorem takeS_mem {o a : Int} : ∀ {rs acc : List Rc} {r : Rc}, r ∈ takeS o a acc rs → r ∈ acc ∨ r ∈ rs
  | [], _, _, h => .inl h
  | x :: t, acc, r, h => by
    rw [takeS] at h
    split at h
    · rcases takeS_mem h with q | q
      · rcases List.mem_append.1 q with q | q
        · exact .inl q
        · exact .inr (by rw [List.mem_singleton.1 q]; exact List.mem_cons_self ..)
      · exact .inr (List.mem_cons_of_mem _ q)
    · split at h
      · rcases takeS_mem h with q | q
        · cases q
        · exact .inr (List.mem_cons_of_mem _ q)
      · exact .inl h
/-- What Take tells. -/
def TakeR (o a : Int) (rs : List Rc) (w w' : World) (e : Ending) : Prop := ∃ v L, e = .returned v ∧ TL w w' v L.length L ∧ L.map Mr.r = takeS o a [] rs
set_option maxRecDepth 100000 in
set_option maxHeartbeats 8000000 in
theorem st_take (b : Nat) (f o a : Int) (A : Option Addr) (c : Nat) (L : List Mr) (w : World) (h : XB w b (inC f o a)) (hrow : RowAt w (.slice A L.length c) L) (hat : ∀ m ∈ L, m.At (fun _ => True) w) (hl : L.length ≤ 100000) (ha : 0 ≤ a ∧ a ≤ 1099511627776) :
    Calls Tryd.prog 40 #[.pointer (some ⟨b, 0, none⟩), .slice A L.length c] w fun e w' => TakeR o a (L.map Mr.r) w w' e := by
  obtain ⟨i0, hi0, hz0, hz1, hz2⟩ := info_parts rec_info
  obtain ⟨A', c', he', hc⟩ := hrow.ex
  obtain ⟨rfl, rfl⟩ : A = A' ∧ c = c' := by injection he' with q1 q2 q3; exact ⟨q1, q3⟩
  have hni : (L.length : Int) ≤ 100000 := by omega
  have HC := Lib.hid hc
  have HA := Lib.hid hat
  have HX := Lib.hid h
  have hal := ha.1
  have hah := ha.2
  have e1 : IntKind.i64.wrap (a + 1) = a + 1 := IntWalk.i64_in _ (by omega)
  clear h hrow hat hl he' hc ha
  go_enter Tryd.func40, Tryd.ntmps40
  go_wp2
  go_loopw [5, 12] (fun v i wr => ∃ (j k : Nat) (Z : List Mr), j ≤ L.length ∧ k ≤ j ∧ i = .int .i64 j ∧ TL w wr v k Z ∧ Hid (takeS o a [] (L.map Mr.r) = takeS o a (Z.map Mr.r) ((L.map Mr.r).drop j))) (fun _ i _ => L.length - (intOf i).toNat)
  case atStart => exact ⟨0, 0, [], Nat.zero_le _, Nat.le_refl _, rfl, TL.start w, Lib.hid rfl⟩
  case round =>
    obtain ⟨j, k, Z, hj, hkj, rfl, hT, hE⟩ := hrel
    obtain ⟨Av, cv, rfl⟩ := hT.shape
    have HT := Lib.hid hT
    have hBB := hT.bel
    clear hT
    by_cases hlt : j < L.length
    · have lk : (j : Int) < (L.length : Int) := by omega
      have hi1 : ((j : Int).toNat) = j := by simp
      obtain ⟨B, O, rfl, hBl, hcell⟩ := HC.out (by omega)
      have hx : L[j]? = some L[j] := List.getElem?_eq_getElem hlt
      have hm := HA.out L[j] (List.getElem_mem hlt)
      have hdr : (L.map Mr.r).drop j = L[j].r :: (L.map Mr.r).drop (j + 1) := by
        rw [List.drop_eq_getElem_cons (by simpa using hlt)]
        simp
      have hEE := hE.out
      rw [hdr] at hEE
      generalize L[j] = x at *
      have a0 : wr.cell? ⟨B, O + j * 9, none⟩ = some (.int .i64 x.r.o) := (hBB.cell (p := ⟨B, O + j * 9, none⟩) hBl).trans (hcell (j * 9) _ (by have := rowM_at hx 0 (by omega); rwa [Nat.add_zero] at this))
      have a1 : wr.cell? ⟨B, O + j * 9 + 1, none⟩ = some (.int .i64 x.r.s) := by rw [Nat.add_assoc]; exact (hBB.cell (p := ⟨B, O + (j * 9 + 1), none⟩) hBl).trans (hcell _ _ (rowM_at hx 1 (by omega)))
      have a2 : wr.cell? ⟨B, O + j * 9 + 2, none⟩ = some (.string (strB x.r.key)) := by rw [Nat.add_assoc]; exact (hBB.cell (p := ⟨B, O + (j * 9 + 2), none⟩) hBl).trans (hcell _ _ (rowM_at hx 2 (by omega)))
      have a3 : wr.cell? ⟨B, O + j * 9 + 3, none⟩ = some (.int .i64 x.r.ml) := by rw [Nat.add_assoc]; exact (hBB.cell (p := ⟨B, O + (j * 9 + 3), none⟩) hBl).trans (hcell _ _ (rowM_at hx 3 (by omega)))
      have a4 : wr.cell? ⟨B, O + j * 9 + 4, none⟩ = some (.int .i64 x.r.ct) := by rw [Nat.add_assoc]; exact (hBB.cell (p := ⟨B, O + (j * 9 + 4), none⟩) hBl).trans (hcell _ _ (rowM_at hx 4 (by omega)))
      have a5 : wr.cell? ⟨B, O + j * 9 + 5, none⟩ = some (.int .i64 x.r.vo) := by rw [Nat.add_assoc]; exact (hBB.cell (p := ⟨B, O + (j * 9 + 5), none⟩) hBl).trans (hcell _ _ (rowM_at hx 5 (by omega)))
      have a6 : wr.cell? ⟨B, O + j * 9 + 6, none⟩ = some (.slice x.A x.r.val.length x.c) := by rw [Nat.add_assoc]; exact (hBB.cell (p := ⟨B, O + (j * 9 + 6), none⟩) hBl).trans (hcell _ _ (rowM_at hx 6 (by omega)))
      have a7 : wr.cell? ⟨B, O + j * 9 + 7, none⟩ = some (.bool x.r.gone) := by rw [Nat.add_assoc]; exact (hBB.cell (p := ⟨B, O + (j * 9 + 7), none⟩) hBl).trans (hcell _ _ (rowM_at hx 7 (by omega)))
      have a8 : wr.cell? ⟨B, O + j * 9 + 8, none⟩ = some (.int .i64 x.r.tt) := by rw [Nat.add_assoc]; exact (hBB.cell (p := ⟨B, O + (j * 9 + 8), none⟩) hBl).trans (hcell _ _ (rowM_at hx 8 (by omega)))
      have HOK : Hid (okR x.r = okN x.r.o x.r.s (strB x.r.key).size x.r.ml x.r.ct x.r.vo x.r.val.length x.r.gone x.r.tt) := Lib.hid (by rw [okR_n, strB_size])
      have kA : Below wr.heap.size wr (wr.alloc (recO x.r.o x.r.s (strB x.r.key) x.r.ml x.r.ct x.r.vo x.A x.r.val.length x.c x.r.gone x.r.tt)) := (Below.refl _ _).alloc (Nat.le_refl _) _
      have X6 : XB (wr.alloc (recO x.r.o x.r.s (strB x.r.key) x.r.ml x.r.ct x.r.vo x.A x.r.val.length x.c x.r.gone x.r.tt)) wr.heap.size x.cs := XB.new wr _ _
      have Y6 := (HX.out.below hBB).below kA
      have HKA := Lib.hid kA
      have HX6 := Lib.hid X6
      have HM := Lib.hid (hm.below hBB)
      have hlz : wr.heap.size < (wr.alloc (recO x.r.o x.r.s (strB x.r.key) x.r.ml x.r.ct x.r.vo x.A x.r.val.length x.c x.r.gone x.r.tt)).heap.size := by simp
      have HCON : Hid (∀ W, Calls Tryd.prog 72 #[recV x.r.o x.r.s (strB x.r.key) x.r.ml x.r.ct x.r.vo x.A x.r.val.length x.c x.r.gone x.r.tt] W fun e w' => e = .returned (.bool (okR x.r)) ∧ Below W.heap.size W w') := Lib.hid (fun W => by rw [HOK.out]; exact rec_is x.r.o x.r.s (strB x.r.key) x.r.ml x.r.ct x.r.vo x.A x.r.val.length x.c x.r.gone x.r.tt W)
      have HEE := Lib.hid hEE
      have hZ := HT.out.len
      have HZ : Hid ((Z.map Mr.r).length = k) := Lib.hid (by simpa using hZ)
      have e2 : IntKind.i64.wrap (a + 1 + (k : Int)) = a + 1 + (k : Int) := IntWalk.i64_in _ (by omega)
      clear hEE hE hdr hx hm hcell hBB kA hlt HOK hZ
      go_wp2_with fail
      clear a0 a1 a2 a3 a4 a5 a6 a7 a8
      have r0 := fun d os => cell_regrown (X6.c 0 _ rfl) d os
      have r1 := fun d os => cell_regrown (X6.c 1 _ rfl) d os
      have r2 := fun d os => cell_regrown (X6.c 2 _ rfl) d os
      have r3 := fun d os => cell_regrown (X6.c 3 _ rfl) d os
      have r4 := fun d os => cell_regrown (X6.c 4 _ rfl) d os
      have r5 := fun d os => cell_regrown (X6.c 5 _ rfl) d os
      have r6 := fun d os => cell_regrown (X6.c 6 _ rfl) d os
      have r7 := fun d os => cell_regrown (X6.c 7 _ rfl) d os
      have r8 := fun d os => cell_regrown (X6.c 8 _ rfl) d os
      have y1 := fun d os => cell_regrown (Y6.c 1 _ rfl) d os
      have y2 := fun d os => cell_regrown (Y6.c 2 _ rfl) d os
      clear X6 Y6
      generalize wr.alloc (recO x.r.o x.r.s (strB x.r.key) x.r.ml x.r.ct x.r.vo x.A x.r.val.length x.c x.r.gone x.r.tt) = W6 at *
      have AC := Lib.hid fun (d' : Nat) (os : Array Obj) => Calls.regrown_of (HCON.out (grow (redrawn W6 d') os))
      clear HCON
      cases hok : okR x.r
      · rw [hok] at AC
        have HNO : Hid (¬ (okR x.r = true ∧ x.r.o = o ∧ x.r.s = a + 1 + ((Z.map Mr.r).length : Int))) := Lib.hid (by rw [HZ.out]; exact fun q => by have := q.1; rw [hok] at this; cases this)
        clear hok
        refine wp_region_quiet_below (by kernel_rfl) (by kernel_rfl) ?_
        repeat (go_big_quiet_step ((go_at_call 72; exact AC.out _ _)))
        refine wpQuiet_nil ?_
        intro _ hw'
        obtain ⟨⟨dq, osq⟩, hw''⟩ := hw'
        subst hw''
        have hq := below_regrown W6 dq osq
        have HK7 := Lib.hid (HKA.out.trans (hq.mono HKA.out.size))
        have HX7 := Lib.hid (HX6.out.below hq)
        have z7 := hq.size
        clear hq AC r0 r1 r2 r3 r4 r5 r6 r7 r8 y1 y2
        generalize hgw : grow (redrawn W6 dq) osq = W7 at *
        clear hgw
        have HT7 := Lib.hid (HT.out.below HK7.out)
        by_cases hk0 : k = 0
        · have HNX := Lib.hid (HEE.out.trans (takeS_skip HNO.out (by rw [HZ.out]; exact hk0)))
          subst hk0
          go_wp2
          go_roundw
          case rel => exact ⟨j + 1, 0, Z, by omega, by omega, by go_num, HT7.out, Lib.hid HNX.out⟩
          case measure => simp [intOf]; omega
        · have hkp : 0 < k := by omega
          have HNX := Lib.hid (HEE.out.trans (takeS_stop HNO.out (by rw [HZ.out]; exact hk0)))
          have HLK := Lib.hid HT7.out.len
          clear hk0
          go_wp2
          go_ret
          exact ⟨_, Z, rfl, by rw [HLK.out]; exact HT7.out, HNX.out.symm⟩
      rw [hok] at AC
      by_cases ho : x.r.o = o
      rotate_left
      · have t1 : (x.r.o == o) = false := by simpa using ho
        have HNO : Hid (¬ (okR x.r = true ∧ x.r.o = o ∧ x.r.s = a + 1 + ((Z.map Mr.r).length : Int))) := Lib.hid (by rw [HZ.out]; exact fun q => ho q.2.1)
        clear hok ho
        refine wp_region_quiet_below (by kernel_rfl) (by kernel_rfl) ?_
        repeat (go_big_quiet_step ((go_at_call 72; exact AC.out _ _)))
        refine wpQuiet_nil ?_
        intro _ hw'
        obtain ⟨⟨dq, osq⟩, hw''⟩ := hw'
        subst hw''
        have hq := below_regrown W6 dq osq
        have HK7 := Lib.hid (HKA.out.trans (hq.mono HKA.out.size))
        have HX7 := Lib.hid (HX6.out.below hq)
        have z7 := hq.size
        clear hq AC r0 r1 r2 r3 r4 r5 r6 r7 r8 y1 y2
        generalize hgw : grow (redrawn W6 dq) osq = W7 at *
        clear hgw
        have HT7 := Lib.hid (HT.out.below HK7.out)
        by_cases hk0 : k = 0
        · have HNX := Lib.hid (HEE.out.trans (takeS_skip HNO.out (by rw [HZ.out]; exact hk0)))
          subst hk0
          go_wp2
          go_roundw
          case rel => exact ⟨j + 1, 0, Z, by omega, by omega, by go_num, HT7.out, Lib.hid HNX.out⟩
          case measure => simp [intOf]; omega
        · have hkp : 0 < k := by omega
          have HNX := Lib.hid (HEE.out.trans (takeS_stop HNO.out (by rw [HZ.out]; exact hk0)))
          have HLK := Lib.hid HT7.out.len
          clear hk0
          go_wp2
          go_ret
          exact ⟨_, Z, rfl, by rw [HLK.out]; exact HT7.out, HNX.out.symm⟩
      have t1 : (x.r.o == o) = true := by simpa using ho
      by_cases hs : x.r.s = a + 1 + (k : Int)
      rotate_left
      · have t2 : (x.r.s == a + 1 + (k : Int)) = false := by simpa using hs
        have HNO : Hid (¬ (okR x.r = true ∧ x.r.o = o ∧ x.r.s = a + 1 + ((Z.map Mr.r).length : Int))) := Lib.hid (by rw [HZ.out]; exact fun q => hs q.2.2)
        clear hok ho hs
        refine wp_region_quiet_below (by kernel_rfl) (by kernel_rfl) ?_
        repeat (go_big_quiet_step ((go_at_call 72; exact AC.out _ _)))
        refine wpQuiet_nil ?_
        intro _ hw'
        obtain ⟨⟨dq, osq⟩, hw''⟩ := hw'
        subst hw''
        have hq := below_regrown W6 dq osq
        have HK7 := Lib.hid (HKA.out.trans (hq.mono HKA.out.size))
        have HX7 := Lib.hid (HX6.out.below hq)
        have z7 := hq.size
        clear hq AC r0 r1 r2 r3 r4 r5 r6 r7 r8 y1 y2
        generalize hgw : grow (redrawn W6 dq) osq = W7 at *
        clear hgw
        have HT7 := Lib.hid (HT.out.below HK7.out)
        by_cases hk0 : k = 0
        · have HNX := Lib.hid (HEE.out.trans (takeS_skip HNO.out (by rw [HZ.out]; exact hk0)))
          subst hk0
          go_wp2
          go_roundw
          case rel => exact ⟨j + 1, 0, Z, by omega, by omega, by go_num, HT7.out, Lib.hid HNX.out⟩
          case measure => simp [intOf]; omega
        · have hkp : 0 < k := by omega
          have HNX := Lib.hid (HEE.out.trans (takeS_stop HNO.out (by rw [HZ.out]; exact hk0)))
          have HLK := Lib.hid HT7.out.len
          clear hk0
          go_wp2
          go_ret
          exact ⟨_, Z, rfl, by rw [HLK.out]; exact HT7.out, HNX.out.symm⟩
      have t2 : (x.r.s == a + 1 + (k : Int)) = true := by simpa using hs
      have HYS : Hid (okR x.r = true ∧ x.r.o = o ∧ x.r.s = a + 1 + ((Z.map Mr.r).length : Int)) := Lib.hid (by rw [HZ.out]; exact ⟨hok, ho, hs⟩)
      have HVL : Hid (x.r.val.length ≤ 100000) := Lib.hid (by have := ((ok_iff _).1 hok).v1; omega)
      clear hok ho hs
      refine wp_region_quiet_below (by kernel_rfl) (by kernel_rfl) ?_
      repeat (go_big_quiet_step ((go_at_call 72; exact AC.out _ _)))
      refine wpQuiet_nil ?_
      intro _ hw'
      obtain ⟨⟨dq, osq⟩, hw''⟩ := hw'
      subst hw''
      have hq := below_regrown W6 dq osq
      have HK7 := Lib.hid (HKA.out.trans (hq.mono HKA.out.size))
      have HX7 := Lib.hid (HX6.out.below hq)
      have z7 := hq.size
      clear hq AC r0 r1 r2 r3 r4 r5 r6 r7 r8 y1 y2
      generalize hgw : grow (redrawn W6 dq) osq = W7 at *
      clear hgw
      have HCL := Lib.hid (bytes_clone x.A x.r.val x.c W7 (HM.out.below HK7.out).b HM.out.n HVL.out)
      have q0 := HX7.out.c 0 _ rfl
      have q1 := HX7.out.c 1 _ rfl
      have q2 := HX7.out.c 2 _ rfl
      have q3 := HX7.out.c 3 _ rfl
      have q4 := HX7.out.c 4 _ rfl
      have q5 := HX7.out.c 5 _ rfl
      have q6 := HX7.out.c 6 _ rfl
      have q7 := HX7.out.c 7 _ rfl
      have q8 := HX7.out.c 8 _ rfl
      have hl7 := HX7.out.lt
      go_wp2_with fail
      refine HCL.out.mono ?_; rintro e W8 ⟨v1, rfl, hown, k8⟩
      obtain ⟨A1, c1, rfl, _, hy1, hn1, hb1⟩ := own8_shape hown
      clear q0 q1 q2 q3 q4 q5 q6 q7 q8
      have X8 := HX7.out.below k8
      have X9 := X8.set 6 (by simp [Mr.cs]) (.slice A1 x.r.val.length c1)
      have HM8 : Hid ((Mr.mk x.r A1 c1).At (fun i => W7.heap.size ≤ i) W8) := Lib.hid ⟨hy1, hn1, fun _ ad had => (hb1 ad had).1⟩
      have HKB := Lib.hid (HK7.out.trans (k8.mono HK7.out.size))
      have O9 : Only wr.heap.size W8 (W8.setCell ⟨wr.heap.size, 6, none⟩ (.slice A1 x.r.val.length c1)) := (Only.refl _ _).setB _
      have HK9 := Lib.hid (HKB.out.setCell (p := ⟨wr.heap.size, 6, none⟩) (Nat.le_refl _) (.slice A1 x.r.val.length c1))
      have HM9 := Lib.hid (HM8.out.but (S := fun i => i = wr.heap.size) (But.of_only O9 rfl) (fun i e => by subst e; omega))
      have q0 := X8.c 0 _ rfl
      have q1 := X8.c 1 _ rfl
      have q2 := X8.c 2 _ rfl
      have q3 := X8.c 3 _ rfl
      have q4 := X8.c 4 _ rfl
      have q5 := X8.c 5 _ rfl
      have q6 := X8.c 6 _ rfl
      have q7 := X8.c 7 _ rfl
      have q8 := X8.c 8 _ rfl
      have p0 := X9.c 0 _ rfl
      have p1 := X9.c 1 _ rfl
      have p2 := X9.c 2 _ rfl
      have p3 := X9.c 3 _ rfl
      have p4 := X9.c 4 _ rfl
      have p5 := X9.c 5 _ rfl
      have p6 := X9.c 6 _ rfl
      have p7 := X9.c 7 _ rfl
      have p8 := X9.c 8 _ rfl
      have qf6 := X8.fz 6
      have hl8 := X8.lt
      have kB : Below (W8.setCell ⟨wr.heap.size, 6, none⟩ (.slice A1 x.r.val.length c1)).heap.size (W8.setCell ⟨wr.heap.size, 6, none⟩ (.slice A1 x.r.val.length c1)) ((W8.setCell ⟨wr.heap.size, 6, none⟩ (.slice A1 x.r.val.length c1)).alloc (.cells #[.int .i64 x.r.o, .int .i64 x.r.s, .string (strB x.r.key), .int .i64 x.r.ml, .int .i64 x.r.ct, .int .i64 x.r.vo, .slice A1 x.r.val.length c1, .bool x.r.gone, .int .i64 x.r.tt] 89)) := (Below.refl _ _).alloc (Nat.le_refl _) _
      have HKC := Lib.hid (HK9.out.trans (kB.mono HK9.out.size))
      have HM10 := Lib.hid (HM9.out.below kB)
      have hrow := ((HT.out.below HK9.out).below kB).row
      have HNEWS := Lib.hid (World.news_of_block (cs := #[.int .i64 x.r.o, .int .i64 x.r.s, .string (strB x.r.key), .int .i64 x.r.ml, .int .i64 x.r.ct, .int .i64 x.r.vo, .slice A1 x.r.val.length c1, .bool x.r.gone, .int .i64 x.r.tt]) (t := 89) (fr := (0, 0)) (heap_alloc_new (W8.setCell ⟨wr.heap.size, 6, none⟩ (.slice A1 x.r.val.length c1)) (.cells #[.int .i64 x.r.o, .int .i64 x.r.s, .string (strB x.r.key), .int .i64 x.r.ml, .int .i64 x.r.ct, .int .i64 x.r.vo, .slice A1 x.r.val.length c1, .bool x.r.gone, .int .i64 x.r.tt] 89)))
      have hz9 : (W8.setCell ⟨wr.heap.size, 6, none⟩ (.slice A1 x.r.val.length c1)).heap.size = W8.heap.size := World.size_setCell _ _ _
      rw [hz9] at HNEWS
      have hzw := HT.out.bel.size
      have hz8 : W7.heap.size ≤ W8.heap.size := k8.size
      clear hown k8 hy1 hn1 hb1 X8 X9 O9 kB HCL hz9
      go_wp2_with (at_builtin; refine wpList_append_lies _ rfl (.tmp 46) (.tmp 48) _ rfl w.heap.size 89 i0 _ 9 96 Tryd.underlying24 hi0 hz0 hz1 hz2 rfl (by decide) (.slice Av k cv) k _ rfl hrow ⟨W8.heap.size, 0, none⟩ 1 1 [.int .i64 x.r.o, .int .i64 x.r.s, .string (strB x.r.key), .int .i64 x.r.ml, .int .i64 x.r.ct, .int .i64 x.r.vo, .slice A1 x.r.val.length c1, .bool x.r.gone, .int .i64 x.r.tt] rfl rfl HNEWS.out (by simp [Value.oneCell']) (by omega) (by unfold maxLen; omega) (by omega) (by simp; omega) _ rfl ?_; intro g2 cap2 W5 hown2 hg2 hat2 hlt2)
      have HTf := Lib.hid (HT.out.app (HM10.out.mono (fun i _ hq => by omega)) HKC.out hg2 (by exact hown2) (hat2.imp_right (fun e => Nat.le_of_eq e.symm)))
      have HNX : Hid (takeS o a [] (L.map Mr.r) = takeS o a ((Z ++ [Mr.mk x.r A1 c1]).map Mr.r) ((L.map Mr.r).drop (j + 1))) := Lib.hid (by rw [HEE.out, takeS_yes HYS.out, List.map_append]; rfl)
      clear hown2 hg2 hat2 hlt2 hrow q0 q1 q2 q3 q4 q5 q6 q7 q8 p0 p1 p2 p3 p4 p5 p6 p7 p8 qf6
      go_wp2
      go_roundw
      case rel => exact ⟨j + 1, k + 1, Z ++ [Mr.mk x.r A1 c1], by omega, by omega, by go_num, HTf.out, Lib.hid HNX.out⟩
      case measure => simp [intOf]; omega
    · obtain rfl : j = L.length := by omega
      have HNX : Hid (takeS o a [] (L.map Mr.r) = Z.map Mr.r) := Lib.hid (by rw [hE.out, List.drop_of_length_le (by simp)]; rfl)
      have HLK := Lib.hid HT.out.len
      clear hlt hE
      go_wp2
      go_ret
      exact ⟨_, Z, by first | rfl | trivial, by rw [HLK.out]; exact HT.out, by rw [HNX.out]⟩
end Go.Proofs.YtdffldlcbihjmaaDoor

