/- The records of a script: record, some (package meridianlaw18). -/
import Derived.Test.YtdffldlcbihjmaaDoorRecRow
import Derived.Test.YtdffldlcbihjmaaDoorRecordsR
import Derived.Test.YtdffldlcbihjmaaDoorRecIs
import Derived.Deep.AppendLies
set_option linter.unusedSimpArgs false
set_option linter.unusedVariables false
namespace Go.Proofs.YtdffldlcbihjmaaDoor
open Go.RowKit Go.Sort

theorem u8_wrap (n : Nat) : IntKind.u8.wrap (n : Int) = ((n % 256 : Nat) : Int) := by
  simp [IntKind.wrap, IntKind.signed, IntKind.bits]
/-- The so many-th record of a place. -/
def recS (o : Int) (s : Nat) : Rc := ⟨o, s, [107], (min s 1099511627776 : Nat), 0, o, [((s % 256 : Nat) : Int)], false, 0⟩
theorem recS_by (o : Int) (s : Nat) : isBy (recS o s).key ∧ isBy (recS o s).val := by
  refine ⟨?_, ?_⟩ <;> intro j hj <;> simp [recS] at hj ⊢ <;> omega
/-- Records of a place from one on. -/
def someR (o : Int) (f n : Nat) : List Rc := (List.range n).map fun i => recS o (f + i)
theorem someR_zero (o : Int) (f : Nat) : someR o f 0 = [] := rfl
theorem someR_succ (o : Int) (f n : Nat) : someR o f (n + 1) = someR o f n ++ [recS o (f + n)] := by simp [someR, List.range_succ]
theorem someR_len (o : Int) (f n : Nat) : (someR o f n).length = n := by simp [someR]
theorem someR_at {o : Int} {f n i : Nat} (h : i < n) : (someR o f n)[i]? = some (recS o (f + i)) := by simp [someR, h]
theorem someR_mem {o : Int} {f n : Nat} {r : Rc} (h : r ∈ someR o f n) : ∃ i, i < n ∧ r = recS o (f + i) := by
  simp [someR] at h
  obtain ⟨i, hi, rfl⟩ := h
  exact ⟨i, hi, rfl⟩
/-- A record that the law makes. -/
def RecRes (o : Int) (s : Nat) (w w' : World) (e : Ending) : Prop := ∃ g, e = .returned (recV o s (strB [107]) (min s 1099511627776 : Nat) 0 o (some ⟨g, 0, none⟩) 1 1 false 0) ∧ w.heap.size ≤ g ∧ g < w'.heap.size ∧ w'.cell? ⟨g, 0, none⟩ = some (.int .u8 ((s % 256 : Nat) : Int)) ∧ Below w.heap.size w w'
theorem RecRes.at_ {o : Int} {s g : Nat} {w w' : World} (h1 : w.heap.size ≤ g) (h2 : g < w'.heap.size) (h3 : w'.cell? ⟨g, 0, none⟩ = some (.int .u8 ((s % 256 : Nat) : Int))) : (Mr.mk (recS o s) (some ⟨g, 0, none⟩) 1).At (fun i => w.heap.size ≤ i) w' :=
  ⟨fun _ => ⟨g, 0, rfl, h2, fun j u hj => by
    obtain ⟨q, rfl⟩ := bC_some hj
    have : j = 0 := by simp [recS] at q; omega
    subst this
    simpa [recS] using h3⟩, (fun e => by cases e), fun _ ad had => by injection had with had; subst had; exact h1⟩
theorem rec_fin (o : Int) (s : Nat) (m : Int) (b : Nat) (w : World) (hm : m = (min s 1099511627776 : Nat)) (hb : s % 256 = b) : ∀ (v : Value) (w' : World), v = recV o s (strB [107]) m 0 o (some ⟨w.heap.size + 1, 0, none⟩) 1 1 false 0 →
    w' = (w.alloc (.cells #[.int .i64 o, .int .i64 s, .string ⟨#[107]⟩, .int .i64 m, .int .i64 0, .int .i64 o, .slice (some ⟨w.heap.size + 1, 0, none⟩) 1 1, .bool false, .int .i64 0] 89)).alloc (.cells #[.int .u8 b] 5) → RecRes o s w w' (.returned v) := by
  rintro v w' rfl rfl
  subst hm hb
  exact ⟨w.heap.size + 1, rfl, by omega, by simp, by simp, by (repeat' (first | (with_reducible exact Below.refl _ _) | (with_reducible assumption) | (with_reducible refine Below.trans ?_ (Below.mono (by with_reducible assumption) ?_)) | (with_reducible refine Below.alloc ?_ ?_ _) | (with_reducible refine Below.setCell ?_ ?_ _) | (with_reducible refine below_drewN ?_ _) | (with_reducible refine Below.drew ?_) | go_size))⟩
set_option maxRecDepth 100000 in
set_option maxHeartbeats 4000000 in
theorem law_rec (o : Int) (s : Nat) (w : World) : Calls Tryd.prog 69 #[.int .i64 o, .int .i64 s] w fun e w' => RecRes o s w w' e := by
  have hk : strB [107] = ⟨#[107]⟩ := by rfl
  have hw := u8_wrap s
  have HB : ∀ b, Hid (s % 256 = b → s % 256 = b) := fun b => Lib.hid id
  obtain ⟨b, hb⟩ : ∃ b, s % 256 = b := ⟨_, rfl⟩
  have HBB := Lib.hid hb
  rw [hb] at hw
  clear hb HB
  obtain rfl | h0 : s = 0 ∨ 0 < s := by omega
  · have FIN := Lib.hid (rec_fin o 0 0 0 w (by simp) rfl)
    go_enter Tryd.func69, Tryd.ntmps69
    go_wp2
    refine bodyPost_ret (v := recV o 0 (strB [107]) 0 0 o (some ⟨w.heap.size + 1, 0, none⟩) 1 1 false 0) (by simp [results, Tryd.results69, go_sem, World.cell?_alloc_past, hk]) rfl (FIN.out _ _ rfl rfl)
  by_cases h : s ≤ 1099511627776
  · have t3 : ¬ (1099511627776 : Int) < (s : Int) := by omega
    have t4 : (0 : Int) < (s : Int) := by omega
    have FIN := Lib.hid (rec_fin o s s b w (by rw [Nat.min_eq_left h]) HBB.out)
    clear h
    go_enter Tryd.func69, Tryd.ntmps69
    go_wp2
    refine bodyPost_ret (v := recV o s (strB [107]) s 0 o (some ⟨w.heap.size + 1, 0, none⟩) 1 1 false 0) (by simp [results, Tryd.results69, go_sem, World.cell?_alloc_past, hk]) rfl (FIN.out _ _ rfl rfl)
  · have t3 : (1099511627776 : Int) < (s : Int) := by omega
    have FIN := Lib.hid (rec_fin o s 1099511627776 b w (by rw [Nat.min_eq_right (by omega)]; rfl) HBB.out)
    clear h
    go_enter Tryd.func69, Tryd.ntmps69
    go_wp2
    refine bodyPost_ret (v := recV o s (strB [107]) 1099511627776 0 o (some ⟨w.heap.size + 1, 0, none⟩) 1 1 false 0) (by simp [results, Tryd.results69, go_sem, World.cell?_alloc_past, hk]) rfl (FIN.out _ _ rfl rfl)
/-- A row of records that the call lays. -/
structure TL (w wr : World) (v : Value) (k : Nat) (L : List Mr) : Prop where
  row : wr.ownsRow w.heap.size 89 9 v k (rowM L)
  len : L.length = k
  ats : ∀ m ∈ L, m.At (fun i => w.heap.size ≤ i ∧ v.ownBlock ≠ some i) wr
  bel : Below w.heap.size w wr
theorem TL.below {w wr wa : World} {v : Value} {k : Nat} {L : List Mr} (h : TL w wr v k L) (hk : Below wr.heap.size wr wa) : TL w wa v k L :=
  ⟨(But.of_below (S := fun _ => False) hk).row h.row (fun _ _ hf => hf), h.len, fun m hm => (h.ats m hm).below hk, h.bel.trans (hk.mono h.bel.size)⟩
theorem TL.start (w : World) : TL w w (.slice none 0 0) 0 [] := ⟨World.ownsRow_nil _ _ _ _, rfl, (fun _ h => by cases h), Below.refl _ _⟩
theorem TL.start' {w wr : World} (h : Below w.heap.size w wr) : TL w wr (.slice none 0 0) 0 [] := ⟨World.ownsRow_nil _ _ _ _, rfl, (fun _ h => by cases h), h⟩
theorem TL.shape {w wr : World} {v : Value} {k : Nat} {L : List Mr} (h : TL w wr v k L) : ∃ A c, v = .slice A k c := by
  rcases h.row.2 with ⟨e, h0⟩ | ⟨g, cap, cur, e, _⟩
  · exact ⟨none, 0, by rw [e, h0]⟩
  · exact ⟨_, _, e⟩
theorem TL.rowAt {w wr : World} {v : Value} {k : Nat} {L : List Mr} (h : TL w wr v k L) : RowAt wr v L := RowAt.of (by rw [h.len]; exact h.row)
theorem TL.at_ {w wr : World} {v : Value} {k : Nat} {L : List Mr} (h : TL w wr v k L) : ∀ m ∈ L, m.At (fun _ => True) wr := fun m hm => (h.ats m hm).mono (fun _ _ _ => trivial)
theorem TL.app {w wr wa wb : World} {g cap : Nat} {v : Value} {k : Nat} {L : List Mr} {m : Mr} (h : TL w wr v k L) (hm : m.At (fun i => wr.heap.size ≤ i) wa) (ha : Below wr.heap.size wr wa) (hg : wa.grownBy wb v.ownBlock)
    (ho : wb.ownsRow w.heap.size 89 9 (.slice (some ⟨g, 0, none⟩) (k + 1) cap) (k + 1) (rowM L ++ m.cs)) (hat : v.ownBlock = some g ∨ wa.heap.size ≤ g) : TL w wb (.slice (some ⟨g, 0, none⟩) (k + 1) cap) (k + 1) (L ++ [m]) := by
  have h1 := h.below ha
  have hbt : But (fun i => v.ownBlock = some i) wa wb := But.of_grown hg (fun i hi => hi)
  have hown : ∀ i, v.ownBlock = some i → i < wr.heap.size := fun i hi => (World.ownsRow.lt h.row i hi).2
  have key : ∀ x : Mr, x.At (fun i => w.heap.size ≤ i ∧ v.ownBlock ≠ some i) wa → x.At (fun i => w.heap.size ≤ i ∧ (Value.slice (some ⟨g, 0, none⟩) (k + 1) cap).ownBlock ≠ some i) wb := fun x hx =>
    ((hx.mono (Q' := fun i => (w.heap.size ≤ i ∧ v.ownBlock ≠ some i) ∧ i < wa.heap.size) (fun i hi hq => ⟨hq, hi⟩)).but hbt (fun i hi hq => hq.1.2 hi)).mono (fun i _ hq => ⟨hq.1.1, fun e => by
      have e' : g = i := by simpa [Value.ownBlock] using e
      subst e'
      rcases hat with q | q
      · exact hq.1.2 q
      · have := hq.2; omega⟩)
  refine ⟨by rw [rowM_append, rowM_one]; exact ho, by rw [List.length_append, h.len]; rfl, fun x hx => ?_, h1.bel.trans (hbt.below (fun i hi => (World.ownsRow.lt h1.row i hi).1) h1.bel.size)⟩
  rcases List.mem_append.1 hx with q | q
  · exact key x (h1.ats x q)
  · rw [List.mem_singleton.1 q]
    exact key m (hm.mono (fun i _ hq => ⟨Nat.le_trans h.bel.size hq, fun e => by have := hown i e; omega⟩))
/-- What some tells. -/
def SomeRes (o : Int) (f n : Nat) (w w' : World) (e : Ending) : Prop := ∃ v L, e = .returned v ∧ TL w w' v n L ∧ L.map Mr.r = someR o f n
set_option maxRecDepth 100000 in
set_option maxHeartbeats 4000000 in
theorem law_some (o : Int) (f n : Nat) (w : World) (hf : f ≤ 1099511627777) (hn : n ≤ 100000) :
    Calls Tryd.prog 29 #[.int .i64 o, .int .i64 f, .int .i64 n] w fun e w' => SomeRes o f n w w' e := by
  obtain ⟨i0, hi0, hz0, hz1, hz2⟩ := info_parts rec_info
  have hni : (n : Int) ≤ 100000 := by omega
  have hfi : (f : Int) ≤ 1099511627777 := by omega
  have hkb : Hid (strB [107] = ⟨#[107]⟩) := Lib.hid (by rfl)
  go_enter Tryd.func29, Tryd.ntmps29
  go_wp2
  go_loopw [7, 8] (fun v i wr => ∃ (k : Nat) (L : List Mr), k ≤ n ∧ i = .int .i64 k ∧ TL w wr v k L ∧ Hid (L.map Mr.r = someR o f k)) (fun _ i _ => n - (intOf i).toNat)
  case atStart => exact ⟨0, [], Nat.zero_le _, rfl, TL.start w, Lib.hid rfl⟩
  case round =>
    obtain ⟨k, L, hk, rfl, hT, hE⟩ := hrel
    obtain ⟨Av, cv, rfl⟩ := hT.shape
    have HT := Lib.hid hT
    clear hT
    by_cases hlt : k < n
    · have lk : (k : Int) < (n : Int) := by omega
      have e1 : IntKind.i64.wrap ((f : Int) + (k : Int)) = ((f + k : Nat) : Int) := by rw [IntWalk.i64_in _ (by omega)]; omega
      have HC := Lib.hid (law_rec o (f + k) wr)
      obtain ⟨q, hq⟩ : ∃ q, f + k = q := ⟨_, rfl⟩
      have HQ := Lib.hid hq
      rw [hq] at e1 HC
      clear hq
      go_wp2_with fail
      refine HC.out.mono ?_; rintro e W1 ⟨g, rfl, hg1, hg2, hg3, k1⟩
      generalize hm : (min q 1099511627776 : Nat) = ml at *
      have HM1 := Lib.hid (RecRes.at_ (o := o) hg1 hg2 hg3)
      have HCS : Hid ((Mr.mk (recS o q) (some ⟨g, 0, none⟩) 1).cs = [.int .i64 o, .int .i64 q, .string (strB [107]), .int .i64 ml, .int .i64 0, .int .i64 o, .slice (some ⟨g, 0, none⟩) 1 1, .bool false, .int .i64 0]) := Lib.hid (by subst hm; rfl)
      have HT1 := Lib.hid (HT.out.below k1)
      have kA : Below W1.heap.size W1 (W1.alloc (.cells #[.int .i64 o, .int .i64 q, .string (strB [107]), .int .i64 ml, .int .i64 0, .int .i64 o, .slice (some ⟨g, 0, none⟩) 1 1, .bool false, .int .i64 0] 89)) := (Below.refl _ _).alloc (Nat.le_refl _) _
      have HKA := Lib.hid (k1.trans (kA.mono k1.size))
      have hrow := (HT1.out.below kA).row
      have HMA := Lib.hid (HM1.out.below kA)
      have HNEWS := Lib.hid (World.news_of_block (cs := #[.int .i64 o, .int .i64 q, .string (strB [107]), .int .i64 ml, .int .i64 0, .int .i64 o, .slice (some ⟨g, 0, none⟩) 1 1, .bool false, .int .i64 0]) (t := 89) (fr := (0, 0)) (heap_alloc_new W1 (.cells #[.int .i64 o, .int .i64 q, .string (strB [107]), .int .i64 ml, .int .i64 0, .int .i64 o, .slice (some ⟨g, 0, none⟩) 1 1, .bool false, .int .i64 0] 89)))
      have hz := HT1.out.bel.size
      clear hm k1 kA hg1 hg2 hg3 HC hlt
      go_wp2_with (at_builtin; refine wpList_append_lies _ rfl (.tmp 14) (.tmp 20) _ rfl w.heap.size 89 i0 _ 9 96 Tryd.underlying24 hi0 hz0 hz1 hz2 rfl (by decide) (.slice Av k cv) k _ rfl hrow ⟨W1.heap.size, 0, none⟩ 1 1 [.int .i64 o, .int .i64 q, .string (strB [107]), .int .i64 ml, .int .i64 0, .int .i64 o, .slice (some ⟨g, 0, none⟩) 1 1, .bool false, .int .i64 0] rfl rfl HNEWS.out (by simp [Value.oneCell']) (by omega) (by unfold maxLen; omega) (by omega) (by simp; omega) _ rfl ?_; intro g2 cap2 W5 hown2 hg2 hat2 hlt2)
      have HTf := Lib.hid (HT.out.app HMA.out HKA.out hg2 (by rw [HCS.out]; exact hown2) (hat2.imp_right (fun e => Nat.le_of_eq e.symm)))
      clear hown2 hg2 hat2 hlt2 hrow
      go_roundw
      case rel => exact ⟨k + 1, L ++ [Mr.mk (recS o q) (some ⟨g, 0, none⟩) 1], by omega, by go_num, HTf.out, Lib.hid (by rw [List.map_append, hE.out, someR_succ, HQ.out]; rfl)⟩
      case measure => simp [intOf]; omega
    · obtain rfl : k = n := by omega
      clear hlt
      go_wp2
      go_ret
      exact ⟨_, L, rfl, HT.out, hE.out⟩
end Go.Proofs.YtdffldlcbihjmaaDoor
