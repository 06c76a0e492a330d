/- strconv's formatBits and FormatUint to the base 16. -/
import Derived.Test.YtcmoglbmngmgnaaDoorTokTab
import Derived.Laws.IdiomStrings
set_option linter.unusedSimpArgs false
set_option linter.unusedVariables false
namespace Go.Proofs.YtcmoglbmngmgnaaDoor
open Go.RowKit Go.Sort

theorem heap_set1 {w : World} {g o : Nat} {cur : Array Value} {t : TypeId} {fr : Nat × Nat} (h : w.heap[g]? = some (.cells cur t fr)) (u : Value) : (w.setCell ⟨g, o, none⟩ u).heap[g]? = some (.cells (cur.setIfInBounds o u) t fr) := by
  simp [World.setCell, Array.getElem?_modify, h]
theorem drop_set (cur : Array Value) (p : Nat) (u : Value) (h : p < cur.size) : (cur.setIfInBounds p u).toList.drop p = u :: cur.toList.drop (p + 1) := by
  rw [Array.toList_setIfInBounds, List.drop_eq_getElem_cons (by simpa using h), List.drop_set_of_lt (by omega)]
  simp
def hC (D : List UInt8) : List Value := D.map fun c => .int .u8 (c.toNat : Int)
/-- The array's end, written from behind. -/
structure HB (U : Nat) (w wr : World) (p v : Nat) (D : List UInt8) : Prop where
  p65 : p + D.length = 65
  d16 : D.length ≤ 15
  vb : v < 16 ^ (16 - D.length)
  hex : hexF 16 U = hexF (16 - D.length) v ++ D
  heap : ∃ cur, wr.heap[w.heap.size]? = some (.cells cur 105 (0, 0)) ∧ cur.size = 65 ∧ cur.toList.drop p = hC D
  bel : Below w.heap.size w wr
theorem HB.there {U : Nat} {w wr : World} {p v : Nat} {D : List UInt8} (h : HB U w wr p v D) (q : Nat) (hq : q < 65) : (∃ x, wr.cell? ⟨w.heap.size, q, none⟩ = some x) ∧ wr.frozen? ⟨w.heap.size, q, none⟩ = false := by
  obtain ⟨cur, h1, h2, _⟩ := h.heap
  refine ⟨⟨cur[q]'(by omega), ?_⟩, by simp [World.frozen?, h1]⟩
  rw [cell_of_row _ _ _ _ _ _ h1]
  simp [h2, hq]
theorem HB.set {U : Nat} {w wr : World} {p v : Nat} {D : List UInt8} (h : HB U w wr (p + 1) v D) (c : UInt8) : ∃ cur, (wr.setCell ⟨w.heap.size, p, none⟩ (.int .u8 (c.toNat : Int))).heap[w.heap.size]? = some (.cells cur 105 (0, 0)) ∧ cur.size = 65 ∧ cur.toList.drop p = hC (c :: D) := by
  obtain ⟨cur, h1, h2, h3⟩ := h.heap
  have := h.p65
  refine ⟨_, heap_set1 h1 _, by simpa using h2, ?_⟩
  rw [drop_set _ _ _ (by omega), h3]
  rfl
theorem and15 (v : Nat) (h : v < 18446744073709551616) : bits .and .u64 (v : Int) 15 = ((v % 16 : Nat) : Int) := by
  show IntKind.u64.wrap ((BitVec.ofInt 64 (v : Int) &&& BitVec.ofInt 64 15).toNat : Int) = _
  have e1 : (BitVec.ofInt 64 (v : Int)).toNat = v := by rw [BitVec.ofInt_natCast, BitVec.toNat_ofNat]; exact Nat.mod_eq_of_lt (by omega)
  have e2 : (BitVec.ofInt 64 15).toNat = 2 ^ 4 - 1 := by decide
  rw [BitVec.toNat_and, e1, e2, Nat.and_two_pow_sub_one_eq_mod]
  exact IntWalk.u64_in _ (by omega)
theorem dig_at (d : Nat) (h : d < digT.size) : digT[d]'h = hdV d := by
  have h2 : d < digT.data.toList.length := by rw [Array.length_toList]; exact h
  unfold hdV
  rw [List.getD_eq_getElem?_getD, List.getElem?_eq_getElem h2]
  rfl
theorem run_hex (W : World) (b p : Nat) (D : List UInt8) (cur : Array Value) (h1 : W.heap[b]? = some (.cells cur 105 (0, 0))) (h3 : cur.toList.drop p = hC D) (cap : Nat) : (convert 39 9 (.slice (some ⟨b, p, none⟩) D.length cap)).run Tryd.prog W = .ok (.string ⟨D.toArray⟩) W :=
  run_convert_bytes_back (P := Tryd.prog) W 39 9 5 ⟨b, p, none⟩ cap D Tryd.underlying39 Tryd.underlying5 Tryd.underlying9 (fun j hj => by
    rw [show (Addr.mk b p none).add j = ⟨b, p + j, none⟩ from Go.WideShapes.add_plain _ _ _, cell_of_row _ _ _ _ _ _ h1]
    have h4 : (cur.toList.drop p)[j]? = some (.int .u8 (D[j].toNat : Int)) := by rw [h3]; simp [hC, hj]
    rw [List.getElem?_drop, Array.getElem?_toList] at h4
    exact h4)
theorem run_sl (W : World) (b q : Nat) (h : q < 65) : (Instr.sliceAt 105 (.pointer (some ⟨b, 0, none⟩)) (some (.int .i64 (q : Int))) none none).run Tryd.prog W = .ok (.slice (some ⟨b, q, none⟩) (65 - q) (65 - q)) W := by
  have e1 : Tryd.prog.arrayLen 105 = 65 := by kernel_rfl
  have e2 : Tryd.prog.elem 105 = 5 := by kernel_rfl
  have ht : Tryd.prog.underlying 105 = some (.array (Tryd.prog.arrayLen 105) (Tryd.prog.elem 105)) := by kernel_rfl
  have hi : ((Tryd.prog.info? 5).map (·.size)) = some 1 := by kernel_rfl
  rw [run_sliceAt_array_l W _ _ ht .i64 (q : Int) (by omega) (by rw [e1]; omega), e2, e1]
  have hs : (sizeOf 5).run Tryd.prog W = .ok 1 W := by
    obtain ⟨i, h1, h2⟩ := Option.map_eq_some_iff.1 hi
    simp [sizeOf, h1, h2]
    kernel_rfl
  rw [hs]
  simp only [Result.andThen_ok, slicedAt, Int.toNat_natCast]
  rw [if_neg (by omega), show q * 1 = q from by omega, show (Addr.mk b 0 none).add q = ⟨b, q, none⟩ from by rw [Go.WideShapes.add_plain, Nat.zero_add]]
set_option maxRecDepth 100000 in
set_option maxHeartbeats 4000000 in
theorem fmt_bits (U : Nat) (w : World) (ht : Tb2 w) (hU : U < 18446744073709551616) :
    Calls Tryd.prog 51 #[.slice none 0 0, .int .u64 U, .int .i64 16, .bool false, .bool false] w fun e w' => e = .returned (.tuple #[.slice none 0 0, .string ⟨(hexF 16 U).toArray⟩]) ∧ Below w.heap.size w w' := by
  have hUi : (U : Int) < 18446744073709551616 := by omega
  have HP := Lib.hid (fun W => pow2_16 W)
  have HT := Lib.hid (fun (W : World) (k : Below w.heap.size w W) => tz16 W (ht.below k))
  have HB0 : Hid (HB U w (w.alloc (.cells Tryd.zeroCells105 105)) 65 U []) := Lib.hid
    ⟨rfl, by simp, by show U < 16 ^ 16; have : (16 : Nat) ^ 16 = 18446744073709551616 := by decide
                      omega, by simp, ⟨_, heap_alloc_new w _, by kernel_rfl, by rw [List.drop_of_length_le (by show (Tryd.zeroCells105).toList.length ≤ 65; rw [Array.length_toList]; exact Nat.le_of_eq (by kernel_rfl))]; rfl⟩, by (repeat' (first | (with_reducible exact Below.refl _ _) | (with_reducible assumption) | (with_reducible refine Below.trans ?_ (Below.mono (by with_reducible assumption) ?_)) | (with_reducible refine Below.alloc ?_ ?_ _) | (with_reducible refine Below.setCell ?_ ?_ _) | (with_reducible refine below_drewN ?_ _) | (with_reducible refine Below.drew ?_) | go_size))⟩
  clear ht
  go_enter Tryd.func51, Tryd.ntmps51
  go_wp2_with fail
  refine (HP.out _).mono ?_; rintro e W1 ⟨rfl, rfl⟩
  have HT1 := Lib.hid (HT.out _ HB0.out.bel)
  clear HT HP
  go_wp2_with fail
  refine HT1.out.mono ?_; rintro e W2 ⟨rfl, rfl⟩
  clear HT1
  generalize w.alloc (.cells Tryd.zeroCells105 105) = W0 at *
  go_wp2
  go_loopw [1, 13] (fun u i wr => ∃ (v p : Nat) (D : List UInt8), u = .int .u64 v ∧ i = .int .i64 p ∧ HB U w wr p v D) (fun u _ _ => (intOf u).toNat)
  case atStart => exact ⟨U, 65, [], rfl, rfl, HB0.out⟩
  case round =>
    obtain ⟨v, p, D, rfl, rfl, hB⟩ := hrel
    clear HB0
    have hp65 := hB.p65
    have hd16 := hB.d16
    have hvb := hB.vb
    have hv64 : v < 18446744073709551616 := by
      have h1 : (16 : Nat) ^ (16 - D.length) ≤ 16 ^ 16 := Nat.pow_le_pow_right (by omega) (by omega)
      have : (16 : Nat) ^ 16 = 18446744073709551616 := by decide
      omega
    obtain ⟨q, rfl⟩ : ∃ q, p = q + 1 := ⟨p - 1, by omega⟩
    obtain ⟨⟨x0, hx0⟩, hf0⟩ := hB.there q (by omega)
    have hpi : ((q + 1 : Nat) : Int) - 1 = (q : Int) := by omega
    have hvi : (v : Int) < 18446744073709551616 := by omega
    have hqi : (q : Int) < 65 := by omega
    have HBH := Lib.hid hB
    have HV := Lib.hid (And.intro hvb (And.intro hd16 hp65))
    by_cases hv : 16 ≤ v
    · have t1 : decide ((16 : Int) ≤ (v : Int)) = true := by simp; omega
      have ha := and15 v hv64
      obtain ⟨d, hd⟩ : ∃ d, v % 16 = d := ⟨_, rfl⟩
      have hd16' : d < 16 := by omega
      rw [hd] at ha
      have hdi : (d : Int) < 36 := by omega
      have hdn : d < 36 := by omega
      obtain ⟨v2, hv2⟩ : ∃ v2, v / 16 = v2 := ⟨_, rfl⟩
      have hq16 : (v : Int) / 16 = (v2 : Int) := by omega
      have HV2 := Lib.hid hv2
      have HD := Lib.hid hd
      have hvlt : v2 < v := by omega
      have HF : Hid (∀ b : UInt8, b = hdV d → HB U w (wr.setCell ⟨w.heap.size, q, none⟩ (.int .u8 (b.toNat : Int))) q v2 (b :: D)) := Lib.hid (fun b hb => by
        have e1 : 16 - D.length = (16 - (D.length + 1)) + 1 := by omega
        have h16 : 16 ^ (16 - D.length) = 16 * 16 ^ (16 - (D.length + 1)) := by rw [e1, Nat.pow_succ, Nat.mul_comm]
        have hpos : 0 < 16 - (D.length + 1) := by
          rcases Nat.eq_zero_or_pos (16 - (D.length + 1)) with z | z
          · rw [z] at h16; omega
          · exact z
        refine ⟨by simp; omega, by simp; omega, by simp only [List.length_cons]; omega, ?_, hB.set b, hB.bel.setCell (Nat.le_refl _) _⟩
        rw [hB.hex, e1, hexF_high (by omega), HD.out, HV2.out, hb]
        simp)
      clear hB hvb hd16 hp65 hd hv2
      go_wp2
      go_roundw
      case rel => exact ⟨v2, q, _, by go_num, by go_num, HF.out _ (dig_at d (by show d < 36; exact hdn))⟩
      case measure => simp [intOf]; omega
    · have t1 : decide ((16 : Int) ≤ (v : Int)) = false := by simp; omega
      have hdn : v < 36 := by omega
      have hdi : (v : Int) < 36 := by omega
      have HF : Hid (∀ b : UInt8, b = hdV v → (∃ cur, (wr.setCell ⟨w.heap.size, q, none⟩ (.int .u8 (b.toNat : Int))).heap[w.heap.size]? = some (.cells cur 105 (0, 0)) ∧ cur.size = 65 ∧ cur.toList.drop q = hC (b :: D)) ∧ hexF 16 U = b :: D ∧ Below w.heap.size w (wr.setCell ⟨w.heap.size, q, none⟩ (.int .u8 (b.toNat : Int)))) := Lib.hid (fun b hb => by
        refine ⟨hB.set b, ?_, hB.bel.setCell (Nat.le_refl _) _⟩
        rw [hB.hex, show 16 - D.length = (15 - D.length) + 1 from by omega, hexF_low (by omega), hb]
        rfl)
      obtain ⟨bb, hbb⟩ : ∃ bb : UInt8, hdV v = bb := ⟨_, rfl⟩
      obtain ⟨⟨cur, g1, g2, g3⟩, hx, hbel⟩ := HF.out bb hbb.symm
      have hql : q + (bb :: D).length = 65 := by simp; omega
      have hda : digT[v]'(by show v < 36; exact hdn) = bb := by rw [← hbb]; exact dig_at v _
      have HX := Lib.hid (And.intro hx hbel)
      have HG := Lib.hid (And.intro g1 g3)
      clear hB hvb hd16 hp65 hx hbel HF hbb g1 g2 g3
      unfold digT at hda
      have hsl := run_sl (wr.setCell ⟨w.heap.size, q, none⟩ (.int .u8 (bb.toNat : Int))) w.heap.size q (by omega)
      have hcv := run_hex (wr.setCell ⟨w.heap.size, q, none⟩ (.int .u8 (bb.toNat : Int))) w.heap.size q (bb :: D) cur HG.out.1 HG.out.2 (65 - q)
      rw [show (bb :: D).length = 65 - q from by omega] at hcv
      clear hql
      go_wp2
      go_ret2
      exact ⟨by rw [HX.out.1]; rfl, HX.out.2⟩
end Go.Proofs.YtcmoglbmngmgnaaDoor
