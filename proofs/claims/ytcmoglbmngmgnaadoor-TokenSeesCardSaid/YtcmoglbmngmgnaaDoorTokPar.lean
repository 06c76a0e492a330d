/- strconv.ParseUint as token.Parse calls it; token.Parse of any text. -/
import Derived.Test.YtcmoglbmngmgnaaDoorTokPu
import Derived.Test.YtcmoglbmngmgnaaDoorToErrL
import Derived.Test.YtcmoglbmngmgnaaDoorTokPrtV
import Derived.Lib.IfaceEq
set_option linter.unusedSimpArgs false
set_option linter.unusedVariables false
namespace Go.Proofs.YtcmoglbmngmgnaaDoor
open Go.RowKit Go.Sort Go.Op

/-- The variable ErrSyntax holds some error. -/
def EvAt (w : World) : Prop := ∃ ev, w.cell? ⟨1, 0, none⟩ = some ev ∧ (ev = .nilIface ∨ ∃ te pe, ev = .iface te pe)
theorem EvAt.below {w w' : World} (h : EvAt w) (k : Below w.heap.size w w') (hs : 1 < w.heap.size) : EvAt w' := by
  obtain ⟨ev, h1, h2⟩ := h
  exact ⟨ev, (k.cell (p := ⟨1, 0, none⟩) hs).trans h1, h2⟩
theorem run_neq_iface_nil (w : World) (t : TypeId) (v : Value) : (binOp .neq 57 (.iface t v) .nilIface).run Tryd.prog w = .ok (.bool true) w := by
  have ht := Tryd.underlying57
  have h : ∀ d : Nat, (Op.equalIn (d + 1) 57 (.iface t v) .nilIface).run Tryd.prog w = .ok false w := fun d => by
    simp [Op.equalIn, run_underlying ht]
  simp only [binOp]
  simp [Op.equal, Op.maxDepth, h 9999]
/-- What the caller is told. -/
def PuOut (l : List UInt8) (e : Ending) : Prop := (∃ X : Nat, foldH l 0 = some X ∧ X < 18446744073709551616 ∧ e = .returned (.tuple #[.int .u64 (X : Int), .nilIface])) ∨ (foldH l 0 = none ∧ ∃ t v, e = .returned (.tuple #[.int .u64 0, .iface t v]))
set_option maxRecDepth 100000 in
set_option maxHeartbeats 4000000 in
theorem str_pu (l : List UInt8) (w : World) (hl : l.length = 16) (hv : EvAt w) (hs : 1 < w.heap.size) :
    Calls Tryd.prog 22 #[.string (strO l), .int .i64 16, .int .i64 64] w fun e w' => PuOut l e ∧ Below w.heap.size w w' := by
  have HI := Lib.hid (int_pu l w hl)
  have HE := Lib.hid (fun (W : World) (k : Below w.heap.size w W) => hv.below k hs)
  have HZ : Hid ((strO l).size ≤ 281474976710656) := Lib.hid (by rw [strO_size, hl]; omega)
  clear hv hl
  generalize hS : strO l = S at *
  clear hS
  go_enter Tryd.func22, Tryd.ntmps22
  go_wp2_with fail
  refine HI.out.mono ?_; rintro e w1 ⟨hr, k1⟩
  have K1 := Lib.hid k1
  have HV := Lib.hid (HE.out w1 k1)
  clear HI HE k1
  rcases hr with ⟨X, hX, hXb, rfl⟩ | ⟨hN, rfl⟩
  · have HX := Lib.hid hX
    have hXi : (X : Int) < 18446744073709551616 := by omega
    clear hX
    go_wp2
    go_ret2
    exact ⟨Or.inl ⟨X, HX.out, hXb, rfl⟩, K1.out⟩
  · have HX := Lib.hid hN
    have hneq := run_neq_iface_nil w1 79 (.int .i64 2)
    obtain ⟨ev, hv1, hv2⟩ := HV.out
    have HT := Lib.hid (Any.strconv_toError_syntax Tryd.laysC245 ⟨#[80, 97, 114, 115, 101, 85, 105, 110, 116]⟩ S 16 64 ev w1 HZ.out hv1 hv2)
    clear hN hv1 hv2 HV
    go_wp2_with fail
    refine HT.out.mono ?_; rintro e w2 ⟨N, rfl, _, _, k2⟩
    have K2 := Lib.hid (K1.out.trans (k2.mono K1.out.size))
    clear k2 HT
    go_wp2
    go_ret2
    exact ⟨Or.inr ⟨HX.out, _, _, rfl⟩, K2.out⟩
/-- The number that a token's text tells; none: it is none. -/
def tokV (s : ByteArray) : Option Nat := if s.size = 26 then match foldH ((s.data.toList.drop 1).take 16) 0 with
  | none => none
  | some X => if tokT X (sumH X) = s then some X else none
  else none
theorem tokV_short {s : ByteArray} (h : ¬ s.size = 26) : tokV s = none := by unfold tokV; rw [if_neg h]
theorem tokV_none {s : ByteArray} (h : s.size = 26) (k : foldH ((s.data.toList.drop 1).take 16) 0 = none) : tokV s = none := by unfold tokV; rw [if_pos h, k]
theorem tokV_unlike {s : ByteArray} {X : Nat} (h : s.size = 26) (k : foldH ((s.data.toList.drop 1).take 16) 0 = some X) (hn : ¬ tokT X (sumH X) = s) : tokV s = none := by unfold tokV; rw [if_pos h, k]; simp [hn]
theorem tokV_some {s : ByteArray} {X : Nat} (h : s.size = 26) (k : foldH ((s.data.toList.drop 1).take 16) 0 = some X) (hn : tokT X (sumH X) = s) : tokV s = some X := by unfold tokV; rw [if_pos h, k]; simp [hn]
def tokR (s : ByteArray) : Ending := match tokV s with
  | none => .returned (.tuple #[.agg #[.int .i64 0, .int .i64 0], .int .i64 10])
  | some X => .returned (.tuple #[.agg #[.int .i64 ((X : Int) / 65536), .int .i64 ((X : Int) % 65536)], .int .i64 0])
theorem tokR_none {s : ByteArray} (h : tokV s = none) : tokR s = .returned (.tuple #[.agg #[.int .i64 0, .int .i64 0], .int .i64 10]) := by unfold tokR; rw [h]
theorem tokR_some {s : ByteArray} {X : Nat} (h : tokV s = some X) : tokR s = .returned (.tuple #[.agg #[.int .i64 ((X : Int) / 65536), .int .i64 ((X : Int) % 65536)], .int .i64 0]) := by unfold tokR; rw [h]
theorem extract_strO (s : ByteArray) : s.extract 1 17 = strO ((s.data.toList.drop 1).take 16) := by
  apply ByteArray.ext
  apply Array.toList_inj.1
  rw [Lib.extract_data]
  rfl
theorem str_lists (a b : ByteArray) : a.toList = b.toList ↔ a = b := by
  rw [ByteArray.toList_eq, ByteArray.toList_eq]
  obtain ⟨⟨x⟩⟩ := a
  obtain ⟨⟨y⟩⟩ := b
  simp
theorem stamp_of (X : Nat) (h : X < 18446744073709551616) : isStampB ((X : Int) / 65536) ((X : Int) % 65536) = true ∧ (X : Int) / 65536 * 65536 + (X : Int) % 65536 = (X : Int) := by
  refine ⟨?_, by omega⟩
  simp [isStampB, isMilliB]
  omega
set_option maxRecDepth 100000 in
set_option maxHeartbeats 4000000 in
theorem tok_parse (s : ByteArray) (w : World) (ht : Tb2 w) (hv : EvAt w) (hs : 1 < w.heap.size) :
    Calls Tryd.prog 11 #[.string s] w fun e w' => e = tokR s ∧ Below w.heap.size w w' := by
  have HB0 : Hid (Below w.heap.size w (w.alloc (.cells #[.int .i64 0, .int .i64 0] 27))) := Lib.hid (by (repeat' (first | (with_reducible exact Below.refl _ _) | (with_reducible assumption) | (with_reducible refine Below.trans ?_ (Below.mono (by with_reducible assumption) ?_)) | (with_reducible refine Below.alloc ?_ ?_ _) | (with_reducible refine Below.setCell ?_ ?_ _) | (with_reducible refine below_drewN ?_ _) | (with_reducible refine Below.drew ?_) | go_size)))
  by_cases hsz : s.size = 26
  · have hll : ((s.data.toList.drop 1).take 16).length = 16 := by
      have : s.data.toList.length = 26 := by rw [Array.length_toList]; exact hsz
      simp
      omega
    have hex := extract_strO s
    have HV1 := hv.below HB0.out hs
    have HPU := Lib.hid (str_pu ((s.data.toList.drop 1).take 16) (w.alloc (.cells #[.int .i64 0, .int .i64 0] 27)) hll HV1 (by simp; omega))
    have HT := Lib.hid (fun (W : World) (k : Below w.heap.size w W) => ht.below k)
    have HSZ := Lib.hid hsz
    have h17 : 17 ≤ s.size := by omega
    have hs26 : (s.size : Int) = 26 := by omega
    clear ht hv HV1 hll
    generalize hL : (s.data.toList.drop 1).take 16 = l at *
    have HL := Lib.hid hL
    clear hL
    generalize strO l = S at *
    go_enter Tryd.func11, Tryd.ntmps11
    go_wp2_with fail
    refine HPU.out.mono ?_; rintro e w1 ⟨hr, k1⟩
    have HB1 := Lib.hid (HB0.out.trans (k1.mono HB0.out.size))
    obtain ⟨hc1, hf1⟩ := bcell k1
    have a0 := hc1 w.heap.size 0 (by simp)
    have a1 := hc1 w.heap.size 1 (by simp)
    have f0 := hf1 w.heap.size 0 (by simp)
    have f1 := hf1 w.heap.size 1 (by simp)
    have hz1 := k1.size
    simp only [World.size_alloc] at hz1
    simp at a0 a1 f0 f1
    clear k1 hc1 hf1 HPU HB0
    rcases hr with ⟨X, hX, hXb, rfl⟩ | ⟨hN, t, v, rfl⟩
    · have HX := Lib.hid hX
      have HU := Lib.hid (hlc_unpack (X : Int) w1 (by omega) (by omega))
      obtain ⟨s1, s2⟩ := stamp_of X hXb
      have HPV : Hid (∀ W, Below w.heap.size w W → Calls Tryd.prog 8 #[.agg #[.int .i64 ((X : Int) / 65536), .int .i64 ((X : Int) % 65536)]] W fun e w' => (e = .returned (.tuple #[.string (tokT X (sumH X)), .int .i64 0]) ∧ sumH X ≤ 4294967295) ∧ Below W.heap.size W w') := Lib.hid (fun W k => tok_print_val _ _ X W (HT.out W k) s1 s2)
      have hXi : (X : Int) < 18446744073709551616 := by omega
      have HR : Hid (if tokT X (sumH X) = s then tokR s = .returned (.tuple #[.agg #[.int .i64 ((X : Int) / 65536), .int .i64 ((X : Int) % 65536)], .int .i64 0]) else tokR s = .returned (.tuple #[.agg #[.int .i64 0, .int .i64 0], .int .i64 10])) := Lib.hid (by
        split
        · rename_i h
          exact tokR_some (tokV_some HSZ.out (by rw [HL.out]; exact hX) h)
        · rename_i h
          exact tokR_none (tokV_unlike HSZ.out (by rw [HL.out]; exact hX) h))
      clear hX s1 s2 hXb HT HX
      obtain ⟨q, hq⟩ : ∃ q : Int, (X : Int) / 65536 = q := ⟨_, rfl⟩
      obtain ⟨r, hr⟩ : ∃ r : Int, (X : Int) % 65536 = r := ⟨_, rfl⟩
      rw [hq, hr] at HU HPV HR
      clear hq hr
      go_wp2_with fail
      refine HU.out.mono ?_; rintro e w2 ⟨rfl, k2⟩
      have HB2 := Lib.hid (HB1.out.trans (k2.mono HB1.out.size))
      obtain ⟨hc2, hf2⟩ := bcell k2
      have b0 := (hc2 w.heap.size 0 (by omega)).trans a0
      have b1 := (hc2 w.heap.size 1 (by omega)).trans a1
      have g0 := (hf2 w.heap.size 0 (by omega)).trans f0
      have g1 := (hf2 w.heap.size 1 (by omega)).trans f1
      have hz2 := k2.size
      clear k2 hc2 hf2 HU a0 a1 f0 f1
      have HB3 : Hid (Below w.heap.size w (w2.alloc (.cells #[.int .i64 q, .int .i64 r] 27))) := Lib.hid (by have := HB2.out; (repeat' (first | (with_reducible exact Below.refl _ _) | (with_reducible assumption) | (with_reducible refine Below.trans ?_ (Below.mono (by with_reducible assumption) ?_)) | (with_reducible refine Below.alloc ?_ ?_ _) | (with_reducible refine Below.setCell ?_ ?_ _) | (with_reducible refine below_drewN ?_ _) | (with_reducible refine Below.drew ?_) | go_size)))
      go_wp2_with fail
      refine (HPV.out _ HB3.out).mono ?_; rintro e w4 ⟨⟨rfl, _⟩, k4⟩
      have HB4 := Lib.hid (HB3.out.trans (k4.mono HB3.out.size))
      obtain ⟨hc4, hf4⟩ := bcell k4
      have d0 : w4.cell? ⟨w.heap.size, 0, none⟩ = some (.int .i64 0) := by rw [hc4 _ _ (by simp; omega), World.cell?_alloc_past _ _ _ (by show w.heap.size < w2.heap.size; omega)]; exact b0
      have d1 : w4.cell? ⟨w.heap.size, 1, none⟩ = some (.int .i64 0) := by rw [hc4 _ _ (by simp; omega), World.cell?_alloc_past _ _ _ (by show w.heap.size < w2.heap.size; omega)]; exact b1
      have m0 : w4.cell? ⟨w2.heap.size, 0, none⟩ = some (.int .i64 q) := by rw [hc4 _ _ (by simp)]; simp
      have m1 : w4.cell? ⟨w2.heap.size, 1, none⟩ = some (.int .i64 r) := by rw [hc4 _ _ (by simp)]; simp
      have e0 : w4.frozen? ⟨w.heap.size, 0, none⟩ = false := by rw [hf4 _ _ (by simp; omega), ((Below.alloc (Below.refl w2.heap.size w2) (Nat.le_refl _) (.cells #[.int .i64 q, .int .i64 r] 27)).frozen (p := ⟨w.heap.size, 0, none⟩) (by show w.heap.size < w2.heap.size; omega))]; exact g0
      have e1 : w4.frozen? ⟨w.heap.size, 1, none⟩ = false := by rw [hf4 _ _ (by simp; omega), ((Below.alloc (Below.refl w2.heap.size w2) (Nat.le_refl _) (.cells #[.int .i64 q, .int .i64 r] 27)).frozen (p := ⟨w.heap.size, 1, none⟩) (by show w.heap.size < w2.heap.size; omega))]; exact g1
      have hz4 := k4.size
      simp only [World.size_alloc] at hz4
      have hne2 : w.heap.size ≠ w2.heap.size := by omega
      clear k4 hc4 hf4 HPV b0 b1 g0 g1 HB3
      by_cases heq : tokT X (sumH X) = s
      · have hcmp := (str_lists _ _).2 heq
        have HE := HR.out
        rw [if_pos heq] at HE
        have HE2 := Lib.hid HE
        clear HE HR heq
        generalize tokT X (sumH X) = tt at *
        go_wp2
        refine bodyPost_ret (v := .tuple #[.agg #[.int .i64 q, .int .i64 r], .int .i64 0]) (by simp [results, Tryd.results11, go_sem, d0, d1]) rfl ⟨HE2.out.symm, ?_⟩
        have hb := HB4.out
        (repeat' (first | (with_reducible exact Below.refl _ _) | (with_reducible assumption) | (with_reducible refine Below.trans ?_ (Below.mono (by with_reducible assumption) ?_)) | (with_reducible refine Below.alloc ?_ ?_ _) | (with_reducible refine Below.setCell ?_ ?_ _) | (with_reducible refine below_drewN ?_ _) | (with_reducible refine Below.drew ?_) | go_size))
      · have hcmp : ¬ (tokT X (sumH X)).toList = s.toList := fun h => heq ((str_lists _ _).1 h)
        have hcm2 : ((tokT X (sumH X)).toList == s.toList) = false := by simpa using hcmp
        have hcm3 : ((tokT X (sumH X)).toList != s.toList) = true := by simpa using hcmp
        have HE := HR.out
        rw [if_neg heq] at HE
        have HE2 := Lib.hid HE
        clear HE HR heq
        generalize tokT X (sumH X) = tt at *
        go_wp2
        refine bodyPost_ret (v := .tuple #[.agg #[.int .i64 0, .int .i64 0], .int .i64 10]) (by simp [results, Tryd.results11, go_sem, d0, d1]) rfl ⟨HE2.out.symm, ?_⟩
        have hb := HB4.out
        (repeat' (first | (with_reducible exact Below.refl _ _) | (with_reducible assumption) | (with_reducible refine Below.trans ?_ (Below.mono (by with_reducible assumption) ?_)) | (with_reducible refine Below.alloc ?_ ?_ _) | (with_reducible refine Below.setCell ?_ ?_ _) | (with_reducible refine below_drewN ?_ _) | (with_reducible refine Below.drew ?_) | go_size))
    · have HE := Lib.hid (tokR_none (tokV_none HSZ.out (by rw [HL.out]; exact hN)))
      have hneq := run_neq_iface_nil w1 t v
      clear hN
      go_wp2
      refine bodyPost_ret (v := .tuple #[.agg #[.int .i64 0, .int .i64 0], .int .i64 10]) (by simp [results, Tryd.results11, go_sem, a0, a1]) rfl ⟨HE.out.symm, ?_⟩
      have hb := HB1.out
      (repeat' (first | (with_reducible exact Below.refl _ _) | (with_reducible assumption) | (with_reducible refine Below.trans ?_ (Below.mono (by with_reducible assumption) ?_)) | (with_reducible refine Below.alloc ?_ ?_ _) | (with_reducible refine Below.setCell ?_ ?_ _) | (with_reducible refine below_drewN ?_ _) | (with_reducible refine Below.drew ?_) | go_size))
  · have hs26 : ¬ (s.size : Int) = 26 := by omega
    have HE := Lib.hid (tokR_none (tokV_short hsz))
    clear ht hv hsz hs
    go_enter Tryd.func11, Tryd.ntmps11
    go_wp2
    refine bodyPost_ret (v := .tuple #[.agg #[.int .i64 0, .int .i64 0], .int .i64 10]) (by simp [results, Tryd.results11, go_sem]) rfl ⟨HE.out.symm, ?_⟩
    (repeat' (first | (with_reducible exact Below.refl _ _) | (with_reducible assumption) | (with_reducible refine Below.trans ?_ (Below.mono (by with_reducible assumption) ?_)) | (with_reducible refine Below.alloc ?_ ?_ _) | (with_reducible refine Below.setCell ?_ ?_ _) | (with_reducible refine below_drewN ?_ _) | (with_reducible refine Below.drew ?_) | go_size))
end Go.Proofs.YtcmoglbmngmgnaaDoor
