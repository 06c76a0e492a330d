/- Stage 6: PacketDecodes. -/
import Derived.Test.YtfllemmmgmdliaaPkStands
import Derived.Test.YtfllemmmgmdliaaPkDecRef
set_option linter.unusedSimpArgs false
set_option linter.unusedVariables false
namespace Go.Proofs.Ytfllemmmgmdliaa
open Go.ChangeShapes Go.WideShapes Go.ChangeAt Go.RowKit Go.Joins

theorem empty_loads6 : (∀ (ad : Addr) (w : World), (loadCellsFrom ad 0 0 #[]).run Try.prog w = .ok #[] w) ∧ (∀ (w : World) (p : Addr), (storeCells p []).run Try.prog w = .ok () w) := ⟨fun ad w => by simp [loadCellsFrom], fun w p => by simp [storeCells]⟩
set_option maxHeartbeats 2000000 in
theorem roomy_none (f : Nat → Int) (w : World) :
    Calls Try.prog 12 #[.slice none 0 0] w fun e w' => ∃ g cap, e = .returned (.slice (some ⟨g, 0, none⟩) (0 + 1) cap) ∧ 0 + 1 ≤ cap ∧ w.heap.size ≤ g ∧ BytesAt w' (some ⟨g, 0, none⟩) (0 + 1) (rmF f 0) ∧ Below w.heap.size w w' := by
  obtain ⟨i0, hi0, hz0, hz1, hz2⟩ := info_parts u8_info
  have HW0 : Below w.heap.size w (w.alloc (.cells #[] 5)) := by (repeat' (first | (with_reducible exact Below.refl _ _) | (with_reducible assumption) | (with_reducible refine Below.trans ?_ (Below.mono (by with_reducible assumption) ?_)) | (with_reducible refine Below.alloc ?_ ?_ _) | (with_reducible refine Below.setCell ?_ ?_ _) | (with_reducible refine below_drewN ?_ _) | (with_reducible refine Below.drew ?_) | go_size))
  have hmade := World.ownsRow_made (base := w.heap.size) (e := 5) (size := 1) w #[] 0 (Nat.le_refl _) (Nat.zero_le _) rfl
  have hld := empty_loads6.1
  have hst := empty_loads6.2
  go_enter Try.func12, Try.ntmps12
  go_wp2_with (first | (at_builtin; refine wpList_append_lies _ rfl (.tmp 5) (.tmp 6) _ rfl w.heap.size 5 i0 _ 1 1 Try.underlying25 hi0 hz0 hz1 hz2 rfl (by decide) (.slice (some ⟨w.heap.size, 0, none⟩) 0 0) 0 [] rfl (World.ownsRow.alloc hmade _) ⟨w.heap.size + 1, 0, none⟩ 1 1 [.int .u8 171] rfl rfl (by have q := World.news_of_block (cs := #[.int .u8 171]) (t := 5) (fr := (0, 0)) (heap_alloc_new (w.alloc (.cells #[] 5)) (.cells #[.int .u8 171] 5)); simpa using q) (by simp [Value.oneCell']) (by omega) (by unfold maxLen; omega) (by omega) (by simp; omega) _ rfl ?_; intro g2 cap2 w2 hown2 hg2 hat2 hlt2; have hz2s := hg2.size) | (at_builtin; refine wpList_append_lies _ rfl (.tmp 7) (.tmp 8) _ rfl w.heap.size 5 i0 _ 1 1 Try.underlying25 hi0 hz0 hz1 hz2 rfl (by decide) (.slice (some ⟨g2, 0, none⟩) (0 + 1) cap2) (0 + 1) _ rfl (World.ownsRow.alloc hown2 _) ⟨w2.heap.size, 0, none⟩ 1 1 [.int .u8 171] rfl rfl (World.news_of_block (cs := #[.int .u8 171]) (t := 5) (fr := (0, 0)) (heap_alloc_new w2 _)) (by simp [Value.oneCell']) (by omega) (by unfold maxLen; omega) (by omega) (by simp at hz2s ⊢; omega) _ rfl ?_; intro g3 cap3 w3 hown3 hg3 hat3 hlt3; have hci : (1 : Int) ≤ (cap3 : Int) := by have := own_cap hown3; omega))
  have hown : w3.ownsRow w.heap.size 5 1 (.slice (some ⟨g3, 0, none⟩) (0 + 2) cap3) (0 + 2) (bytesC (rmF f 0) (0 + 2)) := by rw [rm_cells]; exact hown3
  have HB : Below w.heap.size w w3 := by
    have h2 := (HW0.alloc HW0.size (.cells #[.int .u8 171] 5)).grown hg2 (by have := HW0.size; simp; omega) (fun k hk => by simp [Value.ownBlock] at hk; omega)
    exact (h2.alloc h2.size (.cells #[.int .u8 171] 5)).grown hg3 (by have := h2.size; simp; omega) (fun k hk => (World.ownsRow.lt hown2 k hk).1)
  have hR : BytesAt w3 (some ⟨g3, 0, none⟩) (0 + 1) (rmF f 0) := by
    obtain ⟨A, c', he, hb⟩ := BOwn.bytes (show BOwn w.heap.size w3 _ (0 + 2) (rmF f 0) from hown)
    injection he with he1 _ _
    subst he1
    intro _
    obtain ⟨B, O, e, h1, h2⟩ := hb (by omega)
    exact ⟨B, O, e, h1, fun j hj => h2 j (by omega)⟩
  have hcap : 0 + 2 ≤ cap3 := own_cap hown3
  have hg : w.heap.size ≤ g3 := (World.ownsRow.lt hown g3 rfl).1
  have HH := Lib.hid (And.intro hR (And.intro HB hg))
  clear hown hown2 hown3 hg2 hg3 hat2 hat3 HB hR hmade
  (try go_wp2)
  go_ret
  exact ⟨g3, cap3, rfl, by omega, HH.out.2.2, HH.out.1, HH.out.2.1⟩
/-- What Decode tells of n bytes. -/
def pq (n : Nat) (f : Nat → Int) (x : Int) : Int := if n = 48 ∧ decOk f = true then x else 0
def pcode (n : Nat) (f : Nat → Int) : Int := if n = 48 then (if decOk f = true then 0 else 3) else if n < 48 then 2 else 5
theorem pq_no {n : Nat} {f : Nat → Int} (h : n ≠ 48) (x : Int) : pq n f x = 0 := by unfold pq; rw [if_neg (fun q => h q.1)]
theorem pq_bad {n : Nat} {f : Nat → Int} (h : decOk f = false) (x : Int) : pq n f x = 0 := by unfold pq; rw [if_neg (fun q => by rw [h] at q; cases q.2)]
theorem pq_yes {f : Nat → Int} (h : decOk f = true) (x : Int) : pq 48 f x = x := by unfold pq; rw [if_pos ⟨rfl, h⟩]
theorem pk_dec_any (A : Option Addr) (n c : Nat) (f : Nat → Int) (w : World) (h : BytesAt w A n f) (hb : ∀ j, j < n → 0 ≤ f j ∧ f j ≤ 255) (hc : n ≤ c) (hn : n ≤ 1000) :
    Calls Try.prog 11 #[.slice A n c] w fun e w' => e = .returned (.tuple #[pkV (pq n f (dL f)) (pq n f (dM f)) (pq n f (f 1)) (pq n f (dD f)) (pq n f (dR f)) (pq n f (dO f)) (pq n f (dV f)) (pq n f (dT f)), .int .i64 (pcode n f)]) ∧ Below w.heap.size w w' := by
  by_cases h48 : n = 48
  · subst h48
    obtain ⟨B, O, rfl, hB, hcell⟩ := h (by omega)
    refine (pk_dec B O c f w hB hcell hb hc).mono ?_
    rintro e w' ⟨h1, h2, h3⟩
    refine ⟨?_, h3⟩
    cases hk : decOk f
    · rw [h2 hk]
      simp only [pq_bad hk, pcode, hk]
      simp
    · rw [h1 hk]
      simp only [pq_yes hk, pcode, hk]
      simp
  · refine (pk_dec_len A n c w (by unfold maxLen; omega) h48).mono ?_
    rintro e w' ⟨h1, h3⟩
    refine ⟨?_, h3⟩
    rw [h1]
    simp only [pq_no h48, pcode, if_neg h48]
theorem ref6_dec_any (A : Option Addr) (n c : Nat) (f : Nat → Int) (w : World) (h : BytesAt w A n f) (hb : ∀ j, j < n → 0 ≤ f j ∧ f j ≤ 255) (hc : n ≤ c) (hn : n ≤ 1000) :
    Calls Try.prog 13 #[.slice A n c] w fun e w' => e = .returned (.tuple #[pkV (pq n f (dL f)) (pq n f (dM f)) (pq n f (f 1)) (pq n f (dD f)) (pq n f (dR f)) (pq n f (dO f)) (pq n f (dV f)) (pq n f (dT f)), .int .i64 (pcode n f)]) ∧ Below w.heap.size w w' := by
  by_cases h48 : n = 48
  · subst h48
    obtain ⟨B, O, rfl, hB, hcell⟩ := h (by omega)
    refine (ref6_dec B O c 48 rfl f w hB hcell hb hc).mono ?_
    rintro e w' ⟨h1, h2, h3⟩
    refine ⟨?_, h3⟩
    cases hk : decOk f
    · rw [h2 hk]
      simp only [pq_bad hk, pcode, hk]
      simp
    · rw [h1 hk]
      simp only [pq_yes hk, pcode, hk]
      simp
  · refine (ref6_dec_len A n c w (by unfold maxLen; omega) h48).mono ?_
    rintro e w' ⟨h1, h3⟩
    refine ⟨?_, h3⟩
    rw [h1]
    simp only [pq_no h48, pcode, if_neg h48]
theorem roomy6 (A : Option Addr) (n c : Nat) (f : Nat → Int) (w : World) (hB : BytesAt w A n f) (hA : A = none → n = 0 ∧ c = 0) (hn : n ≤ 1000) :
    Calls Try.prog 12 #[.slice A n c] w fun e w' => ∃ g cap, e = .returned (.slice (some ⟨g, 0, none⟩) (n + 1) cap) ∧ n + 1 ≤ cap ∧ w.heap.size ≤ g ∧ BytesAt w' (some ⟨g, 0, none⟩) (n + 1) (rmF f n) ∧ Below w.heap.size w w' := by
  cases A with
  | none =>
    obtain ⟨rfl, rfl⟩ := hA rfl
    exact roomy_none f w
  | some ad => exact roomy_some ad n c f w hB hn
theorem BytesAt.low {W : World} {A : Option Addr} {n : Nat} {f : Nat → Int} (h : BytesAt W A (n + 1) (rmF f n)) : BytesAt W A n f := fun h0 => by
  obtain ⟨B, O, e, h1, h2⟩ := h (by omega)
  exact ⟨B, O, e, h1, fun j hj => by have := h2 j (by omega); unfold rmF at this; rwa [if_pos hj] at this⟩
theorem decodes_long (A : Option Addr) (n c : Nat) (w : World) (h : 1000 < n) (hm : n ≤ maxLen) : Calls Try.prog 4 #[.slice A n c] w fun e w' => e = .returned (.bool true) ∧ Below w.heap.size w w' := by
  have d1 : decide ((1000 : Int) < (n : Int)) = true := by simp; omega
  unfold maxLen at hm
  go_enter Try.func4, Try.ntmps4
  go_wp2
  go_ret
  exact ⟨rfl, Below.refl _ _⟩
set_option maxRecDepth 100000 in
set_option maxHeartbeats 4000000 in
theorem decodes_some (A : Option Addr) (n c : Nat) (f : Nat → Int) (w : World) (hB : BytesAt w A n f) (hb : ∀ j, j < n → 0 ≤ f j ∧ f j ≤ 255) (hA : A = none → n = 0 ∧ c = 0) (hc : n ≤ c) (hn : n ≤ 1000) :
    Calls Try.prog 4 #[.slice A n c] w fun e w' => e = .returned (.bool true) ∧ Below w.heap.size w w' := by
  have d1 : decide ((1000 : Int) < (n : Int)) = false := by simp; omega
  have HR := Lib.hid (roomy6 A n c f w hB hA hn)
  have HBY := Lib.hid hB
  have HBB := Lib.hid hb
  have HC := Lib.hid (And.intro hc hn)
  clear hB hb hA hc
  go_enter Try.func4, Try.ntmps4
  go_wp2_with fail
  refine HR.out.mono ?_; rintro e w1 ⟨g, cap, rfl, hcap, hg, hy1, hb1⟩
  have hci : (n : Int) ≤ (cap : Int) := by omega
  have C1 := Lib.hid (pk_dec_any (some ⟨g, 0, none⟩) n cap f w1 hy1.low HBB.out (by omega) hn)
  have HY1 := Lib.hid hy1
  have HB1 := Lib.hid hb1
  clear hy1 hb1 HR
  go_wp2_with fail
  refine C1.out.mono ?_; rintro e w2 ⟨rfl, hb2⟩
  have HB2 := Lib.hid (HB1.out.trans (hb2.mono HB1.out.size))
  have HY2 := Lib.hid (HY1.out.below hb2)
  have kA : Below w2.heap.size w2 (w2.alloc (pkO (pq n f (dL f)) (pq n f (dM f)) (pq n f (f 1)) (pq n f (dD f)) (pq n f (dR f)) (pq n f (dO f)) (pq n f (dV f)) (pq n f (dT f)))) := (Below.refl _ _).alloc (Nat.le_refl _) _
  have HB2a := Lib.hid (HB2.out.trans (kA.mono HB2.out.size))
  have C2 := Lib.hid (ref6_dec_any A n c f _ (HBY.out.below HB2a.out) HBB.out HC.out.1 HC.out.2)
  have X2 := Lib.hid (Box8.new w2 (pq n f (dL f)) (pq n f (dM f)) (pq n f (f 1)) (pq n f (dD f)) (pq n f (dR f)) (pq n f (dO f)) (pq n f (dV f)) (pq n f (dT f)))
  have HY2a := Lib.hid (HY2.out.below kA)
  clear hb2 kA C1 HY1 HY2 HB1 HB2
  generalize pq n f (dL f) = l at *
  generalize pq n f (dM f) = m at *
  generalize pq n f (f 1) = s at *
  generalize pq n f (dD f) = d at *
  generalize pq n f (dR f) = r at *
  generalize pq n f (dO f) = o at *
  generalize pq n f (dV f) = v at *
  generalize pq n f (dT f) = t at *
  generalize pcode n f = k at *
  go_wp2_with fail
  refine C2.out.mono ?_; rintro e w3 ⟨rfl, hb3⟩
  have kB : Below w3.heap.size w3 (w3.alloc (pkR l m s d r o v t)) := (Below.refl _ _).alloc (Nat.le_refl _) _
  have HB3 := Lib.hid (HB2a.out.trans ((hb3.trans (kB.mono hb3.size)).mono HB2a.out.size))
  have HY3 := (HY2a.out.below hb3).below kB
  have HBY3 := HBY.out.below HB3.out
  have CS := Lib.hid (stands6 g cap A n c f _ HC.out.2 hcap HY3 HBY3)
  have X3 := (X2.out.below hb3 X2.out.lt).alloc (pkR l m s d r o v t)
  have X4 := Box8.newR w3 l m s d r o v t
  obtain ⟨c0, c1, c2, c3, c4, c5, c6, c7, _⟩ := X3
  obtain ⟨d0, d1, d2, d3, d4, d5, d6, d7, _⟩ := X4
  clear hb3 kB C2 X2 HY2a HB2a HY3 HBY3 HBY HBB HC
  go_wp2_with (first | (go_at_call 14; refine CS.out.mono ?_; rintro e w4 ⟨rfl, nq, rfl⟩; have HB4 := Lib.hid (below_drewN HB3.out nq)) | (go_at_call 10; refine (known6 _).mono ?_; rintro e w5 ⟨rfl, hb5⟩; have HB5 := Lib.hid (HB4.out.trans (hb5.mono HB4.out.size))))
  go_ret
  exact ⟨rfl, HB5.out⟩
set_option maxRecDepth 100000 in
theorem packetDecodes_lifted (os : Os) (started : os.Started) (H : Type) (enc : TypeId × Value → H) :
    ReturnsInHanded {} Try.checked os 4 .any (Rows.packetDecodesSpec.pre6 enc Try.prog Try.f4 Rows.packetDecodesRow.domain false) (Rows.packetDecodesSpec.post enc Try.prog Try.f4 false true false false) := by
  refine returnsInHanded_of_change_sized (C := Try.checked) law_own started (by kernel_rfl) Try.func4
    (ChangeSpec.witness6 (enc := enc) (C := Try.checked) false ⟨#[], #[.slice none 0 0], []⟩ 8 (by kernel_rfl) (by kernel_rfl) (by kernel_rfl) (by kernel_rfl)) ?_
  intro W base args ds gs before hval0 hW hcnd hsz0 _
  have hval : ∀ (j : Nat) t v, Try.f4.params[j]? = some t → args[j]? = some v → Value.okWide Try.prog W .any base t v := hval0
  have hsz : (DataW.weightsEach Try.prog (Try.f4.params.toList ++ Rows.packetDecodesSpec.plain.varTypes Try.prog) (ds ++ gs)).all (· ≤ reachBytes) = true := hsz0
  have hW' := hW
  obtain ⟨p, q, hA0, hV, rfl, hfz, hnd⟩ := hW
  have hA : DataW.TrodAll enc Try.prog W 0 (fun _ => true) true Try.f4.params.toList args.toList ds p := hA0
  rw [Try.params4] at hA hval hsz
  have hsame : (Rows.packetDecodesSpec.fn H (ds ++ gs)).results = [.lit (.bool true)] ∧ (Rows.packetDecodesSpec.fn H (ds ++ gs)).args = ds ∧ (Rows.packetDecodesSpec.fn H (ds ++ gs)).vars = [] → ∀ W', Below W.heap.size W W' → Rows.packetDecodesSpec.post enc Try.prog Try.f4 false true false false W args (.bool true) W' :=
    fun h W' hb => law_post (tb := 4) hW' law_laid (by kernel_rfl) rfl Try.underlying4 h.1 h.2.1 rfl h.2.2 hb
  obtain ⟨v0, vs0, d0, ds0, p0, q0, hargs, rfl, rfl, h0, r0⟩ := trodAll_cons hA
  obtain ⟨rfl, rfl, rfl⟩ := trodAll_nil r0
  obtain rfl : args = #[v0] := by cases args; simp_all
  obtain ⟨rfl, rfl⟩ := trodVars_none hV
  have hpost := hsame ⟨rfl, rfl, rfl⟩
  clear hsame hA0 hval0 hsz0
  obtain ⟨A, n, c, f, rfl, hc, hm, hB, hb, hn⟩ := open_u8_slice (hval 0 25 v0 rfl rfl) h0
  by_cases h : n ≤ 1000
  · exact (decodes_some A n c f W hB hb hn hc h).mono fun e W' ⟨he, hb⟩ => ⟨_, he, hpost W' hb⟩
  · exact (decodes_long A n c W (by omega) hm).mono fun e W' ⟨he, hb⟩ => ⟨_, he, hpost W' hb⟩
theorem packetDecodes_holds : Rows.PacketDecodesSaid :=
  OpenClaim.holds_of_wide 4 Try.f4 rfl rfl rfl rfl rfl rfl rfl ⟨rfl, rfl, rfl, rfl, rfl⟩ rfl rfl rfl rfl rfl (by kernel_rfl) Try.func4 (by kernel_rfl)
    (of_decide_eq_true (by kernel_rfl)) (by unfold Func.isWrapper; first | (rw [if_pos (by decide +kernel)]; kernel_rfl) | (rw [if_neg (by decide +kernel)]; exact ⟨rfl, rfl⟩))
    (fun os started H enc _ => packetDecodes_lifted os started H enc)
end Go.Proofs.Ytfllemmmgmdliaa
