/- rec.Encode. -/
import Derived.Test.YtpflbhcgkndpcaaGreatDoorG16m
import Derived.Test.YtpflbhcgkndpcaaGreatDoorG16j
import Derived.Test.YtpflbhcgkndpcaaGreatDoorStrB
import Derived.Lib.ConvBytes
set_option linter.unusedSimpArgs false
set_option linter.unusedVariables false
namespace Go.Proofs.YtpflbhcgkndpcaaGreatDoor
open Go.RowKit

theorem bytesWorld_by (w : World) (e : TypeId) (key : ByteArray) : ByL (Lib.bytesWorld w e key) (some ⟨w.heap.size, 0, none⟩) (kL key) := by
  intro h0
  refine ⟨w.heap.size, 0, rfl, by rw [Lib.bytesWorld_size]; omega, fun j u hu => ?_⟩
  obtain ⟨q, rfl⟩ := bC_some hu
  have q' : j < key.size := by rw [← kL_len]; exact q
  rw [Nat.zero_add, Lib.bytesWorld_cell w e key j q']
  simp [kL, List.getD_eq_getElem?_getD, List.getElem?_eq_getElem (show j < key.data.toList.length from by simpa using q')]
theorem bytesWorld_below (w : World) (e : TypeId) (key : ByteArray) : Below w.heap.size w (Lib.bytesWorld w e key) :=
  ⟨rfl, rfl, rfl, by rw [Lib.bytesWorld_size]; omega, fun k hk => Lib.bytesWorld_at_old w e key k hk⟩
theorem numsE_len (zs : List Int) (h : ∀ x ∈ zs, 0 ≤ x ∧ x ≤ 4611686018427387904) : (numsE zs).length ≤ 9 * zs.length := by
  induction zs with
  | nil => simp [numsE]
  | cons a t ih =>
    have h1 := ih (fun x hx => h x (by simp [hx]))
    have h2 := h a (by simp)
    have h3 := encN_len a.toNat 9 (by omega) (by omega)
    show (encN a.toNat ++ numsE t).length ≤ 9 * (t.length + 1)
    rw [List.length_append]
    omega
theorem numsE_bd {l zs : List Int} {n : Nat} (hl : l.length ≤ n) (h : ∀ x ∈ zs, 0 ≤ x ∧ x ≤ 4611686018427387904) (hn : n + 9 * zs.length ≤ 1000000) : (l ++ numsE zs).length ≤ 1000000 := by
  have := numsE_len zs h
  simp only [List.length_append]
  omega
/-- While it is laid: the writer, the record's block, its bytes. -/
structure St9 (w W : World) (wb : Nat) (v : Value) (l : List Int) (o s : Int) (key : ByteArray) (ml ct vo : Int) (A : Option Addr) (val : List Int) (c : Nat) (gone : Bool) (tt : Int) : Prop where
  wr : Wr W wb v l
  r : Rec9 W w.heap.size o s key ml ct vo A val.length c gone tt
  by_ : ByL W A val
  hA : 0 < val.length → ∀ ad, A = some ad → ad.block < w.heap.size
  hb : Below w.heap.size w W
  ge : ∀ k, Foot wb v k → w.heap.size < k
section
variable {w W W' : World} {wb : Nat} {v v' : Value} {l l' : List Int} {o s : Int} {key : ByteArray} {ml ct vo : Int} {A : Option Addr} {val : List Int} {c : Nat} {gone : Bool} {tt : Int}
theorem St9.below (h : St9 w W wb v l o s key ml ct vo A val c gone tt) (k : Below W.heap.size W W') : St9 w W' wb v l o s key ml ct vo A val c gone tt :=
  ⟨h.wr.below k, h.r.below k, h.by_.below k, h.hA, h.hb.trans (k.mono h.hb.size), h.ge⟩
theorem St9.step (h : St9 w W wb v l o s key ml ct vo A val c gone tt) (k : WrPost wb v l' W W' v') : St9 w W' wb v' l' o s key ml ct vo A val c gone tt :=
  ⟨k.wr, h.r.but k.but (fun hf => by have := h.ge _ hf; omega), h.by_.but k.but (fun h0 ad ha hf => by have := h.ge _ hf; have := h.hA h0 ad ha; omega), h.hA, h.hb.trans (k.but.below (fun i hi => by have := h.ge i hi; omega) h.hb.size), fun i hi => by
    rcases hi with rfl | hi
    · exact h.ge _ (.inl rfl)
    · rcases k.fresh i hi with q | q
      · exact h.ge _ (.inr q)
      · have := h.wr.lt; have := h.ge _ (.inl rfl); omega⟩
theorem St9.av (h : St9 w W wb v l o s key ml ct vo A val c gone tt) : 0 < val.length → Av (Foot wb v) A := fun h0 ad ha hf => by have := h.ge _ hf; have := h.hA h0 ad ha; omega
end
set_option maxHeartbeats 2000000 in
theorem rec_enc_no (o s : Int) (key : ByteArray) (ml ct vo : Int) (A : Option Addr) (n c : Nat) (gone : Bool) (tt : Int) (w : World) (h : okN o s key.size ml ct vo n gone tt = false) :
    Calls Tryz.prog 56 #[recV o s key ml ct vo A n c gone tt] w fun e w' => e = .returned (.tuple #[.slice none 0 0, .int .i64 1]) ∧ Below w.heap.size w w' := by
  go_enter Tryz.func56, Tryz.ntmps56
  go_wp2_with (go_at_call 54; refine (rec_is o s key ml ct vo A n c gone tt _).mono ?_; rintro e w1 ⟨rfl, hb1⟩; obtain ⟨hc1, hf1⟩ := bcell hb1; have hz1 := hb1.size; (try simp only [World.size_alloc, World.size_setCell, World.heap_drewN] at hb1 hc1 hf1 hz1); (try have ha01 : w.heap.size < w1.heap.size := by omega); (try have ha11 : w.heap.size + 1 < w1.heap.size := by omega); (try have ha21 : w.heap.size + 2 < w1.heap.size := by omega); (try have hal1 : w.heap.size ≤ w1.heap.size := by omega); (try have ham1 : w.heap.size < w1.heap.size + 2 := by omega))
  go_ret2
  go_light
  exact ⟨rfl, by (repeat' (first | (with_reducible exact Below.refl _ _) | (with_reducible assumption) | (with_reducible refine Below.trans ?_ (Below.mono (by with_reducible assumption) ?_)) | (with_reducible refine Below.alloc ?_ ?_ _) | (with_reducible refine Below.setCell ?_ ?_ _) | (with_reducible refine below_drewN ?_ _) | (with_reducible refine Below.drew ?_) | go_size))⟩
theorem okN_bd {o s : Int} {kn : Nat} {ml ct vo : Int} {n : Nat} {gone : Bool} {tt : Int} (h : okN o s kn ml ct vo n gone tt = true) : (0 ≤ o ∧ o < 5) ∧ (1 ≤ s ∧ s ≤ 1099511627776) ∧ (1 ≤ kn ∧ kn ≤ 64) ∧ (0 ≤ ml ∧ ml ≤ 281474976710655) ∧ (0 ≤ ct ∧ ct ≤ 65535) ∧ n ≤ 1024 ∧ (0 ≤ tt ∧ tt ≤ 281474976710655) := by
  simp [okN, okV, isStB] at h
  omega
theorem bytes_len (p : List Int) (h : p.length ≤ 1024) : (encN p.length ++ p).length ≤ 1026 := by
  have := encN_len p.length 2 (by omega) (by omega)
  simp only [List.length_append]
  omega
set_option maxRecDepth 100000 in
set_option maxHeartbeats 8000000 in
theorem rec_enc_yes (o s : Int) (key : ByteArray) (ml ct vo : Int) (A : Option Addr) (val : List Int) (c : Nat) (gone : Bool) (tt : Int) (w : World) (h : okN o s key.size ml ct vo val.length gone tt = true)
    (hby : ByL w A val) (hn : A = none → val.length = 0) :
    Calls Tryz.prog 56 #[recV o s key ml ct vo A val.length c gone tt] w fun e w' => ∃ g cap, e = .returned (.tuple #[.slice (some ⟨g, 0, none⟩) (encR ⟨o, s, kL key, ml, ct, vo, val, gone, tt⟩).length cap, .int .i64 0]) ∧ Own8 w.heap.size w' (.slice (some ⟨g, 0, none⟩) (encR ⟨o, s, kL key, ml, ct, vo, val, gone, tt⟩).length cap) (encR ⟨o, s, kL key, ml, ct, vo, val, gone, tt⟩) ∧ Below w.heap.size w w' := by
  obtain ⟨⟨o0, o1⟩, ⟨s0, s1⟩, ⟨k0, k1⟩, ⟨m0, m1⟩, ⟨c0, c1⟩, n1, t0, t1⟩ := okN_bd h
  have HB0 : Below w.heap.size w (w.alloc (recO o s key ml ct vo A val.length c gone tt)) := by (repeat' (first | (with_reducible exact Below.refl _ _) | (with_reducible assumption) | (with_reducible refine Below.trans ?_ (Below.mono (by with_reducible assumption) ?_)) | (with_reducible refine Below.alloc ?_ ?_ _) | (with_reducible refine Below.setCell ?_ ?_ _) | (with_reducible refine below_drewN ?_ _) | (with_reducible refine Below.drew ?_) | go_size))
  have R0 := Rec9.new w o s key ml ct vo A val.length c gone tt
  have HI := Lib.hid (rec_is o s key ml ct vo A val.length c gone tt (w.alloc (recO o s key ml ct vo A val.length c gone tt)))
  rw [h] at HI
  have HX := Lib.hid (And.intro HB0 (And.intro R0 hby))
  have HZ1 : Hid (∀ x ∈ [o, s], 0 ≤ x ∧ x ≤ 4611686018427387904) := Lib.hid (by intro x hx; simp at hx; omega)
  have HZ2 : Hid (∀ q : Int, 0 ≤ q → q ≤ 1 → ∀ x ∈ [ml, ct, q, tt], 0 ≤ x ∧ x ≤ 4611686018427387904) := Lib.hid (by intro q q0 q1 x hx; simp at hx; omega)
  have HN := Lib.hid n1
  have HK := Lib.hid k1
  have hA : 0 < val.length → ∀ ad, A = some ad → ad.block < w.heap.size := fun h0 ad ha => by
    obtain ⟨B, O, he, hB, _⟩ := hby h0
    rw [he] at ha
    injection ha with ha
    subst ha
    exact hB
  have HA := Lib.hid hA
  clear HB0 R0 hby h o0 o1 s0 s1 k0 k1 m0 m1 c0 c1 n1 t0 t1 hA
  cases gone
  · go_enter Tryz.func56, Tryz.ntmps56
    go_wp2_with fail
    refine HI.out.mono ?_; rintro e w1 ⟨rfl, hb1⟩
    have HB1 := HX.out.1.trans (hb1.mono HX.out.1.size)
    have R1 := HX.out.2.1.below hb1
    have Y1 := HX.out.2.2.below HB1
    have l1 : w.heap.size < w1.heap.size := R1.lt
    clear hb1 HI
    have S0 : St9 w (w1.alloc (.cells #[.slice none 0 0] 137)) w1.heap.size (.slice none 0 0) [] o s key ml ct vo A val c false tt :=
      ⟨Wr.new w1 _, R1.below ((Below.refl _ _).alloc (Nat.le_refl _) _), Y1.alloc _, HA.out, HB1.alloc HB1.size _, fun k hk => by
        rcases hk with rfl | hk
        · exact l1
        · simp [Value.ownBlock] at hk⟩
    have S1 := S0.below ((Below.refl _ _).alloc (Nat.le_refl _) (.cells #[.int .i64 o, .int .i64 s] 3))
    obtain ⟨c0, c1, c2, c3, c4, c5, c6, c7, c8, lt⟩ := R1
    have HC := Lib.hid (wr_nums w1.heap.size (w1.heap.size + 1) 2 (.slice none 0 0) [] [o, s] _ S1.wr (by rintro (hk | hk) <;> first | omega | simp [Value.ownBlock] at hk) (by simp) (by intro j q; rcases (show j = 0 ∨ j = 1 from by simp at q; omega) with rfl | rfl <;> simp [go_sem]) HZ1.out (by simp) (numsE_bd (n := 0) (by simp) HZ1.out (by simp)))
    have HS1 := Lib.hid S1
    clear S0 S1 Y1 HB1 HX
    go_wp2_with fail
    refine HC.out.mono ?_; rintro e w2 ⟨rfl, v2, hw2⟩
    have S2 := HS1.out.step hw2
    clear hw2 HC HS1 c0 c1 c2 c3 c4 c5 c6 c7 c8 lt
    have HR2 := S2.r
    have hcv := Lib.run_convert_string_bytes (P := Tryz.prog) w2 9 42 5 key Tryz.underlying9 Tryz.underlying42 Tryz.underlying5
    have hby3 := bytesWorld_by w2 5 key
    have hb3 := bytesWorld_below w2 5 key
    have hz3 := Lib.bytesWorld_size w2 5 key
    generalize grownCap w2 key.size 0 5 = cp at *
    generalize Lib.bytesWorld w2 5 key = w3 at *
    have S3 := (S2.below hb3).below ((Below.refl _ _).alloc (Nat.le_refl _) (.cells #[.slice (some ⟨w2.heap.size, 0, none⟩) key.size cp] 42))
    have hl2 := numsE_len [o, s] HZ1.out
    have HC := Lib.hid (wr_bytes w1.heap.size w3.heap.size 1 cp (some ⟨w2.heap.size, 0, none⟩) v2 _ (kL key) _ S3.wr (fun hf => by have := S2.wr.foot_lt _ hf; omega) (by simp) (by rw [kL_len]; simp [go_sem]) (hby3.alloc _) (fun _ ad ha hf => by injection ha with ha; subst ha; have hq : w2.heap.size < w2.heap.size := S2.wr.foot_lt _ hf; omega) (fun h => by cases h) (by have h1 := bytes_len (kL key) (by rw [kL_len]; have := HK.out; omega); simp only [List.length_append, List.length_cons, List.length_nil] at h1 hl2 ⊢; omega))
    have HS3 := Lib.hid S3
    have l2 : w.heap.size < w2.heap.size := S2.r.lt
    have l3 : w2.heap.size < w3.heap.size := by omega
    have lb2 : w1.heap.size < w2.heap.size := S2.wr.lt
    obtain ⟨c0, c1, c2, c3, c4, c5, c6, c7, c8, lt⟩ := HR2
    clear S2 S3 hby3 hb3 hz3
    go_wp2_with fail
    refine HC.out.mono ?_; rintro e w4 ⟨rfl, v4, hw4⟩
    have S4 := HS3.out.step hw4
    clear hw4 HC HS3 c0 c1 c2 c3 c4 c5 c6 c7 c8 lt hcv
    have HR4 := S4.r
    have S5 := S4.below ((Below.refl _ _).alloc (Nat.le_refl _) (.cells #[.int .i64 ml, .int .i64 ct, .int .i64 0, .int .i64 tt] 3))
    have hl4 : ([] ++ numsE [o, s] ++ (encN (kL key).length ++ kL key)).length ≤ 1100 := by have h1 := bytes_len (kL key) (by rw [kL_len]; have := HK.out; omega); simp only [List.length_append, List.length_cons, List.length_nil] at h1 hl2 ⊢; omega
    have HC := Lib.hid (wr_nums w1.heap.size w4.heap.size 4 v4 _ [ml, ct, 0, tt] _ S5.wr (fun hf => by have := S4.wr.foot_lt _ hf; omega) (by simp) (by intro j q; rcases (show j = 0 ∨ j = 1 ∨ j = 2 ∨ j = 3 from by simp at q; omega) with rfl | rfl | rfl | rfl <;> simp [go_sem]) (HZ2.out 0 (by omega) (by omega)) (by simp) (numsE_bd hl4 (HZ2.out 0 (by omega) (by omega)) (by simp)))
    have HS5 := Lib.hid S5
    have l4 : w.heap.size < w4.heap.size := S4.r.lt
    have lb4 : w1.heap.size < w4.heap.size := S4.wr.lt
    obtain ⟨c0, c1, c2, c3, c4, c5, c6, c7, c8, lt⟩ := HR4
    clear S4 S5
    go_wp2_with fail
    refine HC.out.mono ?_; rintro e w6 ⟨rfl, v6, hw6⟩
    have S6 := HS5.out.step hw6
    clear hw6 HC HS5 c0 c1 c2 c3 c4 c5 c6 c7 c8 lt
    have HR6 := S6.r
    have S7 := S6.below ((Below.refl _ _).alloc (Nat.le_refl _) (.cells #[.slice A val.length c] 42))
    have hl6 := numsE_len [ml, ct, 0, tt] (HZ2.out 0 (by omega) (by omega))
    have hl7 : ([] ++ numsE [o, s] ++ (encN (kL key).length ++ kL key) ++ numsE [ml, ct, 0, tt] ++ (encN val.length ++ val)).length ≤ 3000 := by have h1 := bytes_len val HN.out; rw [List.length_append, List.length_append]; simp only [List.length_cons, List.length_nil] at hl6 ⊢; omega
    have HC := Lib.hid (wr_bytes w1.heap.size w6.heap.size 1 c A v6 _ val _ S7.wr (fun hf => by have := S6.wr.foot_lt _ hf; omega) (by simp) (by simp [go_sem]) S7.by_ S7.av hn (by omega))
    have HS7 := Lib.hid S7
    have l6 : w.heap.size < w6.heap.size := S6.r.lt
    have lb6 : w1.heap.size < w6.heap.size := S6.wr.lt
    obtain ⟨c0, c1, c2, c3, c4, c5, c6, c7, c8, lt⟩ := HR6
    clear S6 S7
    go_wp2_with fail
    refine HC.out.mono ?_; rintro e w8 ⟨rfl, v8, hw8⟩
    have S8 := HS7.out.step hw8
    clear hw8 HC HS7 c0 c1 c2 c3 c4 c5 c6 c7 c8 lt
    have HO := Lib.hid (wr_out w1.heap.size v8 _ w8 S8.wr (by omega))
    have HB8 := Lib.hid S8.hb
    have lb8 : w1.heap.size < w8.heap.size := S8.wr.lt
    clear S8
    go_wp2_with fail
    refine HO.out.mono ?_; rintro e w9 ⟨⟨g, cap, rfl, hown⟩, hb9⟩
    have hE : [] ++ numsE [o, s] ++ (encN (kL key).length ++ kL key) ++ numsE [ml, ct, 0, tt] ++ (encN val.length ++ val) = encR ⟨o, s, kL key, ml, ct, vo, val, false, tt⟩ := by simp [numsE, encR, encT, goneN]
    rw [hE] at hown
    rw [hE]
    have HF := Lib.hid (And.intro (own_base HB8.out.size hown) (HB8.out.trans (hb9.mono HB8.out.size)))
    clear hown hb9 hE HO
    go_wp2
    go_ret2
    exact ⟨g, cap, rfl, HF.out.1, HF.out.2⟩
  · go_enter Tryz.func56, Tryz.ntmps56
    go_wp2_with fail
    refine HI.out.mono ?_; rintro e w1 ⟨rfl, hb1⟩
    have HB1 := HX.out.1.trans (hb1.mono HX.out.1.size)
    have R1 := HX.out.2.1.below hb1
    have Y1 := HX.out.2.2.below HB1
    have l1 : w.heap.size < w1.heap.size := R1.lt
    clear hb1 HI
    have S0 : St9 w (w1.alloc (.cells #[.slice none 0 0] 137)) w1.heap.size (.slice none 0 0) [] o s key ml ct vo A val c true tt :=
      ⟨Wr.new w1 _, R1.below ((Below.refl _ _).alloc (Nat.le_refl _) _), Y1.alloc _, HA.out, HB1.alloc HB1.size _, fun k hk => by
        rcases hk with rfl | hk
        · exact l1
        · simp [Value.ownBlock] at hk⟩
    have S1 := S0.below ((Below.refl _ _).alloc (Nat.le_refl _) (.cells #[.int .i64 o, .int .i64 s] 3))
    obtain ⟨c0, c1, c2, c3, c4, c5, c6, c7, c8, lt⟩ := R1
    have HC := Lib.hid (wr_nums w1.heap.size (w1.heap.size + 1) 2 (.slice none 0 0) [] [o, s] _ S1.wr (by rintro (hk | hk) <;> first | omega | simp [Value.ownBlock] at hk) (by simp) (by intro j q; rcases (show j = 0 ∨ j = 1 from by simp at q; omega) with rfl | rfl <;> simp [go_sem]) HZ1.out (by simp) (numsE_bd (n := 0) (by simp) HZ1.out (by simp)))
    have HS1 := Lib.hid S1
    clear S0 S1 Y1 HB1 HX
    go_wp2_with fail
    refine HC.out.mono ?_; rintro e w2 ⟨rfl, v2, hw2⟩
    have S2 := HS1.out.step hw2
    clear hw2 HC HS1 c0 c1 c2 c3 c4 c5 c6 c7 c8 lt
    have HR2 := S2.r
    have hcv := Lib.run_convert_string_bytes (P := Tryz.prog) w2 9 42 5 key Tryz.underlying9 Tryz.underlying42 Tryz.underlying5
    have hby3 := bytesWorld_by w2 5 key
    have hb3 := bytesWorld_below w2 5 key
    have hz3 := Lib.bytesWorld_size w2 5 key
    generalize grownCap w2 key.size 0 5 = cp at *
    generalize Lib.bytesWorld w2 5 key = w3 at *
    have S3 := (S2.below hb3).below ((Below.refl _ _).alloc (Nat.le_refl _) (.cells #[.slice (some ⟨w2.heap.size, 0, none⟩) key.size cp] 42))
    have hl2 := numsE_len [o, s] HZ1.out
    have HC := Lib.hid (wr_bytes w1.heap.size w3.heap.size 1 cp (some ⟨w2.heap.size, 0, none⟩) v2 _ (kL key) _ S3.wr (fun hf => by have := S2.wr.foot_lt _ hf; omega) (by simp) (by rw [kL_len]; simp [go_sem]) (hby3.alloc _) (fun _ ad ha hf => by injection ha with ha; subst ha; have hq : w2.heap.size < w2.heap.size := S2.wr.foot_lt _ hf; omega) (fun h => by cases h) (by have h1 := bytes_len (kL key) (by rw [kL_len]; have := HK.out; omega); simp only [List.length_append, List.length_cons, List.length_nil] at h1 hl2 ⊢; omega))
    have HS3 := Lib.hid S3
    have l2 : w.heap.size < w2.heap.size := S2.r.lt
    have l3 : w2.heap.size < w3.heap.size := by omega
    have lb2 : w1.heap.size < w2.heap.size := S2.wr.lt
    obtain ⟨c0, c1, c2, c3, c4, c5, c6, c7, c8, lt⟩ := HR2
    clear S2 S3 hby3 hb3 hz3
    go_wp2_with fail
    refine HC.out.mono ?_; rintro e w4 ⟨rfl, v4, hw4⟩
    have S4 := HS3.out.step hw4
    clear hw4 HC HS3 c0 c1 c2 c3 c4 c5 c6 c7 c8 lt hcv
    have HR4 := S4.r
    have S5 := S4.below ((Below.refl _ _).alloc (Nat.le_refl _) (.cells #[.int .i64 ml, .int .i64 ct, .int .i64 1, .int .i64 tt] 3))
    have hl4 : ([] ++ numsE [o, s] ++ (encN (kL key).length ++ kL key)).length ≤ 1100 := by have h1 := bytes_len (kL key) (by rw [kL_len]; have := HK.out; omega); simp only [List.length_append, List.length_cons, List.length_nil] at h1 hl2 ⊢; omega
    have HC := Lib.hid (wr_nums w1.heap.size w4.heap.size 4 v4 _ [ml, ct, 1, tt] _ S5.wr (fun hf => by have := S4.wr.foot_lt _ hf; omega) (by simp) (by intro j q; rcases (show j = 0 ∨ j = 1 ∨ j = 2 ∨ j = 3 from by simp at q; omega) with rfl | rfl | rfl | rfl <;> simp [go_sem]) (HZ2.out 1 (by omega) (by omega)) (by simp) (numsE_bd hl4 (HZ2.out 1 (by omega) (by omega)) (by simp)))
    have HS5 := Lib.hid S5
    have l4 : w.heap.size < w4.heap.size := S4.r.lt
    have lb4 : w1.heap.size < w4.heap.size := S4.wr.lt
    obtain ⟨c0, c1, c2, c3, c4, c5, c6, c7, c8, lt⟩ := HR4
    clear S4 S5
    go_wp2_with fail
    refine HC.out.mono ?_; rintro e w6 ⟨rfl, v6, hw6⟩
    have S6 := HS5.out.step hw6
    clear hw6 HC HS5 c0 c1 c2 c3 c4 c5 c6 c7 c8 lt
    have HR6 := S6.r
    have S7 := S6.below ((Below.refl _ _).alloc (Nat.le_refl _) (.cells #[.slice A val.length c] 42))
    have hl6 := numsE_len [ml, ct, 1, tt] (HZ2.out 1 (by omega) (by omega))
    have hl7 : ([] ++ numsE [o, s] ++ (encN (kL key).length ++ kL key) ++ numsE [ml, ct, 1, tt] ++ (encN val.length ++ val)).length ≤ 3000 := by have h1 := bytes_len val HN.out; rw [List.length_append, List.length_append]; simp only [List.length_cons, List.length_nil] at hl6 ⊢; omega
    have HC := Lib.hid (wr_bytes w1.heap.size w6.heap.size 1 c A v6 _ val _ S7.wr (fun hf => by have := S6.wr.foot_lt _ hf; omega) (by simp) (by simp [go_sem]) S7.by_ S7.av hn (by omega))
    have HS7 := Lib.hid S7
    have l6 : w.heap.size < w6.heap.size := S6.r.lt
    have lb6 : w1.heap.size < w6.heap.size := S6.wr.lt
    obtain ⟨c0, c1, c2, c3, c4, c5, c6, c7, c8, lt⟩ := HR6
    clear S6 S7
    go_wp2_with fail
    refine HC.out.mono ?_; rintro e w8 ⟨rfl, v8, hw8⟩
    have S8 := HS7.out.step hw8
    clear hw8 HC HS7 c0 c1 c2 c3 c4 c5 c6 c7 c8 lt
    have HO := Lib.hid (wr_out w1.heap.size v8 _ w8 S8.wr (by omega))
    have HB8 := Lib.hid S8.hb
    have lb8 : w1.heap.size < w8.heap.size := S8.wr.lt
    clear S8
    go_wp2_with fail
    refine HO.out.mono ?_; rintro e w9 ⟨⟨g, cap, rfl, hown⟩, hb9⟩
    have hE : [] ++ numsE [o, s] ++ (encN (kL key).length ++ kL key) ++ numsE [ml, ct, 1, tt] ++ (encN val.length ++ val) = encR ⟨o, s, kL key, ml, ct, vo, val, true, tt⟩ := by simp [numsE, encR, encT, goneN]
    rw [hE] at hown
    rw [hE]
    have HF := Lib.hid (And.intro (own_base HB8.out.size hown) (HB8.out.trans (hb9.mono HB8.out.size)))
    clear hown hb9 hE HO
    go_wp2
    go_ret2
    exact ⟨g, cap, rfl, HF.out.1, HF.out.2⟩
end Go.Proofs.YtpflbhcgkndpcaaGreatDoor
