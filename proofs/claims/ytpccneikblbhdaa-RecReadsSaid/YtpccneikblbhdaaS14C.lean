/- Stage 14: RecCuts (written by gen/s14c.py). -/
import Derived.Test.YtpccneikblbhdaaKnown14
import Derived.Test.YtpccneikblbhdaaRecDec
import Derived.Test.YtpccneikblbhdaaArgRec
set_option linter.unusedSimpArgs false
set_option linter.unusedVariables false
namespace Go.Proofs.Ytpccneikblbhdaa
open Go.ChangeShapes Go.WideShapes Go.ChangeAt Go.RowKit Go.Joins Go.Deep

theorem okN_ok {o s : Int} {key : ByteArray} {ml ct vo : Int} {p : List Int} {g : Bool} {tt : Int} (h : okN o s key.size ml ct vo p.length g tt = true) : Rc.Ok ⟨o, s, kL key, ml, ct, vo, p, g, tt⟩ := by
  rw [← ok_iff, okR_n]
  show okN o s (kL key).length ml ct vo p.length g tt = true
  rw [kL_len]
  exact h
theorem DecRes.none_ {l : List Int} {w w' : World} {e : Ending} (h : DecRes l w w' e) (hd : decR l = none) : e = .returned (.tuple #[recV 0 0 ⟨#[]⟩ 0 0 0 none 0 0 false 0, .int .i64 3]) := by
  rcases h with ⟨_, h⟩ | ⟨r, A, c, h, _⟩
  · exact h
  · rw [hd] at h; cases h
theorem and65535 (n : Int) : ∃ d : Nat, d ≤ 65535 ∧ bits .and .i64 n 65535 = (d : Int) := by
  show ∃ d : Nat, d ≤ 65535 ∧ IntKind.i64.wrap ((BitVec.ofInt 64 n &&& BitVec.ofInt 64 65535).toNat : Int) = (d : Int)
  refine ⟨(BitVec.ofInt 64 n).toNat % 65536, by omega, ?_⟩
  have e2 : (BitVec.ofInt 64 65535).toNat = 2 ^ 16 - 1 := by decide
  rw [BitVec.toNat_and, e2, Nat.and_two_pow_sub_one_eq_mod, IntWalk.i64_in _ (by omega)]
theorem encR_pos (r : Rc) : 0 < (encR r).length := by
  have := encN_len0 r.o.toNat
  unfold encR encT
  rw [List.length_append]
  omega
set_option maxHeartbeats 4000000 in
theorem recCuts_heavy (o s : Int) (key : ByteArray) (ml ct vo : Int) (A : Option Addr) (p : List Int) (c : Nat) (g : Bool) (tt : Int) (a m : Int) (w : World) (hby : ByL w A p) (hb : isBy p) (hn : A = none → p.length = 0) (hk : key.size ≤ 140737488351232 ∧ p.length ≤ 140737488351232) (hm : 0 ≤ m ∧ m ≤ 255) (hh : 6000 < 20 + key.size + p.length) :
    Calls Try.prog 8 #[recV o s key ml ct vo A p.length c g tt, .int .i64 a, .int .u8 m] w fun e w' => e = .returned (.bool true) ∧ Below w.heap.size w w' := by
  have d1 : decide (6000 < 20 + key.size + p.length) = true := by simpa using hh
  clear hh
  have HB0 : Below w.heap.size w (w.alloc (recO o s key ml ct vo A p.length c g tt)) := by (repeat' (first | (with_reducible exact Below.refl _ _) | (with_reducible assumption) | (with_reducible refine Below.trans ?_ (Below.mono (by with_reducible assumption) ?_)) | (with_reducible refine Below.alloc ?_ ?_ _) | (with_reducible refine Below.setCell ?_ ?_ _) | (with_reducible refine below_drewN ?_ _) | (with_reducible refine Below.drew ?_) | go_size))
  have R : Hid (Rec9 (w.alloc (recO o s key ml ct vo A p.length c g tt)) w.heap.size o s key ml ct vo A p.length c g tt) := Lib.hid (Rec9.new w o s key ml ct vo A p.length c g tt)
  have HBA := Lib.hid (hby.below HB0)
  have HZ := Lib.hid HB0
  have HW := Lib.hid (And.intro hb (And.intro hn hm))
  have HK : Hid (key.size ≤ 281474976710656 ∧ p.length ≤ 281474976710656) := Lib.hid (by omega)
  have HZS : Hid ((w.alloc (recO o s key ml ct vo A p.length c g tt)).heap.size = w.heap.size + 1) := Lib.hid (by simp)
  have zz : w.heap.size < (w.alloc (recO o s key ml ct vo A p.length c g tt)).heap.size := by simp
  clear HB0 hby hb hn hk hm
  go_enter Try.func8, Try.ntmps8
  go_wp2_with fail
  generalize w.alloc (recO o s key ml ct vo A p.length c g tt) = Z at *
  refine (heavy1 (w.heap.size + 1) 1 o s key ml ct vo A p.length c g tt (Z.alloc (recO o s key ml ct vo A p.length c g tt)) (by have q := Rec9.new Z o s key ml ct vo A p.length c g tt; rw [HZS.out] at q; exact q) HK.out.1 HK.out.2).mono ?_; rintro e V1 ⟨he, k⟩
  rw [d1] at he
  subst he
  have BX := Lib.hid (Below.trans ((Below.refl _ _).alloc (Nat.le_refl _) (recO o s key ml ct vo A p.length c g tt)) (k.mono (by simp)) : Below Z.heap.size Z V1)
  clear k d1
  have HF := Lib.hid (HZ.out.trans (BX.out.mono (by have := HZ.out.size; omega)))
  go_wp2
  go_ret
  exact ⟨rfl, HF.out⟩
set_option maxRecDepth 100000 in
set_option maxHeartbeats 4000000 in
theorem recCuts_no (o s : Int) (key : ByteArray) (ml ct vo : Int) (A : Option Addr) (p : List Int) (c : Nat) (g : Bool) (tt : Int) (a m : Int) (w : World) (hby : ByL w A p) (hb : isBy p) (hn : A = none → p.length = 0) (hk : key.size ≤ 140737488351232 ∧ p.length ≤ 140737488351232) (hm : 0 ≤ m ∧ m ≤ 255) (hh : ¬ 6000 < 20 + key.size + p.length) (ka : okN o s key.size ml ct vo p.length g tt = false) :
    Calls Try.prog 8 #[recV o s key ml ct vo A p.length c g tt, .int .i64 a, .int .u8 m] w fun e w' => e = .returned (.bool true) ∧ Below w.heap.size w w' := by
  have d1 : decide (6000 < 20 + key.size + p.length) = false := by simpa using hh
  clear hh
  have HB0 : Below w.heap.size w (w.alloc (recO o s key ml ct vo A p.length c g tt)) := by (repeat' (first | (with_reducible exact Below.refl _ _) | (with_reducible assumption) | (with_reducible refine Below.trans ?_ (Below.mono (by with_reducible assumption) ?_)) | (with_reducible refine Below.alloc ?_ ?_ _) | (with_reducible refine Below.setCell ?_ ?_ _) | (with_reducible refine below_drewN ?_ _) | (with_reducible refine Below.drew ?_) | go_size))
  have R : Hid (Rec9 (w.alloc (recO o s key ml ct vo A p.length c g tt)) w.heap.size o s key ml ct vo A p.length c g tt) := Lib.hid (Rec9.new w o s key ml ct vo A p.length c g tt)
  have HBA := Lib.hid (hby.below HB0)
  have HZ := Lib.hid HB0
  have HW := Lib.hid (And.intro hb (And.intro hn hm))
  have HK : Hid (key.size ≤ 281474976710656 ∧ p.length ≤ 281474976710656) := Lib.hid (by omega)
  have HZS : Hid ((w.alloc (recO o s key ml ct vo A p.length c g tt)).heap.size = w.heap.size + 1) := Lib.hid (by simp)
  have zz : w.heap.size < (w.alloc (recO o s key ml ct vo A p.length c g tt)).heap.size := by simp
  clear HB0 hby hb hn hk hm
  go_enter Try.func8, Try.ntmps8
  go_wp2_with fail
  generalize w.alloc (recO o s key ml ct vo A p.length c g tt) = Z at *
  refine (heavy1 (w.heap.size + 1) 1 o s key ml ct vo A p.length c g tt (Z.alloc (recO o s key ml ct vo A p.length c g tt)) (by have q := Rec9.new Z o s key ml ct vo A p.length c g tt; rw [HZS.out] at q; exact q) HK.out.1 HK.out.2).mono ?_; rintro e V1 ⟨he, k⟩
  rw [d1] at he
  subst he
  have BX := Lib.hid (Below.trans ((Below.refl _ _).alloc (Nat.le_refl _) (recO o s key ml ct vo A p.length c g tt)) (k.mono (by simp)) : Below Z.heap.size Z V1)
  clear k d1
  obtain ⟨a0, a1, a2, a3, a4, a5, a6, a7, a8, la⟩ := R.out.below BX.out
  go_wp2_with fail
  refine (rec_enc_no o s key ml ct vo A p.length c g tt V1 ka).mono ?_; rintro e V2 ⟨rfl, k⟩
  have BN := Lib.hid (BX.out.trans (k.mono BX.out.size))
  clear BX
  have BX := BN
  clear BN
  clear a0 a1 a2 a3 a4 a5 a6 a7 a8 la
  obtain ⟨a0, a1, a2, a3, a4, a5, a6, a7, a8, la⟩ := R.out.below BX.out
  clear k
  go_wp2_with fail
  refine (ref_is o s key ml ct vo A p.length c g tt V2).mono ?_; rintro e V3 ⟨he, k⟩
  have BN := Lib.hid (BX.out.trans (k.mono BX.out.size))
  clear BX
  have BX := BN
  clear BN
  rw [ka] at he
  subst he
  clear a0 a1 a2 a3 a4 a5 a6 a7 a8 la
  obtain ⟨a0, a1, a2, a3, a4, a5, a6, a7, a8, la⟩ := R.out.below BX.out
  clear k
  go_wp2_with fail
  refine (known14 V3).mono ?_; rintro e V4 ⟨rfl, k⟩
  have BN := Lib.hid (BX.out.trans (k.mono BX.out.size))
  clear BX
  have BX := BN
  clear BN
  clear a0 a1 a2 a3 a4 a5 a6 a7 a8 la
  clear k
  have HF := Lib.hid (HZ.out.trans (BX.out.mono (by have := HZ.out.size; omega)))
  go_wp2
  go_ret
  exact ⟨rfl, HF.out⟩
set_option maxRecDepth 100000 in
set_option maxHeartbeats 8000000 in
theorem recCuts_yes (o s : Int) (key : ByteArray) (ml ct vo : Int) (A : Option Addr) (p : List Int) (c : Nat) (g : Bool) (tt : Int) (a m : Int) (w : World) (hby : ByL w A p) (hb : isBy p) (hn : A = none → p.length = 0) (hk : key.size ≤ 140737488351232 ∧ p.length ≤ 140737488351232) (hm : 0 ≤ m ∧ m ≤ 255) (hh : ¬ 6000 < 20 + key.size + p.length) (ka : okN o s key.size ml ct vo p.length g tt = true) :
    Calls Try.prog 8 #[recV o s key ml ct vo A p.length c g tt, .int .i64 a, .int .u8 m] w fun e w' => e = .returned (.bool true) ∧ Below w.heap.size w w' := by
  obtain ⟨i0, hi0, hz0, hz1, hz2⟩ := info_parts u8_info
  have d1 : decide (6000 < 20 + key.size + p.length) = false := by simpa using hh
  clear hh
  have hok := okN_ok ka
  have HCUT := Lib.hid (decR_cut ⟨o, s, kL key, ml, ct, vo, p, g, tt⟩ hok (encR_by _ (kL_by key) hb))
  have HMORE := Lib.hid (decR_more ⟨o, s, kL key, ml, ct, vo, p, g, tt⟩ hok m)
  have HEL := Lib.hid (encR_len ⟨o, s, kL key, ml, ct, vo, p, g, tt⟩ hok)
  have HEP := Lib.hid (encR_pos ⟨o, s, kL key, ml, ct, vo, p, g, tt⟩)
  have HEB : Hid (isBy (encR ⟨o, s, kL key, ml, ct, vo, p, g, tt⟩)) := Lib.hid (encR_by _ (kL_by key) hb)
  obtain ⟨d, hd, had⟩ := and65535 a
  clear hok
  have HB0 : Below w.heap.size w (w.alloc (recO o s key ml ct vo A p.length c g tt)) := by (repeat' (first | (with_reducible exact Below.refl _ _) | (with_reducible assumption) | (with_reducible refine Below.trans ?_ (Below.mono (by with_reducible assumption) ?_)) | (with_reducible refine Below.alloc ?_ ?_ _) | (with_reducible refine Below.setCell ?_ ?_ _) | (with_reducible refine below_drewN ?_ _) | (with_reducible refine Below.drew ?_) | go_size))
  have R : Hid (Rec9 (w.alloc (recO o s key ml ct vo A p.length c g tt)) w.heap.size o s key ml ct vo A p.length c g tt) := Lib.hid (Rec9.new w o s key ml ct vo A p.length c g tt)
  have HBA := Lib.hid (hby.below HB0)
  have HZ := Lib.hid HB0
  have HW := Lib.hid (And.intro hb (And.intro hn hm))
  have HK : Hid (key.size ≤ 281474976710656 ∧ p.length ≤ 281474976710656) := Lib.hid (by omega)
  have HZS : Hid ((w.alloc (recO o s key ml ct vo A p.length c g tt)).heap.size = w.heap.size + 1) := Lib.hid (by simp)
  have zz : w.heap.size < (w.alloc (recO o s key ml ct vo A p.length c g tt)).heap.size := by simp
  clear HB0 hby hb hn hk hm
  go_enter Try.func8, Try.ntmps8
  go_wp2_with fail
  generalize w.alloc (recO o s key ml ct vo A p.length c g tt) = Z at *
  refine (heavy1 (w.heap.size + 1) 1 o s key ml ct vo A p.length c g tt (Z.alloc (recO o s key ml ct vo A p.length c g tt)) (by have q := Rec9.new Z o s key ml ct vo A p.length c g tt; rw [HZS.out] at q; exact q) HK.out.1 HK.out.2).mono ?_; rintro e V1 ⟨he, k⟩
  rw [d1] at he
  subst he
  have BX := Lib.hid (Below.trans ((Below.refl _ _).alloc (Nat.le_refl _) (recO o s key ml ct vo A p.length c g tt)) (k.mono (by simp)) : Below Z.heap.size Z V1)
  clear k d1
  obtain ⟨a0, a1, a2, a3, a4, a5, a6, a7, a8, la⟩ := R.out.below BX.out
  go_wp2_with fail
  refine (rec_enc_yes o s key ml ct vo A p c g tt V1 ka (HBA.out.below BX.out) HW.out.2.1).mono ?_; rintro e V2 ⟨ge, cap, rfl, hown, k⟩
  have BN := Lib.hid (BX.out.trans (k.mono BX.out.size))
  clear BX
  have BX := BN
  clear BN
  clear a0 a1 a2 a3 a4 a5 a6 a7 a8 la
  clear k
  generalize encR ⟨o, s, kL key, ml, ct, vo, p, g, tt⟩ = E at *
  have HO := Lib.hid hown
  obtain ⟨A1, c1, e1, y1, b1, l1⟩ := Own8.bytes hown
  obtain ⟨rfl, rfl⟩ : some ⟨ge, 0, none⟩ = A1 ∧ cap = c1 := by injection e1 with q1 q2 q3; exact ⟨q1, q3⟩
  have hE1 := HEL.out
  have hE2 := HEP.out
  have hEi : ¬ ((E.length : Int) = 0) := by omega
  have hEb : ((E.length : Int) == 0) = false := by rw [beq_eq_false_iff_ne]; exact hEi
  obtain ⟨k, hkd⟩ : ∃ k, d % E.length = k := ⟨_, rfl⟩
  have hkl : k < E.length := by rw [← hkd]; exact Nat.mod_lt _ hE2
  have hrem : Int.tmod (d : Int) (E.length : Int) = (k : Int) := by rw [← hkd]; exact (Int.ofNat_tmod d E.length).symm
  have hrem2 : (d : Int) % (E.length : Int) = (k : Int) := by rw [← hkd]; rfl
  have hkc : (k : Int) ≤ (cap : Int) := by omega
  have hk0 : (0 : Int) ≤ (k : Int) := by omega
  have HY1 := Lib.hid y1
  clear hown e1 b1 y1 hkd
  go_wp2_with fail
  have htl : (E.take k).length = k := by rw [List.length_take]; omega
  have HD1 := Lib.hid (rec_dec (some ⟨ge, 0, none⟩) (E.take k) cap V2 (HY1.out.take k) (isBy_take HEB.out k) (fun h => by cases h) (by omega) rec_is)
  rw [htl] at HD1
  refine HD1.out.mono ?_; rintro e V3 ⟨he, k3⟩
  have he := he.none_ (HCUT.out k hkl)
  subst he
  have BN := Lib.hid (BX.out.trans (k3.mono BX.out.size))
  have HO3 := Lib.hid ((But.of_below (S := fun _ => False) k3).row HO.out (fun _ _ hf => hf))
  have HYE := Lib.hid (HY1.out.below k3)
  clear BX HD1 HCUT htl hrem hrem2 hkc hk0 HO HY1 k3 had hkl
  have BX := BN
  clear BN
  have z3 : w.heap.size < V3.heap.size := by have := BX.out.size; omega
  have hE1 := HEL.out
  have hE2 := HEP.out
  have hg0 : ((V3.alloc (.cells #[.int .i64 0, .int .i64 0, .string ⟨#[]⟩, .int .i64 0, .int .i64 0, .int .i64 0, .slice none 0 0, .bool false, .int .i64 0] 28)).alloc (.cells #[] 5)).ownsRow (V3.heap.size + 1) 5 1 (.slice (some ⟨V3.heap.size + 1, 0, none⟩) 0 0) 0 [] := by
    have q := World.ownsRow_made (base := V3.heap.size + 1) (e := 5) (size := 1) (V3.alloc (.cells #[.int .i64 0, .int .i64 0, .string ⟨#[]⟩, .int .i64 0, .int .i64 0, .int .i64 0, .slice none 0 0, .bool false, .int .i64 0] 28)) #[] 0 (by simp) (Nat.zero_le _) rfl
    simpa using q
  have ka2 : Below V3.heap.size V3 ((V3.alloc (.cells #[.int .i64 0, .int .i64 0, .string ⟨#[]⟩, .int .i64 0, .int .i64 0, .int .i64 0, .slice none 0 0, .bool false, .int .i64 0] 28)).alloc (.cells #[] 5)) := by (repeat' (first | (with_reducible exact Below.refl _ _) | (with_reducible assumption) | (with_reducible refine Below.trans ?_ (Below.mono (by with_reducible assumption) ?_)) | (with_reducible refine Below.alloc ?_ ?_ _) | (with_reducible refine Below.setCell ?_ ?_ _) | (with_reducible refine below_drewN ?_ _) | (with_reducible refine Below.drew ?_) | go_size))
  have hsrc := (HYE.out.below ka2).cells
  have BXA := Lib.hid (BX.out.trans (ka2.mono BX.out.size))
  clear ka2
  go_wp2_with (first | (at_builtin; refine wpList_append_lies _ rfl (.tmp 46) (.tmp 47) _ rfl (V3.heap.size + 1) 5 i0 _ 1 1 Try.underlying24 hi0 hz0 hz1 hz2 rfl (by decide) (.slice (some ⟨V3.heap.size + 1, 0, none⟩) 0 0) 0 [] rfl hg0 ⟨ge, 0, none⟩ E.length cap (bC E) rfl (by rw [bC_len]; omega) hsrc (bC_one _) hE2 (by unfold maxLen; omega) (by omega) (by simp; try omega) _ rfl ?_; intro g1 cap1 W4 hown1 hg1 hat1 hlt1; have hown4 : W4.ownsRow (V3.heap.size + 1) 5 1 (.slice (some ⟨g1, 0, none⟩) E.length cap1) E.length (bC E) := (by simpa using hown1); have BX4 := Lib.hid (BXA.out.grown hg1 BXA.out.size (fun q hq => by have := (World.ownsRow.lt hg0 q hq).1; have := BX.out.size; omega)); have hs4 : V3.heap.size + 1 ≤ W4.heap.size := (by have := hg1.size; simp at this; omega); clear hown1 hg1 hat1 hlt1 hsrc) | (at_builtin; refine wpList_append_lies _ rfl (.tmp 48) (.tmp 50) _ rfl (V3.heap.size + 1) 5 i0 _ 1 1 Try.underlying24 hi0 hz0 hz1 hz2 rfl (by decide) (.slice (some ⟨g1, 0, none⟩) E.length cap1) E.length (bC E) rfl (World.ownsRow.alloc hown4 _) ⟨W4.heap.size, 0, none⟩ 1 1 [.int .u8 m] rfl rfl (World.news_of_block (cs := #[.int .u8 m]) (t := 5) (fr := (0, 0)) (heap_alloc_new W4 _)) (by simp [Value.oneCell']) (by omega) (by unfold maxLen; omega) (by omega) (by simp; omega) _ rfl ?_; intro g2 cap2 W5 hown5 hg5 hat5 hlt5))
  have BX5 := Lib.hid ((BX4.out.alloc BX4.out.size (.cells #[.int .u8 m] 5)).grown hg5 (by have := BX4.out.size; simp; omega) (fun q hq => by have := (World.ownsRow.lt hown4 q hq).1; have := BX.out.size; omega))
  have HO5 : Hid (Own8 (V3.heap.size + 1) W5 (.slice (some ⟨g2, 0, none⟩) (E ++ [m]).length cap2) (E ++ [m])) := Lib.hid (by
    show World.ownsRow _ _ _ _ _ (E ++ [m]).length (bC (E ++ [m]))
    rw [bC_append, List.length_append]
    exact hown5)
  obtain ⟨A6, c6, e6, y6, b6, l6⟩ := Own8.bytes HO5.out
  obtain ⟨rfl, rfl⟩ : some ⟨g2, 0, none⟩ = A6 ∧ cap2 = c6 := by injection e6 with q1 q2 q3; exact ⟨q1, q3⟩
  have hml : (E ++ [m]).length = E.length + 1 := by simp
  have HD2 := Lib.hid (rec_dec (some ⟨g2, 0, none⟩) (E ++ [m]) cap2 W5 y6 (isBy_append HEB.out (isBy_cons HW.out.2.2 isBy_nil)) (fun h => by cases h) (by omega) rec_is)
  rw [hml] at HD2
  clear hown5 hg5 hat5 hlt5 hown4 e6 y6 b6 l6 hml HO5 BX4 BXA hg0
  go_wp2_with fail
  refine HD2.out.mono ?_; rintro e V6 ⟨he, k6⟩
  have he := he.none_ HMORE.out
  subst he
  have BX6 := Lib.hid (BX5.out.trans (k6.mono BX5.out.size))
  clear k6 HD2 BX5
  go_wp2_with fail
  refine (known14 _).mono ?_; rintro e V7 ⟨rfl, k7⟩
  have BX7 := Lib.hid (BX6.out.trans (Below.trans ((Below.refl _ _).alloc (Nat.le_refl _) (.cells #[.int .i64 0, .int .i64 0, .string ⟨#[]⟩, .int .i64 0, .int .i64 0, .int .i64 0, .slice none 0 0, .bool false, .int .i64 0] 28)) (k7.mono (by simp)) |>.mono BX6.out.size))
  clear k7
  have HF := Lib.hid (HZ.out.trans (BX7.out.mono (by have := HZ.out.size; omega)))
  go_wp2
  go_ret
  exact ⟨rfl, HF.out⟩
theorem recCuts_any (o s : Int) (key : ByteArray) (ml ct vo : Int) (A : Option Addr) (p : List Int) (c : Nat) (g : Bool) (tt : Int) (a m : Int) (w : World) (hby : ByL w A p) (hb : isBy p) (hn : A = none → p.length = 0) (hk : key.size ≤ 140737488351232 ∧ p.length ≤ 140737488351232) (hm : 0 ≤ m ∧ m ≤ 255) :
    Calls Try.prog 8 #[recV o s key ml ct vo A p.length c g tt, .int .i64 a, .int .u8 m] w fun e w' => e = .returned (.bool true) ∧ Below w.heap.size w w' := by
  by_cases h1 : 6000 < 20 + key.size + p.length
  · exact recCuts_heavy o s key ml ct vo A p c g tt a m w hby hb hn hk hm h1
  cases ka : okN o s key.size ml ct vo p.length g tt
  · exact recCuts_no o s key ml ct vo A p c g tt a m w hby hb hn hk hm h1 ka
  · exact recCuts_yes o s key ml ct vo A p c g tt a m w hby hb hn hk hm h1 ka
set_option maxRecDepth 100000 in
theorem recCuts_lifted (os : Os) (started : os.Started) (H : Type) (enc : TypeId × Value → H) :
    ReturnsInHanded {} Try.checked os 8 .any (Rows.recCutsSpec.pre6 enc Try.prog Try.f8 Rows.recCutsRow.domain false) (Rows.recCutsSpec.post enc Try.prog Try.f8 false true false false) := by
  refine returnsInHanded_of_change_sized (C := Try.checked) law_own started (by kernel_rfl) Try.func8
    (ChangeSpec.witness6 (enc := enc) (C := Try.checked) false ⟨#[], #[recV 0 0 ⟨#[]⟩ 0 0 0 none 0 0 false 0, .int .i64 0, .int .u8 0], []⟩ 8 (by kernel_rfl) (by kernel_rfl) (by kernel_rfl) (by kernel_rfl)) ?_
  intro W base args ds gs before hval0 hW hcnd hsz0 _
  have hval : ∀ (j : Nat) t v, Try.f8.params[j]? = some t → args[j]? = some v → Value.okWide Try.prog W .any base t v := hval0
  have hsz : (DataW.weightsEach Try.prog (Try.f8.params.toList ++ Rows.recCutsSpec.plain.varTypes Try.prog) (ds ++ gs)).all (· ≤ reachBytes) = true := hsz0
  have hW' := hW
  obtain ⟨p, q, hA0, hV, rfl, hfz, hnd⟩ := hW
  have hA : DataW.TrodAll enc Try.prog W 0 (fun _ => true) true Try.f8.params.toList args.toList ds p := hA0
  rw [Try.params8] at hA hval hsz
  have hsame : (Rows.recCutsSpec.fn H (ds ++ gs)).results = [.lit (.bool true)] ∧ (Rows.recCutsSpec.fn H (ds ++ gs)).args = ds ∧ (Rows.recCutsSpec.fn H (ds ++ gs)).vars = [] → ∀ W', Below W.heap.size W W' → Rows.recCutsSpec.post enc Try.prog Try.f8 false true false false W args (.bool true) W' :=
    fun h W' hb => law_post (tb := 4) hW' law_laid (by kernel_rfl) rfl Try.underlying4 h.1 h.2.1 rfl h.2.2 hb
  obtain ⟨v0, vs0, d0, ds0, p0, q0, hargs, rfl, rfl, h0, r0⟩ := trodAll_cons hA
  obtain ⟨v1, vs1, d1, ds1, p1, q1, rfl, rfl, rfl, h1, r1⟩ := trodAll_cons r0
  obtain ⟨v2, vs2, d2, ds2, p2, q2, rfl, rfl, rfl, h2, r2⟩ := trodAll_cons r1
  obtain ⟨rfl, rfl, rfl⟩ := trodAll_nil r2
  obtain rfl : args = #[v0, v1, v2] := by cases args; simp_all
  obtain ⟨rfl, rfl⟩ := trodVars_none hV
  have hpost := hsame ⟨rfl, rfl, rfl⟩
  clear hsame hA0 hval0 hsz0
  obtain ⟨o, s, key, ml, ct, vo, A, p, c, g, tt, rfl, _, _, hby, hb, hn, hz⟩ := open_record (hval 0 28 v0 rfl rfl) h0
  obtain ⟨a, rfl, rfl, rfl, wfa⟩ := open_int Try.underlying3 (hval 1 3 v1 rfl rfl) h1
  obtain ⟨m, rfl, rfl, rfl, wfm⟩ := open_int Try.underlying5 (hval 2 5 v2 rfl rfl) h2
  have hk := hz reachBytes (sized_each (j := 0) hsz rfl rfl)
  unfold reachBytes at hk
  exact (recCuts_any o s key ml ct vo A p c g tt a m W hby hb hn ⟨by omega, by omega⟩ (wf_u8' wfm)).mono fun e W' ⟨he, hb⟩ => ⟨_, he, hpost W' hb⟩
theorem recCuts_holds : Rows.RecCutsSaid :=
  OpenClaim.holds_of_wide 8 Try.f8 rfl rfl rfl rfl rfl rfl rfl ⟨rfl, rfl, rfl, rfl, rfl⟩ rfl rfl rfl rfl rfl (by kernel_rfl) Try.func8 (by kernel_rfl)
    (of_decide_eq_true (by kernel_rfl)) (by unfold Func.isWrapper; first | (rw [if_pos (by decide +kernel)]; kernel_rfl) | (rw [if_neg (by decide +kernel)]; exact ⟨rfl, rfl⟩))
    (fun os started H enc _ => recCuts_lifted os started H enc)
end Go.Proofs.Ytpccneikblbhdaa
