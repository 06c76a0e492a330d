/- Stage 14: RecSame (written by gen/s14.py). -/
import Derived.Test.YtpccneikblbhdaaKnown14
import Derived.Test.YtpccneikblbhdaaSame
import Derived.Test.YtpccneikblbhdaaArgRec
import Derived.BigGuard
import Derived.BigGuardPart
import Derived.BigCall
set_option linter.unusedSimpArgs false
set_option linter.unusedVariables false
namespace Go.Proofs.Ytpccneikblbhdaa
open Go.ChangeShapes Go.WideShapes Go.ChangeAt Go.RowKit Go.Joins Go.Deep

theorem same_symm (o s : Int) (key : ByteArray) (ml ct vo : Int) (p : List Int) (g : Bool) (tt : Int) (o' s' : Int) (key' : ByteArray) (ml' ct' vo' : Int) (p' : List Int) (g' : Bool) (tt' : Int) :
    sameRB o s key ml ct vo p g tt o' s' key' ml' ct' vo' p' g' tt' = sameRB o' s' key' ml' ct' vo' p' g' tt' o s key ml ct vo p g tt := by
  unfold sameRB sameVB
  rw [Bool.eq_iff_iff]
  simp only [Bool.and_eq_true, decide_eq_true_eq]
  constructor
  · rintro ⟨a, b, c, d, e, f, g, h, i⟩; exact ⟨a.symm, b.symm, c.symm, d.symm, e.symm, f.symm, g.symm, h.symm, i.symm⟩
  · rintro ⟨a, b, c, d, e, f, g, h, i⟩; exact ⟨a.symm, b.symm, c.symm, d.symm, e.symm, f.symm, g.symm, h.symm, i.symm⟩
set_option maxRecDepth 100000 in
set_option maxHeartbeats 4000000 in
theorem recSame_heavy (o s : Int) (key : ByteArray) (ml ct vo : Int) (A : Option Addr) (p : List Int) (c : Nat) (g : Bool) (tt : Int) (o' s' : Int) (key' : ByteArray) (ml' ct' vo' : Int) (A' : Option Addr) (p' : List Int) (c' : Nat) (g' : Bool) (tt' : Int) (w : World) (hby : ByL w A p) (hb : isBy p) (hn : A = none → p.length = 0) (hk : key.size ≤ 140737488351232 ∧ p.length ≤ 140737488351232) (hby' : ByL w A' p') (hb' : isBy p') (hn' : A' = none → p'.length = 0) (hk' : key'.size ≤ 140737488351232 ∧ p'.length ≤ 140737488351232) (hh : 6000 < 20 + key.size + p.length ∨ (¬ 6000 < 20 + key.size + p.length ∧ 6000 < 20 + key'.size + p'.length)) :
    Calls Try.prog 7 #[recV o s key ml ct vo A p.length c g tt, recV o' s' key' ml' ct' vo' A' p'.length c' g' tt'] w fun e w' => e = .returned (.bool true) ∧ Below w.heap.size w w' := by
  have HB0 : Below w.heap.size w ((w.alloc (recO o s key ml ct vo A p.length c g tt)).alloc (recO o' s' key' ml' ct' vo' A' p'.length c' g' tt')) := by (repeat' (first | (with_reducible exact Below.refl _ _) | (with_reducible assumption) | (with_reducible refine Below.trans ?_ (Below.mono (by with_reducible assumption) ?_)) | (with_reducible refine Below.alloc ?_ ?_ _) | (with_reducible refine Below.setCell ?_ ?_ _) | (with_reducible refine below_drewN ?_ _) | (with_reducible refine Below.drew ?_) | go_size))
  have RA : Hid (Rec9 ((w.alloc (recO o s key ml ct vo A p.length c g tt)).alloc (recO o' s' key' ml' ct' vo' A' p'.length c' g' tt')) w.heap.size o s key ml ct vo A p.length c g tt) := Lib.hid ((Rec9.new w o s key ml ct vo A p.length c g tt).below ((Below.refl _ _).alloc (Nat.le_refl _) _))
  have RB : Hid (Rec9 ((w.alloc (recO o s key ml ct vo A p.length c g tt)).alloc (recO o' s' key' ml' ct' vo' A' p'.length c' g' tt')) (w.heap.size + 1) o' s' key' ml' ct' vo' A' p'.length c' g' tt') := Lib.hid (by have := Rec9.new (w.alloc (recO o s key ml ct vo A p.length c g tt)) o' s' key' ml' ct' vo' A' p'.length c' g' tt'; rwa [World.size_alloc] at this)
  have HBA := Lib.hid (hby.below HB0)
  have HBB := Lib.hid (hby'.below HB0)
  have HZ := Lib.hid HB0
  have HW := Lib.hid (And.intro hb (And.intro hn (And.intro hb' hn')))
  have hk1 : key.size ≤ 281474976710656 ∧ p.length ≤ 281474976710656 := by omega
  have hk2 : key'.size ≤ 281474976710656 ∧ p'.length ≤ 281474976710656 := by omega
  have HK := Lib.hid (And.intro hk1 hk2)
  have zz : w.heap.size + 1 < ((w.alloc (recO o s key ml ct vo A p.length c g tt)).alloc (recO o' s' key' ml' ct' vo' A' p'.length c' g' tt')).heap.size := by simp
  have HZS : Hid (((w.alloc (recO o s key ml ct vo A p.length c g tt)).alloc (recO o' s' key' ml' ct' vo' A' p'.length c' g' tt')).heap.size = w.heap.size + 1 + 1) := Lib.hid (by simp)
  clear HB0 hby hb hn hk hby' hb' hn' hk' hk1 hk2
  rcases hh with hh | ⟨hh, hh2⟩
  · have d1 : decide (6000 < 20 + key.size + p.length) = true := by simpa using hh
    clear hh
    go_enter Try.func7, Try.ntmps7
    go_wp2_with fail
    generalize (w.alloc (recO o s key ml ct vo A p.length c g tt)).alloc (recO o' s' key' ml' ct' vo' A' p'.length c' g' tt') = Z at *
    have BX := Lib.hid (Below.refl Z.heap.size Z)
    refine (heavy1 (w.heap.size + 1 + 1) 1 o s key ml ct vo A p.length c g tt (Z.alloc (recO o s key ml ct vo A p.length c g tt)) (by have q := Rec9.new Z o s key ml ct vo A p.length c g tt; rw [HZS.out] at q; exact q) HK.out.1.1 HK.out.1.2).mono ?_; rintro e V1 ⟨he, k⟩
    rw [d1] at he
    subst he
    have BN := Lib.hid (BX.out.trans ((Below.trans ((Below.refl _ _).alloc (Nat.le_refl _) (recO o s key ml ct vo A p.length c g tt)) (k.mono (by simp)) : Below Z.heap.size Z _).mono BX.out.size))
    clear BX
    have BX := BN
    clear BN
    have HF := Lib.hid (HZ.out.trans (BX.out.mono (by have := HZ.out.size; omega)))
    go_wp2
    go_ret
    exact ⟨rfl, HF.out⟩
  · have d1 : decide (6000 < 20 + key.size + p.length) = false := by simpa using hh
    have d2 : decide (6000 < 20 + key'.size + p'.length) = true := by simpa using hh2
    clear hh hh2
    go_enter Try.func7, Try.ntmps7
    go_wp2_with fail
    generalize (w.alloc (recO o s key ml ct vo A p.length c g tt)).alloc (recO o' s' key' ml' ct' vo' A' p'.length c' g' tt') = Z at *
    have BX := Lib.hid (Below.refl Z.heap.size Z)
    refine (heavy1 (w.heap.size + 1 + 1) 1 o s key ml ct vo A p.length c g tt (Z.alloc (recO o s key ml ct vo A p.length c g tt)) (by have q := Rec9.new Z o s key ml ct vo A p.length c g tt; rw [HZS.out] at q; exact q) HK.out.1.1 HK.out.1.2).mono ?_; rintro e V1 ⟨he, k⟩
    rw [d1] at he
    subst he
    have BN := Lib.hid (BX.out.trans ((Below.trans ((Below.refl _ _).alloc (Nat.le_refl _) (recO o s key ml ct vo A p.length c g tt)) (k.mono (by simp)) : Below Z.heap.size Z _).mono BX.out.size))
    clear BX
    have BX := BN
    clear BN
    obtain ⟨a0, a1, a2, a3, a4, a5, a6, a7, a8, la⟩ := RA.out.below BX.out
    obtain ⟨b0, b1, b2, b3, b4, b5, b6, b7, b8, lb⟩ := RB.out.below BX.out
    clear k
    go_wp2_with fail
    refine (heavy1 V1.heap.size 1 o' s' key' ml' ct' vo' A' p'.length c' g' tt' (V1.alloc (recO o' s' key' ml' ct' vo' A' p'.length c' g' tt')) (Rec9.new V1 o' s' key' ml' ct' vo' A' p'.length c' g' tt') HK.out.2.1 HK.out.2.2).mono ?_; rintro e V2 ⟨he, k⟩
    rw [d2] at he
    subst he
    have BN := Lib.hid (BX.out.trans ((Below.trans ((Below.refl _ _).alloc (Nat.le_refl _) (recO o' s' key' ml' ct' vo' A' p'.length c' g' tt')) (k.mono (by simp)) : Below V1.heap.size V1 _).mono BX.out.size))
    clear a0 a1 a2 a3 a4 a5 a6 a7 a8 la b0 b1 b2 b3 b4 b5 b6 b7 b8 lb
    clear BX
    have BX := BN
    clear BN
    have HF := Lib.hid (HZ.out.trans (BX.out.mono (by have := HZ.out.size; omega)))
    go_wp2
    go_ret
    exact ⟨rfl, HF.out⟩
set_option maxRecDepth 100000 in
set_option maxHeartbeats 8000000 in
theorem recSame_light (o s : Int) (key : ByteArray) (ml ct vo : Int) (A : Option Addr) (p : List Int) (c : Nat) (g : Bool) (tt : Int) (o' s' : Int) (key' : ByteArray) (ml' ct' vo' : Int) (A' : Option Addr) (p' : List Int) (c' : Nat) (g' : Bool) (tt' : Int) (w : World) (hby : ByL w A p) (hb : isBy p) (hn : A = none → p.length = 0) (hk : key.size ≤ 140737488351232 ∧ p.length ≤ 140737488351232) (hby' : ByL w A' p') (hb' : isBy p') (hn' : A' = none → p'.length = 0) (hk' : key'.size ≤ 140737488351232 ∧ p'.length ≤ 140737488351232) (hh : ¬ 6000 < 20 + key.size + p.length) (hh2 : ¬ 6000 < 20 + key'.size + p'.length) :
    Calls Try.prog 7 #[recV o s key ml ct vo A p.length c g tt, recV o' s' key' ml' ct' vo' A' p'.length c' g' tt'] w fun e w' => e = .returned (.bool true) ∧ Below w.heap.size w w' := by
  have HB0 : Below w.heap.size w ((w.alloc (recO o s key ml ct vo A p.length c g tt)).alloc (recO o' s' key' ml' ct' vo' A' p'.length c' g' tt')) := by (repeat' (first | (with_reducible exact Below.refl _ _) | (with_reducible assumption) | (with_reducible refine Below.trans ?_ (Below.mono (by with_reducible assumption) ?_)) | (with_reducible refine Below.alloc ?_ ?_ _) | (with_reducible refine Below.setCell ?_ ?_ _) | (with_reducible refine below_drewN ?_ _) | (with_reducible refine Below.drew ?_) | go_size))
  have RA : Hid (Rec9 ((w.alloc (recO o s key ml ct vo A p.length c g tt)).alloc (recO o' s' key' ml' ct' vo' A' p'.length c' g' tt')) w.heap.size o s key ml ct vo A p.length c g tt) := Lib.hid ((Rec9.new w o s key ml ct vo A p.length c g tt).below ((Below.refl _ _).alloc (Nat.le_refl _) _))
  have RB : Hid (Rec9 ((w.alloc (recO o s key ml ct vo A p.length c g tt)).alloc (recO o' s' key' ml' ct' vo' A' p'.length c' g' tt')) (w.heap.size + 1) o' s' key' ml' ct' vo' A' p'.length c' g' tt') := Lib.hid (by have := Rec9.new (w.alloc (recO o s key ml ct vo A p.length c g tt)) o' s' key' ml' ct' vo' A' p'.length c' g' tt'; rwa [World.size_alloc] at this)
  have HBA := Lib.hid (hby.below HB0)
  have HBB := Lib.hid (hby'.below HB0)
  have HZ := Lib.hid HB0
  have HW := Lib.hid (And.intro hb (And.intro hn (And.intro hb' hn')))
  have hk1 : key.size ≤ 281474976710656 ∧ p.length ≤ 281474976710656 := by omega
  have hk2 : key'.size ≤ 281474976710656 ∧ p'.length ≤ 281474976710656 := by omega
  have HK := Lib.hid (And.intro hk1 hk2)
  have zz : w.heap.size + 1 < ((w.alloc (recO o s key ml ct vo A p.length c g tt)).alloc (recO o' s' key' ml' ct' vo' A' p'.length c' g' tt')).heap.size := by simp
  have HZS : Hid (((w.alloc (recO o s key ml ct vo A p.length c g tt)).alloc (recO o' s' key' ml' ct' vo' A' p'.length c' g' tt')).heap.size = w.heap.size + 1 + 1) := Lib.hid (by simp)
  clear HB0 hby hb hn hk hby' hb' hn' hk' hk1 hk2
  have d1 : decide (6000 < 20 + key.size + p.length) = false := by simpa using hh
  have d2 : decide (6000 < 20 + key'.size + p'.length) = false := by simpa using hh2
  clear hh hh2
  go_enter Try.func7, Try.ntmps7
  go_wp2_with fail
  generalize (w.alloc (recO o s key ml ct vo A p.length c g tt)).alloc (recO o' s' key' ml' ct' vo' A' p'.length c' g' tt') = Z at *
  have BX := Lib.hid (Below.refl Z.heap.size Z)
  refine (heavy1 (w.heap.size + 1 + 1) 1 o s key ml ct vo A p.length c g tt (Z.alloc (recO o s key ml ct vo A p.length c g tt)) (by have q := Rec9.new Z o s key ml ct vo A p.length c g tt; rw [HZS.out] at q; exact q) HK.out.1.1 HK.out.1.2).mono ?_; rintro e V1 ⟨he, k⟩
  rw [d1] at he
  subst he
  have BN := Lib.hid (BX.out.trans ((Below.trans ((Below.refl _ _).alloc (Nat.le_refl _) (recO o s key ml ct vo A p.length c g tt)) (k.mono (by simp)) : Below Z.heap.size Z _).mono BX.out.size))
  clear BX
  have BX := BN
  clear BN
  obtain ⟨a0, a1, a2, a3, a4, a5, a6, a7, a8, la⟩ := RA.out.below BX.out
  obtain ⟨b0, b1, b2, b3, b4, b5, b6, b7, b8, lb⟩ := RB.out.below BX.out
  clear k
  go_wp2_with fail
  refine (heavy1 V1.heap.size 1 o' s' key' ml' ct' vo' A' p'.length c' g' tt' (V1.alloc (recO o' s' key' ml' ct' vo' A' p'.length c' g' tt')) (Rec9.new V1 o' s' key' ml' ct' vo' A' p'.length c' g' tt') HK.out.2.1 HK.out.2.2).mono ?_; rintro e V2 ⟨he, k⟩
  rw [d2] at he
  subst he
  have BN := Lib.hid (BX.out.trans ((Below.trans ((Below.refl _ _).alloc (Nat.le_refl _) (recO o' s' key' ml' ct' vo' A' p'.length c' g' tt')) (k.mono (by simp)) : Below V1.heap.size V1 _).mono BX.out.size))
  clear a0 a1 a2 a3 a4 a5 a6 a7 a8 la b0 b1 b2 b3 b4 b5 b6 b7 b8 lb
  clear BX
  have BX := BN
  clear BN
  obtain ⟨a0, a1, a2, a3, a4, a5, a6, a7, a8, la⟩ := RA.out.below BX.out
  obtain ⟨b0, b1, b2, b3, b4, b5, b6, b7, b8, lb⟩ := RB.out.below BX.out
  clear k
  go_wp2_with fail
  refine wp_region_held_drew (S := fun w' => w'.cell? ⟨w.heap.size, 0, none⟩ = some (.int .i64 o) ∧ w'.cell? ⟨w.heap.size, 1, none⟩ = some (.int .i64 s) ∧ w'.cell? ⟨w.heap.size, 2, none⟩ = some (.string key) ∧ w'.cell? ⟨w.heap.size, 3, none⟩ = some (.int .i64 ml) ∧ w'.cell? ⟨w.heap.size, 4, none⟩ = some (.int .i64 ct) ∧ w'.cell? ⟨w.heap.size, 5, none⟩ = some (.int .i64 vo) ∧ w'.cell? ⟨w.heap.size, 6, none⟩ = some (.slice A p.length c) ∧ w'.cell? ⟨w.heap.size, 7, none⟩ = some (.bool g) ∧ w'.cell? ⟨w.heap.size, 8, none⟩ = some (.int .i64 tt) ∧ w'.cell? ⟨(w.heap.size + 1), 0, none⟩ = some (.int .i64 o') ∧ w'.cell? ⟨(w.heap.size + 1), 1, none⟩ = some (.int .i64 s') ∧ w'.cell? ⟨(w.heap.size + 1), 2, none⟩ = some (.string key') ∧ w'.cell? ⟨(w.heap.size + 1), 3, none⟩ = some (.int .i64 ml') ∧ w'.cell? ⟨(w.heap.size + 1), 4, none⟩ = some (.int .i64 ct') ∧ w'.cell? ⟨(w.heap.size + 1), 5, none⟩ = some (.int .i64 vo') ∧ w'.cell? ⟨(w.heap.size + 1), 6, none⟩ = some (.slice A' p'.length c') ∧ w'.cell? ⟨(w.heap.size + 1), 7, none⟩ = some (.bool g') ∧ w'.cell? ⟨(w.heap.size + 1), 8, none⟩ = some (.int .i64 tt')) (by kernel_rfl) ?_ (fun hHeld => ?_)
  · exact ⟨(RA.out.below BX.out).c0, (RA.out.below BX.out).c1, (RA.out.below BX.out).c2, (RA.out.below BX.out).c3, (RA.out.below BX.out).c4, (RA.out.below BX.out).c5, (RA.out.below BX.out).c6, (RA.out.below BX.out).c7, (RA.out.below BX.out).c8, (RB.out.below BX.out).c0, (RB.out.below BX.out).c1, (RB.out.below BX.out).c2, (RB.out.below BX.out).c3, (RB.out.below BX.out).c4, (RB.out.below BX.out).c5, (RB.out.below BX.out).c6, (RB.out.below BX.out).c7, (RB.out.below BX.out).c8⟩
  have B0 : Below Z.heap.size Z V2.drew := BX.out.drew
  clear a0 a1 a2 a3 a4 a5 a6 a7 a8 la b0 b1 b2 b3 b4 b5 b6 b7 b8 lb
  clear BX
  generalize V2.drew = U0 at *
  have haa : sameRB o s key ml ct vo p g tt o s key ml ct vo p g tt = true := by simp [sameRB, sameVB]
  have hba : sameRB o' s' key' ml' ct' vo' p' g' tt' o s key ml ct vo p g tt = sameRB o s key ml ct vo p g tt o' s' key' ml' ct' vo' p' g' tt' := same_symm ..
  have HAA := Lib.hid haa
  have HBAA := Lib.hid hba
  clear haa hba
  cases hx : sameRB o s key ml ct vo p g tt o' s' key' ml' ct' vo' p' g' tt'
  · have HX := Lib.hid hx
    clear hx
    refine wpAnyH_take (i := 0) (v := ?_) rfl (by kernel_rfl) (by kernel_rfl) (by kernel_rfl) (fun _ _ _ h => h) (Or.inl ⟨by rfl, ?_⟩) (by assumption) ?_
    rotate_left
    · intro w' hSw; (try dsimp only at hSw); go_simp; (try with_reducible rfl)
    (try simp only [Act.put, List.setIfInBounds_toArray, List.set_cons_zero, List.set_cons_succ, List.getElem_toArray, List.getElem_cons_succ, List.getElem_cons_zero])
    refine wpAnyH_take (i := 1) (v := ?_) rfl (by kernel_rfl) (by kernel_rfl) (by kernel_rfl) (fun _ _ _ h => h) (Or.inl ⟨by rfl, ?_⟩) (by assumption) ?_
    rotate_left
    · intro w' hSw; (try dsimp only at hSw); go_simp; (try with_reducible rfl)
    (try simp only [Act.put, List.setIfInBounds_toArray, List.set_cons_zero, List.set_cons_succ, List.getElem_toArray, List.getElem_cons_succ, List.getElem_cons_zero])
    refine wpAnyH_take (i := 3) (v := ?_) rfl (by kernel_rfl) (by kernel_rfl) (by kernel_rfl) (fun _ _ _ h => h) (Or.inl ⟨by rfl, ?_⟩) (by assumption) ?_
    rotate_left
    · intro w' hSw; (try dsimp only at hSw); go_simp; (try with_reducible rfl)
    (try simp only [Act.put, List.setIfInBounds_toArray, List.set_cons_zero, List.set_cons_succ, List.getElem_toArray, List.getElem_cons_succ, List.getElem_cons_zero])
    refine wpAnyH_take (i := 4) (v := ?_) rfl (by kernel_rfl) (by kernel_rfl) (by kernel_rfl) (fun _ _ _ h => h) (Or.inl ⟨by rfl, ?_⟩) (by assumption) ?_
    rotate_left
    · intro w' hSw; (try dsimp only at hSw); go_simp; (try with_reducible rfl)
    (try simp only [Act.put, List.setIfInBounds_toArray, List.set_cons_zero, List.set_cons_succ, List.getElem_toArray, List.getElem_cons_succ, List.getElem_cons_zero])
    refine wpAnyH_ready (rs := [2]) (by kernel_rfl) (by simp) ?_
    refine AllReadyH.cons rfl (fun K hK => ?_) (AllReadyH.nil)
    go_simp
    (go_at_call 28; refine (rec_same o s key ml ct vo p g tt A c o' s' key' ml' ct' vo' p' g' tt' A' c' U0 (HBA.out.below B0) HW.out.1 HW.out.2.1 (HBB.out.below B0) HW.out.2.2.1 HW.out.2.2.2).mono ?_; rintro e U1 ⟨he, k1⟩)
    rw [HX.out] at he
    subst he
    have B1 := B0.trans (k1.mono B0.size)
    clear k1 B0
    (try dsimp only)
    refine hK.out _ _ ?_ (fun hHeld => ?_)
    · exact ⟨(RA.out.below B1).c0, (RA.out.below B1).c1, (RA.out.below B1).c2, (RA.out.below B1).c3, (RA.out.below B1).c4, (RA.out.below B1).c5, (RA.out.below B1).c6, (RA.out.below B1).c7, (RA.out.below B1).c8, (RB.out.below B1).c0, (RB.out.below B1).c1, (RB.out.below B1).c2, (RB.out.below B1).c3, (RB.out.below B1).c4, (RB.out.below B1).c5, (RB.out.below B1).c6, (RB.out.below B1).c7, (RB.out.below B1).c8⟩
    clear hK K
    (try simp only [Act.put, List.setIfInBounds_toArray, List.set_cons_zero, List.set_cons_succ, List.getElem_toArray, List.getElem_cons_succ, List.getElem_cons_zero])
    refine wpAnyH_ready (rs := [5]) (by kernel_rfl) (by simp) ?_
    refine AllReadyH.cons rfl (fun K hK => ?_) (AllReadyH.nil)
    go_simp
    (go_at_call 20; refine (ref_same o s key ml ct vo p g tt A c o' s' key' ml' ct' vo' p' g' tt' A' c' U1 (HBA.out.below B1) HW.out.1 HW.out.2.1 (HBB.out.below B1) HW.out.2.2.1 HW.out.2.2.2).mono ?_; rintro e U2 ⟨he, k2⟩)
    rw [HX.out] at he
    subst he
    have B2 := B1.trans (k2.mono B1.size)
    clear k2 B1
    (try dsimp only)
    refine hK.out _ _ ?_ (fun hHeld => ?_)
    · exact ⟨(RA.out.below B2).c0, (RA.out.below B2).c1, (RA.out.below B2).c2, (RA.out.below B2).c3, (RA.out.below B2).c4, (RA.out.below B2).c5, (RA.out.below B2).c6, (RA.out.below B2).c7, (RA.out.below B2).c8, (RB.out.below B2).c0, (RB.out.below B2).c1, (RB.out.below B2).c2, (RB.out.below B2).c3, (RB.out.below B2).c4, (RB.out.below B2).c5, (RB.out.below B2).c6, (RB.out.below B2).c7, (RB.out.below B2).c8⟩
    clear hK K
    (try simp only [Act.put, List.setIfInBounds_toArray, List.set_cons_zero, List.set_cons_succ, List.getElem_toArray, List.getElem_cons_succ, List.getElem_cons_zero])
    refine wpAnyH_take (i := 6) (v := ?_) rfl (by kernel_rfl) (by kernel_rfl) (by kernel_rfl) (fun _ _ _ h => h) (Or.inl ⟨by rfl, ?_⟩) (by assumption) ?_
    rotate_left
    · intro w' hSw; (try dsimp only at hSw); go_simp; (try with_reducible rfl)
    (try simp only [Act.put, List.setIfInBounds_toArray, List.set_cons_zero, List.set_cons_succ, List.getElem_toArray, List.getElem_cons_succ, List.getElem_cons_zero])
    refine wpAnyH_take (i := 7) (v := ?_) rfl (by kernel_rfl) (by kernel_rfl) (by kernel_rfl) (fun _ _ _ h => h) (Or.inl ⟨by rfl, ?_⟩) (by assumption) ?_
    rotate_left
    · intro w' hSw; (try dsimp only at hSw); go_simp; (try with_reducible rfl)
    (try simp only [Act.put, List.setIfInBounds_toArray, List.set_cons_zero, List.set_cons_succ, List.getElem_toArray, List.getElem_cons_succ, List.getElem_cons_zero])
    refine wpAnyH_take (i := 8) (v := ?_) rfl (by kernel_rfl) (by kernel_rfl) (by kernel_rfl) (fun _ _ _ h => h) (Or.inl ⟨by rfl, ?_⟩) (by assumption) ?_
    rotate_left
    · intro w' hSw; (try dsimp only at hSw); go_simp; (try with_reducible rfl)
    (try simp only [Act.put, List.setIfInBounds_toArray, List.set_cons_zero, List.set_cons_succ, List.getElem_toArray, List.getElem_cons_succ, List.getElem_cons_zero])
    refine wpAnyH_take (i := 9) (v := ?_) rfl (by kernel_rfl) (by kernel_rfl) (by kernel_rfl) (fun _ _ _ h => h) (Or.inl ⟨by rfl, ?_⟩) (by assumption) ?_
    rotate_left
    · intro w' hSw; (try dsimp only at hSw); go_simp; (try with_reducible rfl)
    (try simp only [Act.put, List.setIfInBounds_toArray, List.set_cons_zero, List.set_cons_succ, List.getElem_toArray, List.getElem_cons_succ, List.getElem_cons_zero])
    refine wpAnyH_ready (rs := [10]) (by kernel_rfl) (by simp) ?_
    refine AllReadyH.cons rfl (fun K hK => ?_) (AllReadyH.nil)
    go_simp
    (go_at_call 28; refine (rec_same o s key ml ct vo p g tt A c o s key ml ct vo p g tt A c U2 (HBA.out.below B2) HW.out.1 HW.out.2.1 (HBA.out.below B2) HW.out.1 HW.out.2.1).mono ?_; rintro e U3 ⟨he, k3⟩)
    rw [HAA.out] at he
    subst he
    have B3 := B2.trans (k3.mono B2.size)
    clear k3 B2
    (try dsimp only)
    refine hK.out _ _ ?_ (fun hHeld => ?_)
    · exact ⟨(RA.out.below B3).c0, (RA.out.below B3).c1, (RA.out.below B3).c2, (RA.out.below B3).c3, (RA.out.below B3).c4, (RA.out.below B3).c5, (RA.out.below B3).c6, (RA.out.below B3).c7, (RA.out.below B3).c8, (RB.out.below B3).c0, (RB.out.below B3).c1, (RB.out.below B3).c2, (RB.out.below B3).c3, (RB.out.below B3).c4, (RB.out.below B3).c5, (RB.out.below B3).c6, (RB.out.below B3).c7, (RB.out.below B3).c8⟩
    clear hK K
    (try simp only [Act.put, List.setIfInBounds_toArray, List.set_cons_zero, List.set_cons_succ, List.getElem_toArray, List.getElem_cons_succ, List.getElem_cons_zero])
    refine wpAnyH_take (i := 11) (v := ?_) rfl (by kernel_rfl) (by kernel_rfl) (by kernel_rfl) (fun _ _ _ h => h) (Or.inl ⟨by rfl, ?_⟩) (by assumption) ?_
    rotate_left
    · intro w' hSw; (try dsimp only at hSw); go_simp; (try with_reducible rfl)
    (try simp only [Act.put, List.setIfInBounds_toArray, List.set_cons_zero, List.set_cons_succ, List.getElem_toArray, List.getElem_cons_succ, List.getElem_cons_zero])
    refine wpAnyH_take (i := 12) (v := ?_) rfl (by kernel_rfl) (by kernel_rfl) (by kernel_rfl) (fun _ _ _ h => h) (Or.inl ⟨by rfl, ?_⟩) (by assumption) ?_
    rotate_left
    · intro w' hSw; (try dsimp only at hSw); go_simp; (try with_reducible rfl)
    (try simp only [Act.put, List.setIfInBounds_toArray, List.set_cons_zero, List.set_cons_succ, List.getElem_toArray, List.getElem_cons_succ, List.getElem_cons_zero])
    refine wpAnyH_take (i := 13) (v := ?_) rfl (by kernel_rfl) (by kernel_rfl) (by kernel_rfl) (fun _ _ _ h => h) (Or.inl ⟨by rfl, ?_⟩) (by assumption) ?_
    rotate_left
    · intro w' hSw; (try dsimp only at hSw); go_simp; (try with_reducible rfl)
    (try simp only [Act.put, List.setIfInBounds_toArray, List.set_cons_zero, List.set_cons_succ, List.getElem_toArray, List.getElem_cons_succ, List.getElem_cons_zero])
    refine wpAnyH_take (i := 14) (v := ?_) rfl (by kernel_rfl) (by kernel_rfl) (by kernel_rfl) (fun _ _ _ h => h) (Or.inl ⟨by rfl, ?_⟩) (by assumption) ?_
    rotate_left
    · intro w' hSw; (try dsimp only at hSw); go_simp; (try with_reducible rfl)
    (try simp only [Act.put, List.setIfInBounds_toArray, List.set_cons_zero, List.set_cons_succ, List.getElem_toArray, List.getElem_cons_succ, List.getElem_cons_zero])
    refine wpAnyH_take (i := 16) (v := ?_) rfl (by kernel_rfl) (by kernel_rfl) (by kernel_rfl) (fun _ _ _ h => h) (Or.inl ⟨by rfl, ?_⟩) (by assumption) ?_
    rotate_left
    · intro w' hSw; (try dsimp only at hSw); go_simp; (try with_reducible rfl)
    (try simp only [Act.put, List.setIfInBounds_toArray, List.set_cons_zero, List.set_cons_succ, List.getElem_toArray, List.getElem_cons_succ, List.getElem_cons_zero])
    refine wpAnyH_take (i := 17) (v := ?_) rfl (by kernel_rfl) (by kernel_rfl) (by kernel_rfl) (fun _ _ _ h => h) (Or.inl ⟨by rfl, ?_⟩) (by assumption) ?_
    rotate_left
    · intro w' hSw; (try dsimp only at hSw); go_simp; (try with_reducible rfl)
    (try simp only [Act.put, List.setIfInBounds_toArray, List.set_cons_zero, List.set_cons_succ, List.getElem_toArray, List.getElem_cons_succ, List.getElem_cons_zero])
    refine wpAnyH_ready (rs := [15]) (by kernel_rfl) (by simp) ?_
    refine AllReadyH.cons rfl (fun K hK => ?_) (AllReadyH.nil)
    go_simp
    (go_at_call 28; refine (rec_same o s key ml ct vo p g tt A c o' s' key' ml' ct' vo' p' g' tt' A' c' U3 (HBA.out.below B3) HW.out.1 HW.out.2.1 (HBB.out.below B3) HW.out.2.2.1 HW.out.2.2.2).mono ?_; rintro e U4 ⟨he, k4⟩)
    rw [HX.out] at he
    subst he
    have B4 := B3.trans (k4.mono B3.size)
    clear k4 B3
    (try dsimp only)
    refine hK.out _ _ ?_ (fun hHeld => ?_)
    · exact ⟨(RA.out.below B4).c0, (RA.out.below B4).c1, (RA.out.below B4).c2, (RA.out.below B4).c3, (RA.out.below B4).c4, (RA.out.below B4).c5, (RA.out.below B4).c6, (RA.out.below B4).c7, (RA.out.below B4).c8, (RB.out.below B4).c0, (RB.out.below B4).c1, (RB.out.below B4).c2, (RB.out.below B4).c3, (RB.out.below B4).c4, (RB.out.below B4).c5, (RB.out.below B4).c6, (RB.out.below B4).c7, (RB.out.below B4).c8⟩
    clear hK K
    (try simp only [Act.put, List.setIfInBounds_toArray, List.set_cons_zero, List.set_cons_succ, List.getElem_toArray, List.getElem_cons_succ, List.getElem_cons_zero])
    refine wpAnyH_ready (rs := [18]) (by kernel_rfl) (by simp) ?_
    refine AllReadyH.cons rfl (fun K hK => ?_) (AllReadyH.nil)
    go_simp
    (go_at_call 28; refine (rec_same o' s' key' ml' ct' vo' p' g' tt' A' c' o s key ml ct vo p g tt A c U4 (HBB.out.below B4) HW.out.2.2.1 HW.out.2.2.2 (HBA.out.below B4) HW.out.1 HW.out.2.1).mono ?_; rintro e U5 ⟨he, k5⟩)
    rw [HBAA.out, HX.out] at he
    subst he
    have B5 := B4.trans (k5.mono B4.size)
    clear k5 B4
    (try dsimp only)
    refine hK.out _ _ ?_ (fun hHeld => ?_)
    · exact ⟨(RA.out.below B5).c0, (RA.out.below B5).c1, (RA.out.below B5).c2, (RA.out.below B5).c3, (RA.out.below B5).c4, (RA.out.below B5).c5, (RA.out.below B5).c6, (RA.out.below B5).c7, (RA.out.below B5).c8, (RB.out.below B5).c0, (RB.out.below B5).c1, (RB.out.below B5).c2, (RB.out.below B5).c3, (RB.out.below B5).c4, (RB.out.below B5).c5, (RB.out.below B5).c6, (RB.out.below B5).c7, (RB.out.below B5).c8⟩
    clear hK K
    (try simp only [Act.put, List.setIfInBounds_toArray, List.set_cons_zero, List.set_cons_succ, List.getElem_toArray, List.getElem_cons_succ, List.getElem_cons_zero])
    refine wpAnyH_take (i := 19) (v := ?_) rfl (by kernel_rfl) (by kernel_rfl) (by kernel_rfl) (fun _ _ _ h => h) (Or.inl ⟨by rfl, ?_⟩) (by assumption) ?_
    rotate_left
    · intro w' hSw; (try dsimp only at hSw); go_simp; (try with_reducible rfl)
    (try simp only [Act.put, List.setIfInBounds_toArray, List.set_cons_zero, List.set_cons_succ, List.getElem_toArray, List.getElem_cons_succ, List.getElem_cons_zero])
    refine wpAnyH_take (i := 20) (v := ?_) rfl (by kernel_rfl) (by kernel_rfl) (by kernel_rfl) (fun _ _ _ h => h) (Or.inl ⟨by rfl, ?_⟩) (by assumption) ?_
    rotate_left
    · intro w' hSw; (try dsimp only at hSw); go_simp; (try with_reducible rfl)
    (try simp only [Act.put, List.setIfInBounds_toArray, List.set_cons_zero, List.set_cons_succ, List.getElem_toArray, List.getElem_cons_succ, List.getElem_cons_zero])
    refine wpAnyH_take (i := 21) (v := ?_) rfl (by kernel_rfl) (by kernel_rfl) (by kernel_rfl) (fun _ _ _ h => h) (Or.inl ⟨by rfl, ?_⟩) (by assumption) ?_
    rotate_left
    · intro w' hSw; (try dsimp only at hSw); go_simp; (try with_reducible rfl)
    (try simp only [Act.put, List.setIfInBounds_toArray, List.set_cons_zero, List.set_cons_succ, List.getElem_toArray, List.getElem_cons_succ, List.getElem_cons_zero])
    refine wpAnyH_ready (rs := [22]) (by kernel_rfl) (by simp) ?_
    refine AllReadyH.cons rfl (fun K hK => ?_) (AllReadyH.nil)
    go_simp
    (go_at_call 18; refine (known14 U5).mono ?_; rintro e U6 ⟨he, k6⟩)
    subst he
    have B6 := B5.trans (k6.mono B5.size)
    clear k6 B5
    (try dsimp only)
    refine hK.out _ _ ?_ (fun hHeld => ?_)
    · exact ⟨(RA.out.below B6).c0, (RA.out.below B6).c1, (RA.out.below B6).c2, (RA.out.below B6).c3, (RA.out.below B6).c4, (RA.out.below B6).c5, (RA.out.below B6).c6, (RA.out.below B6).c7, (RA.out.below B6).c8, (RB.out.below B6).c0, (RB.out.below B6).c1, (RB.out.below B6).c2, (RB.out.below B6).c3, (RB.out.below B6).c4, (RB.out.below B6).c5, (RB.out.below B6).c6, (RB.out.below B6).c7, (RB.out.below B6).c8⟩
    clear hK K
    (try simp only [Act.put, List.setIfInBounds_toArray, List.set_cons_zero, List.set_cons_succ, List.getElem_toArray, List.getElem_cons_succ, List.getElem_cons_zero])
    refine wpAnyH_take (i := 23) (v := ?_) rfl (by kernel_rfl) (by kernel_rfl) (by kernel_rfl) (fun _ _ _ h => h) (Or.inl ⟨by rfl, ?_⟩) (by assumption) ?_
    rotate_left
    · intro w' hSw; (try dsimp only at hSw); go_simp; (try with_reducible rfl)
    (try simp only [Act.put, List.setIfInBounds_toArray, List.set_cons_zero, List.set_cons_succ, List.getElem_toArray, List.getElem_cons_succ, List.getElem_cons_zero])
    refine wpAnyH_take (i := 24) (v := ?_) rfl (by kernel_rfl) (by kernel_rfl) (by kernel_rfl) (fun _ _ _ h => h) (Or.inl ⟨by rfl, ?_⟩) (by assumption) ?_
    rotate_left
    · intro w' hSw; (try dsimp only at hSw); go_simp; (try with_reducible rfl)
    (try simp only [Act.put, List.setIfInBounds_toArray, List.set_cons_zero, List.set_cons_succ, List.getElem_toArray, List.getElem_cons_succ, List.getElem_cons_zero])
    refine wpAnyH_done (by kernel_rfl) ?_ _
    have HF := Lib.hid (HZ.out.trans (B6.mono (by have := HZ.out.size; omega)))
    clear B6
    go_wp2
    go_ret
    exact ⟨rfl, HF.out⟩
  · have HX := Lib.hid hx
    clear hx
    refine wpAnyH_take (i := 0) (v := ?_) rfl (by kernel_rfl) (by kernel_rfl) (by kernel_rfl) (fun _ _ _ h => h) (Or.inl ⟨by rfl, ?_⟩) (by assumption) ?_
    rotate_left
    · intro w' hSw; (try dsimp only at hSw); go_simp; (try with_reducible rfl)
    (try simp only [Act.put, List.setIfInBounds_toArray, List.set_cons_zero, List.set_cons_succ, List.getElem_toArray, List.getElem_cons_succ, List.getElem_cons_zero])
    refine wpAnyH_take (i := 1) (v := ?_) rfl (by kernel_rfl) (by kernel_rfl) (by kernel_rfl) (fun _ _ _ h => h) (Or.inl ⟨by rfl, ?_⟩) (by assumption) ?_
    rotate_left
    · intro w' hSw; (try dsimp only at hSw); go_simp; (try with_reducible rfl)
    (try simp only [Act.put, List.setIfInBounds_toArray, List.set_cons_zero, List.set_cons_succ, List.getElem_toArray, List.getElem_cons_succ, List.getElem_cons_zero])
    refine wpAnyH_take (i := 3) (v := ?_) rfl (by kernel_rfl) (by kernel_rfl) (by kernel_rfl) (fun _ _ _ h => h) (Or.inl ⟨by rfl, ?_⟩) (by assumption) ?_
    rotate_left
    · intro w' hSw; (try dsimp only at hSw); go_simp; (try with_reducible rfl)
    (try simp only [Act.put, List.setIfInBounds_toArray, List.set_cons_zero, List.set_cons_succ, List.getElem_toArray, List.getElem_cons_succ, List.getElem_cons_zero])
    refine wpAnyH_take (i := 4) (v := ?_) rfl (by kernel_rfl) (by kernel_rfl) (by kernel_rfl) (fun _ _ _ h => h) (Or.inl ⟨by rfl, ?_⟩) (by assumption) ?_
    rotate_left
    · intro w' hSw; (try dsimp only at hSw); go_simp; (try with_reducible rfl)
    (try simp only [Act.put, List.setIfInBounds_toArray, List.set_cons_zero, List.set_cons_succ, List.getElem_toArray, List.getElem_cons_succ, List.getElem_cons_zero])
    refine wpAnyH_ready (rs := [2]) (by kernel_rfl) (by simp) ?_
    refine AllReadyH.cons rfl (fun K hK => ?_) (AllReadyH.nil)
    go_simp
    (go_at_call 28; refine (rec_same o s key ml ct vo p g tt A c o' s' key' ml' ct' vo' p' g' tt' A' c' U0 (HBA.out.below B0) HW.out.1 HW.out.2.1 (HBB.out.below B0) HW.out.2.2.1 HW.out.2.2.2).mono ?_; rintro e U1 ⟨he, k1⟩)
    rw [HX.out] at he
    subst he
    have B1 := B0.trans (k1.mono B0.size)
    clear k1 B0
    (try dsimp only)
    refine hK.out _ _ ?_ (fun hHeld => ?_)
    · exact ⟨(RA.out.below B1).c0, (RA.out.below B1).c1, (RA.out.below B1).c2, (RA.out.below B1).c3, (RA.out.below B1).c4, (RA.out.below B1).c5, (RA.out.below B1).c6, (RA.out.below B1).c7, (RA.out.below B1).c8, (RB.out.below B1).c0, (RB.out.below B1).c1, (RB.out.below B1).c2, (RB.out.below B1).c3, (RB.out.below B1).c4, (RB.out.below B1).c5, (RB.out.below B1).c6, (RB.out.below B1).c7, (RB.out.below B1).c8⟩
    clear hK K
    (try simp only [Act.put, List.setIfInBounds_toArray, List.set_cons_zero, List.set_cons_succ, List.getElem_toArray, List.getElem_cons_succ, List.getElem_cons_zero])
    refine wpAnyH_ready (rs := [5]) (by kernel_rfl) (by simp) ?_
    refine AllReadyH.cons rfl (fun K hK => ?_) (AllReadyH.nil)
    go_simp
    (go_at_call 20; refine (ref_same o s key ml ct vo p g tt A c o' s' key' ml' ct' vo' p' g' tt' A' c' U1 (HBA.out.below B1) HW.out.1 HW.out.2.1 (HBB.out.below B1) HW.out.2.2.1 HW.out.2.2.2).mono ?_; rintro e U2 ⟨he, k2⟩)
    rw [HX.out] at he
    subst he
    have B2 := B1.trans (k2.mono B1.size)
    clear k2 B1
    (try dsimp only)
    refine hK.out _ _ ?_ (fun hHeld => ?_)
    · exact ⟨(RA.out.below B2).c0, (RA.out.below B2).c1, (RA.out.below B2).c2, (RA.out.below B2).c3, (RA.out.below B2).c4, (RA.out.below B2).c5, (RA.out.below B2).c6, (RA.out.below B2).c7, (RA.out.below B2).c8, (RB.out.below B2).c0, (RB.out.below B2).c1, (RB.out.below B2).c2, (RB.out.below B2).c3, (RB.out.below B2).c4, (RB.out.below B2).c5, (RB.out.below B2).c6, (RB.out.below B2).c7, (RB.out.below B2).c8⟩
    clear hK K
    (try simp only [Act.put, List.setIfInBounds_toArray, List.set_cons_zero, List.set_cons_succ, List.getElem_toArray, List.getElem_cons_succ, List.getElem_cons_zero])
    refine wpAnyH_take (i := 6) (v := ?_) rfl (by kernel_rfl) (by kernel_rfl) (by kernel_rfl) (fun _ _ _ h => h) (Or.inl ⟨by rfl, ?_⟩) (by assumption) ?_
    rotate_left
    · intro w' hSw; (try dsimp only at hSw); go_simp; (try with_reducible rfl)
    (try simp only [Act.put, List.setIfInBounds_toArray, List.set_cons_zero, List.set_cons_succ, List.getElem_toArray, List.getElem_cons_succ, List.getElem_cons_zero])
    refine wpAnyH_take (i := 7) (v := ?_) rfl (by kernel_rfl) (by kernel_rfl) (by kernel_rfl) (fun _ _ _ h => h) (Or.inl ⟨by rfl, ?_⟩) (by assumption) ?_
    rotate_left
    · intro w' hSw; (try dsimp only at hSw); go_simp; (try with_reducible rfl)
    (try simp only [Act.put, List.setIfInBounds_toArray, List.set_cons_zero, List.set_cons_succ, List.getElem_toArray, List.getElem_cons_succ, List.getElem_cons_zero])
    refine wpAnyH_take (i := 8) (v := ?_) rfl (by kernel_rfl) (by kernel_rfl) (by kernel_rfl) (fun _ _ _ h => h) (Or.inl ⟨by rfl, ?_⟩) (by assumption) ?_
    rotate_left
    · intro w' hSw; (try dsimp only at hSw); go_simp; (try with_reducible rfl)
    (try simp only [Act.put, List.setIfInBounds_toArray, List.set_cons_zero, List.set_cons_succ, List.getElem_toArray, List.getElem_cons_succ, List.getElem_cons_zero])
    refine wpAnyH_take (i := 9) (v := ?_) rfl (by kernel_rfl) (by kernel_rfl) (by kernel_rfl) (fun _ _ _ h => h) (Or.inl ⟨by rfl, ?_⟩) (by assumption) ?_
    rotate_left
    · intro w' hSw; (try dsimp only at hSw); go_simp; (try with_reducible rfl)
    (try simp only [Act.put, List.setIfInBounds_toArray, List.set_cons_zero, List.set_cons_succ, List.getElem_toArray, List.getElem_cons_succ, List.getElem_cons_zero])
    refine wpAnyH_ready (rs := [10]) (by kernel_rfl) (by simp) ?_
    refine AllReadyH.cons rfl (fun K hK => ?_) (AllReadyH.nil)
    go_simp
    (go_at_call 28; refine (rec_same o s key ml ct vo p g tt A c o s key ml ct vo p g tt A c U2 (HBA.out.below B2) HW.out.1 HW.out.2.1 (HBA.out.below B2) HW.out.1 HW.out.2.1).mono ?_; rintro e U3 ⟨he, k3⟩)
    rw [HAA.out] at he
    subst he
    have B3 := B2.trans (k3.mono B2.size)
    clear k3 B2
    (try dsimp only)
    refine hK.out _ _ ?_ (fun hHeld => ?_)
    · exact ⟨(RA.out.below B3).c0, (RA.out.below B3).c1, (RA.out.below B3).c2, (RA.out.below B3).c3, (RA.out.below B3).c4, (RA.out.below B3).c5, (RA.out.below B3).c6, (RA.out.below B3).c7, (RA.out.below B3).c8, (RB.out.below B3).c0, (RB.out.below B3).c1, (RB.out.below B3).c2, (RB.out.below B3).c3, (RB.out.below B3).c4, (RB.out.below B3).c5, (RB.out.below B3).c6, (RB.out.below B3).c7, (RB.out.below B3).c8⟩
    clear hK K
    (try simp only [Act.put, List.setIfInBounds_toArray, List.set_cons_zero, List.set_cons_succ, List.getElem_toArray, List.getElem_cons_succ, List.getElem_cons_zero])
    refine wpAnyH_take (i := 11) (v := ?_) rfl (by kernel_rfl) (by kernel_rfl) (by kernel_rfl) (fun _ _ _ h => h) (Or.inl ⟨by rfl, ?_⟩) (by assumption) ?_
    rotate_left
    · intro w' hSw; (try dsimp only at hSw); go_simp; (try with_reducible rfl)
    (try simp only [Act.put, List.setIfInBounds_toArray, List.set_cons_zero, List.set_cons_succ, List.getElem_toArray, List.getElem_cons_succ, List.getElem_cons_zero])
    refine wpAnyH_take (i := 12) (v := ?_) rfl (by kernel_rfl) (by kernel_rfl) (by kernel_rfl) (fun _ _ _ h => h) (Or.inl ⟨by rfl, ?_⟩) (by assumption) ?_
    rotate_left
    · intro w' hSw; (try dsimp only at hSw); go_simp; (try with_reducible rfl)
    (try simp only [Act.put, List.setIfInBounds_toArray, List.set_cons_zero, List.set_cons_succ, List.getElem_toArray, List.getElem_cons_succ, List.getElem_cons_zero])
    refine wpAnyH_take (i := 13) (v := ?_) rfl (by kernel_rfl) (by kernel_rfl) (by kernel_rfl) (fun _ _ _ h => h) (Or.inl ⟨by rfl, ?_⟩) (by assumption) ?_
    rotate_left
    · intro w' hSw; (try dsimp only at hSw); go_simp; (try with_reducible rfl)
    (try simp only [Act.put, List.setIfInBounds_toArray, List.set_cons_zero, List.set_cons_succ, List.getElem_toArray, List.getElem_cons_succ, List.getElem_cons_zero])
    refine wpAnyH_take (i := 14) (v := ?_) rfl (by kernel_rfl) (by kernel_rfl) (by kernel_rfl) (fun _ _ _ h => h) (Or.inl ⟨by rfl, ?_⟩) (by assumption) ?_
    rotate_left
    · intro w' hSw; (try dsimp only at hSw); go_simp; (try with_reducible rfl)
    (try simp only [Act.put, List.setIfInBounds_toArray, List.set_cons_zero, List.set_cons_succ, List.getElem_toArray, List.getElem_cons_succ, List.getElem_cons_zero])
    refine wpAnyH_take (i := 16) (v := ?_) rfl (by kernel_rfl) (by kernel_rfl) (by kernel_rfl) (fun _ _ _ h => h) (Or.inl ⟨by rfl, ?_⟩) (by assumption) ?_
    rotate_left
    · intro w' hSw; (try dsimp only at hSw); go_simp; (try with_reducible rfl)
    (try simp only [Act.put, List.setIfInBounds_toArray, List.set_cons_zero, List.set_cons_succ, List.getElem_toArray, List.getElem_cons_succ, List.getElem_cons_zero])
    refine wpAnyH_take (i := 17) (v := ?_) rfl (by kernel_rfl) (by kernel_rfl) (by kernel_rfl) (fun _ _ _ h => h) (Or.inl ⟨by rfl, ?_⟩) (by assumption) ?_
    rotate_left
    · intro w' hSw; (try dsimp only at hSw); go_simp; (try with_reducible rfl)
    (try simp only [Act.put, List.setIfInBounds_toArray, List.set_cons_zero, List.set_cons_succ, List.getElem_toArray, List.getElem_cons_succ, List.getElem_cons_zero])
    refine wpAnyH_ready (rs := [15]) (by kernel_rfl) (by simp) ?_
    refine AllReadyH.cons rfl (fun K hK => ?_) (AllReadyH.nil)
    go_simp
    (go_at_call 28; refine (rec_same o s key ml ct vo p g tt A c o' s' key' ml' ct' vo' p' g' tt' A' c' U3 (HBA.out.below B3) HW.out.1 HW.out.2.1 (HBB.out.below B3) HW.out.2.2.1 HW.out.2.2.2).mono ?_; rintro e U4 ⟨he, k4⟩)
    rw [HX.out] at he
    subst he
    have B4 := B3.trans (k4.mono B3.size)
    clear k4 B3
    (try dsimp only)
    refine hK.out _ _ ?_ (fun hHeld => ?_)
    · exact ⟨(RA.out.below B4).c0, (RA.out.below B4).c1, (RA.out.below B4).c2, (RA.out.below B4).c3, (RA.out.below B4).c4, (RA.out.below B4).c5, (RA.out.below B4).c6, (RA.out.below B4).c7, (RA.out.below B4).c8, (RB.out.below B4).c0, (RB.out.below B4).c1, (RB.out.below B4).c2, (RB.out.below B4).c3, (RB.out.below B4).c4, (RB.out.below B4).c5, (RB.out.below B4).c6, (RB.out.below B4).c7, (RB.out.below B4).c8⟩
    clear hK K
    (try simp only [Act.put, List.setIfInBounds_toArray, List.set_cons_zero, List.set_cons_succ, List.getElem_toArray, List.getElem_cons_succ, List.getElem_cons_zero])
    refine wpAnyH_ready (rs := [18]) (by kernel_rfl) (by simp) ?_
    refine AllReadyH.cons rfl (fun K hK => ?_) (AllReadyH.nil)
    go_simp
    (go_at_call 28; refine (rec_same o' s' key' ml' ct' vo' p' g' tt' A' c' o s key ml ct vo p g tt A c U4 (HBB.out.below B4) HW.out.2.2.1 HW.out.2.2.2 (HBA.out.below B4) HW.out.1 HW.out.2.1).mono ?_; rintro e U5 ⟨he, k5⟩)
    rw [HBAA.out, HX.out] at he
    subst he
    have B5 := B4.trans (k5.mono B4.size)
    clear k5 B4
    (try dsimp only)
    refine hK.out _ _ ?_ (fun hHeld => ?_)
    · exact ⟨(RA.out.below B5).c0, (RA.out.below B5).c1, (RA.out.below B5).c2, (RA.out.below B5).c3, (RA.out.below B5).c4, (RA.out.below B5).c5, (RA.out.below B5).c6, (RA.out.below B5).c7, (RA.out.below B5).c8, (RB.out.below B5).c0, (RB.out.below B5).c1, (RB.out.below B5).c2, (RB.out.below B5).c3, (RB.out.below B5).c4, (RB.out.below B5).c5, (RB.out.below B5).c6, (RB.out.below B5).c7, (RB.out.below B5).c8⟩
    clear hK K
    (try simp only [Act.put, List.setIfInBounds_toArray, List.set_cons_zero, List.set_cons_succ, List.getElem_toArray, List.getElem_cons_succ, List.getElem_cons_zero])
    refine wpAnyH_take (i := 19) (v := ?_) rfl (by kernel_rfl) (by kernel_rfl) (by kernel_rfl) (fun _ _ _ h => h) (Or.inl ⟨by rfl, ?_⟩) (by assumption) ?_
    rotate_left
    · intro w' hSw; (try dsimp only at hSw); go_simp; (try with_reducible rfl)
    (try simp only [Act.put, List.setIfInBounds_toArray, List.set_cons_zero, List.set_cons_succ, List.getElem_toArray, List.getElem_cons_succ, List.getElem_cons_zero])
    refine wpAnyH_take (i := 20) (v := ?_) rfl (by kernel_rfl) (by kernel_rfl) (by kernel_rfl) (fun _ _ _ h => h) (Or.inl ⟨by rfl, ?_⟩) (by assumption) ?_
    rotate_left
    · intro w' hSw; (try dsimp only at hSw); go_simp; (try with_reducible rfl)
    (try simp only [Act.put, List.setIfInBounds_toArray, List.set_cons_zero, List.set_cons_succ, List.getElem_toArray, List.getElem_cons_succ, List.getElem_cons_zero])
    refine wpAnyH_take (i := 21) (v := ?_) rfl (by kernel_rfl) (by kernel_rfl) (by kernel_rfl) (fun _ _ _ h => h) (Or.inl ⟨by rfl, ?_⟩) (by assumption) ?_
    rotate_left
    · intro w' hSw; (try dsimp only at hSw); go_simp; (try with_reducible rfl)
    (try simp only [Act.put, List.setIfInBounds_toArray, List.set_cons_zero, List.set_cons_succ, List.getElem_toArray, List.getElem_cons_succ, List.getElem_cons_zero])
    refine wpAnyH_ready (rs := [22]) (by kernel_rfl) (by simp) ?_
    refine AllReadyH.cons rfl (fun K hK => ?_) (AllReadyH.nil)
    go_simp
    (go_at_call 18; refine (known14 U5).mono ?_; rintro e U6 ⟨he, k6⟩)
    subst he
    have B6 := B5.trans (k6.mono B5.size)
    clear k6 B5
    (try dsimp only)
    refine hK.out _ _ ?_ (fun hHeld => ?_)
    · exact ⟨(RA.out.below B6).c0, (RA.out.below B6).c1, (RA.out.below B6).c2, (RA.out.below B6).c3, (RA.out.below B6).c4, (RA.out.below B6).c5, (RA.out.below B6).c6, (RA.out.below B6).c7, (RA.out.below B6).c8, (RB.out.below B6).c0, (RB.out.below B6).c1, (RB.out.below B6).c2, (RB.out.below B6).c3, (RB.out.below B6).c4, (RB.out.below B6).c5, (RB.out.below B6).c6, (RB.out.below B6).c7, (RB.out.below B6).c8⟩
    clear hK K
    (try simp only [Act.put, List.setIfInBounds_toArray, List.set_cons_zero, List.set_cons_succ, List.getElem_toArray, List.getElem_cons_succ, List.getElem_cons_zero])
    refine wpAnyH_take (i := 23) (v := ?_) rfl (by kernel_rfl) (by kernel_rfl) (by kernel_rfl) (fun _ _ _ h => h) (Or.inl ⟨by rfl, ?_⟩) (by assumption) ?_
    rotate_left
    · intro w' hSw; (try dsimp only at hSw); go_simp; (try with_reducible rfl)
    (try simp only [Act.put, List.setIfInBounds_toArray, List.set_cons_zero, List.set_cons_succ, List.getElem_toArray, List.getElem_cons_succ, List.getElem_cons_zero])
    refine wpAnyH_take (i := 24) (v := ?_) rfl (by kernel_rfl) (by kernel_rfl) (by kernel_rfl) (fun _ _ _ h => h) (Or.inl ⟨by rfl, ?_⟩) (by assumption) ?_
    rotate_left
    · intro w' hSw; (try dsimp only at hSw); go_simp; (try with_reducible rfl)
    (try simp only [Act.put, List.setIfInBounds_toArray, List.set_cons_zero, List.set_cons_succ, List.getElem_toArray, List.getElem_cons_succ, List.getElem_cons_zero])
    refine wpAnyH_done (by kernel_rfl) ?_ _
    have HF := Lib.hid (HZ.out.trans (B6.mono (by have := HZ.out.size; omega)))
    clear B6
    go_wp2
    go_ret
    exact ⟨rfl, HF.out⟩
theorem recSame_any (o s : Int) (key : ByteArray) (ml ct vo : Int) (A : Option Addr) (p : List Int) (c : Nat) (g : Bool) (tt : Int) (o' s' : Int) (key' : ByteArray) (ml' ct' vo' : Int) (A' : Option Addr) (p' : List Int) (c' : Nat) (g' : Bool) (tt' : Int) (w : World) (hby : ByL w A p) (hb : isBy p) (hn : A = none → p.length = 0) (hk : key.size ≤ 140737488351232 ∧ p.length ≤ 140737488351232) (hby' : ByL w A' p') (hb' : isBy p') (hn' : A' = none → p'.length = 0) (hk' : key'.size ≤ 140737488351232 ∧ p'.length ≤ 140737488351232) :
    Calls Try.prog 7 #[recV o s key ml ct vo A p.length c g tt, recV o' s' key' ml' ct' vo' A' p'.length c' g' tt'] w fun e w' => e = .returned (.bool true) ∧ Below w.heap.size w w' := by
  by_cases h1 : 6000 < 20 + key.size + p.length
  · exact recSame_heavy o s key ml ct vo A p c g tt o' s' key' ml' ct' vo' A' p' c' g' tt' w hby hb hn hk hby' hb' hn' hk' (.inl h1)
  by_cases h2 : 6000 < 20 + key'.size + p'.length
  · exact recSame_heavy o s key ml ct vo A p c g tt o' s' key' ml' ct' vo' A' p' c' g' tt' w hby hb hn hk hby' hb' hn' hk' (.inr ⟨h1, h2⟩)
  exact recSame_light o s key ml ct vo A p c g tt o' s' key' ml' ct' vo' A' p' c' g' tt' w hby hb hn hk hby' hb' hn' hk' h1 h2
set_option maxRecDepth 100000 in
theorem recSame_lifted (os : Os) (started : os.Started) (H : Type) (enc : TypeId × Value → H) :
    ReturnsInHanded {} Try.checked os 7 .any (Rows.recSameSpec.pre6 enc Try.prog Try.f7 Rows.recSameRow.domain false) (Rows.recSameSpec.post enc Try.prog Try.f7 false true false false) := by
  refine returnsInHanded_of_change_sized (C := Try.checked) law_own started (by kernel_rfl) Try.func7
    (ChangeSpec.witness6 (enc := enc) (C := Try.checked) false ⟨#[], #[recV 0 0 ⟨#[]⟩ 0 0 0 none 0 0 false 0, recV 0 0 ⟨#[]⟩ 0 0 0 none 0 0 false 0], []⟩ 8 (by kernel_rfl) (by kernel_rfl) (by kernel_rfl) (by kernel_rfl)) ?_
  intro W base args ds gs before hval0 hW hcnd hsz0 _
  have hval : ∀ (j : Nat) t v, Try.f7.params[j]? = some t → args[j]? = some v → Value.okWide Try.prog W .any base t v := hval0
  have hsz : (DataW.weightsEach Try.prog (Try.f7.params.toList ++ Rows.recSameSpec.plain.varTypes Try.prog) (ds ++ gs)).all (· ≤ reachBytes) = true := hsz0
  have hW' := hW
  obtain ⟨p, q, hA0, hV, rfl, hfz, hnd⟩ := hW
  have hA : DataW.TrodAll enc Try.prog W 0 (fun _ => true) true Try.f7.params.toList args.toList ds p := hA0
  rw [Try.params7] at hA hval hsz
  have hsame : (Rows.recSameSpec.fn H (ds ++ gs)).results = [.lit (.bool true)] ∧ (Rows.recSameSpec.fn H (ds ++ gs)).args = ds ∧ (Rows.recSameSpec.fn H (ds ++ gs)).vars = [] → ∀ W', Below W.heap.size W W' → Rows.recSameSpec.post enc Try.prog Try.f7 false true false false W args (.bool true) W' :=
    fun h W' hb => law_post (tb := 4) hW' law_laid (by kernel_rfl) rfl Try.underlying4 h.1 h.2.1 rfl h.2.2 hb
  obtain ⟨v0, vs0, d0, ds0, p0, q0, hargs, rfl, rfl, h0, r0⟩ := trodAll_cons hA
  obtain ⟨v1, vs1, d1, ds1, p1, q1, rfl, rfl, rfl, h1, r1⟩ := trodAll_cons r0
  obtain ⟨rfl, rfl, rfl⟩ := trodAll_nil r1
  obtain rfl : args = #[v0, v1] := by cases args; simp_all
  obtain ⟨rfl, rfl⟩ := trodVars_none hV
  have hpost := hsame ⟨rfl, rfl, rfl⟩
  clear hsame hA0 hval0 hsz0
  obtain ⟨o, s, key, ml, ct, vo, A, p, c, g, tt, rfl, _, _, hby, hb, hn, hz⟩ := open_record (hval 0 28 v0 rfl rfl) h0
  obtain ⟨o', s', key', ml', ct', vo', A', p', c', g', tt', rfl, _, _, hby', hb', hn', hz'⟩ := open_record (hval 1 28 v1 rfl rfl) h1
  have hk := hz reachBytes (sized_each (j := 0) hsz rfl rfl)
  have hk' := hz' reachBytes (sized_each (j := 1) hsz rfl rfl)
  unfold reachBytes at hk hk'
  exact (recSame_any o s key ml ct vo A p c g tt o' s' key' ml' ct' vo' A' p' c' g' tt' W hby hb hn ⟨by omega, by omega⟩ hby' hb' hn' ⟨by omega, by omega⟩).mono fun e W' ⟨he, hb⟩ => ⟨_, he, hpost W' hb⟩
theorem recSame_holds : Rows.RecSameSaid :=
  OpenClaim.holds_of_wide 7 Try.f7 rfl rfl rfl rfl rfl rfl rfl ⟨rfl, rfl, rfl, rfl, rfl⟩ rfl rfl rfl rfl rfl (by kernel_rfl) Try.func7 (by kernel_rfl)
    (of_decide_eq_true (by kernel_rfl)) (by unfold Func.isWrapper; first | (rw [if_pos (by decide +kernel)]; kernel_rfl) | (rw [if_neg (by decide +kernel)]; exact ⟨rfl, rfl⟩))
    (fun os started H enc _ => recSame_lifted os started H enc)
end Go.Proofs.Ytpccneikblbhdaa
