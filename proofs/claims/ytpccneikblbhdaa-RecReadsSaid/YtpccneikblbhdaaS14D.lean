/- Stage 14: RecEncodes (written by gen/s14d.py). -/
import Derived.Test.YtpccneikblbhdaaS14C
import Derived.Test.YtpccneikblbhdaaSame
import Derived.Test.YtpccneikblbhdaaRefEnc
import Derived.Test.YtpccneikblbhdaaRoomy14
import Derived.BigGuard
import Derived.BigGuardPart
import Derived.BigCall
set_option linter.unusedSimpArgs false
set_option linter.unusedVariables false
namespace Go.Proofs.Ytpccneikblbhdaa
open Go.ChangeShapes Go.WideShapes Go.ChangeAt Go.RowKit Go.Joins Go.Deep

theorem DecRes.some_ {l : List Int} {w w' : World} {e : Ending} {r : Rc} (h : DecRes l w w' e) (hd : decR l = some r) : ∃ A c, e = .returned (.tuple #[recV r.o r.s (strB r.key) r.ml r.ct r.vo A r.val.length c r.gone r.tt, .int .i64 0]) ∧ ByL w' A r.val ∧ (A = none → r.val.length = 0) := by
  rcases h with ⟨h, _⟩ | ⟨r', A, c, h, he, hy, hn, _⟩
  · rw [hd] at h; cases h
  · rw [hd] at h
    injection h with h
    subst h
    exact ⟨A, c, he, hy, hn⟩
set_option maxHeartbeats 4000000 in
theorem recEncodes_heavy (o s : Int) (key : ByteArray) (ml ct vo : Int) (A : Option Addr) (p : List Int) (c : Nat) (g : Bool) (tt : Int) (w : World) (hby : ByL w A p) (hb : isBy p) (hn : A = none → p.length = 0) (hk : key.size ≤ 140737488351232 ∧ p.length ≤ 140737488351232) (hh : 6000 < 20 + key.size + p.length) :
    Calls Try.prog 3 #[recV o s key ml ct vo A p.length c g tt] w fun e w' => e = .returned (.bool true) ∧ Below w.heap.size w w' := by
  have d1 : decide (6000 < 20 + key.size + p.length) = true := by simpa using hh
  clear hh
  have HB0 : Below w.heap.size w (w.alloc (recO o s key ml ct vo A p.length c g tt)) := by (repeat' (first | (with_reducible exact Below.refl _ _) | (with_reducible assumption) | (with_reducible refine Below.trans ?_ (Below.mono (by with_reducible assumption) ?_)) | (with_reducible refine Below.alloc ?_ ?_ _) | (with_reducible refine Below.setCell ?_ ?_ _) | (with_reducible refine below_drewN ?_ _) | (with_reducible refine Below.drew ?_) | go_size))
  have R : Hid (Rec9 (w.alloc (recO o s key ml ct vo A p.length c g tt)) w.heap.size o s key ml ct vo A p.length c g tt) := Lib.hid (Rec9.new w o s key ml ct vo A p.length c g tt)
  have HBA := Lib.hid (hby.below HB0)
  have HZ := Lib.hid HB0
  have HW := Lib.hid (And.intro hb hn)
  have HK : Hid (key.size ≤ 281474976710656 ∧ p.length ≤ 281474976710656) := Lib.hid (by omega)
  have HZS : Hid ((w.alloc (recO o s key ml ct vo A p.length c g tt)).heap.size = w.heap.size + 1) := Lib.hid (by simp)
  have zz : w.heap.size < (w.alloc (recO o s key ml ct vo A p.length c g tt)).heap.size := by simp
  clear HB0 hby hb hn hk
  go_enter Try.func3, Try.ntmps3
  go_wp2_with fail
  generalize w.alloc (recO o s key ml ct vo A p.length c g tt) = Z at *
  refine (heavy1 (w.heap.size + 1) 1 o s key ml ct vo A p.length c g tt (Z.alloc (recO o s key ml ct vo A p.length c g tt)) (by have q := Rec9.new Z o s key ml ct vo A p.length c g tt; rw [HZS.out] at q; exact q) HK.out.1 HK.out.2).mono ?_; rintro e V1 ⟨he, k⟩
  rw [d1] at he
  subst he
  have BX := Lib.hid (Below.trans ((Below.refl _ _).alloc (Nat.le_refl _) (recO o s key ml ct vo A p.length c g tt)) (k.mono (by simp)) : Below Z.heap.size Z V1)
  clear k d1
  have HF := Lib.hid (HZ.out.trans (BX.out.mono (by have := HZ.out.size; omega)))
  go_wp2
  go_ret
  exact ⟨rfl, HF.out⟩
set_option maxRecDepth 100000 in
set_option maxHeartbeats 16000000 in
theorem recEncodes_yes (o s : Int) (key : ByteArray) (ml ct vo : Int) (A : Option Addr) (p : List Int) (c : Nat) (g : Bool) (tt : Int) (w : World) (hby : ByL w A p) (hb : isBy p) (hn : A = none → p.length = 0) (hk : key.size ≤ 140737488351232 ∧ p.length ≤ 140737488351232) (hh : ¬ 6000 < 20 + key.size + p.length) (ka : okN o s key.size ml ct vo p.length g tt = true) :
    Calls Try.prog 3 #[recV o s key ml ct vo A p.length c g tt] w fun e w' => e = .returned (.bool true) ∧ Below w.heap.size w w' := by
  have d1 : decide (6000 < 20 + key.size + p.length) = false := by simpa using hh
  have hpl : p.length ≤ 6000 := by omega
  clear hh
  have hok := okN_ok ka
  have HDEC := Lib.hid (decR_enc ⟨o, s, kL key, ml, ct, vo, p, g, tt⟩ hok)
  have HEL := Lib.hid (encR_len ⟨o, s, kL key, ml, ct, vo, p, g, tt⟩ hok)
  have HEB : Hid (isBy (encR ⟨o, s, kL key, ml, ct, vo, p, g, tt⟩)) := Lib.hid (encR_by _ (kL_by key) hb)
  clear hok
  have HB0 : Below w.heap.size w (w.alloc (recO o s key ml ct vo A p.length c g tt)) := by (repeat' (first | (with_reducible exact Below.refl _ _) | (with_reducible assumption) | (with_reducible refine Below.trans ?_ (Below.mono (by with_reducible assumption) ?_)) | (with_reducible refine Below.alloc ?_ ?_ _) | (with_reducible refine Below.setCell ?_ ?_ _) | (with_reducible refine below_drewN ?_ _) | (with_reducible refine Below.drew ?_) | go_size))
  have R : Hid (Rec9 (w.alloc (recO o s key ml ct vo A p.length c g tt)) w.heap.size o s key ml ct vo A p.length c g tt) := Lib.hid (Rec9.new w o s key ml ct vo A p.length c g tt)
  have HBA := Lib.hid (hby.below HB0)
  have HZ := Lib.hid HB0
  have HW := Lib.hid (And.intro hb hn)
  have HK : Hid (key.size ≤ 281474976710656 ∧ p.length ≤ 281474976710656) := Lib.hid (by omega)
  have HZS : Hid ((w.alloc (recO o s key ml ct vo A p.length c g tt)).heap.size = w.heap.size + 1) := Lib.hid (by simp)
  have zz : w.heap.size < (w.alloc (recO o s key ml ct vo A p.length c g tt)).heap.size := by simp
  clear HB0 hby hb hn hk
  go_enter Try.func3, Try.ntmps3
  go_wp2_with fail
  generalize w.alloc (recO o s key ml ct vo A p.length c g tt) = Z at *
  refine (heavy1 (w.heap.size + 1) 1 o s key ml ct vo A p.length c g tt (Z.alloc (recO o s key ml ct vo A p.length c g tt)) (by have q := Rec9.new Z o s key ml ct vo A p.length c g tt; rw [HZS.out] at q; exact q) HK.out.1 HK.out.2).mono ?_; rintro e V1 ⟨he, k⟩
  rw [d1] at he
  subst he
  have BX := Lib.hid (Below.trans ((Below.refl _ _).alloc (Nat.le_refl _) (recO o s key ml ct vo A p.length c g tt)) (k.mono (by simp)) : Below Z.heap.size Z V1)
  clear k d1
  obtain ⟨a0, a1, a2, a3, a4, a5, a6, a7, a8, la⟩ := R.out.below BX.out
  have X0 : XB (V1.alloc (recO o s key ml ct vo A p.length c g tt)) V1.heap.size [.int .i64 o, .int .i64 s, .string key, .int .i64 ml, .int .i64 ct, .int .i64 vo, .slice A p.length c, .bool g, .int .i64 tt] := XB.new V1 _ _
  have BA := BX.out.alloc BX.out.size (recO o s key ml ct vo A p.length c g tt)
  have HX0 := Lib.hid X0
  have HBXA := Lib.hid BA
  have zv : Z.heap.size ≤ V1.heap.size := BX.out.size
  clear X0 BA
  go_wp2_with fail
  refine wp_region_held_drew (S := fun w' => w'.cell? ⟨w.heap.size, 6, none⟩ = some (.slice A p.length c)) (by kernel_rfl) ?_ (fun hHeld => ?_)
  · exact (R.out.below HBXA.out).c6
  have B0 := HBXA.out.drew
  have X1 : XB (V1.alloc (recO o s key ml ct vo A p.length c g tt)).drew V1.heap.size [.int .i64 o, .int .i64 s, .string key, .int .i64 ml, .int .i64 ct, .int .i64 vo, .slice A p.length c, .bool g, .int .i64 tt] := ⟨HX0.out.c, HX0.out.fz, HX0.out.lt⟩
  clear a0 a1 a2 a3 a4 a5 a6 a7 a8 la HX0 HBXA
  generalize (V1.alloc (recO o s key ml ct vo A p.length c g tt)).drew = U0 at *
  refine wpAnyH_take (i := 0) (v := ?_) rfl (by kernel_rfl) (by kernel_rfl) (by kernel_rfl) (fun _ _ _ h => h) (Or.inl ⟨by rfl, ?_⟩) (by assumption) ?_
  rotate_left
  · intro w' hSw; (try dsimp only at hSw); go_simp; (try with_reducible rfl)
  (try simp only [Act.put, List.setIfInBounds_toArray, List.set_cons_zero, List.set_cons_succ, List.getElem_toArray, List.getElem_cons_succ, List.getElem_cons_zero])
  refine wpAnyH_take (i := 1) (v := ?_) rfl (by kernel_rfl) (by kernel_rfl) (by kernel_rfl) (fun _ _ _ h => h) (Or.inl ⟨by rfl, ?_⟩) (by assumption) ?_
  rotate_left
  · intro w' hSw; (try dsimp only at hSw); go_simp; (try with_reducible rfl)
  (try simp only [Act.put, List.setIfInBounds_toArray, List.set_cons_zero, List.set_cons_succ, List.getElem_toArray, List.getElem_cons_succ, List.getElem_cons_zero])
  refine wpAnyH_take (i := 2) (v := ?_) rfl (by kernel_rfl) (by kernel_rfl) (by kernel_rfl) (fun _ _ _ h => h) (Or.inl ⟨by rfl, ?_⟩) (by assumption) ?_
  rotate_left
  · intro w' hSw; (try dsimp only at hSw); go_simp; (try with_reducible rfl)
  (try simp only [Act.put, List.setIfInBounds_toArray, List.set_cons_zero, List.set_cons_succ, List.getElem_toArray, List.getElem_cons_succ, List.getElem_cons_zero])
  refine wpAnyH_take (i := 4) (v := ?_) rfl (by kernel_rfl) (by kernel_rfl) (by kernel_rfl) (fun _ _ _ h => h) (Or.inl ⟨by rfl, ?_⟩) (by assumption) ?_
  rotate_left
  · intro w' hSw; (try dsimp only at hSw); go_simp; (try with_reducible rfl)
  (try simp only [Act.put, List.setIfInBounds_toArray, List.set_cons_zero, List.set_cons_succ, List.getElem_toArray, List.getElem_cons_succ, List.getElem_cons_zero])
  refine wpAnyH_take (i := 5) (v := ?_) rfl (by kernel_rfl) (by kernel_rfl) (by kernel_rfl) (fun _ _ _ h => h) (Or.inl ⟨by rfl, ?_⟩) (by assumption) ?_
  rotate_left
  · intro w' hSw; (try dsimp only at hSw); go_simp; (try with_reducible rfl)
  (try simp only [Act.put, List.setIfInBounds_toArray, List.set_cons_zero, List.set_cons_succ, List.getElem_toArray, List.getElem_cons_succ, List.getElem_cons_zero])
  refine wpAnyH_take (i := 6) (v := ?_) rfl (by kernel_rfl) (by kernel_rfl) (by kernel_rfl) (fun _ _ _ h => h) (Or.inl ⟨by rfl, ?_⟩) (by assumption) ?_
  rotate_left
  · intro w' hSw; (try dsimp only at hSw); go_simp; (try with_reducible rfl)
  (try simp only [Act.put, List.setIfInBounds_toArray, List.set_cons_zero, List.set_cons_succ, List.getElem_toArray, List.getElem_cons_succ, List.getElem_cons_zero])
  refine wpAnyH_take (i := 7) (v := ?_) rfl (by kernel_rfl) (by kernel_rfl) (by kernel_rfl) (fun _ _ _ h => h) (Or.inl ⟨by rfl, ?_⟩) (by assumption) ?_
  rotate_left
  · intro w' hSw; (try dsimp only at hSw); go_simp; (try with_reducible rfl)
  (try simp only [Act.put, List.setIfInBounds_toArray, List.set_cons_zero, List.set_cons_succ, List.getElem_toArray, List.getElem_cons_succ, List.getElem_cons_zero])
  refine wpAnyH_ready (rs := [3]) (by kernel_rfl) (by simp) ?_
  refine AllReadyH.cons rfl (fun K hK => ?_) (AllReadyH.nil)
  go_simp
  (go_at_call 12; refine (roomy14 A p c U0 (HBA.out.below B0) HW.out.2 (by omega)).mono ?_; rintro e U1 ⟨⟨gr, capr, rfl, hr1, hr2, hrown⟩, k1⟩)
  have B1 := B0.trans (k1.mono B0.size)
  have X2 := X1.below k1
  have hgr : U0.heap.size ≤ gr := (World.ownsRow.lt hrown gr rfl).1
  have hxg : V1.heap.size < gr := by have := X1.lt; omega
  have hri : (p.length : Int) ≤ (capr : Int) := by omega
  clear k1 X1 B0
  (try dsimp only)
  refine hK.out _ _ ?_ (fun hHeld => ?_)
  · exact (R.out.below B1).c6
  clear hK K
  (try simp only [Act.put, List.setIfInBounds_toArray, List.set_cons_zero, List.set_cons_succ, List.getElem_toArray, List.getElem_cons_succ, List.getElem_cons_zero])
  refine wpAnyH_take (i := 8) (v := ?_) rfl (by kernel_rfl) (by kernel_rfl) (by kernel_rfl) (fun _ _ _ h => h) (Or.inl ⟨by rfl, ?_⟩) (by assumption) ?_
  rotate_left
  · intro w' hSw; (try dsimp only at hSw); go_simp; (try with_reducible rfl)
  (try simp only [Act.put, List.setIfInBounds_toArray, List.set_cons_zero, List.set_cons_succ, List.getElem_toArray, List.getElem_cons_succ, List.getElem_cons_zero])
  refine wpAnyH_take (i := 9) (v := ?_) rfl (by kernel_rfl) (by kernel_rfl) (by kernel_rfl) (fun _ _ _ h => h) (Or.inl ⟨by rfl, ?_⟩) (by assumption) ?_
  rotate_left
  · intro w' hSw; (try dsimp only at hSw); go_simp; (try with_reducible rfl)
  (try simp only [Act.put, List.setIfInBounds_toArray, List.set_cons_zero, List.set_cons_succ, List.getElem_toArray, List.getElem_cons_succ, List.getElem_cons_zero])
  refine wpAnyH_take (i := 10) (v := ?_) rfl (by kernel_rfl) (by kernel_rfl) (by kernel_rfl) (fun _ _ _ h => h) (Or.inl ⟨by rfl, ?_⟩) (by assumption) ?_
  rotate_left
  · intro w' hSw; (try dsimp only at hSw); go_simp; (try with_reducible rfl)
  (try simp only [Act.put, List.setIfInBounds_toArray, List.set_cons_zero, List.set_cons_succ, List.getElem_toArray, List.getElem_cons_succ, List.getElem_cons_zero])
  have xc := X2.c 6 _ rfl
  have xf := X2.fz 6
  have xl := X2.lt
  have X3 := X2.set 6 (by simp) (.slice (some ⟨gr, 0, none⟩) p.length capr)
  have B2 := B1.setCell (p := ⟨V1.heap.size, 6, none⟩) zv (.slice (some ⟨gr, 0, none⟩) p.length capr)
  have HRN := Lib.hid ((But.of_only (S := fun i => i = V1.heap.size) ((Only.refl V1.heap.size U1).setB (o := 6) (.slice (some ⟨gr, 0, none⟩) p.length capr)) rfl).row hrown (fun i hi e => by simp [Value.ownBlock] at hi; omega))
  clear hrown X2
  refine wpAnyH_ready (rs := [11]) (by kernel_rfl) (by simp) ?_
  refine AllReadyH.cons rfl (fun K hK => ?_) (AllReadyH.nil)
  go_simp
  (try dsimp only)
  refine hK.out _ _ ?_ (fun hHeld => ?_)
  · exact (R.out.below B2).c6
  clear hK K
  (try simp only [Act.put, List.setIfInBounds_toArray, List.set_cons_zero, List.set_cons_succ, List.getElem_toArray, List.getElem_cons_succ, List.getElem_cons_zero])
  refine wpAnyH_done (by kernel_rfl) ?_ _
  clear xc xf xl B1
  generalize U1.setCell ⟨V1.heap.size, 6, none⟩ (.slice (some ⟨gr, 0, none⟩) p.length capr) = U2 at *
  have HRP : Hid (U2.ownsRow U0.heap.size 5 1 (.slice (some ⟨gr, 0, none⟩) p.length capr) p.length (bC p)) := Lib.hid (own_first HRN.out rfl)
  have HYX : Hid (ByL U2 (some ⟨gr, 0, none⟩) p) := Lib.hid (by
    obtain ⟨A1, c1, e1, y1, _, _⟩ := Own8.bytes HRP.out
    obtain ⟨rfl, rfl⟩ : some ⟨gr, 0, none⟩ = A1 ∧ capr = c1 := by injection e1 with q1 q2 q3; exact ⟨q1, q3⟩
    exact y1)
  have HX := Lib.hid X3
  have HB2 := Lib.hid B2
  have hgl : gr < U2.heap.size := (World.ownsRow.lt HRP.out gr rfl).2
  have x0 := X3.c 0 _ rfl
  have x1 := X3.c 1 _ rfl
  have x2 := X3.c 2 _ rfl
  have x3 := X3.c 3 _ rfl
  have x4 := X3.c 4 _ rfl
  have x5 := X3.c 5 _ rfl
  have x6 := X3.c 6 _ rfl
  have x7 := X3.c 7 _ rfl
  have x8 := X3.c 8 _ rfl
  have xl := X3.lt
  clear X3 B2 HRN BX
  have HE1 := Lib.hid (rec_enc_yes o s key ml ct vo (some ⟨gr, 0, none⟩) p capr g tt U2 ka HYX.out (fun h => by cases h))
  go_wp2_with fail
  refine HE1.out.mono ?_; rintro e U3 ⟨ga, capa, rfl, hoa, k3⟩
  have HX3 := Lib.hid (HX.out.below k3)
  have HB3 := Lib.hid (HB2.out.trans (k3.mono HB2.out.size))
  have HRP3 := Lib.hid ((But.of_below (S := fun _ => False) k3).row HRP.out (fun _ _ hf => hf))
  have HYX3 := Lib.hid (HYX.out.below k3)
  have hga : U2.heap.size ≤ ga := (World.ownsRow.lt hoa ga rfl).1
  have HOA := Lib.hid hoa
  have z3 := k3.size
  clear hoa k3 HE1 HX HB2 HRP HYX x0 x1 x2 x3 x4 x5 x6 x7 x8
  obtain ⟨a0, a1, a2, a3, a4, a5, a6, a7, a8, la⟩ := R.out.below HB3.out
  have HE2 := Lib.hid (ref_enc_yes o s key ml ct vo A p c g tt U3 ka (HBA.out.below HB3.out) HW.out.2)
  generalize encR ⟨o, s, kL key, ml, ct, vo, p, g, tt⟩ = E at *
  go_wp2_with fail
  refine HE2.out.mono ?_; rintro e U4 ⟨gb, capb, rfl, hob, k4⟩
  have X4 := HX3.out.below k4
  have HX4 := Lib.hid X4
  have HB4 := Lib.hid (HB3.out.trans (k4.mono HB3.out.size))
  have HRP4 := Lib.hid ((But.of_below (S := fun _ => False) k4).row HRP3.out (fun _ _ hf => hf))
  have HYX4 := Lib.hid (HYX3.out.below k4)
  have HYA : Hid (ByL U4 (some ⟨ga, 0, none⟩) E) := Lib.hid (by
    obtain ⟨A1, c1, e1, y1, _, _⟩ := Own8.bytes HOA.out
    obtain ⟨rfl, rfl⟩ : some ⟨ga, 0, none⟩ = A1 ∧ capa = c1 := by injection e1 with q1 q2 q3; exact ⟨q1, q3⟩
    exact y1.below k4)
  have HYB : Hid (ByL U4 (some ⟨gb, 0, none⟩) E) := Lib.hid (by
    obtain ⟨A1, c1, e1, y1, _, _⟩ := Own8.bytes hob
    obtain ⟨rfl, rfl⟩ : some ⟨gb, 0, none⟩ = A1 ∧ capb = c1 := by injection e1 with q1 q2 q3; exact ⟨q1, q3⟩
    exact y1)
  have z4 := k4.size
  clear hob k4 HE2 HX3 HB3 HRP3 HYX3 HOA X4 a0 a1 a2 a3 a4 a5 a6 a7 a8 la
  have x6 := HX4.out.c 6 _ rfl
  have xl4 := HX4.out.lt
  obtain ⟨a0, a1, a2, a3, a4, a5, a6, a7, a8, la⟩ := R.out.below HB4.out
  have HS1 := Lib.hid (lsame (some ⟨ga, 0, none⟩) E capa (some ⟨gb, 0, none⟩) E capb U4 (by have := HEL.out; omega) (by have := HEL.out; omega) HYA.out HYB.out)
  have hEE : decide (E = E) = true := by simp
  rw [hEE] at HS1
  clear hEE
  go_wp2_with fail
  refine HS1.out.mono ?_; rintro e U5 ⟨rfl, q, hq⟩
  have k5 : Below U4.heap.size U4 U5 := by rw [hq]; exact drewN_below _ _
  have HX5 := Lib.hid (HX4.out.below k5)
  have HB5 := Lib.hid (HB4.out.trans (k5.mono HB4.out.size))
  have HRP5 := Lib.hid ((But.of_below (S := fun _ => False) k5).row HRP4.out (fun _ _ hf => hf))
  have HYX5 := Lib.hid (HYX4.out.below k5)
  have HYA5 := Lib.hid (HYA.out.below k5)
  have z5 := k5.size
  clear hq k5 HS1 HX4 HB4 HRP4 HYX4 HYA HYB x6 xl4 a0 a1 a2 a3 a4 a5 a6 a7 a8 la
  have x6 := HX5.out.c 6 _ rfl
  have xl5 := HX5.out.lt
  obtain ⟨a0, a1, a2, a3, a4, a5, a6, a7, a8, la⟩ := R.out.below HB5.out
  have HI := Lib.hid (rec_is o s key ml ct vo A p.length c g tt U5)
  rw [ka] at HI
  go_wp2_with fail
  refine HI.out.mono ?_; rintro e U6 ⟨rfl, k6⟩
  have HX6 := Lib.hid (HX5.out.below k6)
  have HB6 := Lib.hid (HB5.out.trans (k6.mono HB5.out.size))
  have HRP6 := Lib.hid ((But.of_below (S := fun _ => False) k6).row HRP5.out (fun _ _ hf => hf))
  have HYX6 := Lib.hid (HYX5.out.below k6)
  have HYA6 := Lib.hid (HYA5.out.below k6)
  have z6 := k6.size
  clear k6 HI HX5 HB5 HRP5 HYX5 HYA5 x6 xl5 a0 a1 a2 a3 a4 a5 a6 a7 a8 la
  have x6 := HX6.out.c 6 _ rfl
  have xl6 := HX6.out.lt
  obtain ⟨a0, a1, a2, a3, a4, a5, a6, a7, a8, la⟩ := R.out.below HB6.out
  have HS2 := Lib.hid (lsame (some ⟨gr, 0, none⟩) p capr A p c U6 (by omega) (by omega) HYX6.out (HBA.out.below HB6.out))
  have hpp : decide (p = p) = true := by simp
  rw [hpp] at HS2
  clear hpp
  go_wp2_with fail
  refine HS2.out.mono ?_; rintro e U7 ⟨rfl, q, hq⟩
  have k7 : Below U6.heap.size U6 U7 := by rw [hq]; exact drewN_below _ _
  have HX7 := Lib.hid (HX6.out.below k7)
  have HB7 := Lib.hid (HB6.out.trans (k7.mono HB6.out.size))
  have HRP7 := Lib.hid ((But.of_below (S := fun _ => False) k7).row HRP6.out (fun _ _ hf => hf))
  have HYA7 := Lib.hid (HYA6.out.below k7)
  have z7 := k7.size
  clear hq k7 HS2 HX6 HB6 HRP6 HYX6 HYA6 x6 xl6 a0 a1 a2 a3 a4 a5 a6 a7 a8 la
  have x6 := HX7.out.c 6 _ rfl
  have xl7 := HX7.out.lt
  have HSP := Lib.hid (spoil14 gr p.length capr U0.heap.size _ U7 HRP7.out (by omega) (by omega))
  go_wp2_with fail
  refine HSP.out.mono ?_; rintro e U8 ⟨rfl, k8⟩
  have HB8 := Lib.hid (HB7.out.trans (k8.below (B := Z.heap.size) (fun i hi => by subst hi; omega) HB7.out.size))
  have HYA8 := Lib.hid (HYA7.out.but k8 (fun _ ad had e => by injection had with had; subst had; have q : ga = gr := e; omega))
  have z8 := k8.size
  clear k8 HSP HX7 HB7 HRP7 HYA7 x6 xl7
  have HD := Lib.hid (rec_dec (some ⟨ga, 0, none⟩) E capa U8 HYA8.out HEB.out (fun h => by cases h) (by have := HEL.out; omega) rec_is)
  obtain ⟨a0, a1, a2, a3, a4, a5, a6, a7, a8, la⟩ := R.out.below HB8.out
  go_wp2_with fail
  refine HD.out.mono ?_; rintro e U9 ⟨hd, k9⟩
  obtain ⟨A9, c9, he9, y9, n9⟩ := hd.some_ HDEC.out
  have he9' : e = .returned (.tuple #[recV o s key ml ct vo A9 p.length c9 g tt, .int .i64 0]) := by rw [he9, str_kL]
  subst he9'
  have HB9 := Lib.hid (HB8.out.trans (k9.mono HB8.out.size))
  have HY9 := Lib.hid y9
  clear hd he9 y9 k9 HD HB8 HYA8 a0 a1 a2 a3 a4 a5 a6 a7 a8 la
  have HBF := Lib.hid (HB9.out.alloc HB9.out.size (recO o s key ml ct vo A9 p.length c9 g tt))
  obtain ⟨a0, a1, a2, a3, a4, a5, a6, a7, a8, la⟩ := R.out.below HB9.out
  have HRS := Lib.hid (ref_same o s key ml ct vo p g tt A9 c9 o s key ml ct vo p g tt A c (U9.alloc (recO o s key ml ct vo A9 p.length c9 g tt)) (HY9.out.alloc _) HW.out.1 n9 (HBA.out.below HBF.out) HW.out.1 HW.out.2)
  have hss : sameRB o s key ml ct vo p g tt o s key ml ct vo p g tt = true := by simp [sameRB, sameVB]
  rw [hss] at HRS
  clear hss
  go_wp2_with fail
  refine HRS.out.mono ?_; rintro e UA ⟨rfl, kA⟩
  have HBA2 := Lib.hid (HBF.out.trans (kA.mono HBF.out.size))
  clear kA HRS a0 a1 a2 a3 a4 a5 a6 a7 a8 la HBF HB9
  go_wp2_with fail
  refine (known14 UA).mono ?_; rintro e UB ⟨rfl, kB⟩
  have HF := Lib.hid (HZ.out.trans ((HBA2.out.trans (kB.mono HBA2.out.size)).mono (by have := HZ.out.size; omega)))
  clear kB
  go_wp2
  go_ret
  exact ⟨rfl, HF.out⟩
set_option maxRecDepth 100000 in
set_option maxHeartbeats 16000000 in
theorem recEncodes_no (o s : Int) (key : ByteArray) (ml ct vo : Int) (A : Option Addr) (p : List Int) (c : Nat) (g : Bool) (tt : Int) (w : World) (hby : ByL w A p) (hb : isBy p) (hn : A = none → p.length = 0) (hk : key.size ≤ 140737488351232 ∧ p.length ≤ 140737488351232) (hh : ¬ 6000 < 20 + key.size + p.length) (ka : okN o s key.size ml ct vo p.length g tt = false) :
    Calls Try.prog 3 #[recV o s key ml ct vo A p.length c g tt] w fun e w' => e = .returned (.bool true) ∧ Below w.heap.size w w' := by
  have d1 : decide (6000 < 20 + key.size + p.length) = false := by simpa using hh
  have hpl : p.length ≤ 6000 := by omega
  clear hh
  have HB0 : Below w.heap.size w (w.alloc (recO o s key ml ct vo A p.length c g tt)) := by (repeat' (first | (with_reducible exact Below.refl _ _) | (with_reducible assumption) | (with_reducible refine Below.trans ?_ (Below.mono (by with_reducible assumption) ?_)) | (with_reducible refine Below.alloc ?_ ?_ _) | (with_reducible refine Below.setCell ?_ ?_ _) | (with_reducible refine below_drewN ?_ _) | (with_reducible refine Below.drew ?_) | go_size))
  have R : Hid (Rec9 (w.alloc (recO o s key ml ct vo A p.length c g tt)) w.heap.size o s key ml ct vo A p.length c g tt) := Lib.hid (Rec9.new w o s key ml ct vo A p.length c g tt)
  have HBA := Lib.hid (hby.below HB0)
  have HZ := Lib.hid HB0
  have HW := Lib.hid (And.intro hb hn)
  have HK : Hid (key.size ≤ 281474976710656 ∧ p.length ≤ 281474976710656) := Lib.hid (by omega)
  have HZS : Hid ((w.alloc (recO o s key ml ct vo A p.length c g tt)).heap.size = w.heap.size + 1) := Lib.hid (by simp)
  have zz : w.heap.size < (w.alloc (recO o s key ml ct vo A p.length c g tt)).heap.size := by simp
  clear HB0 hby hb hn hk
  go_enter Try.func3, Try.ntmps3
  go_wp2_with fail
  generalize w.alloc (recO o s key ml ct vo A p.length c g tt) = Z at *
  refine (heavy1 (w.heap.size + 1) 1 o s key ml ct vo A p.length c g tt (Z.alloc (recO o s key ml ct vo A p.length c g tt)) (by have q := Rec9.new Z o s key ml ct vo A p.length c g tt; rw [HZS.out] at q; exact q) HK.out.1 HK.out.2).mono ?_; rintro e V1 ⟨he, k⟩
  rw [d1] at he
  subst he
  have BX := Lib.hid (Below.trans ((Below.refl _ _).alloc (Nat.le_refl _) (recO o s key ml ct vo A p.length c g tt)) (k.mono (by simp)) : Below Z.heap.size Z V1)
  clear k d1
  obtain ⟨a0, a1, a2, a3, a4, a5, a6, a7, a8, la⟩ := R.out.below BX.out
  have X0 : XB (V1.alloc (recO o s key ml ct vo A p.length c g tt)) V1.heap.size [.int .i64 o, .int .i64 s, .string key, .int .i64 ml, .int .i64 ct, .int .i64 vo, .slice A p.length c, .bool g, .int .i64 tt] := XB.new V1 _ _
  have BA := BX.out.alloc BX.out.size (recO o s key ml ct vo A p.length c g tt)
  have HX0 := Lib.hid X0
  have HBXA := Lib.hid BA
  have zv : Z.heap.size ≤ V1.heap.size := BX.out.size
  clear X0 BA
  go_wp2_with fail
  refine wp_region_held_drew (S := fun w' => w'.cell? ⟨w.heap.size, 6, none⟩ = some (.slice A p.length c)) (by kernel_rfl) ?_ (fun hHeld => ?_)
  · exact (R.out.below HBXA.out).c6
  have B0 := HBXA.out.drew
  have X1 : XB (V1.alloc (recO o s key ml ct vo A p.length c g tt)).drew V1.heap.size [.int .i64 o, .int .i64 s, .string key, .int .i64 ml, .int .i64 ct, .int .i64 vo, .slice A p.length c, .bool g, .int .i64 tt] := ⟨HX0.out.c, HX0.out.fz, HX0.out.lt⟩
  clear a0 a1 a2 a3 a4 a5 a6 a7 a8 la HX0 HBXA
  generalize (V1.alloc (recO o s key ml ct vo A p.length c g tt)).drew = U0 at *
  refine wpAnyH_take (i := 0) (v := ?_) rfl (by kernel_rfl) (by kernel_rfl) (by kernel_rfl) (fun _ _ _ h => h) (Or.inl ⟨by rfl, ?_⟩) (by assumption) ?_
  rotate_left
  · intro w' hSw; (try dsimp only at hSw); go_simp; (try with_reducible rfl)
  (try simp only [Act.put, List.setIfInBounds_toArray, List.set_cons_zero, List.set_cons_succ, List.getElem_toArray, List.getElem_cons_succ, List.getElem_cons_zero])
  refine wpAnyH_take (i := 1) (v := ?_) rfl (by kernel_rfl) (by kernel_rfl) (by kernel_rfl) (fun _ _ _ h => h) (Or.inl ⟨by rfl, ?_⟩) (by assumption) ?_
  rotate_left
  · intro w' hSw; (try dsimp only at hSw); go_simp; (try with_reducible rfl)
  (try simp only [Act.put, List.setIfInBounds_toArray, List.set_cons_zero, List.set_cons_succ, List.getElem_toArray, List.getElem_cons_succ, List.getElem_cons_zero])
  refine wpAnyH_take (i := 2) (v := ?_) rfl (by kernel_rfl) (by kernel_rfl) (by kernel_rfl) (fun _ _ _ h => h) (Or.inl ⟨by rfl, ?_⟩) (by assumption) ?_
  rotate_left
  · intro w' hSw; (try dsimp only at hSw); go_simp; (try with_reducible rfl)
  (try simp only [Act.put, List.setIfInBounds_toArray, List.set_cons_zero, List.set_cons_succ, List.getElem_toArray, List.getElem_cons_succ, List.getElem_cons_zero])
  refine wpAnyH_take (i := 4) (v := ?_) rfl (by kernel_rfl) (by kernel_rfl) (by kernel_rfl) (fun _ _ _ h => h) (Or.inl ⟨by rfl, ?_⟩) (by assumption) ?_
  rotate_left
  · intro w' hSw; (try dsimp only at hSw); go_simp; (try with_reducible rfl)
  (try simp only [Act.put, List.setIfInBounds_toArray, List.set_cons_zero, List.set_cons_succ, List.getElem_toArray, List.getElem_cons_succ, List.getElem_cons_zero])
  refine wpAnyH_take (i := 5) (v := ?_) rfl (by kernel_rfl) (by kernel_rfl) (by kernel_rfl) (fun _ _ _ h => h) (Or.inl ⟨by rfl, ?_⟩) (by assumption) ?_
  rotate_left
  · intro w' hSw; (try dsimp only at hSw); go_simp; (try with_reducible rfl)
  (try simp only [Act.put, List.setIfInBounds_toArray, List.set_cons_zero, List.set_cons_succ, List.getElem_toArray, List.getElem_cons_succ, List.getElem_cons_zero])
  refine wpAnyH_take (i := 6) (v := ?_) rfl (by kernel_rfl) (by kernel_rfl) (by kernel_rfl) (fun _ _ _ h => h) (Or.inl ⟨by rfl, ?_⟩) (by assumption) ?_
  rotate_left
  · intro w' hSw; (try dsimp only at hSw); go_simp; (try with_reducible rfl)
  (try simp only [Act.put, List.setIfInBounds_toArray, List.set_cons_zero, List.set_cons_succ, List.getElem_toArray, List.getElem_cons_succ, List.getElem_cons_zero])
  refine wpAnyH_take (i := 7) (v := ?_) rfl (by kernel_rfl) (by kernel_rfl) (by kernel_rfl) (fun _ _ _ h => h) (Or.inl ⟨by rfl, ?_⟩) (by assumption) ?_
  rotate_left
  · intro w' hSw; (try dsimp only at hSw); go_simp; (try with_reducible rfl)
  (try simp only [Act.put, List.setIfInBounds_toArray, List.set_cons_zero, List.set_cons_succ, List.getElem_toArray, List.getElem_cons_succ, List.getElem_cons_zero])
  refine wpAnyH_ready (rs := [3]) (by kernel_rfl) (by simp) ?_
  refine AllReadyH.cons rfl (fun K hK => ?_) (AllReadyH.nil)
  go_simp
  (go_at_call 12; refine (roomy14 A p c U0 (HBA.out.below B0) HW.out.2 (by omega)).mono ?_; rintro e U1 ⟨⟨gr, capr, rfl, hr1, hr2, hrown⟩, k1⟩)
  have B1 := B0.trans (k1.mono B0.size)
  have X2 := X1.below k1
  have hgr : U0.heap.size ≤ gr := (World.ownsRow.lt hrown gr rfl).1
  have hxg : V1.heap.size < gr := by have := X1.lt; omega
  have hri : (p.length : Int) ≤ (capr : Int) := by omega
  clear k1 X1 B0
  (try dsimp only)
  refine hK.out _ _ ?_ (fun hHeld => ?_)
  · exact (R.out.below B1).c6
  clear hK K
  (try simp only [Act.put, List.setIfInBounds_toArray, List.set_cons_zero, List.set_cons_succ, List.getElem_toArray, List.getElem_cons_succ, List.getElem_cons_zero])
  refine wpAnyH_take (i := 8) (v := ?_) rfl (by kernel_rfl) (by kernel_rfl) (by kernel_rfl) (fun _ _ _ h => h) (Or.inl ⟨by rfl, ?_⟩) (by assumption) ?_
  rotate_left
  · intro w' hSw; (try dsimp only at hSw); go_simp; (try with_reducible rfl)
  (try simp only [Act.put, List.setIfInBounds_toArray, List.set_cons_zero, List.set_cons_succ, List.getElem_toArray, List.getElem_cons_succ, List.getElem_cons_zero])
  refine wpAnyH_take (i := 9) (v := ?_) rfl (by kernel_rfl) (by kernel_rfl) (by kernel_rfl) (fun _ _ _ h => h) (Or.inl ⟨by rfl, ?_⟩) (by assumption) ?_
  rotate_left
  · intro w' hSw; (try dsimp only at hSw); go_simp; (try with_reducible rfl)
  (try simp only [Act.put, List.setIfInBounds_toArray, List.set_cons_zero, List.set_cons_succ, List.getElem_toArray, List.getElem_cons_succ, List.getElem_cons_zero])
  refine wpAnyH_take (i := 10) (v := ?_) rfl (by kernel_rfl) (by kernel_rfl) (by kernel_rfl) (fun _ _ _ h => h) (Or.inl ⟨by rfl, ?_⟩) (by assumption) ?_
  rotate_left
  · intro w' hSw; (try dsimp only at hSw); go_simp; (try with_reducible rfl)
  (try simp only [Act.put, List.setIfInBounds_toArray, List.set_cons_zero, List.set_cons_succ, List.getElem_toArray, List.getElem_cons_succ, List.getElem_cons_zero])
  have xc := X2.c 6 _ rfl
  have xf := X2.fz 6
  have xl := X2.lt
  have X3 := X2.set 6 (by simp) (.slice (some ⟨gr, 0, none⟩) p.length capr)
  have B2 := B1.setCell (p := ⟨V1.heap.size, 6, none⟩) zv (.slice (some ⟨gr, 0, none⟩) p.length capr)
  have HRN := Lib.hid ((But.of_only (S := fun i => i = V1.heap.size) ((Only.refl V1.heap.size U1).setB (o := 6) (.slice (some ⟨gr, 0, none⟩) p.length capr)) rfl).row hrown (fun i hi e => by simp [Value.ownBlock] at hi; omega))
  clear hrown X2
  refine wpAnyH_ready (rs := [11]) (by kernel_rfl) (by simp) ?_
  refine AllReadyH.cons rfl (fun K hK => ?_) (AllReadyH.nil)
  go_simp
  (try dsimp only)
  refine hK.out _ _ ?_ (fun hHeld => ?_)
  · exact (R.out.below B2).c6
  clear hK K
  (try simp only [Act.put, List.setIfInBounds_toArray, List.set_cons_zero, List.set_cons_succ, List.getElem_toArray, List.getElem_cons_succ, List.getElem_cons_zero])
  refine wpAnyH_done (by kernel_rfl) ?_ _
  clear xc xf xl B1
  generalize U1.setCell ⟨V1.heap.size, 6, none⟩ (.slice (some ⟨gr, 0, none⟩) p.length capr) = U2 at *
  have HRP : Hid (U2.ownsRow U0.heap.size 5 1 (.slice (some ⟨gr, 0, none⟩) p.length capr) p.length (bC p)) := Lib.hid (own_first HRN.out rfl)
  have HYX : Hid (ByL U2 (some ⟨gr, 0, none⟩) p) := Lib.hid (by
    obtain ⟨A1, c1, e1, y1, _, _⟩ := Own8.bytes HRP.out
    obtain ⟨rfl, rfl⟩ : some ⟨gr, 0, none⟩ = A1 ∧ capr = c1 := by injection e1 with q1 q2 q3; exact ⟨q1, q3⟩
    exact y1)
  have HX := Lib.hid X3
  have HB2 := Lib.hid B2
  have hgl : gr < U2.heap.size := (World.ownsRow.lt HRP.out gr rfl).2
  have x0 := X3.c 0 _ rfl
  have x1 := X3.c 1 _ rfl
  have x2 := X3.c 2 _ rfl
  have x3 := X3.c 3 _ rfl
  have x4 := X3.c 4 _ rfl
  have x5 := X3.c 5 _ rfl
  have x6 := X3.c 6 _ rfl
  have x7 := X3.c 7 _ rfl
  have x8 := X3.c 8 _ rfl
  have xl := X3.lt
  clear X3 B2 HRN BX
  have HE1 := Lib.hid (rec_enc_no o s key ml ct vo (some ⟨gr, 0, none⟩) p.length capr g tt U2 ka)
  go_wp2_with fail
  refine HE1.out.mono ?_; rintro e U3 ⟨rfl, k3⟩
  have HX3 := Lib.hid (HX.out.below k3)
  have HB3 := Lib.hid (HB2.out.trans (k3.mono HB2.out.size))
  have HRP3 := Lib.hid ((But.of_below (S := fun _ => False) k3).row HRP.out (fun _ _ hf => hf))
  have HYX3 := Lib.hid (HYX.out.below k3)
  have z3 := k3.size
  clear k3 HE1 HX HB2 HRP HYX x0 x1 x2 x3 x4 x5 x6 x7 x8
  obtain ⟨a0, a1, a2, a3, a4, a5, a6, a7, a8, la⟩ := R.out.below HB3.out
  have HE2 := Lib.hid (ref_enc_no o s key ml ct vo A p.length c g tt U3 ka)
  go_wp2_with fail
  refine HE2.out.mono ?_; rintro e U4 ⟨rfl, k4⟩
  have X4 := HX3.out.below k4
  have HX4 := Lib.hid X4
  have HB4 := Lib.hid (HB3.out.trans (k4.mono HB3.out.size))
  have HRP4 := Lib.hid ((But.of_below (S := fun _ => False) k4).row HRP3.out (fun _ _ hf => hf))
  have HYX4 := Lib.hid (HYX3.out.below k4)
  have z4 := k4.size
  clear k4 HE2 HX3 HB3 HRP3 HYX3 X4 a0 a1 a2 a3 a4 a5 a6 a7 a8 la
  have x6 := HX4.out.c 6 _ rfl
  have xl4 := HX4.out.lt
  obtain ⟨a0, a1, a2, a3, a4, a5, a6, a7, a8, la⟩ := R.out.below HB4.out
  have HS1 := Lib.hid (lsame none [] 0 none [] 0 U4 (by simp) (by simp) (ByL.nil _ _) (ByL.nil _ _))
  have hEE : decide (([] : List Int) = []) = true := by simp
  rw [hEE] at HS1
  simp only [List.length_nil] at HS1
  clear hEE
  go_wp2_with fail
  refine HS1.out.mono ?_; rintro e U5 ⟨rfl, q, hq⟩
  have k5 : Below U4.heap.size U4 U5 := by rw [hq]; exact drewN_below _ _
  have HX5 := Lib.hid (HX4.out.below k5)
  have HB5 := Lib.hid (HB4.out.trans (k5.mono HB4.out.size))
  have HRP5 := Lib.hid ((But.of_below (S := fun _ => False) k5).row HRP4.out (fun _ _ hf => hf))
  have HYX5 := Lib.hid (HYX4.out.below k5)
  have z5 := k5.size
  clear hq k5 HS1 HX4 HB4 HRP4 HYX4 x6 xl4 a0 a1 a2 a3 a4 a5 a6 a7 a8 la
  have x6 := HX5.out.c 6 _ rfl
  have xl5 := HX5.out.lt
  obtain ⟨a0, a1, a2, a3, a4, a5, a6, a7, a8, la⟩ := R.out.below HB5.out
  have HI := Lib.hid (rec_is o s key ml ct vo A p.length c g tt U5)
  rw [ka] at HI
  go_wp2_with fail
  refine HI.out.mono ?_; rintro e U6 ⟨rfl, k6⟩
  have HX6 := Lib.hid (HX5.out.below k6)
  have HB6 := Lib.hid (HB5.out.trans (k6.mono HB5.out.size))
  have HRP6 := Lib.hid ((But.of_below (S := fun _ => False) k6).row HRP5.out (fun _ _ hf => hf))
  have HYX6 := Lib.hid (HYX5.out.below k6)
  have z6 := k6.size
  clear k6 HI HX5 HB5 HRP5 HYX5 x6 xl5 a0 a1 a2 a3 a4 a5 a6 a7 a8 la
  have x6 := HX6.out.c 6 _ rfl
  have xl6 := HX6.out.lt
  obtain ⟨a0, a1, a2, a3, a4, a5, a6, a7, a8, la⟩ := R.out.below HB6.out
  have HS2 := Lib.hid (lsame (some ⟨gr, 0, none⟩) p capr A p c U6 (by omega) (by omega) HYX6.out (HBA.out.below HB6.out))
  have hpp : decide (p = p) = true := by simp
  rw [hpp] at HS2
  clear hpp
  go_wp2_with fail
  refine HS2.out.mono ?_; rintro e U7 ⟨rfl, q, hq⟩
  have k7 : Below U6.heap.size U6 U7 := by rw [hq]; exact drewN_below _ _
  have HX7 := Lib.hid (HX6.out.below k7)
  have HB7 := Lib.hid (HB6.out.trans (k7.mono HB6.out.size))
  have HRP7 := Lib.hid ((But.of_below (S := fun _ => False) k7).row HRP6.out (fun _ _ hf => hf))
  have z7 := k7.size
  clear hq k7 HS2 HX6 HB6 HRP6 HYX6 x6 xl6 a0 a1 a2 a3 a4 a5 a6 a7 a8 la
  have x6 := HX7.out.c 6 _ rfl
  have xl7 := HX7.out.lt
  have HSP := Lib.hid (spoil14 gr p.length capr U0.heap.size _ U7 HRP7.out (by omega) (by omega))
  go_wp2_with fail
  refine HSP.out.mono ?_; rintro e U8 ⟨rfl, k8⟩
  have HB8 := Lib.hid (HB7.out.trans (k8.below (B := Z.heap.size) (fun i hi => by subst hi; omega) HB7.out.size))
  have z8 := k8.size
  clear k8 HSP HX7 HB7 HRP7 x6 xl7
  obtain ⟨a0, a1, a2, a3, a4, a5, a6, a7, a8, la⟩ := R.out.below HB8.out
  go_wp2_with fail
  refine (known14 U8).mono ?_; rintro e UB ⟨rfl, kB⟩
  have HF := Lib.hid (HZ.out.trans ((HB8.out.trans (kB.mono HB8.out.size)).mono (by have := HZ.out.size; omega)))
  clear kB a0 a1 a2 a3 a4 a5 a6 a7 a8 la
  go_wp2
  go_ret
  exact ⟨rfl, HF.out⟩
theorem recEncodes_any (o s : Int) (key : ByteArray) (ml ct vo : Int) (A : Option Addr) (p : List Int) (c : Nat) (g : Bool) (tt : Int) (w : World) (hby : ByL w A p) (hb : isBy p) (hn : A = none → p.length = 0) (hk : key.size ≤ 140737488351232 ∧ p.length ≤ 140737488351232) :
    Calls Try.prog 3 #[recV o s key ml ct vo A p.length c g tt] w fun e w' => e = .returned (.bool true) ∧ Below w.heap.size w w' := by
  by_cases h1 : 6000 < 20 + key.size + p.length
  · exact recEncodes_heavy o s key ml ct vo A p c g tt w hby hb hn hk h1
  cases ka : okN o s key.size ml ct vo p.length g tt
  · exact recEncodes_no o s key ml ct vo A p c g tt w hby hb hn hk h1 ka
  · exact recEncodes_yes o s key ml ct vo A p c g tt w hby hb hn hk h1 ka
set_option maxRecDepth 100000 in
theorem recEncodes_lifted (os : Os) (started : os.Started) (H : Type) (enc : TypeId × Value → H) :
    ReturnsInHanded {} Try.checked os 3 .any (Rows.recEncodesSpec.pre6 enc Try.prog Try.f3 Rows.recEncodesRow.domain false) (Rows.recEncodesSpec.post enc Try.prog Try.f3 false true false false) := by
  refine returnsInHanded_of_change_sized (C := Try.checked) law_own started (by kernel_rfl) Try.func3
    (ChangeSpec.witness6 (enc := enc) (C := Try.checked) false ⟨#[], #[recV 0 0 ⟨#[]⟩ 0 0 0 none 0 0 false 0], []⟩ 8 (by kernel_rfl) (by kernel_rfl) (by kernel_rfl) (by kernel_rfl)) ?_
  intro W base args ds gs before hval0 hW hcnd hsz0 _
  have hval : ∀ (j : Nat) t v, Try.f3.params[j]? = some t → args[j]? = some v → Value.okWide Try.prog W .any base t v := hval0
  have hsz : (DataW.weightsEach Try.prog (Try.f3.params.toList ++ Rows.recEncodesSpec.plain.varTypes Try.prog) (ds ++ gs)).all (· ≤ reachBytes) = true := hsz0
  have hW' := hW
  obtain ⟨p, q, hA0, hV, rfl, hfz, hnd⟩ := hW
  have hA : DataW.TrodAll enc Try.prog W 0 (fun _ => true) true Try.f3.params.toList args.toList ds p := hA0
  rw [Try.params3] at hA hval hsz
  have hsame : (Rows.recEncodesSpec.fn H (ds ++ gs)).results = [.lit (.bool true)] ∧ (Rows.recEncodesSpec.fn H (ds ++ gs)).args = ds ∧ (Rows.recEncodesSpec.fn H (ds ++ gs)).vars = [] → ∀ W', Below W.heap.size W W' → Rows.recEncodesSpec.post enc Try.prog Try.f3 false true false false W args (.bool true) W' :=
    fun h W' hb => law_post (tb := 4) hW' law_laid (by kernel_rfl) rfl Try.underlying4 h.1 h.2.1 rfl h.2.2 hb
  obtain ⟨v0, vs0, d0, ds0, p0, q0, hargs, rfl, rfl, h0, r0⟩ := trodAll_cons hA
  obtain ⟨rfl, rfl, rfl⟩ := trodAll_nil r0
  obtain rfl : args = #[v0] := by cases args; simp_all
  obtain ⟨rfl, rfl⟩ := trodVars_none hV
  have hpost := hsame ⟨rfl, rfl, rfl⟩
  clear hsame hA0 hval0 hsz0
  obtain ⟨o, s, key, ml, ct, vo, A, p, c, g, tt, rfl, _, _, hby, hb, hn, hz⟩ := open_record (hval 0 28 v0 rfl rfl) h0
  have hk := hz reachBytes (sized_each (j := 0) hsz rfl rfl)
  unfold reachBytes at hk
  exact (recEncodes_any o s key ml ct vo A p c g tt W hby hb hn ⟨by omega, by omega⟩).mono fun e W' ⟨he, hb⟩ => ⟨_, he, hpost W' hb⟩
theorem recEncodes_holds : Rows.RecEncodesSaid :=
  OpenClaim.holds_of_wide 3 Try.f3 rfl rfl rfl rfl rfl rfl rfl ⟨rfl, rfl, rfl, rfl, rfl⟩ rfl rfl rfl rfl rfl (by kernel_rfl) Try.func3 (by kernel_rfl)
    (of_decide_eq_true (by kernel_rfl)) (by unfold Func.isWrapper; first | (rw [if_pos (by decide +kernel)]; kernel_rfl) | (rw [if_neg (by decide +kernel)]; exact ⟨rfl, rfl⟩))
    (fun os started H enc _ => recEncodes_lifted os started H enc)
end Go.Proofs.Ytpccneikblbhdaa
