/- The reference's Encode (written by gen/pkref.py). -/
import Derived.Test.YtepdnkpmkhjlgaaGreatM9H
set_option linter.unusedSimpArgs false
set_option linter.unusedVariables false
namespace Go.Proofs.YtepdnkpmkhjlgaaGreat
open Go.RowKit

/-- An append whose run is known. -/
theorem wpList_append_zeros {P : Program} {w : World} (v' : Value) (w' : World) {ops : Array Oper} {rest : List Oper} {o : Oper} {a : Act} {Q : Exit → Act → World → Prop} (hgd : o.guard = none) (s x : Operand) (t tn : TypeId)
    (ho : o.op = .call { callee := .builtin .append, args := #[s, x], argTypes := #[t, tn] }) {vs vx : Value} (hs : a.eval s = vs) (hx : a.eval x = vx)
    (hr : (Builtin.append_ #[t, tn] o.type #[vs, vx]).run P w = .ok v' w') (h : wpList P ops Q rest (a.put o.dst v') w') : wpList P ops Q (o :: rest) a w := by
  refine wpList_plain hgd fun _ hK => ?_
  unfold Oper.wp execOp
  simp only [ho, resolve, invoke, builtin, Sem.run_bind, Sem.run_pure, Result.andThen_ok, List.map_toArray, List.map_cons, List.map_nil, hs, hx, hr]
  exact hK _ _ h
theorem ref6_word (n : Int) (w : World) : Calls Tryz.prog 45 #[.int .i64 n] w fun e w' => e = .returned (.bool (inN n 0 4294967295)) ∧ w = w' := by
  rcases (show n < 0 ∨ (0 ≤ n ∧ n < 4294967296) ∨ (0 ≤ n ∧ 4294967296 ≤ n) from by omega) with p | ⟨p, q⟩ | ⟨p, q⟩
  · have e : inN n 0 4294967295 = false := by simp [inN]; omega
    have E := Lib.hid e
    have t1 : decide (0 ≤ n) = false := by simp; omega
    clear e
    go_enter Tryz.func45, Tryz.ntmps45
    go_wp2
    go_ret
    exact ⟨by rw [E.out]; rfl, rfl⟩
  · have e : inN n 0 4294967295 = true := by simp [inN]; omega
    have E := Lib.hid e
    have t1 : decide (0 ≤ n) = true := by simpa using p
    have t2 : decide (n < 4294967296) = true := by simpa using q
    clear e
    go_enter Tryz.func45, Tryz.ntmps45
    go_wp2
    go_ret
    exact ⟨by rw [E.out]; rfl, rfl⟩
  · have e : inN n 0 4294967295 = false := by simp [inN]; omega
    have E := Lib.hid e
    have t1 : decide (0 ≤ n) = true := by simpa using p
    have t2 : decide (n < 4294967296) = false := by simp; omega
    clear e
    go_enter Tryz.func45, Tryz.ntmps45
    go_wp2
    go_ret
    exact ⟨by rw [E.out]; rfl, rfl⟩
abbrev pkR (l m s d r o v t : Int) : Obj := .cells #[.int .i64 l, .int .i64 m, .int .i64 s, .int .i64 d, .int .i64 r, .int .u64 o, .int .u64 v, .int .u64 t] 53
theorem Box8.newR (w : World) (l m s d r o v t : Int) : Box8 (w.alloc (pkR l m s d r o v t)) w.heap.size l m s d r o v t := by constructor <;> simp
set_option maxHeartbeats 2000000 in
theorem ref6_enc_no (l m s d r o v t : Int) (w : World) (h : isP l m s d r = false) : Calls Tryz.prog 19 #[pkV l m s d r o v t] w fun e w' => e = .returned (.tuple #[.slice none 0 0, .int .i64 1]) ∧ Below w.heap.size w w' := by
  have hc : l < 0 ∨ (0 ≤ l ∧ 3 < l) ∨ (0 ≤ l ∧ l ≤ 3 ∧ m ≠ 3 ∧ m ≠ 4) ∨ (0 ≤ l ∧ l ≤ 3 ∧ (m = 3 ∨ m = 4) ∧ s < 0) ∨ (0 ≤ l ∧ l ≤ 3 ∧ (m = 3 ∨ m = 4) ∧ 0 ≤ s ∧ 255 < s) ∨ (0 ≤ l ∧ l ≤ 3 ∧ (m = 3 ∨ m = 4) ∧ 0 ≤ s ∧ s ≤ 255 ∧ inN d 0 4294967295 = false) ∨ (0 ≤ l ∧ l ≤ 3 ∧ (m = 3 ∨ m = 4) ∧ 0 ≤ s ∧ s ≤ 255 ∧ inN d 0 4294967295 = true ∧ inN r 0 4294967295 = false) := by
    by_cases g0 : 0 ≤ l ∧ l ≤ 3 ∧ 3 ≤ m ∧ m ≤ 4 ∧ 0 ≤ s ∧ s ≤ 255
    · have e1 : inN l 0 3 = true := by simp [inN]; omega
      have e2 : inN m 3 4 = true := by simp [inN]; omega
      have e3 : inN s 0 255 = true := by simp [inN]; omega
      cases hd : inN d 0 4294967295
      · exact .inr (.inr (.inr (.inr (.inr (.inl ⟨by omega, by omega, by omega, by omega, by omega, rfl⟩)))))
      · cases hr : inN r 0 4294967295
        · exact .inr (.inr (.inr (.inr (.inr (.inr ⟨by omega, by omega, by omega, by omega, by omega, rfl, rfl⟩)))))
        · rw [isP, e1, e2, e3, hd, hr] at h
          cases h
    · have hx : l < 0 ∨ (0 ≤ l ∧ 3 < l) ∨ (0 ≤ l ∧ l ≤ 3 ∧ m ≠ 3 ∧ m ≠ 4) ∨ (0 ≤ l ∧ l ≤ 3 ∧ (m = 3 ∨ m = 4) ∧ s < 0) ∨ (0 ≤ l ∧ l ≤ 3 ∧ (m = 3 ∨ m = 4) ∧ 0 ≤ s ∧ 255 < s) := by omega
      rcases hx with p | p | p | p | p
      · exact .inl p
      · exact .inr (.inl p)
      · exact .inr (.inr (.inl p))
      · exact .inr (.inr (.inr (.inl p)))
      · exact .inr (.inr (.inr (.inr (.inl p))))
  clear h
  rcases hc with p | ⟨q, p⟩ | ⟨q, q1, p, p'⟩ | ⟨q, q1, hm, p⟩ | ⟨q, q1, hm, q2, p⟩ | ⟨q, q1, hm, q2, q3, p⟩ | ⟨q, q1, hm, q2, q3, q4, p⟩
  · have a0 : decide (l < 0) = true := by simpa using p
    go_enter Tryz.func19, Tryz.ntmps19
    go_wp2_with (go_at_call 45; refine (ref6_word _ _).mono ?_; rintro e w' ⟨rfl, rfl⟩)
    go_ret2
    go_light
    exact ⟨rfl, by (repeat' (first | (with_reducible exact Below.refl _ _) | (with_reducible assumption) | (with_reducible refine Below.trans ?_ (Below.mono (by with_reducible assumption) ?_)) | (with_reducible refine Below.alloc ?_ ?_ _) | (with_reducible refine Below.setCell ?_ ?_ _) | (with_reducible refine below_drewN ?_ _) | (with_reducible refine Below.drew ?_) | go_size))⟩
  · have a0 : decide (l < 0) = false := by simp; omega
    have a1 : decide (3 < l) = true := by simpa using p
    go_enter Tryz.func19, Tryz.ntmps19
    go_wp2_with (go_at_call 45; refine (ref6_word _ _).mono ?_; rintro e w' ⟨rfl, rfl⟩)
    go_ret2
    go_light
    exact ⟨rfl, by (repeat' (first | (with_reducible exact Below.refl _ _) | (with_reducible assumption) | (with_reducible refine Below.trans ?_ (Below.mono (by with_reducible assumption) ?_)) | (with_reducible refine Below.alloc ?_ ?_ _) | (with_reducible refine Below.setCell ?_ ?_ _) | (with_reducible refine below_drewN ?_ _) | (with_reducible refine Below.drew ?_) | go_size))⟩
  · have a0 : decide (l < 0) = false := by simp; omega
    have a1 : decide (3 < l) = false := by simp; omega
    have a2 : (m != 3) = true := by simpa using p
    have a3 : (m != 4) = true := by simpa using p'
    go_enter Tryz.func19, Tryz.ntmps19
    go_wp2_with (go_at_call 45; refine (ref6_word _ _).mono ?_; rintro e w' ⟨rfl, rfl⟩)
    go_ret2
    go_light
    exact ⟨rfl, by (repeat' (first | (with_reducible exact Below.refl _ _) | (with_reducible assumption) | (with_reducible refine Below.trans ?_ (Below.mono (by with_reducible assumption) ?_)) | (with_reducible refine Below.alloc ?_ ?_ _) | (with_reducible refine Below.setCell ?_ ?_ _) | (with_reducible refine below_drewN ?_ _) | (with_reducible refine Below.drew ?_) | go_size))⟩
  · rcases hm with hm | hm
    · have a2 : (m != 3) = false := by simp [hm]
      clear hm
      have a0 : decide (l < 0) = false := by simp; omega
      have a1 : decide (3 < l) = false := by simp; omega
      have a4 : decide (s < 0) = true := by simpa using p
      go_enter Tryz.func19, Tryz.ntmps19
      go_wp2_with (go_at_call 45; refine (ref6_word _ _).mono ?_; rintro e w' ⟨rfl, rfl⟩)
      go_ret2
      go_light
      exact ⟨rfl, by (repeat' (first | (with_reducible exact Below.refl _ _) | (with_reducible assumption) | (with_reducible refine Below.trans ?_ (Below.mono (by with_reducible assumption) ?_)) | (with_reducible refine Below.alloc ?_ ?_ _) | (with_reducible refine Below.setCell ?_ ?_ _) | (with_reducible refine below_drewN ?_ _) | (with_reducible refine Below.drew ?_) | go_size))⟩
    · have a2 : (m != 3) = true := by simp [hm]
      have a3 : (m != 4) = false := by simp [hm]
      clear hm
      have a0 : decide (l < 0) = false := by simp; omega
      have a1 : decide (3 < l) = false := by simp; omega
      have a4 : decide (s < 0) = true := by simpa using p
      go_enter Tryz.func19, Tryz.ntmps19
      go_wp2_with (go_at_call 45; refine (ref6_word _ _).mono ?_; rintro e w' ⟨rfl, rfl⟩)
      go_ret2
      go_light
      exact ⟨rfl, by (repeat' (first | (with_reducible exact Below.refl _ _) | (with_reducible assumption) | (with_reducible refine Below.trans ?_ (Below.mono (by with_reducible assumption) ?_)) | (with_reducible refine Below.alloc ?_ ?_ _) | (with_reducible refine Below.setCell ?_ ?_ _) | (with_reducible refine below_drewN ?_ _) | (with_reducible refine Below.drew ?_) | go_size))⟩
  · rcases hm with hm | hm
    · have a2 : (m != 3) = false := by simp [hm]
      clear hm
      have a0 : decide (l < 0) = false := by simp; omega
      have a1 : decide (3 < l) = false := by simp; omega
      have a4 : decide (s < 0) = false := by simp; omega
      have a5 : decide (255 < s) = true := by simpa using p
      go_enter Tryz.func19, Tryz.ntmps19
      go_wp2_with (go_at_call 45; refine (ref6_word _ _).mono ?_; rintro e w' ⟨rfl, rfl⟩)
      go_ret2
      go_light
      exact ⟨rfl, by (repeat' (first | (with_reducible exact Below.refl _ _) | (with_reducible assumption) | (with_reducible refine Below.trans ?_ (Below.mono (by with_reducible assumption) ?_)) | (with_reducible refine Below.alloc ?_ ?_ _) | (with_reducible refine Below.setCell ?_ ?_ _) | (with_reducible refine below_drewN ?_ _) | (with_reducible refine Below.drew ?_) | go_size))⟩
    · have a2 : (m != 3) = true := by simp [hm]
      have a3 : (m != 4) = false := by simp [hm]
      clear hm
      have a0 : decide (l < 0) = false := by simp; omega
      have a1 : decide (3 < l) = false := by simp; omega
      have a4 : decide (s < 0) = false := by simp; omega
      have a5 : decide (255 < s) = true := by simpa using p
      go_enter Tryz.func19, Tryz.ntmps19
      go_wp2_with (go_at_call 45; refine (ref6_word _ _).mono ?_; rintro e w' ⟨rfl, rfl⟩)
      go_ret2
      go_light
      exact ⟨rfl, by (repeat' (first | (with_reducible exact Below.refl _ _) | (with_reducible assumption) | (with_reducible refine Below.trans ?_ (Below.mono (by with_reducible assumption) ?_)) | (with_reducible refine Below.alloc ?_ ?_ _) | (with_reducible refine Below.setCell ?_ ?_ _) | (with_reducible refine below_drewN ?_ _) | (with_reducible refine Below.drew ?_) | go_size))⟩
  · rcases hm with hm | hm
    · have a2 : (m != 3) = false := by simp [hm]
      clear hm
      have a0 : decide (l < 0) = false := by simp; omega
      have a1 : decide (3 < l) = false := by simp; omega
      have a4 : decide (s < 0) = false := by simp; omega
      have a5 : decide (255 < s) = false := by simp; omega
      go_enter Tryz.func19, Tryz.ntmps19
      go_wp2_with (go_at_call 45; refine (ref6_word _ _).mono ?_; rintro e w' ⟨rfl, rfl⟩)
      go_ret2
      go_light
      exact ⟨rfl, by (repeat' (first | (with_reducible exact Below.refl _ _) | (with_reducible assumption) | (with_reducible refine Below.trans ?_ (Below.mono (by with_reducible assumption) ?_)) | (with_reducible refine Below.alloc ?_ ?_ _) | (with_reducible refine Below.setCell ?_ ?_ _) | (with_reducible refine below_drewN ?_ _) | (with_reducible refine Below.drew ?_) | go_size))⟩
    · have a2 : (m != 3) = true := by simp [hm]
      have a3 : (m != 4) = false := by simp [hm]
      clear hm
      have a0 : decide (l < 0) = false := by simp; omega
      have a1 : decide (3 < l) = false := by simp; omega
      have a4 : decide (s < 0) = false := by simp; omega
      have a5 : decide (255 < s) = false := by simp; omega
      go_enter Tryz.func19, Tryz.ntmps19
      go_wp2_with (go_at_call 45; refine (ref6_word _ _).mono ?_; rintro e w' ⟨rfl, rfl⟩)
      go_ret2
      go_light
      exact ⟨rfl, by (repeat' (first | (with_reducible exact Below.refl _ _) | (with_reducible assumption) | (with_reducible refine Below.trans ?_ (Below.mono (by with_reducible assumption) ?_)) | (with_reducible refine Below.alloc ?_ ?_ _) | (with_reducible refine Below.setCell ?_ ?_ _) | (with_reducible refine below_drewN ?_ _) | (with_reducible refine Below.drew ?_) | go_size))⟩
  · rcases hm with hm | hm
    · have a2 : (m != 3) = false := by simp [hm]
      clear hm
      have a0 : decide (l < 0) = false := by simp; omega
      have a1 : decide (3 < l) = false := by simp; omega
      have a4 : decide (s < 0) = false := by simp; omega
      have a5 : decide (255 < s) = false := by simp; omega
      go_enter Tryz.func19, Tryz.ntmps19
      go_wp2_with (go_at_call 45; refine (ref6_word _ _).mono ?_; rintro e w' ⟨rfl, rfl⟩)
      go_ret2
      go_light
      exact ⟨rfl, by (repeat' (first | (with_reducible exact Below.refl _ _) | (with_reducible assumption) | (with_reducible refine Below.trans ?_ (Below.mono (by with_reducible assumption) ?_)) | (with_reducible refine Below.alloc ?_ ?_ _) | (with_reducible refine Below.setCell ?_ ?_ _) | (with_reducible refine below_drewN ?_ _) | (with_reducible refine Below.drew ?_) | go_size))⟩
    · have a2 : (m != 3) = true := by simp [hm]
      have a3 : (m != 4) = false := by simp [hm]
      clear hm
      have a0 : decide (l < 0) = false := by simp; omega
      have a1 : decide (3 < l) = false := by simp; omega
      have a4 : decide (s < 0) = false := by simp; omega
      have a5 : decide (255 < s) = false := by simp; omega
      go_enter Tryz.func19, Tryz.ntmps19
      go_wp2_with (go_at_call 45; refine (ref6_word _ _).mono ?_; rintro e w' ⟨rfl, rfl⟩)
      go_ret2
      go_light
      exact ⟨rfl, by (repeat' (first | (with_reducible exact Below.refl _ _) | (with_reducible assumption) | (with_reducible refine Below.trans ?_ (Below.mono (by with_reducible assumption) ?_)) | (with_reducible refine Below.alloc ?_ ?_ _) | (with_reducible refine Below.setCell ?_ ?_ _) | (with_reducible refine below_drewN ?_ _) | (with_reducible refine Below.drew ?_) | go_size))⟩
/-- The bytes are the same. -/
theorem refF (l m s d r o v t : Int) (j : Nat) (hj : j < 48) : layF (layF (layF (fun j => if j < 12 then layF (layF (upd8 (upd8 (fun _ => 0) 0 (l * 64 + 32 + m)) 1 s) 4 4 d) 8 4 r j else 0) 24 8 o) 32 8 v) 40 8 t j = encF l m s d r o v t j := by
  unfold encF
  have e : ∀ j, (if j < 12 then layF (layF (upd8 (upd8 (fun _ => 0) 0 (l * 64 + 32 + m)) 1 s) 4 4 d) 8 4 r j else 0) = layF (layF (upd8 (upd8 (fun _ => 0) 0 (l * 64 + 32 + m)) 1 s) 4 4 d) 8 4 r j := fun j => by
    split
    · rfl
    · unfold layF upd8
      rw [if_neg (by omega), if_neg (by omega), if_neg (by omega), if_neg (by omega)]
  rw [show (fun j => if j < 12 then layF (layF (upd8 (upd8 (fun _ => 0) 0 (l * 64 + 32 + m)) 1 s) 4 4 d) 8 4 r j else 0) = layF (layF (upd8 (upd8 (fun _ => 0) 0 (l * 64 + 32 + m)) 1 s) 4 4 d) 8 4 r from funext e]
set_option maxRecDepth 100000 in
set_option maxHeartbeats 4000000 in
theorem ref6_enc_yes (l m s d r o v t : Int) (w : World) (h : isP l m s d r = true) (o0 : 0 ≤ o) (o1 : o < 18446744073709551616) (v0 : 0 ≤ v) (v1 : v < 18446744073709551616) (t0 : 0 ≤ t) (t1 : t < 18446744073709551616) :
    Calls Tryz.prog 19 #[pkV l m s d r o v t] w fun e w' => ∃ u, e = .returned (.tuple #[u, .int .i64 0]) ∧ BOwn (w.heap.size + 1) w' u 48 (encF l m s d r o v t) ∧ Below w.heap.size w w' := by
  have hh := h
  unfold isP at hh
  simp only [Bool.and_eq_true] at hh
  obtain ⟨h1, h2, h3, h4, h5⟩ := hh
  have b1 := inN_bd h1
  have b2 := inN_bd h2
  have b3 := inN_bd h3
  have b4 := inN_bd h4
  have b5 := inN_bd h5
  clear h h1 h2 h3
  have a0 : decide (l < 0) = false := by simp; omega
  have a1 : decide (3 < l) = false := by simp; omega
  have a4 : decide (s < 0) = false := by simp; omega
  have a5 : decide (255 < s) = false := by simp; omega
  have hw0 : IntKind.u8.wrap (l * 64 + 32 + m) = l * 64 + 32 + m := by rw [u8_wrap]; omega
  have hs8 : IntKind.u8.wrap s = s := by rw [u8_wrap]; omega
  have hd8 : IntKind.u64.wrap d = d := by simp [IntKind.wrap, IntKind.bits, IntKind.signed]; omega
  have hr8 : IntKind.u64.wrap r = r := by simp [IntKind.wrap, IntKind.bits, IntKind.signed]; omega
  have X0 := Lib.hid ((Box8.newR w l m s d r o v t).alloc (.cells #[.int .u8 (l * 64 + 32 + m), .int .u8 s, .int .u8 0, .int .u8 0] 5))
  have HB0 : Hid (Below (w.heap.size + 1) (w.alloc (pkR l m s d r o v t)) ((w.alloc (pkR l m s d r o v t)).alloc (.cells #[.int .u8 (l * 64 + 32 + m), .int .u8 s, .int .u8 0, .int .u8 0] 5))) := Lib.hid ((Below.refl _ _).alloc (by simp) _)
  have O0 : Hid (BOwn (w.heap.size + 1) ((w.alloc (pkR l m s d r o v t)).alloc (.cells #[.int .u8 (l * 64 + 32 + m), .int .u8 s, .int .u8 0, .int .u8 0] 5)) (.slice (some ⟨w.heap.size + 1, 0, none⟩) 4 4) 4 (upd8 (upd8 (fun _ => 0) 0 (l * 64 + 32 + m)) 1 s)) := Lib.hid (by
    have := World.ownsRow_lit (e := 5) (size := 1) (base := w.heap.size + 1) (w.alloc (pkR l m s d r o v t)) #[.int .u8 (l * 64 + 32 + m), .int .u8 s, .int .u8 0, .int .u8 0] 4 (by simp) (by unfold maxLen; omega) rfl
    rw [World.size_alloc] at this
    exact this)
  have HR := Lib.hid (refF l m s d r o v t)
  have HW : Hid (Below w.heap.size w (w.alloc (pkR l m s d r o v t))) := Lib.hid (by (repeat' (first | (with_reducible exact Below.refl _ _) | (with_reducible assumption) | (with_reducible refine Below.trans ?_ (Below.mono (by with_reducible assumption) ?_)) | (with_reducible refine Below.alloc ?_ ?_ _) | (with_reducible refine Below.setCell ?_ ?_ _) | (with_reducible refine below_drewN ?_ _) | (with_reducible refine Below.drew ?_) | go_size)))
  rcases (show m = 3 ∨ m = 4 from by omega) with hm | hm
  · have a2 : (m != 3) = false := by simp [hm]
    clear hm
    go_enter Tryz.func19, Tryz.ntmps19
    go_wp2_with ((go_at_call 45; refine (ref6_word _ _).mono ?_; rintro e w' ⟨rfl, rfl⟩))
    clear hw0 hs8 a0 a1 a4 a5
    generalize hW0 : (w.alloc (pkR l m s d r o v t)).alloc (.cells #[.int .u8 (l * 64 + 32 + m), .int .u8 s, .int .u8 0, .int .u8 0] 5) = W0 at *
    clear hW0
    have hbs : w.heap.size < W0.heap.size := X0.out.lt
    have c3 := X0.out.c3
    (try go_wp2_with fail)
    refine (ref6_lay (w.heap.size + 1) 4 4 _ d _ W0 O0.out (by omega) (by omega) (by omega) (by omega) (by omega)).mono ?_; rintro e W1 ⟨v1, rfl, O1, hb1⟩
    have X1 := X0.out.below hb1 (by omega)
    have HB1 := HB0.out.trans hb1
    have hbs1 : w.heap.size < W1.heap.size := X1.lt
    clear hb1 c3
    have c4 := X1.c4
    (try go_wp2_with fail)
    refine (ref6_lay (w.heap.size + 1) 8 4 _ r _ W1 O1 (by omega) (by omega) (by omega) (by omega) (by omega)).mono ?_; rintro e W2 ⟨v2, rfl, O2, hb2⟩
    have X2 := X1.below hb2 (by omega)
    have HB2 := HB1.trans hb2
    have hbs2 : w.heap.size < W2.heap.size := X2.lt
    clear hb2 c4
    obtain ⟨vz, W3, hz, OZ, hgz⟩ := run_append_zeros W2 (w.heap.size + 1) _ 12 12 _ 39 3 39 Tryz.underlying39 Tryz.underlying3 O2 (by omega) (by omega) (by omega) (by omega) (by omega)
    have XZ := X2.cells (fun j => World.cell?_of_block (a := ⟨w.heap.size, j, none⟩) (hgz.block w.heap.size X2.lt (fun e => by have := (World.ownsRow.lt O2 _ e.symm).1; omega))) hgz.size
    have HBZ := HB2.grown hgz (by omega) (fun j hj => (World.ownsRow.lt O2 j hj).1)
    have hbsz : w.heap.size < W3.heap.size := XZ.lt
    have hz' : (Builtin.append_ #[39, 3] 39 #[v2, .int .i64 12]).run Tryz.prog W2 = .ok vz W3 := hz
    have HZ := Lib.hid hz'
    have c5 := XZ.c5
    clear hz hgz hz'
    go_wp2_with (at_builtin; refine wpList_append_zeros _ _ rfl (.tmp 67) (.const (.int .i64 12)) _ _ rfl rfl rfl HZ.out ?_)
    clear HZ
    have c5 := XZ.c5
    (try go_wp2_with fail)
    refine (ref6_lay (w.heap.size + 1) 24 8 _ o _ W3 OZ (by omega) (by omega) (by omega) (by omega) (by omega)).mono ?_; rintro e W4 ⟨v4, rfl, O4, hb4⟩
    have X4 := XZ.below hb4 (by omega)
    have HB4 := HBZ.trans hb4
    have hbs4 : w.heap.size < W4.heap.size := X4.lt
    clear hb4 c5
    have c6 := X4.c6
    (try go_wp2_with fail)
    refine (ref6_lay (w.heap.size + 1) 32 8 _ v _ W4 O4 (by omega) (by omega) (by omega) (by omega) (by omega)).mono ?_; rintro e W5 ⟨v5, rfl, O5, hb5⟩
    have X5 := X4.below hb5 (by omega)
    have HB5 := HB4.trans hb5
    have hbs5 : w.heap.size < W5.heap.size := X5.lt
    clear hb5 c6
    have c7 := X5.c7
    (try go_wp2_with fail)
    refine (ref6_lay (w.heap.size + 1) 40 8 _ t _ W5 O5 (by omega) (by omega) (by omega) (by omega) (by omega)).mono ?_; rintro e W6 ⟨v6, rfl, O6, hb6⟩
    have X6 := X5.below hb6 (by omega)
    have HB6 := HB5.trans hb6
    have hbs6 : w.heap.size < W6.heap.size := X6.lt
    clear hb6 c7
    have OF := Lib.hid (O6.congr (fun j hj => HR.out j hj))
    have HF := Lib.hid (HW.out.trans (HB6.mono (by omega)))
    go_wp2
    go_ret2
    exact ⟨v6, rfl, OF.out, HF.out⟩
  · have a2 : (m != 3) = true := by simp [hm]
    have a3 : (m != 4) = false := by simp [hm]
    clear hm
    go_enter Tryz.func19, Tryz.ntmps19
    go_wp2_with ((go_at_call 45; refine (ref6_word _ _).mono ?_; rintro e w' ⟨rfl, rfl⟩))
    clear hw0 hs8 a0 a1 a4 a5
    generalize hW0 : (w.alloc (pkR l m s d r o v t)).alloc (.cells #[.int .u8 (l * 64 + 32 + m), .int .u8 s, .int .u8 0, .int .u8 0] 5) = W0 at *
    clear hW0
    have hbs : w.heap.size < W0.heap.size := X0.out.lt
    have c3 := X0.out.c3
    (try go_wp2_with fail)
    refine (ref6_lay (w.heap.size + 1) 4 4 _ d _ W0 O0.out (by omega) (by omega) (by omega) (by omega) (by omega)).mono ?_; rintro e W1 ⟨v1, rfl, O1, hb1⟩
    have X1 := X0.out.below hb1 (by omega)
    have HB1 := HB0.out.trans hb1
    have hbs1 : w.heap.size < W1.heap.size := X1.lt
    clear hb1 c3
    have c4 := X1.c4
    (try go_wp2_with fail)
    refine (ref6_lay (w.heap.size + 1) 8 4 _ r _ W1 O1 (by omega) (by omega) (by omega) (by omega) (by omega)).mono ?_; rintro e W2 ⟨v2, rfl, O2, hb2⟩
    have X2 := X1.below hb2 (by omega)
    have HB2 := HB1.trans hb2
    have hbs2 : w.heap.size < W2.heap.size := X2.lt
    clear hb2 c4
    obtain ⟨vz, W3, hz, OZ, hgz⟩ := run_append_zeros W2 (w.heap.size + 1) _ 12 12 _ 39 3 39 Tryz.underlying39 Tryz.underlying3 O2 (by omega) (by omega) (by omega) (by omega) (by omega)
    have XZ := X2.cells (fun j => World.cell?_of_block (a := ⟨w.heap.size, j, none⟩) (hgz.block w.heap.size X2.lt (fun e => by have := (World.ownsRow.lt O2 _ e.symm).1; omega))) hgz.size
    have HBZ := HB2.grown hgz (by omega) (fun j hj => (World.ownsRow.lt O2 j hj).1)
    have hbsz : w.heap.size < W3.heap.size := XZ.lt
    have hz' : (Builtin.append_ #[39, 3] 39 #[v2, .int .i64 12]).run Tryz.prog W2 = .ok vz W3 := hz
    have HZ := Lib.hid hz'
    have c5 := XZ.c5
    clear hz hgz hz'
    go_wp2_with (at_builtin; refine wpList_append_zeros _ _ rfl (.tmp 67) (.const (.int .i64 12)) _ _ rfl rfl rfl HZ.out ?_)
    clear HZ
    have c5 := XZ.c5
    (try go_wp2_with fail)
    refine (ref6_lay (w.heap.size + 1) 24 8 _ o _ W3 OZ (by omega) (by omega) (by omega) (by omega) (by omega)).mono ?_; rintro e W4 ⟨v4, rfl, O4, hb4⟩
    have X4 := XZ.below hb4 (by omega)
    have HB4 := HBZ.trans hb4
    have hbs4 : w.heap.size < W4.heap.size := X4.lt
    clear hb4 c5
    have c6 := X4.c6
    (try go_wp2_with fail)
    refine (ref6_lay (w.heap.size + 1) 32 8 _ v _ W4 O4 (by omega) (by omega) (by omega) (by omega) (by omega)).mono ?_; rintro e W5 ⟨v5, rfl, O5, hb5⟩
    have X5 := X4.below hb5 (by omega)
    have HB5 := HB4.trans hb5
    have hbs5 : w.heap.size < W5.heap.size := X5.lt
    clear hb5 c6
    have c7 := X5.c7
    (try go_wp2_with fail)
    refine (ref6_lay (w.heap.size + 1) 40 8 _ t _ W5 O5 (by omega) (by omega) (by omega) (by omega) (by omega)).mono ?_; rintro e W6 ⟨v6, rfl, O6, hb6⟩
    have X6 := X5.below hb6 (by omega)
    have HB6 := HB5.trans hb6
    have hbs6 : w.heap.size < W6.heap.size := X6.lt
    clear hb6 c7
    have OF := Lib.hid (O6.congr (fun j hj => HR.out j hj))
    have HF := Lib.hid (HW.out.trans (HB6.mono (by omega)))
    go_wp2
    go_ret2
    exact ⟨v6, rfl, OF.out, HF.out⟩
end Go.Proofs.YtepdnkpmkhjlgaaGreat
