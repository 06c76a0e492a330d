/- Four bytes of a number and back, of the code and of the reference. -/
import Derived.Test.YtdffldlcbihjmaaDoorFrM
import Derived.Test.YtdffldlcbihjmaaDoorSum
import Derived.Test.YtdffldlcbihjmaaDoorOctJoin
import Derived.BigQuiet
import Derived.Laws.OwnMore
set_option linter.unusedSimpArgs false
set_option linter.unusedVariables false
namespace Go.Proofs.YtdffldlcbihjmaaDoor
open Go.RowKit Go.Sort

theorem u8mod (n : Nat) : IntKind.u8.wrap (n : Int) = ((n % 256 : Nat) : Int) := by
  have : IntKind.u8.wrap (n : Int) = (n : Int) % 256 := by simp [IntKind.wrap, IntKind.bits, IntKind.signed]
  rw [this]; omega
theorem or_add (a b k : Nat) (ha : a < 2 ^ k) (hs : a + b * 2 ^ k < 4294967296) : bits .or .u32 (a : Int) ((b * 2 ^ k : Nat) : Int) = ((a + b * 2 ^ k : Nat) : Int) := by
  show IntKind.u32.wrap ((BitVec.ofInt 32 (a : Int) ||| BitVec.ofInt 32 ((b * 2 ^ k : Nat) : Int)).toNat : Int) = _
  have e1 : (BitVec.ofInt 32 (a : Int)).toNat = a := by rw [BitVec.ofInt_natCast, BitVec.toNat_ofNat]; exact Nat.mod_eq_of_lt (by omega)
  have e2 : (BitVec.ofInt 32 ((b * 2 ^ k : Nat) : Int)).toNat = b * 2 ^ k := by rw [BitVec.ofInt_natCast, BitVec.toNat_ofNat]; exact Nat.mod_eq_of_lt (by omega)
  have e3 : a ||| b * 2 ^ k = a + b * 2 ^ k := by
    have := Nat.two_pow_add_eq_or_of_lt (i := k) (b := a) ha b
    rw [Nat.or_comm, Nat.mul_comm b, ← this, Nat.add_comm]
  rw [BitVec.toNat_or, e1, e2, e3, IntWalk.u32_in _ (by omega)]
set_option maxRecDepth 100000 in
set_option maxHeartbeats 4000000 in
theorem fr_lay (base : Nat) (v : Value) (l : List Int) (n : Nat) (w : World) (hrow : w.ownsRow base 5 1 v l.length (bC l)) (hbw : base ≤ w.heap.size) (hn : n < 4294967296) (hl : l.length ≤ 1000000) :
    Calls Tryd.prog 82 #[v, .int .u32 (n : Int)] w fun e w' => ∃ g cap, e = .returned (.slice (some ⟨g, 0, none⟩) (l.length + 4) cap) ∧ w'.ownsRow base 5 1 (.slice (some ⟨g, 0, none⟩) (l.length + 4) cap) (l.length + 4) (bC (l ++ enc4 n)) ∧ Below base w w' := by
  obtain ⟨i0, hi0, hz0, hz1, hz2⟩ := info_parts u8_info
  obtain ⟨A, c, rfl, _⟩ := Own8.bytes hrow
  have t0 := u8mod n
  have q1 : (n : Int) / 256 = ((n / 256 : Nat) : Int) := rfl
  have q2 : (n : Int) / 65536 = ((n / 65536 : Nat) : Int) := rfl
  have q3 : (n : Int) / 16777216 = ((n / 16777216 : Nat) : Int) := rfl
  have t1 := u8mod (n / 256)
  have t2 := u8mod (n / 65536)
  have t3 := u8mod (n / 16777216)
  rw [← q1] at t1
  rw [← q2] at t2
  rw [← q3] at t3
  have HE : Hid (bC (l ++ enc4 n) = bC l ++ [.int .u8 ((n % 256 : Nat) : Int), .int .u8 ((n / 256 % 256 : Nat) : Int), .int .u8 ((n / 65536 % 256 : Nat) : Int), .int .u8 ((n / 16777216 % 256 : Nat) : Int)]) := Lib.hid (by rw [bC_append]; rfl)
  have hni : (n : Int) < 4294967296 := by omega
  clear q1 q2 q3
  generalize ((n % 256 : Nat) : Int) = y0 at *
  generalize ((n / 256 % 256 : Nat) : Int) = y1 at *
  generalize ((n / 65536 % 256 : Nat) : Int) = y2 at *
  generalize ((n / 16777216 % 256 : Nat) : Int) = y3 at *
  go_enter Tryd.func82, Tryd.ntmps82
  go_wp2_with (at_builtin; refine wpList_append_lies _ rfl (.tmp 5) (.tmp 17) _ rfl base 5 i0 _ 1 1 Tryd.underlying28 hi0 hz0 hz1 hz2 rfl (by decide) (.slice A l.length c) l.length (bC l) rfl (World.ownsRow.alloc hrow _) ⟨w.heap.size, 0, none⟩ 4 4 [.int .u8 y0, .int .u8 y1, .int .u8 y2, .int .u8 y3] rfl rfl (World.news_of_block (cs := #[.int .u8 y0, .int .u8 y1, .int .u8 y2, .int .u8 y3]) (t := 5) (fr := (0, 0)) (heap_alloc_new w _)) (by simp [Value.oneCell']) (by omega) (by unfold maxLen; omega) (by omega) (by simp; omega) _ rfl ?_; intro g2 cap2 w2 hown2 hg2 hat2 hlt2)
  go_ret
  refine ⟨g2, cap2, rfl, by rw [HE.out]; exact hown2, ?_⟩
  have hb1 : Below base w (w.alloc (.cells #[.int .u8 y0, .int .u8 y1, .int .u8 y2, .int .u8 y3] 5)) := (Below.refl base w).alloc hbw _
  exact hb1.grown hg2 (by simp; omega) (fun k hk => (World.ownsRow.lt hrow k hk).1)
set_option maxRecDepth 100000 in
theorem ref_four (n : Nat) (w : World) (hn : n < 4294967296) :
    Calls Tryd.prog 90 #[.int .u32 (n : Int)] w fun e w' => e = .returned (.slice (some ⟨w.heap.size, 0, none⟩) 4 4) ∧ Own8 w.heap.size w' (.slice (some ⟨w.heap.size, 0, none⟩) 4 4) (enc4 n) ∧ Below w.heap.size w w' := by
  have t0 := u8mod n
  have q1 : (n : Int) / 256 = ((n / 256 : Nat) : Int) := rfl
  have q2 : (n : Int) / 65536 = ((n / 65536 : Nat) : Int) := rfl
  have q3 : (n : Int) / 16777216 = ((n / 16777216 : Nat) : Int) := rfl
  have t1 := u8mod (n / 256)
  have t2 := u8mod (n / 65536)
  have t3 := u8mod (n / 16777216)
  rw [← q1] at t1
  rw [← q2] at t2
  rw [← q3] at t3
  have HO : Hid (Own8 w.heap.size (w.alloc (.cells #[.int .u8 ((n % 256 : Nat) : Int), .int .u8 ((n / 256 % 256 : Nat) : Int), .int .u8 ((n / 65536 % 256 : Nat) : Int), .int .u8 ((n / 16777216 % 256 : Nat) : Int)] 5)) (.slice (some ⟨w.heap.size, 0, none⟩) 4 4) (enc4 n)) := Lib.hid (World.ownsRow_lit (base := w.heap.size) (e := 5) (size := 1) w #[.int .u8 ((n % 256 : Nat) : Int), .int .u8 ((n / 256 % 256 : Nat) : Int), .int .u8 ((n / 65536 % 256 : Nat) : Int), .int .u8 ((n / 16777216 % 256 : Nat) : Int)] 4 (Nat.le_refl _) (by unfold maxLen; omega) rfl)
  have hni : (n : Int) < 4294967296 := by omega
  clear q1 q2 q3
  generalize ((n % 256 : Nat) : Int) = y0 at *
  generalize ((n / 256 % 256 : Nat) : Int) = y1 at *
  generalize ((n / 65536 % 256 : Nat) : Int) = y2 at *
  generalize ((n / 16777216 % 256 : Nat) : Int) = y3 at *
  go_enter Tryd.func90, Tryd.ntmps90
  go_wp2
  go_ret
  exact ⟨rfl, HO.out, by (repeat' (first | (with_reducible exact Below.refl _ _) | (with_reducible assumption) | (with_reducible refine Below.trans ?_ (Below.mono (by with_reducible assumption) ?_)) | (with_reducible refine Below.alloc ?_ ?_ _) | (with_reducible refine Below.setCell ?_ ?_ _) | (with_reducible refine below_drewN ?_ _) | (with_reducible refine Below.drew ?_) | go_size))⟩
/-- What four bytes tell. -/
theorem dec4_steps {l : List Int} (hb : isBy l) (h : 4 ≤ l.length) : ∃ b0 b1 b2 b3 : Nat, b0 ≤ 255 ∧ b1 ≤ 255 ∧ b2 ≤ 255 ∧ b3 ≤ 255 ∧ l[0]'(by omega) = (b0 : Int) ∧ l[1]'(by omega) = (b1 : Int) ∧ l[2]'(by omega) = (b2 : Int) ∧ l[3]'(by omega) = (b3 : Int) ∧ dec4 l = b0 + b1 * 256 + b2 * 65536 + b3 * 16777216 := by
  match l, h with
  | a :: b :: c :: d :: r, _ =>
    have h0 := hb a (by simp)
    have h1 := hb b (by simp)
    have h2 := hb c (by simp)
    have h3 := hb d (by simp)
    exact ⟨a.toNat, b.toNat, c.toNat, d.toNat, by omega, by omega, by omega, by omega, by simp; omega, by simp; omega, by simp; omega, by simp; omega, by simp [dec4]⟩
set_option maxRecDepth 100000 in
set_option maxHeartbeats 4000000 in
theorem fr_take (A : Option Addr) (l : List Int) (c : Nat) (w : World) (hby : ByL w A l) (hb : isBy l) (h4 : 4 ≤ l.length) :
    Calls Tryd.prog 105 #[.slice A l.length c] w fun e w' => e = .returned (.int .u32 (dec4 l : Nat)) ∧ ∃ q, w' = w.drewN q := by
  obtain ⟨B, O, rfl, hB, hc⟩ := hby (by omega)
  obtain ⟨b0, b1, b2, b3, l0, l1, l2, l3, e0, e1, e2, e3, hd⟩ := dec4_steps hb h4
  have x0 := hc 0 _ (bC_at l 0 (by omega))
  have x1 := hc 1 _ (bC_at l 1 (by omega))
  have x2 := hc 2 _ (bC_at l 2 (by omega))
  have x3 := hc 3 _ (bC_at l 3 (by omega))
  rw [e0] at x0
  rw [e1] at x1
  rw [e2] at x2
  rw [e3] at x3
  rw [hd]
  have h4i : (4 : Int) ≤ (l.length : Int) := by omega
  have g0 : (0 : Int) < (l.length : Int) := by omega
  have g1 : (1 : Int) < (l.length : Int) := by omega
  have g2 : (2 : Int) < (l.length : Int) := by omega
  have g3 : (3 : Int) < (l.length : Int) := by omega
  clear hc e0 e1 e2 e3 hd hby hb h4
  rw [Nat.add_zero] at x0
  have w0 : IntKind.u32.wrap (b0 : Int) = (b0 : Int) := IntWalk.u32_in _ (by omega)
  have w1 : IntKind.u32.wrap (b1 : Int) = (b1 : Int) := IntWalk.u32_in _ (by omega)
  have w2 : IntKind.u32.wrap (b2 : Int) = (b2 : Int) := IntWalk.u32_in _ (by omega)
  have w3 : IntKind.u32.wrap (b3 : Int) = (b3 : Int) := IntWalk.u32_in _ (by omega)
  have s1 : IntKind.u32.wrap ((b1 : Int) * 256) = ((b1 * 256 : Nat) : Int) := by rw [IntWalk.u32_in _ (by omega)]; omega
  have s2 : IntKind.u32.wrap ((b2 : Int) * 65536) = ((b2 * 65536 : Nat) : Int) := by rw [IntWalk.u32_in _ (by omega)]; omega
  have s3 : IntKind.u32.wrap ((b3 : Int) * 16777216) = ((b3 * 16777216 : Nat) : Int) := by rw [IntWalk.u32_in _ (by omega)]; omega
  have o1 := or_add b0 b1 8 (by omega) (by omega)
  have o2 := or_add (b0 + b1 * 2 ^ 8) b2 16 (by omega) (by omega)
  have o3 := or_add (b0 + b1 * 2 ^ 8 + b2 * 2 ^ 16) b3 24 (by omega) (by omega)
  have p8 : (2 : Nat) ^ 8 = 256 := by decide
  have p16 : (2 : Nat) ^ 16 = 65536 := by decide
  have p24 : (2 : Nat) ^ 24 = 16777216 := by decide
  rw [p8] at o1 o2 o3
  rw [p16] at o2 o3
  rw [p24] at o3
  clear p8 p16 p24
  obtain ⟨c1, hc1⟩ : ∃ c, b1 * 256 = c := ⟨_, rfl⟩
  obtain ⟨c2, hc2⟩ : ∃ c, b2 * 65536 = c := ⟨_, rfl⟩
  obtain ⟨c3, hc3⟩ : ∃ c, b3 * 16777216 = c := ⟨_, rfl⟩
  rw [hc1] at s1 o1 o2 o3 ⊢
  rw [hc2] at s2 o2 o3 ⊢
  rw [hc3] at s3 o3 ⊢
  obtain ⟨d1, hd1⟩ : ∃ c, b0 + c1 = c := ⟨_, rfl⟩
  rw [hd1] at o1 o2 o3 ⊢
  obtain ⟨d2, hd2⟩ : ∃ c, d1 + c2 = c := ⟨_, rfl⟩
  rw [hd2] at o2 o3 ⊢
  obtain ⟨d3, hd3⟩ : ∃ c, d2 + c3 = c := ⟨_, rfl⟩
  rw [hd3] at o3 ⊢
  clear hc1 hc2 hc3 hd1 hd2 hd3
  go_enter Tryd.func105, Tryd.ntmps105
  go_wp2
  go_quiet (fail)
  go_wp2
  go_ret
  exact ⟨rfl, _, rfl⟩
set_option maxRecDepth 100000 in
set_option maxHeartbeats 4000000 in
theorem ref_fromfour (A : Option Addr) (l : List Int) (c : Nat) (w : World) (hby : ByL w A l) (hb : isBy l) (h4 : 4 ≤ l.length) :
    Calls Tryd.prog 98 #[.slice A l.length c] w fun e w' => e = .returned (.int .u32 (dec4 l : Nat)) ∧ ∃ q, w' = w.drewN q := by
  obtain ⟨B, O, rfl, hB, hc⟩ := hby (by omega)
  obtain ⟨b0, b1, b2, b3, l0, l1, l2, l3, e0, e1, e2, e3, hd⟩ := dec4_steps hb h4
  have x0 := hc 0 _ (bC_at l 0 (by omega))
  have x1 := hc 1 _ (bC_at l 1 (by omega))
  have x2 := hc 2 _ (bC_at l 2 (by omega))
  have x3 := hc 3 _ (bC_at l 3 (by omega))
  rw [e0] at x0
  rw [e1] at x1
  rw [e2] at x2
  rw [e3] at x3
  rw [hd]
  have h4i : (4 : Int) ≤ (l.length : Int) := by omega
  have g0 : (0 : Int) < (l.length : Int) := by omega
  have g1 : (1 : Int) < (l.length : Int) := by omega
  have g2 : (2 : Int) < (l.length : Int) := by omega
  have g3 : (3 : Int) < (l.length : Int) := by omega
  clear hc e0 e1 e2 e3 hd hby hb h4
  rw [Nat.add_zero] at x0
  have w0 : IntKind.u32.wrap (b0 : Int) = (b0 : Int) := IntWalk.u32_in _ (by omega)
  have w1 : IntKind.u32.wrap (b1 : Int) = (b1 : Int) := IntWalk.u32_in _ (by omega)
  have w2 : IntKind.u32.wrap (b2 : Int) = (b2 : Int) := IntWalk.u32_in _ (by omega)
  have w3 : IntKind.u32.wrap (b3 : Int) = (b3 : Int) := IntWalk.u32_in _ (by omega)
  have s1 : IntKind.u32.wrap ((b1 : Int) * 256) = ((b1 * 256 : Nat) : Int) := by rw [IntWalk.u32_in _ (by omega)]; omega
  have s2 : IntKind.u32.wrap ((b2 : Int) * 65536) = ((b2 * 65536 : Nat) : Int) := by rw [IntWalk.u32_in _ (by omega)]; omega
  have s3 : IntKind.u32.wrap ((b3 : Int) * 16777216) = ((b3 * 16777216 : Nat) : Int) := by rw [IntWalk.u32_in _ (by omega)]; omega
  have o1 := or_add b0 b1 8 (by omega) (by omega)
  have o2 := or_add (b0 + b1 * 2 ^ 8) b2 16 (by omega) (by omega)
  have o3 := or_add (b0 + b1 * 2 ^ 8 + b2 * 2 ^ 16) b3 24 (by omega) (by omega)
  have p8 : (2 : Nat) ^ 8 = 256 := by decide
  have p16 : (2 : Nat) ^ 16 = 65536 := by decide
  have p24 : (2 : Nat) ^ 24 = 16777216 := by decide
  rw [p8] at o1 o2 o3
  rw [p16] at o2 o3
  rw [p24] at o3
  clear p8 p16 p24
  obtain ⟨c1, hc1⟩ : ∃ c, b1 * 256 = c := ⟨_, rfl⟩
  obtain ⟨c2, hc2⟩ : ∃ c, b2 * 65536 = c := ⟨_, rfl⟩
  obtain ⟨c3, hc3⟩ : ∃ c, b3 * 16777216 = c := ⟨_, rfl⟩
  rw [hc1] at s1 o1 o2 o3 ⊢
  rw [hc2] at s2 o2 o3 ⊢
  rw [hc3] at s3 o3 ⊢
  obtain ⟨d1, hd1⟩ : ∃ c, b0 + c1 = c := ⟨_, rfl⟩
  rw [hd1] at o1 o2 o3 ⊢
  obtain ⟨d2, hd2⟩ : ∃ c, d1 + c2 = c := ⟨_, rfl⟩
  rw [hd2] at o2 o3 ⊢
  obtain ⟨d3, hd3⟩ : ∃ c, d2 + c3 = c := ⟨_, rfl⟩
  rw [hd3] at o3 ⊢
  clear hc1 hc2 hc3 hd1 hd2 hd3
  go_enter Tryd.func98, Tryd.ntmps98
  go_wp2
  go_quiet (fail)
  go_wp2
  go_ret
  exact ⟨rfl, _, rfl⟩
end Go.Proofs.YtdffldlcbihjmaaDoor
