/- Stage 25: slices.Insert at the head of a row of values; causal.Newest of any writes. -/
import Derived.Test.YtdjhpajmbddffaaInV25
set_option linter.unusedSimpArgs false
set_option linter.unusedVariables false
namespace Go.Proofs.Ytdjhpajmbddffaa
open Go.RowKit

theorem own_rebase {w : World} {B B' n : Nat} {e : TypeId} {size : Nat} {v : Value} {xs : List Value} (h : w.ownsRow B e size v n xs) (hb : ∀ g, v.ownBlock = some g → B' ≤ g) : w.ownsRow B' e size v n xs := by
  refine ⟨h.1, ?_⟩
  rcases h.2 with hn | ⟨g, cap, cur, rfl, _, rest⟩
  · exact .inl hn
  · exact .inr ⟨g, cap, cur, rfl, hb g rfl, rest⟩
theorem Vw.ins {B : Nat} {w w' : World} {v v' : Value} {L : List Vq} {x : Vq} (h : Vw B w v L) (hx : ByL w x.A x.p) (hn : x.A = none → x.p.length = 0) (ha : ∀ ad, x.A = some ad → B ≤ ad.block ∧ ad.block < w.heap.size ∧ v.ownBlock ≠ some ad.block)
    (hbt : But (fun i => v.ownBlock = some i) w w') (hat : v'.ownBlock = v.ownBlock ∨ v'.ownBlock = some w.heap.size) (hr : w'.ownsRow B 33 1 v' (L.length + 1) ((x :: L).map Vq.cell)) : Vw B w' v' (x :: L) := by
  have hz := hbt.size
  have key : ∀ y : Vq, ByL w y.A y.p → (∀ ad, y.A = some ad → B ≤ ad.block ∧ ad.block < w.heap.size ∧ v.ownBlock ≠ some ad.block) → ByL w' y.A y.p ∧ ∀ ad, y.A = some ad → B ≤ ad.block ∧ ad.block < w'.heap.size ∧ v'.ownBlock ≠ some ad.block := by
    intro y hy hya
    refine ⟨hy.but hbt (fun _ ad ha => (hya ad ha).2.2), fun ad ha => ⟨(hya ad ha).1, Nat.lt_of_lt_of_le (hya ad ha).2.1 hz, fun e => ?_⟩⟩
    rcases hat with r | r
    · exact (hya ad ha).2.2 (by rw [← r, e])
    · rw [r] at e
      injection e with e
      have := (hya ad ha).2.1
      omega
  refine ⟨hr, fun y hy => ?_⟩
  rcases List.mem_cons.1 hy with q | q
  · rw [q]
    exact ⟨(key x hx ha).1, hn, (key x hx ha).2⟩
  · exact ⟨(key y (h.at_ y q).1 (h.at_ y q).2.2).1, (h.at_ y q).2.1, (key y (h.at_ y q).1 (h.at_ y q).2.2).2⟩
theorem ins_ok : InsOk := by
  intro B v Vl x b cap W h hl hB hb hvb hx hn ha
  have hr0 : W.ownsRow 0 33 1 v Vl.length (rowU Vl) := by rw [rowU_map]; exact own_rebase h.row (fun _ _ => Nat.zero_le _)
  have hone : One W b x := hb
  have hbB : ∀ g, v.ownBlock = some g → B ≤ g := fun g hg => (World.ownsRow.lt h.row g hg).1
  rcases Nat.eq_zero_or_pos Vl.length with h0 | h0
  · have hnil : Vl = [] := List.length_eq_zero_iff.1 h0
    subst hnil
    refine (ins_end v 0 b cap [] x W hr0 rfl (by omega) hone).mono ?_
    rintro e w' ⟨g, cap', rfl, hg, hat, ho⟩
    have hbt : But (fun i => v.ownBlock = some i) W w' := But.of_grown hg (fun i hi => hi)
    refine ⟨⟨_, rfl, h.ins hx hn ha hbt ?_ ?_⟩, hbt⟩
    · rcases hat with r | r
      · exact .inl r.symm
      · exact .inr (by rw [r]; rfl)
    · have := own_rebase (B' := B) ho (fun g' hg' => by
        have eg : g = g' := by simpa [Value.ownBlock] using hg'
        rcases hat with r | r
        · rw [← eg]; exact hbB g r
        · omega)
      rw [rowU_map] at this
      exact this
  · obtain ⟨g, c, rfl, hnc, hcm, hgl⟩ := row_shape h.row h0
    have hvg : b ≠ g := fun e => hvb (by rw [e]; rfl)
    have hgB := hbB g rfl
    by_cases hroom : Vl.length + 1 ≤ c
    · refine (ins_shift g c Vl.length 0 b cap Vl x W hr0 rfl h0 hroom hone hvg).mono ?_
      rintro e w' ⟨rfl, hO, ho⟩
      have hbt : But (fun i => (Value.slice (some ⟨g, 0, none⟩) Vl.length c).ownBlock = some i) W w' := But.of_only hO rfl
      refine ⟨⟨_, rfl, h.ins hx hn ha hbt (.inl rfl) ?_⟩, hbt⟩
      have := own_rebase (B' := B) ho (fun g' hg' => by
        have eg : g = g' := by simpa [Value.ownBlock] using hg'
        rw [← eg]
        exact hgB)
      rw [rowU_map] at this
      exact this
    · have hcn : c = Vl.length := by omega
      subst hcn
      refine (ins_grow g Vl.length 0 b cap Vl x W hr0 rfl (by omega) h0 hone).mono ?_
      rintro e w' ⟨cap', rfl, hO, ho⟩
      have hbt : But (fun i => (Value.slice (some ⟨g, 0, none⟩) Vl.length Vl.length).ownBlock = some i) W w' := But.of_below hO
      refine ⟨⟨_, rfl, h.ins hx hn ha hbt (.inr rfl) ?_⟩, hbt⟩
      have := own_rebase (B' := B) ho (fun g' hg' => by
        have eg : W.heap.size = g' := by simpa [Value.ownBlock] using hg'
        rw [← eg]
        exact hB)
      rw [rowU_map] at this
      exact this
/-- Of no writes nothing may be read. -/
theorem newest_nil (A : Option Addr) (c : Nat) (key : ByteArray) (tm tc : Int) (w : World) :
    Calls Try.prog 36 #[.slice A 0 c, .string key, .agg #[.int .i64 tm, .int .i64 tc]] w fun e w' => (∃ v Vl, e = .returned (.tuple #[v, .bool (newP [] key tm tc).2]) ∧ Vw w.heap.size w' v Vl ∧ Vl.map Vq.p = (newP [] key tm tc).1) ∧ Below w.heap.size w w' := by
  have k0 : Below w.heap.size w (w.alloc (.cells #[.int .i64 tm, .int .i64 tc] 32)) := (Below.refl _ _).alloc (Nat.le_refl _) _
  go_enter Try.func36, Try.ntmps36
  go_wp2_with fail
  refine wp_loop_rounds 1 ?_
  rw [rounds_succ]
  go_upto_region 16 with fail
  generalize w.alloc (.cells #[.int .i64 tm, .int .i64 tc] 32) = W0 at *
  refine wp_region_held_drew (S := fun _ => True) (by kernel_rfl) ?_ (fun hHeld => ?_)
  · trivial
  have kd : Below W0.heap.size W0 W0.drew := (Below.refl _ _).drew
  refine tk9 0 ?_
  refine tk9 1 ?_
  refine tk9 2 ?_
  refine tk9 (v := undef) 3 (hy := Or.inr ⟨by rfl, rfl⟩) ?_
  refine tk9 (v := undef) 4 (hy := Or.inr ⟨by rfl, rfl⟩) ?_
  refine tk9 (v := undef) 5 (hy := Or.inr ⟨by rfl, rfl⟩) ?_
  refine tk9 (v := undef) 6 (hy := Or.inr ⟨by rfl, rfl⟩) ?_
  refine tk9 (v := undef) 7 (hy := Or.inr ⟨by rfl, rfl⟩) ?_
  refine tk9 (v := undef) 8 (hy := Or.inr ⟨by rfl, rfl⟩) ?_
  refine tk9 (v := undef) 9 (hy := Or.inr ⟨by rfl, rfl⟩) ?_
  refine tk9 10 ?_
  refine wpAnyH_done (by kernel_rfl) ?_ _
  clear hHeld
  have HK := Lib.hid (k0.trans (kd.mono k0.size))
  clear k0 kd
  go_wp2_with fail
  refine bodyPost_ret (v := .tuple #[.slice none 0 0, .bool true]) (by simp [results, Try.results36, go_sem]) rfl ?_
  first
    | exact ⟨⟨_, [], rfl, Vw.nil _ _, rfl⟩, HK.out⟩
    | exact ⟨⟨_, rfl, [], Vw.nil _ _, rfl⟩, HK.out⟩
end Go.Proofs.Ytdjhpajmbddffaa
