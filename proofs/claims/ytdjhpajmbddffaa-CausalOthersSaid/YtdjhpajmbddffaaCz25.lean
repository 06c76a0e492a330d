/- Stage 25: events in memory; bytes.Clone; causal.Writes of events of which the first one alone may be a write (written by gen/cz25.py). -/
import Derived.Test.YtdjhpajmbddffaaMp25
import Derived.Test.YtdjhpajmbddffaaOctLow
import Derived.Test.YtdjhpajmbddffaaHlcCmp
import Derived.Test.YtdjhpajmbddffaaTk9
import Derived.Test.YtdjhpajmbddffaaStampArg
import Derived.Lib.SliceRun
import Derived.Deep.MidRow
import Derived.Deep.WholeRow
import Derived.Deep.CutBlock
import Derived.Deep.DeepCutAuto
set_option linter.unusedSimpArgs false
set_option linter.unusedVariables false
namespace Go.Proofs.Ytdjhpajmbddffaa
open Go.RowKit

/-- What a row of bytes of the call's own is. -/
theorem own8_shape {w : World} {base n : Nat} {v : Value} {p : List Int} (h : w.ownsRow base 5 1 v n (bC p)) :
    ∃ A c, v = .slice A n c ∧ p.length = n ∧ ByL w A p ∧ (A = none → n = 0) ∧ (∀ ad, A = some ad → base ≤ ad.block ∧ ad.block < w.heap.size) := by
  have hl : p.length = n := by have := h.1; rw [bC_len] at this; omega
  have hc0 := fun g hg => World.ownsRow.cells h (g := g) hg
  rcases h.2 with ⟨rfl, h0⟩ | ⟨g, cap, cur, rfl, hb', hh, _⟩
  · exact ⟨none, 0, by rw [h0], hl, fun hn => absurd hn (by omega), fun _ => h0, fun _ e => by cases e⟩
  · refine ⟨_, _, rfl, hl, fun hn => ⟨g, 0, rfl, (World.ownsRow.lt h g rfl).2, fun j u hj => ?_⟩, (fun e => by cases e), fun ad e => ?_⟩
    · have := hc0 g rfl j u hj
      rwa [at_add] at this
    · injection e with e
      subst e
      exact World.ownsRow.lt h g rfl
theorem own_far {w w' : World} {B : Nat} {e : TypeId} {size n : Nat} {v : Value} {xs : List Value} (h : w.ownsRow B e size v n xs) (k : But (fun i => i < B) w w') : w'.ownsRow B e size v n xs :=
  k.row h (fun i hi hb => by have := (World.ownsRow.lt h i hi).1; omega)
set_option maxRecDepth 100000 in
set_option maxHeartbeats 4000000 in
theorem bytes_clone (A : Option Addr) (p : List Int) (c : Nat) (w : World) (hp : ByL w A p) (hn : A = none → p.length = 0) (hl : p.length ≤ 100000) :
    Calls Try.prog 14 #[.slice A p.length c] w fun e w' => ∃ v, e = .returned v ∧ w'.ownsRow w.heap.size 5 1 v p.length (bC p) ∧ Below w.heap.size w w' := by
  obtain ⟨i0, hi0, hz0, hz1, hz2⟩ := info_parts u8_info
  have HW0 : Below w.heap.size w (w.alloc (.cells #[] 5)) := by (repeat' (first | (with_reducible exact Below.refl _ _) | (with_reducible assumption) | (with_reducible refine Below.trans ?_ (Below.mono (by with_reducible assumption) ?_)) | (with_reducible refine Below.alloc ?_ ?_ _) | (with_reducible refine Below.setCell ?_ ?_ _) | (with_reducible refine below_drewN ?_ _) | (with_reducible refine Below.drew ?_) | go_size))
  have hmade := World.ownsRow_made (base := w.heap.size) (e := 5) (size := 1) w #[] 0 (Nat.le_refl _) (Nat.zero_le _) rfl
  have hni : (p.length : Int) ≤ 100000 := by omega
  have q22 : ∀ (w : World) (a : Option Addr) (n c n' c' : Nat), (binOp .eql 33 (.slice a n c) (.slice none n' c')).run Try.prog w = .ok (.bool a.isNone) w := fun w a n c n' c' => Lib.run_eql_slice_nil w _ _ a n c n' c' Try.underlying33
  have HP := Lib.hid (hp.below HW0)
  clear hp
  cases A with
  | none =>
    have h0 := hn rfl
    have hp1 : p = [] := List.length_eq_zero_iff.1 h0
    subst hp1
    clear hn HP h0 hmade HW0
    go_enter Try.func14, Try.ntmps14
    go_wp2
    go_ret
    exact ⟨_, rfl, World.ownsRow_nil _ _ _ _, Below.refl _ _⟩
  | some ad =>
    clear hn
    by_cases hp0 : 0 < p.length
    · have hsrc := HP.out.cells
      go_enter Try.func14, Try.ntmps14
      go_wp2_with (at_builtin; refine wpList_append_lies _ rfl (.tmp 5) (.tmp 6) _ rfl w.heap.size 5 i0 _ 1 1 Try.underlying33 hi0 hz0 hz1 hz2 rfl (by decide) (.slice (some ⟨w.heap.size, 0, none⟩) 0 0) 0 [] rfl hmade ad p.length c (bC p) rfl (by rw [bC_len]; omega) hsrc (bC_one _) hp0 (by unfold maxLen; omega) (by omega) (by simp) _ rfl ?_; intro g1 cap1 w1 hown0 hg1 hat1 hlt1; have hown1 : w1.ownsRow w.heap.size 5 1 (.slice (some ⟨g1, 0, none⟩) p.length cap1) p.length (bC p) := (by simpa using hown0); clear hown0)
      have HB : Below w.heap.size w w1 := HW0.grown hg1 (by simp) (fun k hk => by simp [Value.ownBlock] at hk; omega)
      have HH := Lib.hid (And.intro hown1 HB)
      clear hown1 hg1 hat1 HB hsrc hmade
      (try go_wp2)
      go_ret
      first | exact ⟨_, rfl, HH.out.1, HH.out.2⟩ | (simp only [Nat.zero_add]; exact ⟨_, rfl, HH.out.1, HH.out.2⟩)
    · have hp1 : p = [] := List.length_eq_zero_iff.1 (by omega)
      subst hp1
      have hld := empty_loads.1
      have hst := empty_loads.2
      have HH := Lib.hid (And.intro hmade HW0)
      clear HP hmade HW0
      go_enter Try.func14, Try.ntmps14
      go_wp2
      go_ret
      exact ⟨_, rfl, HH.out.1, HH.out.2⟩
/-- An event. -/
structure Ev where
  who : Int
  kd : Int
  nd : Int
  n : Int
  m : Int
  by_ : Int
  sm : Int
  sc : Int
  key : ByteArray
  hi : ByteArray
  A : Option Addr
  vl : Nat
  vc : Nat
  er : Int
  an : Int
  tm : Int
  tc : Int
  fd : Bool
  B : Option Addr
  bl : Nat
  bc : Nat
  P : Option Addr
  pl : Nat
  pc : Nat
def Ev.cs (e : Ev) : List Value := [.int .i64 e.who, .int .i64 e.kd, .int .i64 e.nd, .int .i64 e.n, .int .i64 e.m, .int .u8 e.by_, .int .i64 e.sm, .int .i64 e.sc, .string e.key, .string e.hi, .slice e.A e.vl e.vc, .int .i64 e.er, .int .i64 e.an, .int .i64 e.tm, .int .i64 e.tc, .bool e.fd, .slice e.B e.bl e.bc, .slice e.P e.pl e.pc]
/-- Events in a row. -/
def RowE (w : World) (B O : Nat) (L : List Ev) : Prop := B < w.heap.size ∧ ∀ k e, L[k]? = some e → ∀ j u, e.cs[j]? = some u → w.cell? ⟨B, O + k * 18 + j, none⟩ = some u
theorem RowE.below {w w' : World} {B O : Nat} {L : List Ev} (h : RowE w B O L) (k : Below w.heap.size w w') : RowE w' B O L := ⟨Nat.lt_of_lt_of_le h.1 k.size, fun i e hi j u hu => (k.cell (p := ⟨B, O + i * 18 + j, none⟩) h.1).trans (h.2 i e hi j u hu)⟩
theorem RowE.but {w w' : World} {B O : Nat} {L : List Ev} {S : Nat → Prop} (h : RowE w B O L) (k : But S w w') (hn : ¬ S B) : RowE w' B O L := ⟨Nat.lt_of_lt_of_le h.1 k.size, fun i e hi j u hu => (k.cell B _ h.1 hn).trans (h.2 i e hi j u hu)⟩
theorem ev_at {w : World} {B O : Nat} {L : List Ev} (h : RowE w B O L) {k : Nat} {e : Ev} (hk : L[k]? = some e) :
    w.cell? ⟨B, O + k * 18, none⟩ = some (.int .i64 e.who) ∧ w.cell? ⟨B, O + k * 18 + 1, none⟩ = some (.int .i64 e.kd) ∧ w.cell? ⟨B, O + k * 18 + 2, none⟩ = some (.int .i64 e.nd) ∧ w.cell? ⟨B, O + k * 18 + 3, none⟩ = some (.int .i64 e.n) ∧ w.cell? ⟨B, O + k * 18 + 4, none⟩ = some (.int .i64 e.m) ∧ w.cell? ⟨B, O + k * 18 + 5, none⟩ = some (.int .u8 e.by_) ∧ w.cell? ⟨B, O + k * 18 + 6, none⟩ = some (.int .i64 e.sm) ∧ w.cell? ⟨B, O + k * 18 + 7, none⟩ = some (.int .i64 e.sc) ∧ w.cell? ⟨B, O + k * 18 + 8, none⟩ = some (.string e.key) ∧ w.cell? ⟨B, O + k * 18 + 9, none⟩ = some (.string e.hi) ∧ w.cell? ⟨B, O + k * 18 + 10, none⟩ = some (.slice e.A e.vl e.vc) ∧ w.cell? ⟨B, O + k * 18 + 11, none⟩ = some (.int .i64 e.er) ∧ w.cell? ⟨B, O + k * 18 + 12, none⟩ = some (.int .i64 e.an) ∧ w.cell? ⟨B, O + k * 18 + 13, none⟩ = some (.int .i64 e.tm) ∧ w.cell? ⟨B, O + k * 18 + 14, none⟩ = some (.int .i64 e.tc) ∧ w.cell? ⟨B, O + k * 18 + 15, none⟩ = some (.bool e.fd) ∧ w.cell? ⟨B, O + k * 18 + 16, none⟩ = some (.slice e.B e.bl e.bc) ∧ w.cell? ⟨B, O + k * 18 + 17, none⟩ = some (.slice e.P e.pl e.pc) := by
  have g := h.2 k e hk
  exact ⟨g 0 _ rfl, g 1 _ rfl, g 2 _ rfl, g 3 _ rfl, g 4 _ rfl, g 5 _ rfl, g 6 _ rfl, g 7 _ rfl, g 8 _ rfl, g 9 _ rfl, g 10 _ rfl, g 11 _ rfl, g 12 _ rfl, g 13 _ rfl, g 14 _ rfl, g 15 _ rfl, g 16 _ rfl, g 17 _ rfl⟩
theorem is_write (k : Int) (w : World) (v : Bool) (hv : v = (k == 1 || k == 2)) : Calls Try.prog 13 #[.int .i64 k] w fun e w' => e = .returned (.bool v) ∧ w = w' := by
  cases h1 : (k == 1)
  · cases h2 : (k == 2)
    · rw [h1, h2] at hv
      subst hv
      go_enter Try.func13, Try.ntmps13
      go_wp2
      go_ret
      exact ⟨rfl, rfl⟩
    · rw [h1, h2] at hv
      subst hv
      go_enter Try.func13, Try.ntmps13
      go_wp2
      go_ret
      exact ⟨rfl, rfl⟩
  · rw [h1] at hv
    subst hv
    go_enter Try.func13, Try.ntmps13
    go_wp2
    go_ret
    exact ⟨by simp, rfl⟩
theorem wr_info : (Try.prog.info? 37).map (fun i => (i.zero, i.size, i.bytes)) = some (some (.agg #[.int .i64 0, .string ⟨#[]⟩, .int .i64 0, .int .i64 0, .int .i64 0, .slice none 0 0, .bool false, .int .i64 0, .bool false]), 9, 96) := by kernel_rfl
theorem ev_info : (Try.prog.info? 47).map (·.size) = some 18 := by kernel_rfl
theorem Ev.len (e : Ev) : e.cs.length = 18 := rfl
/-- The cells of an event's type, at first. -/
abbrev evZ : Array Value := #[.int .i64 0, .int .i64 0, .int .i64 0, .int .i64 0, .int .i64 0, .int .u8 0, .int .i64 0, .int .i64 0, .string ⟨#[]⟩, .string ⟨#[]⟩, .slice none 0 0, .int .i64 0, .int .i64 0, .int .i64 0, .int .i64 0, .bool false, .slice none 0 0, .slice none 0 0]
theorem Ev.one (e : Ev) : e.cs.toArray.all (·.oneCell') = true := by simp [Ev.cs, Value.oneCell']
theorem Ev.range {w : World} {B O k : Nat} {L : List Ev} {e : Ev} (h : RowE w B O L) (hk : L[k]? = some e) : w.rangeAt B (O + k * 18) e.cs := fun j u hu => h.2 k e hk j u hu
set_option maxRecDepth 100000 in
theorem wpList_store_new25 {ops : Array Oper} {rest : List Oper} {op : Oper} {a : Act} {w : World} {Q : Exit → Act → World → Prop} (hgd : op.guard = none) (ty : TypeId) (x y : Operand) (ho : op.op = .store ty x y)
    (c c' : Array Value) (hx : a.eval x = .pointer (some ⟨w.heap.size, 0, none⟩)) (hy : a.eval y = .agg c') (hi : (Try.prog.info? ty).map (·.size) = some c'.size) (hs : c.size = c'.size) (h1 : c'.all (·.oneCell') = true)
    (h : wpList Try.prog ops Q rest (a.put op.dst undef) (w.alloc (.cells c' ty))) : wpList Try.prog ops Q (op :: rest) a (w.alloc (.cells c ty)) :=
  wpList_plain hgd fun _ hK => by
    unfold Oper.wp execOp
    simp only [ho, hx, hy, Instr.storeAt, Instr.sureAddr, Sem.run_bind, Sem.run_pure, Result.andThen_ok, Go.run_storeVar_new w ty c c' hi hs h1]
    exact hK _ _ h
set_option maxRecDepth 100000 in
set_option maxHeartbeats 4000000 in
theorem writes_none (B O c : Nat) (L : List Ev) (w : World) (h : RowE w B O L) (hl : L.length ≤ 1000) (hk : ∀ e ∈ L, (e.kd == 1 || e.kd == 2) = false) :
    Calls Try.prog 7 #[.slice (some ⟨B, O, none⟩) L.length c] w fun e w' => e = .returned (.slice none 0 0) ∧ Below w.heap.size w w' := by
  have HR := Lib.hid h
  have HK := Lib.hid hk
  clear h hk
  go_enter Try.func7, Try.ntmps7
  go_wp2_with fail
  go_loopw [9, 3] (fun i v wr => ∃ k : Nat, k ≤ L.length ∧ i = .int .i64 (k : Int) ∧ v = .slice none 0 0 ∧ Below w.heap.size w wr) (fun i _ _ => (1001 - intOf i).toNat)
  case atStart => exact ⟨0, by omega, by simp, rfl, Below.refl _ _⟩
  case round =>
    obtain ⟨k, hk, rfl, rfl, hb⟩ := hrel
    have HB := Lib.hid hb
    have wk : IntKind.i64.wrap ((k : Int) + 1) = (k : Int) + 1 := IntWalk.i64_in _ (by omega)
    clear hb
    by_cases h1 : k < L.length
    · as_aux_lemma =>
      have t1 : decide ((k : Int) < (L.length : Int)) = true := by simpa using h1
      have hki : (k : Int) < (L.length : Int) := by omega
      obtain ⟨e, he⟩ : ∃ e, L[k]? = some e := ⟨_, List.getElem?_eq_getElem h1⟩
      have hrg := Ev.range (HR.out.below HB.out) he
      have HW := Lib.hid (fun W : World => is_write e.kd W false (HK.out e (List.mem_of_getElem? he)).symm)
      have H1 := Lib.hid h1
      obtain ⟨X, hX⟩ : ∃ X : Array Value, e.cs.toArray = X := ⟨_, rfl⟩
      have x1 : X[1]? = some (.int .i64 e.kd) := by rw [← hX]; rfl
      have HSZ : Hid (X.size = 18) := Lib.hid (by rw [← hX]; rfl)
      have hone : X.all (·.oneCell') = true := by rw [← hX]; exact e.one
      have HB2 := Lib.hid (HB.out.alloc HB.out.size (.cells X 47))
      go_upto_region 4 with fail
      refine wp_region_lit ?_
      refine wpList_plain rfl (fun KK hKK => ?_)
      go_simp
      refine hKK _ _ ?_
      refine wpList_load_mid rfl 47 (.tmp 11) rfl B (O + k * 18) rfl e.cs _ hrg Try.underlying47 rfl (by kernel_rfl) ?_
      refine wpList_plain rfl (fun KK hKK => ?_)
      go_simp
      refine hKK _ _ ?_
      refine wpList_store_new25 rfl 47 (.tmp 5) (.tmp 12) rfl evZ X rfl rfl (by rw [HSZ.out, ev_info]) (by rw [HSZ.out]; rfl) hone ?_
      refine wpList_nil ?_
      clear hX hrg hone
      clear he h1 hk
      go_wp2_with (go_at_call 13; refine (HW.out _).mono ?_; rintro e2 w2 ⟨rfl, rfl⟩)
      go_roundw
      case rel => exact ⟨k + 1, by have := H1.out; omega, by simp, rfl, HB2.out⟩
      all_goals ((try simp only [intOf]); have := H1.out; omega)
    · have t1 : decide ((k : Int) < (L.length : Int)) = false := by simp; omega
      clear hk
      go_wp2_with fail
      go_ret
      exact ⟨rfl, HB.out⟩
end Go.Proofs.Ytdjhpajmbddffaa
