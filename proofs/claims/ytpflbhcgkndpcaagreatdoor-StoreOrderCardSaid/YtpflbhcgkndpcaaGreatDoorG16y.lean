/- Stage 16: heavy of the laws, of one act (written by gen/hv16.py). -/
import Derived.Test.YtpflbhcgkndpcaaGreatDoorRecMath
import Derived.Test.YtpflbhcgkndpcaaGreatDoorHlcCmp
import Derived.Test.YtpflbhcgkndpcaaGreatDoorG16c
import Derived.Test.YtpflbhcgkndpcaaGreatDoorG16j
import Derived.Test.YtpflbhcgkndpcaaGreatDoorG16s
import Derived.Test.YtpflbhcgkndpcaaGreatDoorTk9
import Derived.Test.YtpflbhcgkndpcaaGreatDoorG16x
import Derived.Test.YtpflbhcgkndpcaaGreatDoorG16x
import Derived.Deep.AppendLies
/- Stage 16: what is applied of each place; what may be laid; records by rows (plain mathematics). -/
set_option linter.unusedSimpArgs false
set_option linter.unusedVariables false
namespace Go.Proofs.YtpflbhcgkndpcaaGreatDoor

/-- What is applied of each place: number and stamp. -/
abbrev Ap := Nat → Int × Int × Int
def Ap.up (f : Ap) (o : Nat) (v : Int × Int × Int) : Ap := fun i => if i = o then v else f i
def Ap.zero : Ap := fun _ => (0, 0, 0)
theorem Ap.up_same (f : Ap) (o : Nat) (v : Int × Int × Int) : f.up o v o = v := by simp [Ap.up]
theorem Ap.up_other (f : Ap) {o i : Nat} (v : Int × Int × Int) (h : i ≠ o) : f.up o v i = f i := by simp [Ap.up, h]
def ap3 (v : Int × Int × Int) : List Value := [.int .i64 v.1, .int .i64 v.2.1, .int .i64 v.2.2]
/-- The cells of what is applied. -/
def apV (f : Ap) : List Value := ap3 (f 0) ++ ap3 (f 1) ++ ap3 (f 2) ++ ap3 (f 3) ++ ap3 (f 4)
theorem apV_len (f : Ap) : (apV f).length = 15 := rfl
theorem apV_at (f : Ap) (o : Nat) (h : o < 5) : (apV f)[o * 3]? = some (.int .i64 (f o).1) ∧ (apV f)[o * 3 + 1]? = some (.int .i64 (f o).2.1) ∧ (apV f)[o * 3 + 2]? = some (.int .i64 (f o).2.2) := by
  match o, h with
  | 0, _ => exact ⟨rfl, rfl, rfl⟩
  | 1, _ => exact ⟨rfl, rfl, rfl⟩
  | 2, _ => exact ⟨rfl, rfl, rfl⟩
  | 3, _ => exact ⟨rfl, rfl, rfl⟩
  | 4, _ => exact ⟨rfl, rfl, rfl⟩
theorem apV_up (f : Ap) (o : Nat) (h : o < 5) (v : Int × Int × Int) : (((apV f).set (o * 3) (.int .i64 v.1)).set (o * 3 + 1) (.int .i64 v.2.1)).set (o * 3 + 2) (.int .i64 v.2.2) = apV (f.up o v) := by
  match o, h with
  | 0, _ => rfl
  | 1, _ => rfl
  | 2, _ => rfl
  | 3, _ => rfl
  | 4, _ => rfl
def Rc.ap (r : Rc) : Int × Int × Int := (r.s, r.ml, r.ct)
/-- May a record be the next one? -/
def okS (mm mc : Int) (f : Ap) (r : Rc) : Bool := decide (r.s = (f r.o.toNat).1 + 1) && (decide (0 < cmp2 r.ml r.ct (f r.o.toNat).2.1 (f r.o.toNat).2.2) && decide (0 < cmp2 r.ml r.ct mm mc))
def chkA (mm mc : Int) : Ap → List Rc → Bool
  | _, [] => true
  | f, r :: t => okS mm mc f r && chkA mm mc (f.up r.o.toNat r.ap) t
def apAll : Ap → List Rc → Ap
  | f, [] => f
  | f, r :: t => apAll (f.up r.o.toNat r.ap) t
/-- What check tells. -/
def chkC (mm mc : Int) (f : Ap) (L : List Rc) : Int := if 64 < L.length then 5 else if L.all okR = true then (if chkA mm mc f L = true then 0 else 12) else 1
theorem apAll_snoc (f : Ap) (L : List Rc) (r : Rc) : apAll f (L ++ [r]) = (apAll f L).up r.o.toNat r.ap := by
  induction L generalizing f with
  | nil => rfl
  | cons a t ih => exact ih _
theorem chkA_snoc (mm mc : Int) (f : Ap) (L : List Rc) (r : Rc) : chkA mm mc f (L ++ [r]) = (chkA mm mc f L && okS mm mc (apAll f L) r) := by
  induction L generalizing f with
  | nil => simp [chkA, apAll]
  | cons a t ih =>
    show (okS mm mc f a && chkA mm mc _ (t ++ [r])) = _
    rw [ih]
    simp [chkA, apAll, Bool.and_assoc]
theorem chkA_no (mm mc : Int) (f : Ap) (L : List Rc) (k : Nat) (r : Rc) (hr : L[k]? = some r) (h : okS mm mc (apAll f (L.take k)) r = false) : chkA mm mc f L = false := by
  induction L generalizing f k with
  | nil => simp at hr
  | cons a t ih =>
    cases k with
    | zero =>
      simp at hr
      subst hr
      have h' : okS mm mc f a = false := h
      simp [chkA, h']
    | succ k =>
      have := ih (f.up a.o.toNat a.ap) k (by simpa using hr) (by simpa [apAll] using h)
      simp [chkA, this]
theorem chkA_take (mm mc : Int) (f : Ap) (L : List Rc) (k : Nat) (r : Rc) (hr : L[k]? = some r) : chkA mm mc f (L.take (k + 1)) = (chkA mm mc f (L.take k) && okS mm mc (apAll f (L.take k)) r) := by
  rw [List.take_add_one, hr]
  exact chkA_snoc mm mc f (L.take k) r
theorem apAll_take (f : Ap) (L : List Rc) (k : Nat) (r : Rc) (hr : L[k]? = some r) : apAll f (L.take (k + 1)) = (apAll f (L.take k)).up r.o.toNat r.ap := by
  rw [List.take_add_one, hr]
  exact apAll_snoc f (L.take k) r
/-- The numbers go on by one each. -/
def sqA : Ap → List Rc → Prop
  | _, [] => True
  | f, r :: t => r.s = (f r.o.toNat).1 + 1 ∧ sqA (f.up r.o.toNat r.ap) t
theorem sqA_snoc (f : Ap) (L : List Rc) (r : Rc) (h : sqA f L) (h2 : r.s = (apAll f L r.o.toNat).1 + 1) : sqA f (L ++ [r]) := by
  induction L generalizing f with
  | nil => exact ⟨h2, trivial⟩
  | cons a t ih => exact ⟨h.1, ih _ h.2 h2⟩
theorem bad_set (mm mc : Int) (f : Ap) (L : List Rc) (k : Nat) (r r' : Rc) (hq : sqA f L) (hr : L[k]? = some r) (ho : r'.o = r.o) (hb : r'.s ≠ r.s ∨ ¬ 0 < cmp2 r'.ml r'.ct mm mc) : chkA mm mc f (L.set k r') = false := by
  induction L generalizing f k with
  | nil => simp at hr
  | cons a t ih =>
    cases k with
    | zero =>
      simp at hr
      subst hr
      have e : okS mm mc f r' = false := by
        unfold okS
        rw [ho]
        rcases hb with hb | hb
        · have : ¬ r'.s = (f a.o.toNat).1 + 1 := by rw [← hq.1]; exact hb
          simp [this]
        · simp [hb]
      show (okS mm mc f r' && _) = false
      rw [e]; rfl
    | succ k =>
      show (okS mm mc f a && chkA mm mc _ (t.set k r')) = false
      rw [ih _ k hq.2 (by simpa using hr)]
      simp
theorem ap_mono (f : Ap) (L : List Rc) (hq : sqA f L) (i : Nat) : (f i).1 ≤ (apAll f L i).1 := by
  induction L generalizing f with
  | nil => exact Int.le_refl _
  | cons a t ih =>
    refine Int.le_trans ?_ (ih _ hq.2)
    by_cases e : i = a.o.toNat
    · subst e
      rw [Ap.up_same]
      have := hq.1
      show _ ≤ a.s
      omega
    · rw [Ap.up_other _ _ e]
      exact Int.le_refl _
theorem ap_past (f : Ap) (L : List Rc) (hq : sqA f L) (k : Nat) (r : Rc) (hr : L[k]? = some r) : r.s ≤ (apAll f L r.o.toNat).1 := by
  induction L generalizing f k with
  | nil => simp at hr
  | cons a t ih =>
    cases k with
    | zero =>
      simp at hr
      subst hr
      have := ap_mono _ _ hq.2 a.o.toNat
      rwa [Ap.up_same] at this
    | succ k => exact ih _ hq.2 k (by simpa using hr)
theorem bad_more (mm mc : Int) (f : Ap) (L : List Rc) (k : Nat) (r : Rc) (hq : sqA f L) (hr : L[k]? = some r) : chkA mm mc f (L ++ [r]) = false := by
  rw [chkA_snoc]
  have h := ap_past f L hq k r hr
  have e : okS mm mc (apAll f L) r = false := by
    unfold okS
    have : ¬ r.s = (apAll f L r.o.toNat).1 + 1 := by omega
    simp [this]
  rw [e]
  simp
theorem sq_le (f : Ap) (L : List Rc) (hq : sqA f L) (M : Int) (hM : ∀ i, (f i).1 ≤ M) (k : Nat) (r : Rc) (hr : L[k]? = some r) : r.s ≤ M + k + 1 := by
  induction L generalizing f k M with
  | nil => simp at hr
  | cons a t ih =>
    cases k with
    | zero =>
      simp at hr
      subst hr
      have := hM a.o.toNat
      have := hq.1
      omega
    | succ k =>
      have := ih _ hq.2 (M + 1) (fun i => by
        by_cases e : i = a.o.toNat
        · subst e
          rw [Ap.up_same]
          have := hM a.o.toNat
          have := hq.1
          show a.s ≤ _
          omega
        · rw [Ap.up_other _ _ e]
          have := hM i
          omega) k (by simpa using hr)
      omega
/-- A row of the law's: origin, milliseconds behind, key, value, gone, time. -/
structure RwR where
  o : Int
  af : Int
  key : List Int
  val : List Int
  gone : Bool
  tt : Int
/-- The record of a row: o its place, a its milliseconds. -/
def nxR (f : Ap) (o : Nat) (a : Int) (x : RwR) : Rc :=
  ⟨o, (f o).1 + 1, x.key, (f o).2.1 + a, if a = 0 then (f o).2.2 + 1 else (o : Int), o, if x.gone then [] else x.val, x.gone, if x.gone then 0 else x.tt⟩
end Go.Proofs.YtpflbhcgkndpcaaGreatDoor

/- Stage 16: check of any records (written by gen/cka16.py). -/
namespace Go.Proofs.YtpflbhcgkndpcaaGreatDoor
open Go.RowKit

/-- check's second loop. -/
structure CkR (w wr : World) (ap : Nat) (mm mc : Int) (f : Ap) (rs : List Rc) (k : Nat) : Prop where
  bel : Below w.heap.size w wr
  bk : Bk wr ap (apV (apAll f (rs.take k)))
  ok : chkA mm mc f (rs.take k) = true
  bd : ∀ i, 0 ≤ (apAll f (rs.take k) i).1 ∧ (apAll f (rs.take k) i).1 ≤ 1099511627776
theorem bk_set3 {W : World} {B : Nat} {f : Ap} (h : Bk W B (apV f)) (o : Nat) (ho : o < 5) (v : Int × Int × Int) : Bk (W.setCells B (o * 3) [.int .i64 v.1, .int .i64 v.2.1, .int .i64 v.2.2]) B (apV (f.up o v)) := by
  rw [← apV_up f o ho v]
  have e : (apV f).length = 15 := rfl
  exact ((h.set (o * 3) (by omega) _).set (o * 3 + 1) (by rw [List.length_set]; omega) _).set (o * 3 + 2) (by rw [List.length_set, List.length_set]; omega) _
theorem ap_there3 {W : World} {B : Nat} {f : Ap} (h : Bk W B (apV f)) (o : Nat) (ho : o < 5) : W.there B (o * 3) 3 := fun j hj => by
  have e := apV_at f o ho
  refine ⟨?_, h.fz _⟩
  match j, hj with
  | 0, _ => rw [Nat.add_zero, h.block e.1]; rfl
  | 1, _ => rw [h.block e.2.1]; rfl
  | 2, _ => rw [h.block e.2.2]; rfl
set_option maxRecDepth 100000 in
set_option maxHeartbeats 8000000 in
theorem check_any (s : Nat) (vs : List Value) (f : Ap) (mm mc : Int) (v : Value) (L : List Mr) (w : World) (hs : Bk w s vs) (h8 : vs[8]? = some (.int .i64 mm)) (h9 : vs[9]? = some (.int .i64 mc)) (hap : ∀ j u, (apV f)[j]? = some u → vs[10 + j]? = some u)
    (hbd : ∀ i, 0 ≤ (f i).1 ∧ (f i).1 ≤ 1099511627776) (hr : RowAt w v L) (hky : ∀ m ∈ L, isBy m.r.key) (hl : L.length ≤ 100000) : Calls Tryz.prog 27 #[.pointer (some ⟨s, 0, none⟩), v] w fun e w' => e = .returned (.int .i64 (chkC mm mc f (L.map Mr.r))) ∧ Below w.heap.size w w' := by
  obtain ⟨A, c, rfl, hc⟩ := hr.ex
  have hni : (L.length : Int) ≤ 100000 := by omega
  have HC := Lib.hid hc
  have HKY := Lib.hid hky
  have HS := Lib.hid (And.intro hs (And.intro h8 (And.intro h9 (And.intro hap hbd))))
  clear hr hc hky hs h8 h9 hap hbd
  by_cases h64 : 64 < L.length
  · have t1 : decide ((64 : Int) < (L.length : Int)) = true := by simp; omega
    have HE : Hid (chkC mm mc f (L.map Mr.r) = 5) := Lib.hid (by unfold chkC; rw [if_pos (by simpa using h64)])
    clear h64
    go_enter Tryz.func27, Tryz.ntmps27
    go_wp2
    go_ret
    exact ⟨by rw [HE.out]; rfl, Below.refl _ _⟩
  have t1 : decide ((64 : Int) < (L.length : Int)) = false := by simp; omega
  have H64 := Lib.hid h64
  clear h64
  go_enter Tryz.func27, Tryz.ntmps27
  go_upto_region 4 with fail
  go_loopw [16] (fun i wr => ∃ (k : Nat), k ≤ L.length ∧ i = .int .i64 k ∧ Below w.heap.size w wr ∧ ((L.map Mr.r).take k).all okR = true) (fun i _ => L.length - (intOf i).toNat)
  case atStart => exact ⟨0, Nat.zero_le _, rfl, Below.refl _ _, rfl⟩
  case round =>
    obtain ⟨k, hk, rfl, hB, hall⟩ := hrel
    by_cases hlt : k < L.length
    · have lk : (k : Int) < (L.length : Int) := by omega
      have hi1 : ((k : Int).toNat) = k := by simp
      obtain ⟨B, O, rfl, hBl, hcell⟩ := HC.out (by omega)
      have hx : L[k]? = some L[k] := List.getElem?_eq_getElem hlt
      have hkb := HKY.out L[k] (List.getElem_mem hlt)
      have htk : (L.map Mr.r).take (k + 1) = (L.map Mr.r).take k ++ [L[k].r] := by rw [List.take_succ_eq_append_getElem (by simpa using hlt)]; simp
      have hmem : L[k].r ∈ L.map Mr.r := List.mem_map_of_mem (List.getElem_mem hlt)
      generalize L[k] = x at *
      have HRG : Hid (wr.rangeAt B (O + k * 9) x.cs) := Lib.hid (fun j u hu => by
        have hj : j < 9 := by have := (List.getElem?_eq_some_iff.1 hu).1; simpa [Mr.cs] using this
        rw [Nat.add_assoc]
        exact (hB.cell (p := ⟨B, O + (k * 9 + j), none⟩) hBl).trans (hcell (k * 9 + j) u ((rowM_at hx j hj).trans hu)))
      have HKB := Lib.hid (And.intro hkb (And.intro htk (And.intro hall hmem)))
      have HB := Lib.hid hB
      clear hx hkb htk hall hmem hB hcell
      go_upto_region 5 with fail
      refine wp_region_lit ?_
      refine wpList_plain rfl (fun KK hKK => ?_)
      go_simp
      refine hKK _ _ ?_
      refine wpList_load_mid rfl 46 (.tmp 18) rfl B (O + k * 9) (by first | rfl | simp) x.cs _ HRG.out Tryz.underlying46 rfl rec_size ?_
      refine wpList_plain rfl (fun KK hKK => ?_)
      go_simp
      refine hKK _ _ ?_
      refine wpList_store_new16 rfl 46 (.tmp 6) (.tmp 19) rfl #[.int .i64 0, .int .i64 0, .string ⟨#[]⟩, .int .i64 0, .int .i64 0, .int .i64 0, .slice none 0 0, .bool false, .int .i64 0] x.cs.toArray rfl rfl (by rw [rec_size]; rfl) rfl (by simp [Mr.cs, Value.oneCell']) ?_
      refine wpList_nil ?_
      obtain ⟨V1, hV⟩ : ∃ V, wr.alloc (.cells x.cs.toArray 46) = V := ⟨_, rfl⟩
      have k1 : Below wr.heap.size wr V1 := by rw [← hV]; exact (Below.refl _ _).alloc (Nat.le_refl _) _
      have r1 : V1.rangeAt wr.heap.size 0 x.cs := by rw [← hV]; exact range16 _ _ _
      rw [hV]
      clear hV
      have HB1 := Lib.hid (HB.out.trans (k1.mono HB.out.size))
      clear k1 HB HRG
      generalize wr.heap.size = xb at *
      go_upto_region 6 with fail
      refine wp_region_lit ?_
      refine wpList_load_mid rfl 46 (.tmp 6) rfl xb 0 (by first | rfl | simp) x.cs _ r1 Tryz.underlying46 rfl rec_size ?_
      clear r1
      refine wpList_plain rfl (fun KK hKK => ?_)
      go_simp
      (go_at_call 54; refine (rec_is x.r.o x.r.s (strB x.r.key) x.r.ml x.r.ct x.r.vo x.A x.r.val.length x.c x.r.gone x.r.tt V1).mono ?_; rintro e1 V2 ⟨rfl, k2⟩)
      have HB2 := Lib.hid (HB1.out.trans (k2.mono HB1.out.size))
      clear k2 HB1
      have hok : okN x.r.o x.r.s (strB x.r.key).size x.r.ml x.r.ct x.r.vo x.r.val.length x.r.gone x.r.tt = okR x.r := by rw [okR_n, strB_size]
      rw [hok]
      clear hok
      cases hok : okR x.r
      · have HE : Hid (chkC mm mc f (L.map Mr.r) = 1) := Lib.hid (by
          unfold chkC
          rw [if_neg (by simpa using H64.out), if_neg]
          intro q
          have := List.all_eq_true.1 q x.r HKB.out.2.2.2
          rw [hok] at this
          cases this)
        clear hok
        refine hKK _ _ ?_
        refine wpList_plain rfl (fun KK hKK => ?_)
        go_simp
        refine hKK _ _ ?_
        refine wpList_nil ?_
        go_wp2_with fail
        go_ret
        exact ⟨by rw [HE.out]; rfl, HB2.out⟩
      · have HOK := Lib.hid hok
        clear hok
        refine hKK _ _ ?_
        refine wpList_plain rfl (fun KK hKK => ?_)
        go_simp
        refine hKK _ _ ?_
        refine wpList_nil ?_
        go_wp2_with fail
        go_roundw
        case rel => exact ⟨k + 1, by omega, by go_num, HB2.out, by rw [HKB.out.2.1, List.all_append, HKB.out.2.2.1]; simp [HOK.out]⟩
        case measure => simp [intOf]; omega
    · obtain rfl : k = L.length := by omega
      have HALL : Hid ((L.map Mr.r).all okR = true) := Lib.hid (by rw [List.take_of_length_le (by simp)] at hall; exact hall)
      have HB := Lib.hid hB
      clear hall hB hlt hk
      have HRA : Hid (wr.rangeAt s 10 (apV f)) := Lib.hid (fun j u hu => (HS.out.1.below HB.out).c (10 + j) u (HS.out.2.2.2.1 j u hu))
      go_upto_region 9 with fail
      refine wp_region_lit ?_
      refine wpList_plain rfl (fun KK hKK => ?_)
      go_simp
      refine hKK _ _ ?_
      refine wpList_plain rfl (fun KK hKK => ?_)
      go_simp
      refine hKK _ _ ?_
      refine wpList_plain rfl (fun KK hKK => ?_)
      go_simp
      refine hKK _ _ ?_
      refine wpList_load_mid rfl 90 (.tmp 26) rfl s 10 (by first | rfl | simp) (apV f) _ HRA.out Tryz.underlying90 rfl ap_size ?_
      refine wpList_plain rfl (fun KK hKK => ?_)
      go_simp
      refine hKK _ _ ?_
      refine wpList_store_new16 rfl 90 (.tmp 7) (.tmp 27) rfl #[.int .i64 0, .int .i64 0, .int .i64 0, .int .i64 0, .int .i64 0, .int .i64 0, .int .i64 0, .int .i64 0, .int .i64 0, .int .i64 0, .int .i64 0, .int .i64 0, .int .i64 0, .int .i64 0, .int .i64 0] (apV f).toArray rfl rfl (by rw [ap_size]; rfl) rfl (by simp [apV, ap3, Value.oneCell']) ?_
      refine wpList_nil ?_
      obtain ⟨V3, hV⟩ : ∃ V, wr.alloc (.cells (apV f).toArray 90) = V := ⟨_, rfl⟩
      have k3 : Below wr.heap.size wr V3 := by rw [← hV]; exact (Below.refl _ _).alloc (Nat.le_refl _) _
      have ba : Bk V3 wr.heap.size (apV f) := by rw [← hV]; exact Bk.new wr (apV f).toArray 90
      rw [hV]
      clear hV
      have HB3 := Lib.hid (HB.out.trans (k3.mono HB.out.size))
      have HAL : Hid (w.heap.size ≤ wr.heap.size) := Lib.hid HB.out.size
      have HCK : Hid (CkR w V3 wr.heap.size mm mc f (L.map Mr.r) 0) := Lib.hid ⟨HB3.out, ba, rfl, HS.out.2.2.2.2⟩
      clear k3 ba HB HRA HB3
      generalize wr.heap.size = ap at *
      go_upto_region 11 with fail
      go_loopw [30] (fun i wr => ∃ (k : Nat), k ≤ L.length ∧ i = .int .i64 k ∧ CkR w wr ap mm mc f (L.map Mr.r) k) (fun i _ => L.length - (intOf i).toNat)
      case atStart => exact ⟨0, Nat.zero_le _, rfl, HCK.out⟩
      case round =>
        obtain ⟨k, hk, rfl, hR⟩ := hrel
        clear HCK
        by_cases hlt : k < L.length
        · have lk : (k : Int) < (L.length : Int) := by omega
          have hi1 : ((k : Int).toNat) = k := by simp
          obtain ⟨B, O, rfl, hBl, hcell⟩ := HC.out (by omega)
          have hx : L[k]? = some L[k] := List.getElem?_eq_getElem hlt
          have hxr : (L.map Mr.r)[k]? = some L[k].r := by simp [hx]
          have hokx := (ok_iff _).1 (List.all_eq_true.1 HALL.out L[k].r (List.mem_map_of_mem (List.getElem_mem hlt)))
          generalize L[k] = x at *
          have HRG : Hid (wr.rangeAt B (O + k * 9) x.cs) := Lib.hid (fun j u hu => by
            have hj : j < 9 := by have := (List.getElem?_eq_some_iff.1 hu).1; simpa [Mr.cs] using this
            rw [Nat.add_assoc]
            exact (hR.bel.cell (p := ⟨B, O + (k * 9 + j), none⟩) hBl).trans (hcell (k * 9 + j) u ((rowM_at hx j hj).trans hu)))
          have HXR := Lib.hid hxr
          have HR := Lib.hid hR
          have HOX := Lib.hid hokx
          obtain ⟨oo, hoo⟩ : ∃ oo : Nat, x.r.o = (oo : Int) := ⟨x.r.o.toNat, by have := hokx.o0; omega⟩
          have ho5 : oo < 5 := by have := hokx.o1; omega
          have HOO := Lib.hid hoo
          clear hx hxr hokx hR hcell hoo
          go_upto_region 12 with fail
          refine wp_region_lit ?_
          refine wpList_plain rfl (fun KK hKK => ?_)
          go_simp
          refine hKK _ _ ?_
          refine wpList_load_mid rfl 46 (.tmp 32) rfl B (O + k * 9) (by first | rfl | simp) x.cs _ HRG.out Tryz.underlying46 rfl rec_size ?_
          refine wpList_plain rfl (fun KK hKK => ?_)
          go_simp
          refine hKK _ _ ?_
          refine wpList_store_new16 rfl 46 (.tmp 9) (.tmp 33) rfl #[.int .i64 0, .int .i64 0, .string ⟨#[]⟩, .int .i64 0, .int .i64 0, .int .i64 0, .slice none 0 0, .bool false, .int .i64 0] x.cs.toArray rfl rfl (by rw [rec_size]; rfl) rfl (by simp [Mr.cs, Value.oneCell']) ?_
          refine wpList_nil ?_
          obtain ⟨V4, hV⟩ : ∃ V, wr.alloc (.cells x.cs.toArray 46) = V := ⟨_, rfl⟩
          have k4 : Below wr.heap.size wr V4 := by rw [← hV]; exact (Below.refl _ _).alloc (Nat.le_refl _) _
          have bx : Bk V4 wr.heap.size x.cs := by rw [← hV]; exact Bk.new wr x.cs.toArray 46
          rw [hV]
          clear hV
          have HB4 := Lib.hid (HR.out.bel.trans (k4.mono HR.out.bel.size))
          have HA4 := Lib.hid (HR.out.bk.below k4)
          have HX4 := Lib.hid bx
          have HXA : Hid (ap < wr.heap.size ∧ w.heap.size ≤ wr.heap.size) := Lib.hid ⟨HR.out.bk.lt, HR.out.bel.size⟩
          clear k4 bx HRG
          generalize wr.heap.size = xb at *
          have hq := HR.out.bd oo
          have HAT := Lib.hid (apV_at (apAll f ((L.map Mr.r).take k)) oo ho5)
          have HST : Hid (chkA mm mc f ((L.map Mr.r).take (k + 1)) = okS mm mc (apAll f ((L.map Mr.r).take k)) x.r ∧ apAll f ((L.map Mr.r).take (k + 1)) = (apAll f ((L.map Mr.r).take k)).up oo x.r.ap) := Lib.hid ⟨by rw [chkA_take mm mc f _ k _ HXR.out, HR.out.ok, Bool.true_and], by rw [apAll_take f _ k _ HXR.out, HOO.out]; rfl⟩
          have HNO : Hid (okS mm mc (apAll f ((L.map Mr.r).take k)) x.r = false → chkC mm mc f (L.map Mr.r) = 12) := Lib.hid (fun q => by
            unfold chkC
            rw [if_neg (by simpa using H64.out), if_pos HALL.out, if_neg (by rw [chkA_no mm mc f _ k _ HXR.out q]; simp)])
          have HOS : Hid (okS mm mc (apAll f ((L.map Mr.r).take k)) x.r = (decide (x.r.s = (apAll f ((L.map Mr.r).take k) oo).1 + 1) && (decide (0 < cmp2 x.r.ml x.r.ct (apAll f ((L.map Mr.r).take k) oo).2.1 (apAll f ((L.map Mr.r).take k) oo).2.2) && decide (0 < cmp2 x.r.ml x.r.ct mm mc)))) := Lib.hid (by unfold okS; rw [HOO.out]; rfl)
          have HBK := Lib.hid HR.out.bk
          have HBD := Lib.hid HR.out.bd
          generalize apAll f ((L.map Mr.r).take k) = g at *
          obtain ⟨q, hqe⟩ : ∃ q, (g oo).1 = q := ⟨_, rfl⟩
          obtain ⟨m1, hme⟩ : ∃ q, (g oo).2.1 = q := ⟨_, rfl⟩
          obtain ⟨c1, hce⟩ : ∃ q, (g oo).2.2 = q := ⟨_, rfl⟩
          rw [hqe, hme, hce] at HAT HOS
          rw [hqe] at hq
          clear hqe hme hce
          have hsx := And.intro HOX.out.s0 HOX.out.s1
          have HCL : Hid (∀ W, Below V4.heap.size V4 W → W.cell? ⟨xb, 1, none⟩ = some (.int .i64 x.r.s) ∧ W.cell? ⟨xb, 3, none⟩ = some (.int .i64 x.r.ml) ∧ W.cell? ⟨xb, 4, none⟩ = some (.int .i64 x.r.ct) ∧ W.cell? ⟨ap, oo * 3, none⟩ = some (.int .i64 q) ∧ W.cell? ⟨ap, oo * 3 + 1, none⟩ = some (.int .i64 m1) ∧ W.cell? ⟨ap, oo * 3 + 1 + 1, none⟩ = some (.int .i64 c1) ∧ W.cell? ⟨s, 8, none⟩ = some (.int .i64 mm) ∧ W.cell? ⟨s, 9, none⟩ = some (.int .i64 mc)) := Lib.hid (fun W kW => ⟨(HX4.out.below kW).block (i := 1) rfl, (HX4.out.below kW).block (i := 3) rfl, (HX4.out.below kW).block (i := 4) rfl, (HA4.out.below kW).block HAT.out.1, (HA4.out.below kW).block HAT.out.2.1, (HA4.out.below kW).block HAT.out.2.2, (HS.out.1.below (HB4.out.trans (kW.mono HB4.out.size))).block HS.out.2.1, (HS.out.1.below (HB4.out.trans (kW.mono HB4.out.size))).block HS.out.2.2.1⟩)
          have x0 := HX4.out.block (i := 0) (u := .int .i64 x.r.o) rfl
          rw [HOO.out] at x0
          go_upto_region 14 with fail
          clear x0
          refine wp_region_held_drew (S := fun w' => w'.cell? ⟨xb, 1, none⟩ = some (.int .i64 x.r.s) ∧ w'.cell? ⟨xb, 3, none⟩ = some (.int .i64 x.r.ml) ∧ w'.cell? ⟨xb, 4, none⟩ = some (.int .i64 x.r.ct) ∧ w'.cell? ⟨ap, oo * 3, none⟩ = some (.int .i64 q) ∧ w'.cell? ⟨ap, oo * 3 + 1, none⟩ = some (.int .i64 m1) ∧ w'.cell? ⟨ap, oo * 3 + 1 + 1, none⟩ = some (.int .i64 c1) ∧ w'.cell? ⟨s, 8, none⟩ = some (.int .i64 mm) ∧ w'.cell? ⟨s, 9, none⟩ = some (.int .i64 mc)) (by kernel_rfl) ?_ (fun hHeld => ?_)
          · exact HCL.out _ ((Below.refl _ _).drew)
          have kd : Below V4.heap.size V4 V4.drew := (Below.refl _ _).drew
          obtain ⟨V5, hV5⟩ : ∃ V, V4.drew = V := ⟨_, rfl⟩
          rw [hV5] at kd hHeld ⊢
          clear hV5
          have HB5 := Lib.hid (HB4.out.trans (kd.mono HB4.out.size))
          have HK5 := Lib.hid kd
          clear kd
          have hwq : IntKind.i64.wrap (q + 1) = q + 1 := IntWalk.i64_in _ (by omega)
          by_cases hA : x.r.s = q + 1
          · have t1 : (x.r.s != q + 1) = false := by simp [hA]
            replace hA := Lib.hid hA
            refine tk9 0 ?_
            refine tk9 1 ?_
            refine tk9 2 ?_
            refine tk9 3 ?_
            refine tk9 4 ?_
            refine tk9 5 ?_
            refine tk9 6 ?_
            refine tk9 7 ?_
            refine tk9 8 ?_
            refine tk9 9 ?_
            refine tk9 10 ?_
            refine tk9 11 ?_
            refine tk9 12 ?_
            refine tk9 13 ?_
            refine tk9 14 ?_
            refine tk9 15 ?_
            refine wpAnyH_ready (rs := [16]) (by kernel_rfl) (by simp) ?_
            refine AllReadyH.cons rfl (fun K hK => ?_) (AllReadyH.nil)
            (try rw [if_pos (by rfl)])
            go_simp
            (go_at_call 37; refine (hlc_compare x.r.ml x.r.ct m1 c1 V5).mono ?_; rintro e1 V6 ⟨rfl, k6⟩)
            have HB6 := Lib.hid (HB5.out.trans (k6.mono HB5.out.size))
            have HK6 := Lib.hid (HK5.out.trans (k6.mono HK5.out.size))
            clear k6 HB5 HK5
            (try dsimp only)
            refine hK.out _ _ ?_ (fun hHeld => ?_)
            · exact HCL.out _ HK6.out
            clear hK K
            (try simp only [Act.put, List.setIfInBounds_toArray, List.set_cons_zero, List.set_cons_succ, List.getElem_toArray, List.getElem_cons_succ, List.getElem_cons_zero])
            by_cases hB : 0 < cmp2 x.r.ml x.r.ct m1 c1
            · have t2 : decide (cmp2 x.r.ml x.r.ct m1 c1 ≤ 0) = false := by simp; omega
              replace hB := Lib.hid hB
              refine tk9 17 ?_
              refine tk9 18 ?_
              refine tk9 19 ?_
              refine tk9 20 ?_
              refine tk9 21 ?_
              refine tk9 22 ?_
              refine tk9 23 ?_
              refine tk9 24 ?_
              refine tk9 25 ?_
              refine tk9 26 ?_
              refine wpAnyH_ready (rs := [27]) (by kernel_rfl) (by simp) ?_
              refine AllReadyH.cons rfl (fun K hK => ?_) (AllReadyH.nil)
              (try rw [if_pos (by rfl)])
              go_simp
              (go_at_call 37; refine (hlc_compare x.r.ml x.r.ct mm mc V6).mono ?_; rintro e1 V7 ⟨rfl, k7⟩)
              have HB7 := Lib.hid (HB6.out.trans (k7.mono HB6.out.size))
              have HK7 := Lib.hid (HK6.out.trans (k7.mono HK6.out.size))
              clear k7 HB6 HK6
              (try dsimp only)
              refine hK.out _ _ ?_ (fun hHeld => ?_)
              · exact HCL.out _ HK7.out
              clear hK K
              (try simp only [Act.put, List.setIfInBounds_toArray, List.set_cons_zero, List.set_cons_succ, List.getElem_toArray, List.getElem_cons_succ, List.getElem_cons_zero])
              by_cases hC : 0 < cmp2 x.r.ml x.r.ct mm mc
              · have t3 : decide (cmp2 x.r.ml x.r.ct mm mc ≤ 0) = false := by simp; omega
                replace hC := Lib.hid hC
                have HCR : Hid (CkR w (V7.setCells ap (oo * 3) [.int .i64 x.r.s, .int .i64 x.r.ml, .int .i64 x.r.ct]) ap mm mc f (L.map Mr.r) (k + 1)) := Lib.hid ⟨below_sets w.heap.size ap HAL.out w _ _ _ HB7.out, by rw [HST.out.2]; exact bk_set3 (HA4.out.below HK7.out) oo ho5 x.r.ap, by rw [HST.out.1, HOS.out, hA.out]; simp [hB.out, hC.out], fun i => by
                  rw [HST.out.2]
                  by_cases e : i = oo
                  · subst e; rw [Ap.up_same]; exact ⟨by have := HOX.out.s0; show 0 ≤ x.r.s; omega, HOX.out.s1⟩
                  · rw [Ap.up_other _ _ e]; exact HBD.out i⟩
                refine tk9 28 ?_
                refine tk9 29 ?_
                refine wpAnyH_done (by kernel_rfl) ?_ _
                clear hHeld t1 t2 t3
                obtain ⟨x1, x3, x4, _⟩ := HCL.out _ HK7.out
                go_upto_region 16 with fail
                refine wp_region_lit ?_
                refine wpList_plain rfl (fun KK hKK => ?_)
                go_simp
                refine hKK _ _ ?_
                refine wpList_plain rfl (fun KK hKK => ?_)
                go_simp
                refine hKK _ _ ?_
                refine wpList_plain rfl (fun KK hKK => ?_)
                go_simp
                refine hKK _ _ ?_
                refine wpList_plain rfl (fun KK hKK => ?_)
                go_simp
                refine hKK _ _ ?_
                refine wpList_plain rfl (fun KK hKK => ?_)
                go_simp
                refine hKK _ _ ?_
                refine wpList_plain rfl (fun KK hKK => ?_)
                go_simp
                refine hKK _ _ ?_
                refine wpList_plain rfl (fun KK hKK => ?_)
                go_simp
                refine hKK _ _ ?_
                refine wpList_plain rfl (fun KK hKK => ?_)
                go_simp
                refine hKK _ _ ?_
                refine wpList_plain rfl (fun KK hKK => ?_)
                refine wp_store_mid 89 (.tmp 74) (.tmp 73) rfl ap (oo * 3) #[.int .i64 x.r.s, .int .i64 x.r.ml, .int .i64 x.r.ct] rfl rfl (ap_there3 (HA4.out.below HK7.out) oo ho5) last_size (by simp [Value.oneCell']) ?_
                refine hKK _ _ ?_
                refine wpList_nil ?_
                clear x1 x3 x4
                go_wp2_with fail
                go_roundw
                case rel => exact ⟨k + 1, by omega, by go_num, HCR.out⟩
                case measure => simp [intOf]; omega
              · have t3 : decide (cmp2 x.r.ml x.r.ct mm mc ≤ 0) = true := by simp; omega
                have HE := Lib.hid (HNO.out (by rw [HOS.out]; simp [hC]))
                clear hC
                refine tk9 28 ?_
                refine tk9 29 ?_
                refine wpAnyH_done (by kernel_rfl) ?_ _
                clear hHeld
                go_wp2_with fail
                go_ret
                exact ⟨by rw [HE.out]; rfl, HB7.out⟩
            · have t2 : decide (cmp2 x.r.ml x.r.ct m1 c1 ≤ 0) = true := by simp; omega
              have HE := Lib.hid (HNO.out (by rw [HOS.out]; simp [hB]))
              clear hB
              refine tk9 17 ?_
              refine tk9 18 ?_
              refine tk9 19 ?_
              refine tk9 (v := undef) 20 (hy := Or.inr ⟨by rfl, rfl⟩) ?_
              refine tk9 (v := undef) 21 (hy := Or.inr ⟨by rfl, rfl⟩) ?_
              refine tk9 (v := undef) 22 (hy := Or.inr ⟨by rfl, rfl⟩) ?_
              refine tk9 (v := undef) 23 (hy := Or.inr ⟨by rfl, rfl⟩) ?_
              refine tk9 (v := undef) 24 (hy := Or.inr ⟨by rfl, rfl⟩) ?_
              refine tk9 (v := undef) 25 (hy := Or.inr ⟨by rfl, rfl⟩) ?_
              refine tk9 (v := undef) 26 (hy := Or.inr ⟨by rfl, rfl⟩) ?_
              refine tk9 (v := undef) 27 (hy := Or.inr ⟨by rfl, rfl⟩) ?_
              refine tk9 (v := undef) 28 (hy := Or.inr ⟨by rfl, rfl⟩) ?_
              refine tk9 29 ?_
              refine wpAnyH_done (by kernel_rfl) ?_ _
              clear hHeld
              go_wp2_with fail
              go_ret
              exact ⟨by rw [HE.out]; rfl, HB6.out⟩
          · have t1 : (x.r.s != q + 1) = true := by simp [hA]
            have HE := Lib.hid (HNO.out (by rw [HOS.out]; simp [hA]))
            clear hA
            refine tk9 0 ?_
            refine tk9 1 ?_
            refine tk9 2 ?_
            refine tk9 3 ?_
            refine tk9 4 ?_
            refine tk9 5 ?_
            refine tk9 6 ?_
            refine tk9 7 ?_
            refine tk9 8 ?_
            refine tk9 (v := undef) 9 (hy := Or.inr ⟨by rfl, rfl⟩) ?_
            refine tk9 (v := undef) 10 (hy := Or.inr ⟨by rfl, rfl⟩) ?_
            refine tk9 (v := undef) 11 (hy := Or.inr ⟨by rfl, rfl⟩) ?_
            refine tk9 (v := undef) 12 (hy := Or.inr ⟨by rfl, rfl⟩) ?_
            refine tk9 (v := undef) 13 (hy := Or.inr ⟨by rfl, rfl⟩) ?_
            refine tk9 (v := undef) 14 (hy := Or.inr ⟨by rfl, rfl⟩) ?_
            refine tk9 (v := undef) 15 (hy := Or.inr ⟨by rfl, rfl⟩) ?_
            refine tk9 (v := undef) 16 (hy := Or.inr ⟨by rfl, rfl⟩) ?_
            refine tk9 (v := undef) 17 (hy := Or.inr ⟨by rfl, rfl⟩) ?_
            refine tk9 18 ?_
            refine tk9 19 ?_
            refine tk9 (v := undef) 20 (hy := Or.inr ⟨by rfl, rfl⟩) ?_
            refine tk9 (v := undef) 21 (hy := Or.inr ⟨by rfl, rfl⟩) ?_
            refine tk9 (v := undef) 22 (hy := Or.inr ⟨by rfl, rfl⟩) ?_
            refine tk9 (v := undef) 23 (hy := Or.inr ⟨by rfl, rfl⟩) ?_
            refine tk9 (v := undef) 24 (hy := Or.inr ⟨by rfl, rfl⟩) ?_
            refine tk9 (v := undef) 25 (hy := Or.inr ⟨by rfl, rfl⟩) ?_
            refine tk9 (v := undef) 26 (hy := Or.inr ⟨by rfl, rfl⟩) ?_
            refine tk9 (v := undef) 27 (hy := Or.inr ⟨by rfl, rfl⟩) ?_
            refine tk9 (v := undef) 28 (hy := Or.inr ⟨by rfl, rfl⟩) ?_
            refine tk9 29 ?_
            refine wpAnyH_done (by kernel_rfl) ?_ _
            clear hHeld
            go_wp2_with fail
            go_ret
            exact ⟨by rw [HE.out]; rfl, HB5.out⟩
        · obtain rfl : k = L.length := by omega
          have HE : Hid (chkC mm mc f (L.map Mr.r) = 0) := Lib.hid (by
            have q := hR.ok
            rw [List.take_of_length_le (by simp)] at q
            unfold chkC
            rw [if_neg (by simpa using H64.out), if_pos HALL.out, if_pos q])
          have HB := Lib.hid hR.bel
          clear hR hlt hk
          go_wp2_with fail
          go_ret
          exact ⟨by rw [HE.out]; rfl, HB.out⟩
end Go.Proofs.YtpflbhcgkndpcaaGreatDoor

/- Stage 16: next of the laws: records by rows (written by gen/nx16.py). -/
namespace Go.Proofs.YtpflbhcgkndpcaaGreatDoor
open Go.RowKit

/-- A row of the law's, in memory. -/
structure RwA where
  o : Int
  af : Int
  key : ByteArray
  A : Option Addr
  val : List Int
  c : Nat
  gone : Bool
  tt : Int
def RwA.cs (x : RwA) : List Value := [.int .i64 x.o, .int .i64 x.af, .string x.key, .slice x.A x.val.length x.c, .bool x.gone, .int .i64 x.tt]
theorem RwA.len (x : RwA) : x.cs.length = 6 := rfl
def nxO (o : Int) : Nat := ((bits .and .i64 o 1023).tmod 5).toNat
theorem nxO_eq (o : Int) : (bits .and .i64 o 1023).tmod 5 = (nxO o : Int) := (Int.toNat_of_nonneg (Int.tmod_nonneg _ (bits_and_le o 1023 (by omega)).1)).symm
theorem nxO_lt (o : Int) : nxO o < 5 := by
  have := Int.tmod_lt_of_pos (bits .and .i64 o 1023) (show (0 : Int) < 5 by omega)
  have := nxO_eq o
  omega
def nxF (a : Int) : Int := bits .and .i64 a 65535
theorem nxF_le (a : Int) : 0 ≤ nxF a ∧ nxF a ≤ 65535 := bits_and_le a 65535 (by omega)
def nxRc (f : Ap) (x : RwA) : Rc := ⟨nxO x.o, (f (nxO x.o)).1 + 1, kL x.key, (f (nxO x.o)).2.1 + nxF x.af, if nxF x.af = 0 then (f (nxO x.o)).2.2 + 1 else (nxO x.o : Int), nxO x.o, if x.gone = true then [] else x.val, x.gone, if x.gone = true then 0 else x.tt⟩
def nxM (f : Ap) (x : RwA) : Mr := ⟨nxRc f x, if x.gone = true then none else x.A, if x.gone = true then 0 else x.c⟩
def nxA : Ap → List RwA → List Mr
  | _, [] => []
  | f, x :: t => nxM f x :: nxA (f.up (nxO x.o) (nxRc f x).ap) t
def nxP (f : Ap) (L : List RwA) : Ap := apAll f ((nxA f L).map Mr.r)
theorem nxA_len (f : Ap) (L : List RwA) : (nxA f L).length = L.length := by
  induction L generalizing f with
  | nil => rfl
  | cons a t ih => show (nxA _ t).length + 1 = _; rw [ih]; rfl
theorem nxP_cons (f : Ap) (x : RwA) (t : List RwA) : nxP f (x :: t) = nxP (f.up (nxO x.o) (nxRc f x).ap) t := by
  show apAll (f.up ((nxO x.o : Int)).toNat (nxRc f x).ap) _ = _
  rw [Int.toNat_natCast]
  rfl
theorem nxA_snoc (f : Ap) (L : List RwA) (x : RwA) : nxA f (L ++ [x]) = nxA f L ++ [nxM (nxP f L) x] := by
  induction L generalizing f with
  | nil => rfl
  | cons a t ih =>
    show nxM f a :: nxA _ (t ++ [x]) = _
    rw [ih, nxP_cons]
    rfl
theorem nxP_snoc (f : Ap) (L : List RwA) (x : RwA) : nxP f (L ++ [x]) = (nxP f L).up (nxO x.o) (nxRc (nxP f L) x).ap := by
  induction L generalizing f with
  | nil => rw [List.nil_append, nxP_cons]; rfl
  | cons a t ih => rw [List.cons_append, nxP_cons, ih, nxP_cons]
theorem nxA_sq (f : Ap) (L : List RwA) : sqA f ((nxA f L).map Mr.r) := by
  induction L generalizing f with
  | nil => trivial
  | cons a t ih =>
    refine ⟨?_, ?_⟩
    · show (f (nxO a.o)).1 + 1 = (f ((nxO a.o : Int)).toNat).1 + 1
      rw [Int.toNat_natCast]
    · show sqA (f.up ((nxO a.o : Int)).toNat (nxRc f a).ap) _
      rw [Int.toNat_natCast]
      exact ih _
/-- What is applied is within bounds, behind n more. -/
def ApB (f : Ap) (n : Nat) : Prop := ∀ i, 0 ≤ (f i).1 ∧ (f i).1 ≤ 4398046511104 + n ∧ 0 ≤ (f i).2.1 ∧ (f i).2.1 ≤ 1125899906842624 + n * 65536 ∧ 0 ≤ (f i).2.2 ∧ (f i).2.2 ≤ 1125899906842624 + n
theorem ApB.up {f : Ap} {n : Nat} (h : ApB f n) (x : RwA) : ApB (f.up (nxO x.o) (nxRc f x).ap) (n + 1) := fun i => by
  by_cases e : i = nxO x.o
  · subst e
    rw [Ap.up_same]
    have := h (nxO x.o)
    have := nxF_le x.af
    have := nxO_lt x.o
    show 0 ≤ (f (nxO x.o)).1 + 1 ∧ (f (nxO x.o)).1 + 1 ≤ _ ∧ 0 ≤ (f (nxO x.o)).2.1 + nxF x.af ∧ (f (nxO x.o)).2.1 + nxF x.af ≤ _ ∧ 0 ≤ (if nxF x.af = 0 then (f (nxO x.o)).2.2 + 1 else (nxO x.o : Int)) ∧ (if nxF x.af = 0 then (f (nxO x.o)).2.2 + 1 else (nxO x.o : Int)) ≤ _
    split <;> omega
  · rw [Ap.up_other _ _ e]
    have := h i
    omega
theorem ApB.nx {f : Ap} {n : Nat} (h : ApB f n) : ∀ (L : List RwA), ApB (nxP f L) (n + L.length)
  | [] => h
  | a :: t => by
    have := ApB.nx (h.up a) t
    rw [nxP_cons, show n + (a :: t).length = n + 1 + t.length from by simp; omega]
    exact this
/-- A row's value stands. -/
structure RwIn (w : World) (x : RwA) : Prop where
  b : ByL w x.A x.val
  n : x.A = none → x.val.length = 0
theorem nxA_at {w : World} (f : Ap) : ∀ (L : List RwA), (∀ x ∈ L, RwIn w x) → ∀ m ∈ nxA f L, m.At (fun _ => True) w ∧ isBy m.r.key
  | [], _, m, hm => by cases hm
  | a :: t, h, m, hm => by
    rcases List.mem_cons.1 hm with rfl | hm
    · have ha := h a (List.mem_cons_self ..)
      refine ⟨⟨?_, ?_, fun _ _ _ => trivial⟩, kL_by _⟩
      · show ByL w (if a.gone = true then none else a.A) (if a.gone = true then [] else a.val)
        split
        · exact ByL.nil _ _
        · exact ha.b
      · show (if a.gone = true then none else a.A) = none → (if a.gone = true then ([] : List Int) else a.val).length = 0
        split
        · intro _; rfl
        · exact ha.n
    · exact nxA_at _ t (fun x hx => h x (List.mem_cons_of_mem _ hx)) m hm
theorem row16_size : (Tryz.prog.info? 72).map (·.size) = some 6 := by kernel_rfl
theorem done5_size : (Tryz.prog.info? 82).map (·.size) = some 15 := by kernel_rfl
theorem stamp2_size : (Tryz.prog.info? 25).map (·.size) = some 2 := by kernel_rfl
theorem vers6_size : (Tryz.prog.info? 44).map (·.size) = some 6 := by kernel_rfl
set_option maxRecDepth 100000 in
theorem wp_store_new16 {op : Oper} {a : Go.Act} {w : World} {K : Go.Act → World → Prop} {Q : Exit → Go.Act → World → Prop} (ty : TypeId) (x y : Operand) (ho : op.op = .store ty x y)
    (c c' : Array Value) (hx : a.eval x = .pointer (some ⟨w.heap.size, 0, none⟩)) (hy : a.eval y = .agg c') (hi : (Tryz.prog.info? ty).map (·.size) = some c'.size) (hs : c.size = c'.size) (h1 : c'.all (·.oneCell') = true)
    (h : K (a.put op.dst undef) (w.alloc (.cells c' ty))) : op.wp Tryz.prog a (w.alloc (.cells c ty)) K Q := by
  unfold Oper.wp execOp
  simp only [ho, hx, hy, Instr.storeAt, Instr.sureAddr, Sem.run_bind, Sem.run_pure, Result.andThen_ok, Go.run_storeVar_new w ty c c' hi hs h1]
  exact h
theorem app_rec {o : Oper} {a : Go.Act} {w : World} {K : Go.Act → World → Prop} {Q : Exit → Go.Act → World → Prop} (s x : Operand)
    (ho : o.op = .call { callee := .builtin .append, args := #[s, x], argTypes := #[26, 26] }) (base : Nat) (v : Value) (L : List Mr) (n : Nat) (hn : L.length = n) (hs : a.eval s = v) (hown : w.ownsRow base 46 9 v n (rowM L))
    (ad : Addr) (c : Nat) (m : Mr) (hx : a.eval x = .slice (some ad) 1 c) (hr : ∀ j u, m.cs[j]? = some u → w.cell? (ad.add j) = some u) (h63 : n ≤ 100000) (hbase : base ≤ w.heap.size)
    (h : ∀ g cap w', w'.ownsRow base 46 9 (.slice (some ⟨g, 0, none⟩) (n + 1) cap) (n + 1) (rowM (L ++ [m])) → But (fun i => v.ownBlock = some i) w w' → (v.ownBlock = some g ∨ g = w.heap.size) → K (a.put o.dst (.slice (some ⟨g, 0, none⟩) (n + 1) cap)) w') : o.wp Tryz.prog a w K Q := by
  obtain ⟨i0, hi0, hz0, hz1, hz2⟩ := info_parts rec_info
  refine wp_append_lies (P := Tryz.prog) w s x 26 ho base 46 i0 _ 9 _ Tryz.underlying26 hi0 hz0 hz1 hz2 rfl (by omega) v n _ hs hown ad 1 c m.cs hx (by simp [Mr.cs]) hr (mr_cell1 m) (by omega) (by unfold maxLen; omega) (by omega) hbase _ rfl (fun g cap w' h1 h2 h3 _ => ?_)
  rw [← rowM_one m, ← rowM_append] at h1
  exact h g cap w' h1 (But.of_grown h2 (fun i hi => hi)) h3
theorem Bk.there {W : World} {B : Nat} {vs : List Value} (h : Bk W B vs) (o n : Nat) (hn : o + n ≤ vs.length) : W.there B o n := fun j hj => ⟨by
  rw [h.c (o + j) _ (List.getElem?_eq_getElem (show o + j < vs.length by omega))]; rfl, h.fz _⟩
theorem Bk.range {W : World} {B : Nat} {vs : List Value} (h : Bk W B vs) : W.rangeAt B 0 vs := fun j u hu => by rw [Nat.zero_add]; exact h.c j u hu
theorem Bk.news {W : World} {B : Nat} {vs : List Value} (h : Bk W B vs) : ∀ j u, vs[j]? = some u → W.cell? ((Addr.mk B 0 none).add j) = some u := fun j u hu => by
  rw [at_add, Nat.zero_add]
  exact h.c j u hu
theorem bk_setsN {W : World} {B : Nat} : ∀ (us : List Value) (o : Nat) (vs : List Value), Bk W B vs → o + us.length ≤ vs.length → ∃ vs', Bk (W.setCells B o us) B vs' ∧ vs'.length = vs.length ∧ (∀ j u, us[j]? = some u → vs'[o + j]? = some u) ∧ ∀ j, j < o → vs'[j]? = vs[j]? := by
  intro us
  induction us generalizing W with
  | nil => exact fun o vs h _ => ⟨vs, h, rfl, (fun j u hu => by simp at hu), fun _ _ => rfl⟩
  | cons v r ih =>
    intro o vs h hl
    rw [List.length_cons] at hl
    obtain ⟨vs', h1, h2, h3, h4⟩ := ih (o + 1) _ (h.set o (by omega) v) (by rw [List.length_set]; omega)
    refine ⟨vs', h1, by rw [h2, List.length_set], fun j u hu => ?_, fun j hj => by rw [h4 j (by omega), List.getElem?_set_ne (by omega)]⟩
    cases j with
    | zero =>
      have e := h4 o (by omega)
      rw [List.getElem?_set_self (by omega)] at e
      simp at hu
      rw [Nat.add_zero, e, hu]
    | succ j => rw [show o + (j + 1) = o + 1 + j by omega]; exact h3 j u (by simpa using hu)
/-- A block is written whole. -/
theorem Bk.sets {W : World} {B : Nat} {vs us : List Value} (h : Bk W B vs) (hl : us.length = vs.length) : Bk (W.setCells B 0 us) B us := by
  obtain ⟨vs', h1, h2, h3, _⟩ := bk_setsN us 0 vs h (by omega)
  exact ⟨fun j u hu => h1.c j u (by have := h3 j u hu; rwa [Nat.zero_add] at this), h1.fz, h1.lt⟩
theorem but_sets {S : Nat → Prop} {B : Nat} (hb : S B) {W : World} : ∀ (us : List Value) (o : Nat) {V : World}, But S W V → But S W (V.setCells B o us)
  | [], _, _, h => h
  | v :: r, o, _, h => by
    rw [World.setCells]
    exact but_sets hb r (o + 1) (h.setCell (p := ⟨B, o, none⟩) (fun _ => hb) v)
/-- next's loop. -/
structure NxR (w wr : World) (dn : Nat) (f : Ap) (L : List RwA) (k : Nat) (v : Value) : Prop where
  bel : Below w.heap.size w wr
  bk : Bk wr dn (apV (nxP f (L.take k)))
  row : wr.ownsRow w.heap.size 46 9 v k (rowM (nxA f (L.take k)))
  off : v.ownBlock ≠ some dn
theorem bk_set2 {W : World} {B : Nat} {f : Ap} (h : Bk W B (apV f)) (o : Nat) (ho : o < 5) (v : Int × Int × Int) : Bk ((W.setCell ⟨B, o * 3, none⟩ (.int .i64 v.1)).setCells B (o * 3 + 1) [.int .i64 v.2.1, .int .i64 v.2.2]) B (apV (f.up o v)) := by
  rw [← apV_up f o ho v]
  have e : (apV f).length = 15 := rfl
  exact ((h.set (o * 3) (by omega) _).set (o * 3 + 1) (by rw [List.length_set]; omega) _).set (o * 3 + 2) (by rw [List.length_set, List.length_set]; omega) _
set_option maxRecDepth 100000 in
set_option maxHeartbeats 8000000 in
theorem next_any (x : Nat) (vx : List Value) (f : Ap) (A : Option Addr) (c : Nat) (L : List RwA) (w : World) (hx : Bk w x vx) (hap : ∀ j u, (apV f)[j]? = some u → vx[8 + j]? = some u) (hfb : ApB f 0)
    (hr : RowG RwA.cs w A L) (hl : L.length ≤ 100000) : Calls Tryz.prog 8 #[.pointer (some ⟨x, 0, none⟩), .slice A L.length c] w fun e w' => (∃ v, e = .returned v ∧ w'.ownsRow w.heap.size 46 9 v L.length (rowM (nxA f L))) ∧ Below w.heap.size w w' := by
  have hni : (L.length : Int) ≤ 100000 := by omega
  have HR := Lib.hid hr
  have HFB := Lib.hid hfb
  have HRA : Hid (w.rangeAt x 8 (apV f)) := Lib.hid (fun j u hu => hx.c (8 + j) u (hap j u hu))
  clear hr hfb hx hap
  go_enter Tryz.func8, Tryz.ntmps8
  go_upto_region 2 with fail
  refine wp_region_lit ?_
  refine wpList_plain rfl (fun KK hKK => ?_)
  go_simp
  refine hKK _ _ ?_
  refine wpList_plain rfl (fun KK hKK => ?_)
  go_simp
  refine hKK _ _ ?_
  refine wpList_plain rfl (fun KK hKK => ?_)
  go_simp
  refine hKK _ _ ?_
  refine wpList_load_mid rfl 82 (.tmp 14) rfl x 8 (by first | rfl | simp) (apV f) _ HRA.out Tryz.underlying82 rfl done5_size ?_
  refine wpList_plain rfl (fun KK hKK => ?_)
  go_simp
  refine hKK _ _ ?_
  refine wpList_store_new16 rfl 82 (.tmp 6) (.tmp 15) rfl #[.int .i64 0, .int .i64 0, .int .i64 0, .int .i64 0, .int .i64 0, .int .i64 0, .int .i64 0, .int .i64 0, .int .i64 0, .int .i64 0, .int .i64 0, .int .i64 0, .int .i64 0, .int .i64 0, .int .i64 0] (apV f).toArray rfl rfl (by rw [done5_size]; rfl) rfl (by simp [apV, ap3, Value.oneCell']) ?_
  refine wpList_nil ?_
  obtain ⟨V3, hV⟩ : ∃ V, w.alloc (.cells (apV f).toArray 82) = V := ⟨_, rfl⟩
  have k3 : Below w.heap.size w V3 := by rw [← hV]; exact (Below.refl _ _).alloc (Nat.le_refl _) _
  have ba : Bk V3 w.heap.size (apV f) := by rw [← hV]; exact Bk.new w (apV f).toArray 82
  rw [hV]
  clear hV
  have HNX : Hid (NxR w V3 w.heap.size f L 0 (.slice none 0 0)) := Lib.hid ⟨k3, ba, World.ownsRow_nil _ _ _ _, by simp [Value.ownBlock]⟩
  have HDN : Hid (w.heap.size ≤ w.heap.size) := Lib.hid (Nat.le_refl _)
  clear k3 ba HRA
  obtain ⟨dn, hdn⟩ : ∃ d, w.heap.size = d := ⟨_, rfl⟩
  have HDE := Lib.hid hdn
  rw [hdn]
  replace HNX : Hid (NxR w V3 dn f L 0 (.slice none 0 0)) := Lib.hid (by have := HNX.out; rwa [hdn] at this)
  clear HDN hdn
  go_upto_region 4 with fail
  go_loopw [7, 5] (fun i sv wr => ∃ (k : Nat) (v : Value), k ≤ L.length ∧ i = .int .i64 k ∧ v = sv ∧ NxR w wr dn f L k v) (fun i _ _ => L.length - (intOf i).toNat)
  case atStart => exact ⟨0, _, Nat.zero_le _, rfl, rfl, HNX.out⟩
  case round =>
    obtain ⟨k, v, hk, rfl, rfl, hN⟩ := hrel
    clear HNX
    by_cases hlt : k < L.length
    · have lk : (k : Int) < (L.length : Int) := by omega
      have hi1 : ((k : Int).toNat) = k := by simp
      obtain ⟨B, O, rfl, hBl, hcell⟩ := HR.out (by omega)
      have hx : L[k]? = some L[k] := List.getElem?_eq_getElem hlt
      have htk : L.take (k + 1) = L.take k ++ [L[k]] := by rw [List.take_succ_eq_append_getElem hlt]
      generalize L[k] = x at *
      skip
      have HRG : Hid (wr.rangeAt B (O + k * 6) x.cs) := Lib.hid (fun j u hu => by
        have hj : j < 6 := by have := (List.getElem?_eq_some_iff.1 hu).1; simpa [RwA.cs] using this
        rw [Nat.add_assoc]
        exact (hN.bel.cell (p := ⟨B, O + (k * 6 + j), none⟩) hBl).trans (hcell (k * 6 + j) u ((fm_at RwA.cs 6 RwA.len hx j hj).trans hu)))
      have HN := Lib.hid hN
      have HTK := Lib.hid htk
      clear hx htk hN hcell
      go_upto_region 6 with fail
      refine wp_region_lit ?_
      refine wpList_plain rfl (fun KK hKK => ?_)
      go_simp
      refine hKK _ _ ?_
      refine wpList_plain rfl (fun KK hKK => ?_)
      go_simp
      refine hKK _ _ ?_
      refine wpList_plain rfl (fun KK hKK => ?_)
      go_simp
      refine hKK _ _ ?_
      refine wpList_load_mid rfl 72 (.tmp 24) rfl B (O + k * 6) (by first | rfl | simp) x.cs _ HRG.out Tryz.underlying72 rfl row16_size ?_
      refine wpList_plain rfl (fun KK hKK => ?_)
      go_simp
      refine hKK _ _ ?_
      refine wpList_store_new16 rfl 72 (.tmp 8) (.tmp 25) rfl #[.int .i64 0, .int .i64 0, .string ⟨#[]⟩, .slice none 0 0, .bool false, .int .i64 0] x.cs.toArray rfl rfl (by rw [row16_size]; rfl) rfl (by simp [RwA.cs, Value.oneCell']) ?_
      refine wpList_nil ?_
      obtain ⟨V1, hV⟩ : ∃ V, wr.alloc (.cells x.cs.toArray 72) = V := ⟨_, rfl⟩
      have k1 : Below wr.heap.size wr V1 := by rw [← hV]; exact (Below.refl _ _).alloc (Nat.le_refl _) _
      have b1 : Bk V1 wr.heap.size x.cs := by rw [← hV]; exact Bk.new wr x.cs.toArray 72
      rw [hV]
      clear hV
      have HB1 := Lib.hid (HN.out.bel.trans (k1.mono HN.out.bel.size))
      have HD1 := Lib.hid (HN.out.bk.below k1)
      have HR1 := Lib.hid b1
      have HO1 : Hid (V1.ownsRow w.heap.size 46 9 v k (rowM (nxA f (L.take k))) ∧ v.ownBlock ≠ some dn ∧ ∀ i, v.ownBlock = some i → i < wr.heap.size) := Lib.hid ⟨(But.of_below (S := fun _ => False) k1).row HN.out.row (fun _ _ hf => hf), HN.out.off, fun i hi => (World.ownsRow.lt HN.out.row i hi).2⟩
      have HDL : Hid (dn < wr.heap.size ∧ w.heap.size ≤ wr.heap.size) := Lib.hid ⟨HN.out.bk.lt, HN.out.bel.size⟩
      have HAB : Hid (ApB (nxP f (L.take k)) k) := Lib.hid (by have := HFB.out.nx (L.take k); rw [List.length_take, show min k L.length = k from by omega, Nat.zero_add] at this; exact this)
      have HLN : Hid ((nxA f (L.take k)).length = k) := Lib.hid (by rw [nxA_len, List.length_take]; omega)
      have HSN : Hid (nxA f (L.take (k + 1)) = nxA f (L.take k) ++ [nxM (nxP f (L.take k)) x] ∧ nxP f (L.take (k + 1)) = (nxP f (L.take k)).up (nxO x.o) (nxRc (nxP f (L.take k)) x).ap) := Lib.hid ⟨by rw [HTK.out]; exact nxA_snoc _ _ _, by rw [HTK.out]; exact nxP_snoc _ _ _⟩
      clear k1 b1 HRG HN HTK
      generalize nxA f (L.take k) = M at *
      generalize nxP f (L.take k) = g at *
      generalize wr.heap.size = r8 at *
      have x0 := HR1.out.block (i := 0) (u := .int .i64 x.o) rfl
      have hoo := nxO_eq x.o
      have ho5 := nxO_lt x.o
      have HOO : Hid (nxO x.o = nxO x.o) := Lib.hid rfl
      obtain ⟨oo, hq⟩ : ∃ q, nxO x.o = q := ⟨_, rfl⟩
      rw [hq] at hoo ho5
      have HOE := Lib.hid hq
      clear hq HOO
      go_upto_region 8 with fail
      clear x0 hoo
      have HAT := Lib.hid (apV_at g oo ho5)
      have HGB := Lib.hid (HAB.out oo)
      obtain ⟨q, hqe⟩ : ∃ q, (g oo).1 = q := ⟨_, rfl⟩
      obtain ⟨m1, hme⟩ : ∃ q, (g oo).2.1 = q := ⟨_, rfl⟩
      obtain ⟨c1, hce⟩ : ∃ q, (g oo).2.2 = q := ⟨_, rfl⟩
      rw [hqe, hme, hce] at HAT HGB
      have HQE := Lib.hid (And.intro hqe (And.intro hme hce))
      clear hqe hme hce
      have hgb := HGB.out
      have hfl := nxF_le x.af
      obtain ⟨a, ha⟩ : ∃ q, nxF x.af = q := ⟨_, rfl⟩
      rw [ha] at hfl
      have HAE := Lib.hid ha
      have hand : bits .and .i64 x.af 65535 = a := ha
      clear ha
      have hw1 : IntKind.i64.wrap (m1 + a) = m1 + a := IntWalk.i64_in _ (by omega)
      have hw2 : IntKind.i64.wrap (c1 + 1) = c1 + 1 := IntWalk.i64_in _ (by omega)
      have hw3 : IntKind.i64.wrap (q + 1) = q + 1 := IntWalk.i64_in _ (by omega)
      have hin0 : (0 : Int) ≤ (oo : Int) := by omega
      have hin1 : (oo : Int) < 5 := by omega
      refine wp_region_held_drew (S := fun w' => w'.cell? ⟨dn, oo * 3 + 1, none⟩ = some (.int .i64 m1) ∧ w'.cell? ⟨dn, oo * 3 + 1 + 1, none⟩ = some (.int .i64 c1) ∧ w'.cell? ⟨r8, 1, none⟩ = some (.int .i64 x.af)) (by kernel_rfl) ?_ (fun hHeld => ?_)
      · exact ⟨HD1.out.block HAT.out.2.1, HD1.out.block HAT.out.2.2, HR1.out.block (i := 1) rfl⟩
      have kd : Below V1.heap.size V1 V1.drew := (Below.refl _ _).drew
      obtain ⟨V2, hV⟩ : ∃ V, V1.drew = V := ⟨_, rfl⟩
      rw [hV] at kd hHeld ⊢
      clear hV
      have HB2 := Lib.hid (HB1.out.trans (kd.mono HB1.out.size))
      have HD2 := Lib.hid (HD1.out.below kd)
      have HR2 := Lib.hid (HR1.out.below kd)
      have HO2 := Lib.hid ((But.of_below (S := fun _ => False) kd).row HO1.out.1 (fun _ _ hf => hf))
      clear kd HB1 HD1 HR1
      refine tk9 0 ?_
      refine tk9 1 ?_
      refine tk9 2 ?_
      refine tk9 3 ?_
      refine tk9 4 ?_
      refine tk9 5 ?_
      refine tk9 6 ?_
      refine tk9 7 ?_
      refine tk9 8 ?_
      refine tk9 9 ?_
      refine tk9 10 ?_
      refine tk9 11 ?_
      refine tk9 12 ?_
      refine tk9 13 ?_
      refine tk9 14 ?_
      refine wpAnyH_ready (rs := [15]) (by kernel_rfl) (by simp) ?_
      refine AllReadyH.cons rfl (fun K hK => ?_) (AllReadyH.nil)
      (try rw [if_pos (by rfl)])
      go_simp
      (try dsimp only)
      refine hK.out _ _ ?_ (fun hHeld => ?_)
      · exact ⟨(HD2.out.below ((Below.refl _ _).alloc (Nat.le_refl _) _)).block HAT.out.2.1, (HD2.out.below ((Below.refl _ _).alloc (Nat.le_refl _) _)).block HAT.out.2.2, (HR2.out.below ((Below.refl _ _).alloc (Nat.le_refl _) _)).block (i := 1) rfl⟩
      clear hK K
      (try simp only [Act.put, List.setIfInBounds_toArray, List.set_cons_zero, List.set_cons_succ, List.getElem_toArray, List.getElem_cons_succ, List.getElem_cons_zero])
      refine wpAnyH_ready (rs := [16]) (by kernel_rfl) (by simp) ?_
      refine AllReadyH.cons rfl (fun K hK => ?_) (AllReadyH.nil)
      (try rw [if_pos (by rfl)])
      refine wp_store_new16 25 (.tmp 10) (.tmp 44) rfl #[.int .i64 0, .int .i64 0] #[.int .i64 (m1 + a), .int .i64 c1] rfl rfl (by rw [stamp2_size]; rfl) rfl (by simp [Value.oneCell']) ?_
      obtain ⟨V3, hV⟩ : ∃ V, V2.alloc (.cells #[.int .i64 (m1 + a), .int .i64 c1] 25) = V := ⟨_, rfl⟩
      have k3 : Below V2.heap.size V2 V3 := by rw [← hV]; exact (Below.refl _ _).alloc (Nat.le_refl _) _
      have b3 : Bk V3 V2.heap.size [.int .i64 (m1 + a), .int .i64 c1] := by rw [← hV]; exact Bk.new V2 #[.int .i64 (m1 + a), .int .i64 c1] 25
      rw [hV]
      clear hV
      have HB3 := Lib.hid (HB2.out.trans (k3.mono HB2.out.size))
      have HD3 := Lib.hid (HD2.out.below k3)
      have HR3 := Lib.hid (HR2.out.below k3)
      have HO3 := Lib.hid ((But.of_below (S := fun _ => False) k3).row HO2.out (fun _ _ hf => hf))
      have HS3 := Lib.hid b3
      have HSL : Hid (r8 < V2.heap.size ∧ dn < V2.heap.size ∧ w.heap.size ≤ V2.heap.size ∧ ∀ i, v.ownBlock = some i → i < V2.heap.size) := Lib.hid ⟨HR2.out.lt, HD2.out.lt, HB2.out.size, fun i hi => (World.ownsRow.lt HO2.out i hi).2⟩
      clear k3 b3 HB2 HD2 HR2 HO2
      generalize V2.heap.size = st at *
      (try dsimp only)
      refine hK.out _ _ ?_ (fun hHeld => ?_)
      · exact ⟨HD3.out.block HAT.out.2.1, HD3.out.block HAT.out.2.2, HR3.out.block (i := 1) rfl⟩
      clear hK K
      (try simp only [Act.put, List.setIfInBounds_toArray, List.set_cons_zero, List.set_cons_succ, List.getElem_toArray, List.getElem_cons_succ, List.getElem_cons_zero])
      refine wpAnyH_done (by kernel_rfl) ?_ _
      clear hHeld
      have x1 := HR3.out.block (i := 1) (u := .int .i64 x.af) rfl
      go_upto_region 9 with fail
      by_cases h0 : a = 0
      · have t0 : (a == 0) = true := by simp [h0]
        replace h0 := Lib.hid h0
        have s1 := HS3.out.block (i := 1) rfl
        have f1 := HS3.out.fz 1
        go_upto_region 12 with fail
        clear s1 f1 x1 t0
        obtain ⟨V4, hV⟩ : ∃ V, V3.setCell ⟨st, 1, none⟩ (.int .i64 ((c1 + 1))) = V := ⟨_, rfl⟩
        have k4 : But (fun i => i = st) V3 V4 := by rw [← hV]; exact (But.refl (fun i => i = st) V3).setCell (p := ⟨st, 1, none⟩) (fun _ => rfl) _
        have b4 : Bk V4 st [.int .i64 (m1 + a), .int .i64 (c1 + 1)] := by rw [← hV]; exact HS3.out.set 1 (by simp) _
        rw [hV]
        clear hV
        have HB4 := Lib.hid (HB3.out.trans (k4.below (fun i hi => by subst hi; exact HSL.out.2.2.1) HB3.out.size))
        have HD4 := Lib.hid (HD3.out.but k4 (by have := HSL.out; omega))
        have HR4 := Lib.hid (HR3.out.but k4 (by have := HSL.out; omega))
        have HO4 := Lib.hid (k4.row HO3.out (fun i hi e => by have := HSL.out.2.2.2 i hi; omega))
        have HS4 := Lib.hid b4
        clear k4 b4 HB3 HD3 HR3 HO3 HS3
        have d0 := HD4.out.block HAT.out.1
        have e0 := HD4.out.fz (oo * 3)
        go_upto_region 13 with fail
        clear d0 e0
        obtain ⟨V5, hV⟩ : ∃ V, V4.setCell ⟨dn, oo * 3, none⟩ (.int .i64 (q + 1)) = V := ⟨_, rfl⟩
        have k5 : But (fun i => i = dn) V4 V5 := by rw [← hV]; exact (But.refl (fun i => i = dn) V4).setCell (p := ⟨dn, oo * 3, none⟩) (fun _ => rfl) _
        have b5 := HD4.out.set (oo * 3) (by rw [apV_len]; omega) (.int .i64 (q + 1))
        rw [hV] at b5 ⊢
        have HV5 := Lib.hid hV
        clear hV
        have HS5 := Lib.hid (HS4.out.but k5 (by have := HSL.out; omega))
        have HK5 := Lib.hid k5
        have HD5 := Lib.hid b5
        clear k5 b5
        refine wp_region_lit ?_
        refine wpList_plain rfl (fun KK hKK => ?_)
        go_simp
        refine hKK _ _ ?_
        refine wpList_load_mid rfl 25 (.tmp 10) rfl st 0 (by first | rfl | simp) [.int .i64 (m1 + a), .int .i64 (c1 + 1)] _ HS5.out.range Tryz.underlying25 rfl stamp2_size ?_
        refine wpList_plain rfl (fun KK hKK => ?_)
        go_simp
        refine hKK _ _ ?_
        refine wpList_plain rfl (fun KK hKK => ?_)
        go_simp
        refine hKK _ _ ?_
        refine wpList_plain rfl (fun KK hKK => ?_)
        refine wp_store_mid 25 (.tmp 65) (.tmp 63) rfl dn (oo * 3 + 1) #[.int .i64 (m1 + a), .int .i64 (c1 + 1)] rfl rfl (HD5.out.there (oo * 3 + 1) 2 (by rw [List.length_set, apV_len]; omega)) stamp2_size (by simp [Value.oneCell']) ?_
        refine hKK _ _ ?_
        refine wpList_nil ?_
        obtain ⟨V6, hV⟩ : ∃ V, V5.setCells dn (oo * 3 + 1) [.int .i64 (m1 + a), .int .i64 (c1 + 1)] = V := ⟨_, rfl⟩
        have b6 : Bk V6 dn (apV (g.up oo (q + 1, m1 + a, (c1 + 1)))) := by rw [← hV, ← HV5.out]; exact bk_set2 HD4.out oo ho5 (q + 1, m1 + a, (c1 + 1))
        have k6 : But (fun i => i = dn) V4 V6 := by rw [← hV]; exact but_sets (S := fun i => i = dn) rfl _ _ HK5.out
        rw [show V5.setCells dn (oo * 3 + 1) (#[.int .i64 (m1 + a), .int .i64 (c1 + 1)] : Array Value).toList = V6 from hV]
        clear hV
        have HB6 := Lib.hid (HB4.out.trans (k6.below (fun i hi => by subst hi; have := HSL.out; have := HDL.out; have := HDE.out; omega) HB4.out.size))
        have HD6 := Lib.hid b6
        have HR6 := Lib.hid (HR4.out.but k6 (by have := HDL.out; omega))
        have HO6 := Lib.hid (k6.row HO4.out (fun i hi e => HO1.out.2.1 (by rw [← e]; exact hi)))
        have HS6 := Lib.hid (HS4.out.but k6 (by have := HSL.out; omega))
        clear k6 b6 HB4 HD4 HR4 HO4 HS4 HS5 HK5 HD5 HV5
        have r3 := HR6.out.block (i := 3) rfl
        have r5 := HR6.out.block (i := 5) rfl
        go_upto_region 14 with fail
        refine wp_region_lit ?_
        refine wpList_load_mid rfl 25 (.tmp 10) rfl st 0 (by first | rfl | simp) [.int .i64 (m1 + a), .int .i64 (c1 + 1)] _ HS6.out.range Tryz.underlying25 rfl stamp2_size ?_
        refine wpList_plain rfl (fun KK hKK => ?_)
        go_simp
        refine hKK _ _ ?_
        refine wpList_plain rfl (fun KK hKK => ?_)
        go_simp
        refine hKK _ _ ?_
        refine wpList_plain rfl (fun KK hKK => ?_)
        go_simp
        refine hKK _ _ ?_
        refine wpList_plain rfl (fun KK hKK => ?_)
        go_simp
        refine hKK _ _ ?_
        refine wpList_plain rfl (fun KK hKK => ?_)
        go_simp
        refine hKK _ _ ?_
        refine wpList_plain rfl (fun KK hKK => ?_)
        go_simp
        refine hKK _ _ ?_
        refine wpList_plain rfl (fun KK hKK => ?_)
        go_simp
        refine hKK _ _ ?_
        refine wpList_store_new16 rfl 44 (.tmp 11) (.tmp 72) rfl #[.int .i64 0, .int .i64 0, .int .i64 0, .slice none 0 0, .bool false, .int .i64 0] #[.int .i64 (m1 + a), .int .i64 ((c1 + 1)), .int .i64 (oo : Int), .slice x.A x.val.length x.c, .bool false, .int .i64 x.tt] rfl rfl (by rw [vers6_size]; rfl) rfl (by simp [Value.oneCell']) ?_
        refine wpList_nil ?_
        obtain ⟨V7, hV⟩ : ∃ V, V6.alloc (.cells #[.int .i64 (m1 + a), .int .i64 ((c1 + 1)), .int .i64 (oo : Int), .slice x.A x.val.length x.c, .bool false, .int .i64 x.tt] 44) = V := ⟨_, rfl⟩
        have k7 : Below V6.heap.size V6 V7 := by rw [← hV]; exact (Below.refl _ _).alloc (Nat.le_refl _) _
        have b7 : Bk V7 V6.heap.size [.int .i64 (m1 + a), .int .i64 ((c1 + 1)), .int .i64 (oo : Int), .slice x.A x.val.length x.c, .bool false, .int .i64 x.tt] := by rw [← hV]; exact Bk.new V6 #[.int .i64 (m1 + a), .int .i64 ((c1 + 1)), .int .i64 (oo : Int), .slice x.A x.val.length x.c, .bool false, .int .i64 x.tt] 44
        rw [hV]
        clear hV r3 r5
        have HB7 := Lib.hid (HB6.out.trans (k7.mono HB6.out.size))
        have HD7 := Lib.hid (HD6.out.below k7)
        have HR7 := Lib.hid (HR6.out.below k7)
        have HO7 := Lib.hid ((But.of_below (S := fun _ => False) k7).row HO6.out (fun _ _ hf => hf))
        have HS7 := Lib.hid (HS6.out.below k7)
        have HV7 := Lib.hid b7
        have HVL : Hid (r8 < V6.heap.size ∧ st < V6.heap.size ∧ dn < V6.heap.size ∧ w.heap.size ≤ V6.heap.size ∧ ∀ i, v.ownBlock = some i → i < V6.heap.size) := Lib.hid ⟨HR6.out.lt, HS6.out.lt, HD6.out.lt, HB6.out.size, fun i hi => (World.ownsRow.lt HO6.out i hi).2⟩
        clear k7 b7 HB6 HD6 HR6 HO6 HS6
        generalize V6.heap.size = vb at *
        have r4 := HR7.out.block (i := 4) rfl
        go_upto_region 15 with fail
        obtain ⟨gn, hgn⟩ : ∃ b, x.gone = b := ⟨_, rfl⟩
        rw [hgn] at r4
        have HGO := Lib.hid hgn
        clear hgn
        cases gn
        · skip
          have HCS : Hid ((nxM g x).cs = [.int .i64 (oo : Int), .int .i64 (q + 1), .string x.key, .int .i64 (m1 + a), .int .i64 (c1 + 1), .int .i64 (oo : Int), .slice x.A x.val.length x.c, .bool false, .int .i64 x.tt] ∧ (nxRc g x).ap = (q + 1, m1 + a, (c1 + 1)) ∧ g.up (nxO x.o) (nxRc g x).ap = g.up oo (q + 1, m1 + a, (c1 + 1))) := Lib.hid (by
            obtain ⟨e1, e2, e3⟩ := HQE.out
            have e4 := HOE.out
            have e5 := HAE.out
            have e6 := HGO.out
            have e7 : (if a = 0 then c1 + 1 else (oo : Int)) = (c1 + 1) := by rw [h0.out]; rfl
            have er : nxRc g x = ⟨(oo : Int), q + 1, kL x.key, m1 + a, (c1 + 1), (oo : Int), x.val, false, x.tt⟩ := by
              unfold nxRc
              rw [e4, e1, e2, e3, e5, e7, e6]
              rfl
            refine ⟨?_, ?_, ?_⟩
            · unfold nxM
              rw [er, e6]
              simp [Mr.cs, str_kL]
            · rw [er]; rfl
            · rw [er, e4]; rfl)
          have HDA : Hid (∀ W, Below V7.heap.size V7 W → W.cell? ⟨dn, oo * 3, none⟩ = some (.int .i64 (q + 1))) := Lib.hid (fun W k => (HD7.out.below k).block (apV_at _ oo ho5).1 |>.trans (by rw [Ap.up_same]))
          have HRA8 : Hid (∀ W, Below V7.heap.size V7 W → W.cell? ⟨r8, 2, none⟩ = some (.string x.key)) := Lib.hid (fun W k => (HR7.out.below k).block (i := 2) rfl)
          have HVA : Hid (∀ W, Below V7.heap.size V7 W → W.rangeAt vb 0 [.int .i64 (m1 + a), .int .i64 (c1 + 1), .int .i64 (oo : Int), .slice x.A x.val.length x.c, .bool false, .int .i64 x.tt]) := Lib.hid (fun W k => (HV7.out.below k).range)
          go_upto_region 17 with fail
          refine wp_region_held_drew (S := fun w' => w'.cell? ⟨dn, oo * 3, none⟩ = some (.int .i64 (q + 1)) ∧ w'.cell? ⟨r8, 2, none⟩ = some (.string x.key) ∧ w'.rangeAt vb 0 [.int .i64 (m1 + a), .int .i64 (c1 + 1), .int .i64 (oo : Int), .slice x.A x.val.length x.c, .bool false, .int .i64 x.tt]) (by kernel_rfl) ?_ (fun hHeld => ?_)
          · exact ⟨HDA.out _ ((Below.refl _ _).drew), HRA8.out _ ((Below.refl _ _).drew), HVA.out _ ((Below.refl _ _).drew)⟩
          have kd : Below V7.heap.size V7 V7.drew := (Below.refl _ _).drew
          obtain ⟨VA, hV⟩ : ∃ V, V7.drew = V := ⟨_, rfl⟩
          rw [hV] at kd hHeld ⊢
          clear hV
          have HKA := Lib.hid kd
          clear kd
          refine tk9 0 ?_
          refine tk9 1 ?_
          refine tk9 2 ?_
          refine tk9 3 ?_
          refine tk9 4 ?_
          refine tk9 5 ?_
          refine tk9 6 ?_
          refine tk9 7 ?_
          refine tk9 8 (hy := yieldsIf_load_mid (by rfl) 44 (.tmp 11) rfl vb 0 rfl [.int .i64 (m1 + a), .int .i64 (c1 + 1), .int .i64 (oo : Int), .slice x.A x.val.length x.c, .bool false, .int .i64 x.tt] _ (fun _ hS => hS.2.2) Tryz.underlying44 rfl vers6_size) ?_
          refine tk9 9 ?_
          refine wpAnyH_ready (rs := [10]) (by kernel_rfl) (by simp) ?_
          refine AllReadyH.cons rfl (fun K hK => ?_) (AllReadyH.nil)
          (try rw [if_pos (by rfl)])
          go_simp
          obtain ⟨VB, hV⟩ : ∃ V, VA.alloc (.cells #[.int .i64 (oo : Int), .int .i64 (q + 1), .string x.key, .int .i64 (m1 + a), .int .i64 (c1 + 1), .int .i64 (oo : Int), .slice x.A x.val.length x.c, .bool false, .int .i64 x.tt] 46) = V := ⟨_, rfl⟩
          have kb : Below VA.heap.size VA VB := by rw [← hV]; exact (Below.refl _ _).alloc (Nat.le_refl _) _
          have bb : Bk VB VA.heap.size [.int .i64 (oo : Int), .int .i64 (q + 1), .string x.key, .int .i64 (m1 + a), .int .i64 (c1 + 1), .int .i64 (oo : Int), .slice x.A x.val.length x.c, .bool false, .int .i64 x.tt] := by rw [← hV]; exact Bk.new VA #[.int .i64 (oo : Int), .int .i64 (q + 1), .string x.key, .int .i64 (m1 + a), .int .i64 (c1 + 1), .int .i64 (oo : Int), .slice x.A x.val.length x.c, .bool false, .int .i64 x.tt] 46
          rw [hV]
          clear hV
          have HKB : Hid (Below V7.heap.size V7 VB) := Lib.hid (HKA.out.trans (kb.mono HKA.out.size))
          have HBB := Lib.hid bb
          clear kb bb HKA
          generalize VA.heap.size = bs at *
          (try dsimp only)
          refine hK.out _ _ ?_ (fun hHeld => ?_)
          · exact ⟨HDA.out _ (HKB.out), HRA8.out _ (HKB.out), HVA.out _ (HKB.out)⟩
          clear hK K
          (try simp only [Act.put, List.setIfInBounds_toArray, List.set_cons_zero, List.set_cons_succ, List.getElem_toArray, List.getElem_cons_succ, List.getElem_cons_zero])
          refine wpAnyH_ready (rs := [11]) (by kernel_rfl) (by simp) ?_
          refine AllReadyH.cons rfl (fun K hK => ?_) (AllReadyH.nil)
          (try rw [if_pos (by rfl)])
          refine app_rec (.tmp 78) (.tmp 88) rfl w.heap.size v M k HLN.out rfl ((But.of_below (S := fun _ => False) HKB.out).row HO7.out (fun _ _ hf => hf)) ⟨bs, 0, none⟩ 1 (nxM g x) rfl (by rw [HCS.out.1]; exact HBB.out.news) (by omega) (HB7.out.trans (HKB.out.mono HB7.out.size)).size (fun gg cap VC h1 h2 h3 => ?_)
          have HKC : Hid (But (fun i => v.ownBlock = some i) V7 VC) := Lib.hid ((But.of_below (S := fun i => v.ownBlock = some i) HKB.out).trans h2 (fun i _ hi => hi))
          have HFN : Hid (NxR w VC dn f L (k + 1) (.slice (some ⟨gg, 0, none⟩) (k + 1) cap)) := Lib.hid ⟨HB7.out.trans (HKC.out.below (fun i hi => (World.ownsRow.lt HO7.out i hi).1) HB7.out.size), by
              rw [HSN.out.2, HCS.out.2.2]
              exact HD7.out.but HKC.out (fun e => HO1.out.2.1 e), by rw [HSN.out.1]; exact h1, fun e => by
              have e' : gg = dn := by simpa [Value.ownBlock] using e
              rcases h3 with h3 | h3
              · exact HO1.out.2.1 (by rw [h3, e'])
              · have := HKB.out.size; have := HD7.out.lt; omega⟩
          have HSX : Hid (VC.cell? ⟨dn, oo * 3, none⟩ = some (.int .i64 (q + 1)) ∧ VC.cell? ⟨r8, 2, none⟩ = some (.string x.key) ∧ VC.rangeAt vb 0 [.int .i64 (m1 + a), .int .i64 (c1 + 1), .int .i64 (oo : Int), .slice x.A x.val.length x.c, .bool false, .int .i64 x.tt]) := Lib.hid ⟨(HD7.out.but HKC.out (fun e => HO1.out.2.1 e)).block (apV_at _ oo ho5).1 |>.trans (by rw [Ap.up_same]), (HR7.out.but HKC.out (fun e => by have := HO1.out.2.2 _ e; omega)).block (i := 2) rfl, (HV7.out.but HKC.out (fun e => by have := HO1.out.2.2 _ e; have := HVL.out; omega)).range⟩
          clear h1 h2 h3
          (try dsimp only)
          refine hK.out _ _ ?_ (fun hHeld => ?_)
          · exact HSX.out
          clear hK K
          (try simp only [Act.put, List.setIfInBounds_toArray, List.set_cons_zero, List.set_cons_succ, List.getElem_toArray, List.getElem_cons_succ, List.getElem_cons_zero])
          refine tk9 12 ?_
          refine wpAnyH_done (by kernel_rfl) ?_ _
          clear hHeld
          go_wp2_with fail
          go_roundw
          case rel => exact ⟨k + 1, _, by omega, by go_num, rfl, HFN.out⟩
          case measure => simp [intOf]; omega
        · skip
          go_upto_region 16 with fail
          clear r4
          refine wp_region_lit ?_
          refine wpList_load_mid rfl 25 (.tmp 10) rfl st 0 (by first | rfl | simp) [.int .i64 (m1 + a), .int .i64 (c1 + 1)] _ HS7.out.range Tryz.underlying25 rfl stamp2_size ?_
          refine wpList_plain rfl (fun KK hKK => ?_)
          go_simp
          refine hKK _ _ ?_
          refine wpList_plain rfl (fun KK hKK => ?_)
          go_simp
          refine hKK _ _ ?_
          refine wpList_plain rfl (fun KK hKK => ?_)
          refine wp_store_mid 44 (.tmp 11) (.tmp 77) rfl vb 0 #[.int .i64 (m1 + a), .int .i64 ((c1 + 1)), .int .i64 (oo : Int), .slice none 0 0, .bool true, .int .i64 0] rfl rfl (HV7.out.there 0 6 (by simp)) vers6_size (by simp [Value.oneCell']) ?_
          refine hKK _ _ ?_
          refine wpList_nil ?_
          obtain ⟨V8, hV⟩ : ∃ V, V7.setCells vb 0 [.int .i64 (m1 + a), .int .i64 ((c1 + 1)), .int .i64 (oo : Int), .slice none 0 0, .bool true, .int .i64 0] = V := ⟨_, rfl⟩
          have b8 : Bk V8 vb [.int .i64 (m1 + a), .int .i64 ((c1 + 1)), .int .i64 (oo : Int), .slice none 0 0, .bool true, .int .i64 0] := by rw [← hV]; exact HV7.out.sets rfl
          have k8 : But (fun i => i = vb) V7 V8 := by rw [← hV]; exact but_sets (S := fun i => i = vb) rfl _ _ (But.refl _ _)
          rw [show V7.setCells vb 0 (#[.int .i64 (m1 + a), .int .i64 ((c1 + 1)), .int .i64 (oo : Int), .slice none 0 0, .bool true, .int .i64 0] : Array Value).toList = V8 from hV]
          clear hV
          have HB8 := Lib.hid (HB7.out.trans (k8.below (fun i hi => by subst hi; exact HVL.out.2.2.2.1) HB7.out.size))
          have HD8 := Lib.hid (HD7.out.but k8 (by have := HVL.out; omega))
          have HR8 := Lib.hid (HR7.out.but k8 (by have := HVL.out; omega))
          have HO8 := Lib.hid (k8.row HO7.out (fun i hi e => by have := HVL.out.2.2.2.2 i hi; omega))
          have HV8 := Lib.hid b8
          clear k8 b8 HB7 HD7 HR7 HO7 HV7 HS7
          have HCS : Hid ((nxM g x).cs = [.int .i64 (oo : Int), .int .i64 (q + 1), .string x.key, .int .i64 (m1 + a), .int .i64 (c1 + 1), .int .i64 (oo : Int), .slice none 0 0, .bool true, .int .i64 0] ∧ (nxRc g x).ap = (q + 1, m1 + a, (c1 + 1)) ∧ g.up (nxO x.o) (nxRc g x).ap = g.up oo (q + 1, m1 + a, (c1 + 1))) := Lib.hid (by
            obtain ⟨e1, e2, e3⟩ := HQE.out
            have e4 := HOE.out
            have e5 := HAE.out
            have e6 := HGO.out
            have e7 : (if a = 0 then c1 + 1 else (oo : Int)) = (c1 + 1) := by rw [h0.out]; rfl
            have er : nxRc g x = ⟨(oo : Int), q + 1, kL x.key, m1 + a, (c1 + 1), (oo : Int), [], true, 0⟩ := by
              unfold nxRc
              rw [e4, e1, e2, e3, e5, e7, e6]
              rfl
            refine ⟨?_, ?_, ?_⟩
            · unfold nxM
              rw [er, e6]
              simp [Mr.cs, str_kL]
            · rw [er]; rfl
            · rw [er, e4]; rfl)
          have HDA : Hid (∀ W, Below V8.heap.size V8 W → W.cell? ⟨dn, oo * 3, none⟩ = some (.int .i64 (q + 1))) := Lib.hid (fun W k => (HD8.out.below k).block (apV_at _ oo ho5).1 |>.trans (by rw [Ap.up_same]))
          have HRA8 : Hid (∀ W, Below V8.heap.size V8 W → W.cell? ⟨r8, 2, none⟩ = some (.string x.key)) := Lib.hid (fun W k => (HR8.out.below k).block (i := 2) rfl)
          have HVA : Hid (∀ W, Below V8.heap.size V8 W → W.rangeAt vb 0 [.int .i64 (m1 + a), .int .i64 (c1 + 1), .int .i64 (oo : Int), .slice none 0 0, .bool true, .int .i64 0]) := Lib.hid (fun W k => (HV8.out.below k).range)
          go_upto_region 17 with fail
          refine wp_region_held_drew (S := fun w' => w'.cell? ⟨dn, oo * 3, none⟩ = some (.int .i64 (q + 1)) ∧ w'.cell? ⟨r8, 2, none⟩ = some (.string x.key) ∧ w'.rangeAt vb 0 [.int .i64 (m1 + a), .int .i64 (c1 + 1), .int .i64 (oo : Int), .slice none 0 0, .bool true, .int .i64 0]) (by kernel_rfl) ?_ (fun hHeld => ?_)
          · exact ⟨HDA.out _ ((Below.refl _ _).drew), HRA8.out _ ((Below.refl _ _).drew), HVA.out _ ((Below.refl _ _).drew)⟩
          have kd : Below V8.heap.size V8 V8.drew := (Below.refl _ _).drew
          obtain ⟨VA, hV⟩ : ∃ V, V8.drew = V := ⟨_, rfl⟩
          rw [hV] at kd hHeld ⊢
          clear hV
          have HKA := Lib.hid kd
          clear kd
          refine tk9 0 ?_
          refine tk9 1 ?_
          refine tk9 2 ?_
          refine tk9 3 ?_
          refine tk9 4 ?_
          refine tk9 5 ?_
          refine tk9 6 ?_
          refine tk9 7 ?_
          refine tk9 8 (hy := yieldsIf_load_mid (by rfl) 44 (.tmp 11) rfl vb 0 rfl [.int .i64 (m1 + a), .int .i64 (c1 + 1), .int .i64 (oo : Int), .slice none 0 0, .bool true, .int .i64 0] _ (fun _ hS => hS.2.2) Tryz.underlying44 rfl vers6_size) ?_
          refine tk9 9 ?_
          refine wpAnyH_ready (rs := [10]) (by kernel_rfl) (by simp) ?_
          refine AllReadyH.cons rfl (fun K hK => ?_) (AllReadyH.nil)
          (try rw [if_pos (by rfl)])
          go_simp
          obtain ⟨VB, hV⟩ : ∃ V, VA.alloc (.cells #[.int .i64 (oo : Int), .int .i64 (q + 1), .string x.key, .int .i64 (m1 + a), .int .i64 (c1 + 1), .int .i64 (oo : Int), .slice none 0 0, .bool true, .int .i64 0] 46) = V := ⟨_, rfl⟩
          have kb : Below VA.heap.size VA VB := by rw [← hV]; exact (Below.refl _ _).alloc (Nat.le_refl _) _
          have bb : Bk VB VA.heap.size [.int .i64 (oo : Int), .int .i64 (q + 1), .string x.key, .int .i64 (m1 + a), .int .i64 (c1 + 1), .int .i64 (oo : Int), .slice none 0 0, .bool true, .int .i64 0] := by rw [← hV]; exact Bk.new VA #[.int .i64 (oo : Int), .int .i64 (q + 1), .string x.key, .int .i64 (m1 + a), .int .i64 (c1 + 1), .int .i64 (oo : Int), .slice none 0 0, .bool true, .int .i64 0] 46
          rw [hV]
          clear hV
          have HKB : Hid (Below V8.heap.size V8 VB) := Lib.hid (HKA.out.trans (kb.mono HKA.out.size))
          have HBB := Lib.hid bb
          clear kb bb HKA
          generalize VA.heap.size = bs at *
          (try dsimp only)
          refine hK.out _ _ ?_ (fun hHeld => ?_)
          · exact ⟨HDA.out _ (HKB.out), HRA8.out _ (HKB.out), HVA.out _ (HKB.out)⟩
          clear hK K
          (try simp only [Act.put, List.setIfInBounds_toArray, List.set_cons_zero, List.set_cons_succ, List.getElem_toArray, List.getElem_cons_succ, List.getElem_cons_zero])
          refine wpAnyH_ready (rs := [11]) (by kernel_rfl) (by simp) ?_
          refine AllReadyH.cons rfl (fun K hK => ?_) (AllReadyH.nil)
          (try rw [if_pos (by rfl)])
          refine app_rec (.tmp 78) (.tmp 88) rfl w.heap.size v M k HLN.out rfl ((But.of_below (S := fun _ => False) HKB.out).row HO8.out (fun _ _ hf => hf)) ⟨bs, 0, none⟩ 1 (nxM g x) rfl (by rw [HCS.out.1]; exact HBB.out.news) (by omega) (HB8.out.trans (HKB.out.mono HB8.out.size)).size (fun gg cap VC h1 h2 h3 => ?_)
          have HKC : Hid (But (fun i => v.ownBlock = some i) V8 VC) := Lib.hid ((But.of_below (S := fun i => v.ownBlock = some i) HKB.out).trans h2 (fun i _ hi => hi))
          have HFN : Hid (NxR w VC dn f L (k + 1) (.slice (some ⟨gg, 0, none⟩) (k + 1) cap)) := Lib.hid ⟨HB8.out.trans (HKC.out.below (fun i hi => (World.ownsRow.lt HO8.out i hi).1) HB8.out.size), by
              rw [HSN.out.2, HCS.out.2.2]
              exact HD8.out.but HKC.out (fun e => HO1.out.2.1 e), by rw [HSN.out.1]; exact h1, fun e => by
              have e' : gg = dn := by simpa [Value.ownBlock] using e
              rcases h3 with h3 | h3
              · exact HO1.out.2.1 (by rw [h3, e'])
              · have := HKB.out.size; have := HD8.out.lt; omega⟩
          have HSX : Hid (VC.cell? ⟨dn, oo * 3, none⟩ = some (.int .i64 (q + 1)) ∧ VC.cell? ⟨r8, 2, none⟩ = some (.string x.key) ∧ VC.rangeAt vb 0 [.int .i64 (m1 + a), .int .i64 (c1 + 1), .int .i64 (oo : Int), .slice none 0 0, .bool true, .int .i64 0]) := Lib.hid ⟨(HD8.out.but HKC.out (fun e => HO1.out.2.1 e)).block (apV_at _ oo ho5).1 |>.trans (by rw [Ap.up_same]), (HR8.out.but HKC.out (fun e => by have := HO1.out.2.2 _ e; omega)).block (i := 2) rfl, (HV8.out.but HKC.out (fun e => by have := HO1.out.2.2 _ e; have := HVL.out; omega)).range⟩
          clear h1 h2 h3
          (try dsimp only)
          refine hK.out _ _ ?_ (fun hHeld => ?_)
          · exact HSX.out
          clear hK K
          (try simp only [Act.put, List.setIfInBounds_toArray, List.set_cons_zero, List.set_cons_succ, List.getElem_toArray, List.getElem_cons_succ, List.getElem_cons_zero])
          refine tk9 12 ?_
          refine wpAnyH_done (by kernel_rfl) ?_ _
          clear hHeld
          go_wp2_with fail
          go_roundw
          case rel => exact ⟨k + 1, _, by omega, by go_num, rfl, HFN.out⟩
          case measure => simp [intOf]; omega
      · have t0 : (a == 0) = false := by simp [h0]
        replace h0 := Lib.hid h0
        have s1 := HS3.out.block (i := 1) rfl
        have f1 := HS3.out.fz 1
        go_upto_region 12 with fail
        clear s1 f1 x1 t0
        obtain ⟨V4, hV⟩ : ∃ V, V3.setCell ⟨st, 1, none⟩ (.int .i64 ((oo : Int))) = V := ⟨_, rfl⟩
        have k4 : But (fun i => i = st) V3 V4 := by rw [← hV]; exact (But.refl (fun i => i = st) V3).setCell (p := ⟨st, 1, none⟩) (fun _ => rfl) _
        have b4 : Bk V4 st [.int .i64 (m1 + a), .int .i64 (oo : Int)] := by rw [← hV]; exact HS3.out.set 1 (by simp) _
        rw [hV]
        clear hV
        have HB4 := Lib.hid (HB3.out.trans (k4.below (fun i hi => by subst hi; exact HSL.out.2.2.1) HB3.out.size))
        have HD4 := Lib.hid (HD3.out.but k4 (by have := HSL.out; omega))
        have HR4 := Lib.hid (HR3.out.but k4 (by have := HSL.out; omega))
        have HO4 := Lib.hid (k4.row HO3.out (fun i hi e => by have := HSL.out.2.2.2 i hi; omega))
        have HS4 := Lib.hid b4
        clear k4 b4 HB3 HD3 HR3 HO3 HS3
        have d0 := HD4.out.block HAT.out.1
        have e0 := HD4.out.fz (oo * 3)
        go_upto_region 13 with fail
        clear d0 e0
        obtain ⟨V5, hV⟩ : ∃ V, V4.setCell ⟨dn, oo * 3, none⟩ (.int .i64 (q + 1)) = V := ⟨_, rfl⟩
        have k5 : But (fun i => i = dn) V4 V5 := by rw [← hV]; exact (But.refl (fun i => i = dn) V4).setCell (p := ⟨dn, oo * 3, none⟩) (fun _ => rfl) _
        have b5 := HD4.out.set (oo * 3) (by rw [apV_len]; omega) (.int .i64 (q + 1))
        rw [hV] at b5 ⊢
        have HV5 := Lib.hid hV
        clear hV
        have HS5 := Lib.hid (HS4.out.but k5 (by have := HSL.out; omega))
        have HK5 := Lib.hid k5
        have HD5 := Lib.hid b5
        clear k5 b5
        refine wp_region_lit ?_
        refine wpList_plain rfl (fun KK hKK => ?_)
        go_simp
        refine hKK _ _ ?_
        refine wpList_load_mid rfl 25 (.tmp 10) rfl st 0 (by first | rfl | simp) [.int .i64 (m1 + a), .int .i64 (oo : Int)] _ HS5.out.range Tryz.underlying25 rfl stamp2_size ?_
        refine wpList_plain rfl (fun KK hKK => ?_)
        go_simp
        refine hKK _ _ ?_
        refine wpList_plain rfl (fun KK hKK => ?_)
        go_simp
        refine hKK _ _ ?_
        refine wpList_plain rfl (fun KK hKK => ?_)
        refine wp_store_mid 25 (.tmp 65) (.tmp 63) rfl dn (oo * 3 + 1) #[.int .i64 (m1 + a), .int .i64 (oo : Int)] rfl rfl (HD5.out.there (oo * 3 + 1) 2 (by rw [List.length_set, apV_len]; omega)) stamp2_size (by simp [Value.oneCell']) ?_
        refine hKK _ _ ?_
        refine wpList_nil ?_
        obtain ⟨V6, hV⟩ : ∃ V, V5.setCells dn (oo * 3 + 1) [.int .i64 (m1 + a), .int .i64 (oo : Int)] = V := ⟨_, rfl⟩
        have b6 : Bk V6 dn (apV (g.up oo (q + 1, m1 + a, (oo : Int)))) := by rw [← hV, ← HV5.out]; exact bk_set2 HD4.out oo ho5 (q + 1, m1 + a, (oo : Int))
        have k6 : But (fun i => i = dn) V4 V6 := by rw [← hV]; exact but_sets (S := fun i => i = dn) rfl _ _ HK5.out
        rw [show V5.setCells dn (oo * 3 + 1) (#[.int .i64 (m1 + a), .int .i64 (oo : Int)] : Array Value).toList = V6 from hV]
        clear hV
        have HB6 := Lib.hid (HB4.out.trans (k6.below (fun i hi => by subst hi; have := HSL.out; have := HDL.out; have := HDE.out; omega) HB4.out.size))
        have HD6 := Lib.hid b6
        have HR6 := Lib.hid (HR4.out.but k6 (by have := HDL.out; omega))
        have HO6 := Lib.hid (k6.row HO4.out (fun i hi e => HO1.out.2.1 (by rw [← e]; exact hi)))
        have HS6 := Lib.hid (HS4.out.but k6 (by have := HSL.out; omega))
        clear k6 b6 HB4 HD4 HR4 HO4 HS4 HS5 HK5 HD5 HV5
        have r3 := HR6.out.block (i := 3) rfl
        have r5 := HR6.out.block (i := 5) rfl
        go_upto_region 14 with fail
        refine wp_region_lit ?_
        refine wpList_load_mid rfl 25 (.tmp 10) rfl st 0 (by first | rfl | simp) [.int .i64 (m1 + a), .int .i64 (oo : Int)] _ HS6.out.range Tryz.underlying25 rfl stamp2_size ?_
        refine wpList_plain rfl (fun KK hKK => ?_)
        go_simp
        refine hKK _ _ ?_
        refine wpList_plain rfl (fun KK hKK => ?_)
        go_simp
        refine hKK _ _ ?_
        refine wpList_plain rfl (fun KK hKK => ?_)
        go_simp
        refine hKK _ _ ?_
        refine wpList_plain rfl (fun KK hKK => ?_)
        go_simp
        refine hKK _ _ ?_
        refine wpList_plain rfl (fun KK hKK => ?_)
        go_simp
        refine hKK _ _ ?_
        refine wpList_plain rfl (fun KK hKK => ?_)
        go_simp
        refine hKK _ _ ?_
        refine wpList_plain rfl (fun KK hKK => ?_)
        go_simp
        refine hKK _ _ ?_
        refine wpList_store_new16 rfl 44 (.tmp 11) (.tmp 72) rfl #[.int .i64 0, .int .i64 0, .int .i64 0, .slice none 0 0, .bool false, .int .i64 0] #[.int .i64 (m1 + a), .int .i64 ((oo : Int)), .int .i64 (oo : Int), .slice x.A x.val.length x.c, .bool false, .int .i64 x.tt] rfl rfl (by rw [vers6_size]; rfl) rfl (by simp [Value.oneCell']) ?_
        refine wpList_nil ?_
        obtain ⟨V7, hV⟩ : ∃ V, V6.alloc (.cells #[.int .i64 (m1 + a), .int .i64 ((oo : Int)), .int .i64 (oo : Int), .slice x.A x.val.length x.c, .bool false, .int .i64 x.tt] 44) = V := ⟨_, rfl⟩
        have k7 : Below V6.heap.size V6 V7 := by rw [← hV]; exact (Below.refl _ _).alloc (Nat.le_refl _) _
        have b7 : Bk V7 V6.heap.size [.int .i64 (m1 + a), .int .i64 ((oo : Int)), .int .i64 (oo : Int), .slice x.A x.val.length x.c, .bool false, .int .i64 x.tt] := by rw [← hV]; exact Bk.new V6 #[.int .i64 (m1 + a), .int .i64 ((oo : Int)), .int .i64 (oo : Int), .slice x.A x.val.length x.c, .bool false, .int .i64 x.tt] 44
        rw [hV]
        clear hV r3 r5
        have HB7 := Lib.hid (HB6.out.trans (k7.mono HB6.out.size))
        have HD7 := Lib.hid (HD6.out.below k7)
        have HR7 := Lib.hid (HR6.out.below k7)
        have HO7 := Lib.hid ((But.of_below (S := fun _ => False) k7).row HO6.out (fun _ _ hf => hf))
        have HS7 := Lib.hid (HS6.out.below k7)
        have HV7 := Lib.hid b7
        have HVL : Hid (r8 < V6.heap.size ∧ st < V6.heap.size ∧ dn < V6.heap.size ∧ w.heap.size ≤ V6.heap.size ∧ ∀ i, v.ownBlock = some i → i < V6.heap.size) := Lib.hid ⟨HR6.out.lt, HS6.out.lt, HD6.out.lt, HB6.out.size, fun i hi => (World.ownsRow.lt HO6.out i hi).2⟩
        clear k7 b7 HB6 HD6 HR6 HO6 HS6
        generalize V6.heap.size = vb at *
        have r4 := HR7.out.block (i := 4) rfl
        go_upto_region 15 with fail
        obtain ⟨gn, hgn⟩ : ∃ b, x.gone = b := ⟨_, rfl⟩
        rw [hgn] at r4
        have HGO := Lib.hid hgn
        clear hgn
        cases gn
        · skip
          have HCS : Hid ((nxM g x).cs = [.int .i64 (oo : Int), .int .i64 (q + 1), .string x.key, .int .i64 (m1 + a), .int .i64 (oo : Int), .int .i64 (oo : Int), .slice x.A x.val.length x.c, .bool false, .int .i64 x.tt] ∧ (nxRc g x).ap = (q + 1, m1 + a, (oo : Int)) ∧ g.up (nxO x.o) (nxRc g x).ap = g.up oo (q + 1, m1 + a, (oo : Int))) := Lib.hid (by
            obtain ⟨e1, e2, e3⟩ := HQE.out
            have e4 := HOE.out
            have e5 := HAE.out
            have e6 := HGO.out
            have e7 : (if a = 0 then c1 + 1 else (oo : Int)) = (oo : Int) := by rw [if_neg h0.out]
            have er : nxRc g x = ⟨(oo : Int), q + 1, kL x.key, m1 + a, (oo : Int), (oo : Int), x.val, false, x.tt⟩ := by
              unfold nxRc
              rw [e4, e1, e2, e3, e5, e7, e6]
              rfl
            refine ⟨?_, ?_, ?_⟩
            · unfold nxM
              rw [er, e6]
              simp [Mr.cs, str_kL]
            · rw [er]; rfl
            · rw [er, e4]; rfl)
          have HDA : Hid (∀ W, Below V7.heap.size V7 W → W.cell? ⟨dn, oo * 3, none⟩ = some (.int .i64 (q + 1))) := Lib.hid (fun W k => (HD7.out.below k).block (apV_at _ oo ho5).1 |>.trans (by rw [Ap.up_same]))
          have HRA8 : Hid (∀ W, Below V7.heap.size V7 W → W.cell? ⟨r8, 2, none⟩ = some (.string x.key)) := Lib.hid (fun W k => (HR7.out.below k).block (i := 2) rfl)
          have HVA : Hid (∀ W, Below V7.heap.size V7 W → W.rangeAt vb 0 [.int .i64 (m1 + a), .int .i64 (oo : Int), .int .i64 (oo : Int), .slice x.A x.val.length x.c, .bool false, .int .i64 x.tt]) := Lib.hid (fun W k => (HV7.out.below k).range)
          go_upto_region 17 with fail
          refine wp_region_held_drew (S := fun w' => w'.cell? ⟨dn, oo * 3, none⟩ = some (.int .i64 (q + 1)) ∧ w'.cell? ⟨r8, 2, none⟩ = some (.string x.key) ∧ w'.rangeAt vb 0 [.int .i64 (m1 + a), .int .i64 (oo : Int), .int .i64 (oo : Int), .slice x.A x.val.length x.c, .bool false, .int .i64 x.tt]) (by kernel_rfl) ?_ (fun hHeld => ?_)
          · exact ⟨HDA.out _ ((Below.refl _ _).drew), HRA8.out _ ((Below.refl _ _).drew), HVA.out _ ((Below.refl _ _).drew)⟩
          have kd : Below V7.heap.size V7 V7.drew := (Below.refl _ _).drew
          obtain ⟨VA, hV⟩ : ∃ V, V7.drew = V := ⟨_, rfl⟩
          rw [hV] at kd hHeld ⊢
          clear hV
          have HKA := Lib.hid kd
          clear kd
          refine tk9 0 ?_
          refine tk9 1 ?_
          refine tk9 2 ?_
          refine tk9 3 ?_
          refine tk9 4 ?_
          refine tk9 5 ?_
          refine tk9 6 ?_
          refine tk9 7 ?_
          refine tk9 8 (hy := yieldsIf_load_mid (by rfl) 44 (.tmp 11) rfl vb 0 rfl [.int .i64 (m1 + a), .int .i64 (oo : Int), .int .i64 (oo : Int), .slice x.A x.val.length x.c, .bool false, .int .i64 x.tt] _ (fun _ hS => hS.2.2) Tryz.underlying44 rfl vers6_size) ?_
          refine tk9 9 ?_
          refine wpAnyH_ready (rs := [10]) (by kernel_rfl) (by simp) ?_
          refine AllReadyH.cons rfl (fun K hK => ?_) (AllReadyH.nil)
          (try rw [if_pos (by rfl)])
          go_simp
          obtain ⟨VB, hV⟩ : ∃ V, VA.alloc (.cells #[.int .i64 (oo : Int), .int .i64 (q + 1), .string x.key, .int .i64 (m1 + a), .int .i64 (oo : Int), .int .i64 (oo : Int), .slice x.A x.val.length x.c, .bool false, .int .i64 x.tt] 46) = V := ⟨_, rfl⟩
          have kb : Below VA.heap.size VA VB := by rw [← hV]; exact (Below.refl _ _).alloc (Nat.le_refl _) _
          have bb : Bk VB VA.heap.size [.int .i64 (oo : Int), .int .i64 (q + 1), .string x.key, .int .i64 (m1 + a), .int .i64 (oo : Int), .int .i64 (oo : Int), .slice x.A x.val.length x.c, .bool false, .int .i64 x.tt] := by rw [← hV]; exact Bk.new VA #[.int .i64 (oo : Int), .int .i64 (q + 1), .string x.key, .int .i64 (m1 + a), .int .i64 (oo : Int), .int .i64 (oo : Int), .slice x.A x.val.length x.c, .bool false, .int .i64 x.tt] 46
          rw [hV]
          clear hV
          have HKB : Hid (Below V7.heap.size V7 VB) := Lib.hid (HKA.out.trans (kb.mono HKA.out.size))
          have HBB := Lib.hid bb
          clear kb bb HKA
          generalize VA.heap.size = bs at *
          (try dsimp only)
          refine hK.out _ _ ?_ (fun hHeld => ?_)
          · exact ⟨HDA.out _ (HKB.out), HRA8.out _ (HKB.out), HVA.out _ (HKB.out)⟩
          clear hK K
          (try simp only [Act.put, List.setIfInBounds_toArray, List.set_cons_zero, List.set_cons_succ, List.getElem_toArray, List.getElem_cons_succ, List.getElem_cons_zero])
          refine wpAnyH_ready (rs := [11]) (by kernel_rfl) (by simp) ?_
          refine AllReadyH.cons rfl (fun K hK => ?_) (AllReadyH.nil)
          (try rw [if_pos (by rfl)])
          refine app_rec (.tmp 78) (.tmp 88) rfl w.heap.size v M k HLN.out rfl ((But.of_below (S := fun _ => False) HKB.out).row HO7.out (fun _ _ hf => hf)) ⟨bs, 0, none⟩ 1 (nxM g x) rfl (by rw [HCS.out.1]; exact HBB.out.news) (by omega) (HB7.out.trans (HKB.out.mono HB7.out.size)).size (fun gg cap VC h1 h2 h3 => ?_)
          have HKC : Hid (But (fun i => v.ownBlock = some i) V7 VC) := Lib.hid ((But.of_below (S := fun i => v.ownBlock = some i) HKB.out).trans h2 (fun i _ hi => hi))
          have HFN : Hid (NxR w VC dn f L (k + 1) (.slice (some ⟨gg, 0, none⟩) (k + 1) cap)) := Lib.hid ⟨HB7.out.trans (HKC.out.below (fun i hi => (World.ownsRow.lt HO7.out i hi).1) HB7.out.size), by
              rw [HSN.out.2, HCS.out.2.2]
              exact HD7.out.but HKC.out (fun e => HO1.out.2.1 e), by rw [HSN.out.1]; exact h1, fun e => by
              have e' : gg = dn := by simpa [Value.ownBlock] using e
              rcases h3 with h3 | h3
              · exact HO1.out.2.1 (by rw [h3, e'])
              · have := HKB.out.size; have := HD7.out.lt; omega⟩
          have HSX : Hid (VC.cell? ⟨dn, oo * 3, none⟩ = some (.int .i64 (q + 1)) ∧ VC.cell? ⟨r8, 2, none⟩ = some (.string x.key) ∧ VC.rangeAt vb 0 [.int .i64 (m1 + a), .int .i64 (oo : Int), .int .i64 (oo : Int), .slice x.A x.val.length x.c, .bool false, .int .i64 x.tt]) := Lib.hid ⟨(HD7.out.but HKC.out (fun e => HO1.out.2.1 e)).block (apV_at _ oo ho5).1 |>.trans (by rw [Ap.up_same]), (HR7.out.but HKC.out (fun e => by have := HO1.out.2.2 _ e; omega)).block (i := 2) rfl, (HV7.out.but HKC.out (fun e => by have := HO1.out.2.2 _ e; have := HVL.out; omega)).range⟩
          clear h1 h2 h3
          (try dsimp only)
          refine hK.out _ _ ?_ (fun hHeld => ?_)
          · exact HSX.out
          clear hK K
          (try simp only [Act.put, List.setIfInBounds_toArray, List.set_cons_zero, List.set_cons_succ, List.getElem_toArray, List.getElem_cons_succ, List.getElem_cons_zero])
          refine tk9 12 ?_
          refine wpAnyH_done (by kernel_rfl) ?_ _
          clear hHeld
          go_wp2_with fail
          go_roundw
          case rel => exact ⟨k + 1, _, by omega, by go_num, rfl, HFN.out⟩
          case measure => simp [intOf]; omega
        · skip
          go_upto_region 16 with fail
          clear r4
          refine wp_region_lit ?_
          refine wpList_load_mid rfl 25 (.tmp 10) rfl st 0 (by first | rfl | simp) [.int .i64 (m1 + a), .int .i64 (oo : Int)] _ HS7.out.range Tryz.underlying25 rfl stamp2_size ?_
          refine wpList_plain rfl (fun KK hKK => ?_)
          go_simp
          refine hKK _ _ ?_
          refine wpList_plain rfl (fun KK hKK => ?_)
          go_simp
          refine hKK _ _ ?_
          refine wpList_plain rfl (fun KK hKK => ?_)
          refine wp_store_mid 44 (.tmp 11) (.tmp 77) rfl vb 0 #[.int .i64 (m1 + a), .int .i64 ((oo : Int)), .int .i64 (oo : Int), .slice none 0 0, .bool true, .int .i64 0] rfl rfl (HV7.out.there 0 6 (by simp)) vers6_size (by simp [Value.oneCell']) ?_
          refine hKK _ _ ?_
          refine wpList_nil ?_
          obtain ⟨V8, hV⟩ : ∃ V, V7.setCells vb 0 [.int .i64 (m1 + a), .int .i64 ((oo : Int)), .int .i64 (oo : Int), .slice none 0 0, .bool true, .int .i64 0] = V := ⟨_, rfl⟩
          have b8 : Bk V8 vb [.int .i64 (m1 + a), .int .i64 ((oo : Int)), .int .i64 (oo : Int), .slice none 0 0, .bool true, .int .i64 0] := by rw [← hV]; exact HV7.out.sets rfl
          have k8 : But (fun i => i = vb) V7 V8 := by rw [← hV]; exact but_sets (S := fun i => i = vb) rfl _ _ (But.refl _ _)
          rw [show V7.setCells vb 0 (#[.int .i64 (m1 + a), .int .i64 ((oo : Int)), .int .i64 (oo : Int), .slice none 0 0, .bool true, .int .i64 0] : Array Value).toList = V8 from hV]
          clear hV
          have HB8 := Lib.hid (HB7.out.trans (k8.below (fun i hi => by subst hi; exact HVL.out.2.2.2.1) HB7.out.size))
          have HD8 := Lib.hid (HD7.out.but k8 (by have := HVL.out; omega))
          have HR8 := Lib.hid (HR7.out.but k8 (by have := HVL.out; omega))
          have HO8 := Lib.hid (k8.row HO7.out (fun i hi e => by have := HVL.out.2.2.2.2 i hi; omega))
          have HV8 := Lib.hid b8
          clear k8 b8 HB7 HD7 HR7 HO7 HV7 HS7
          have HCS : Hid ((nxM g x).cs = [.int .i64 (oo : Int), .int .i64 (q + 1), .string x.key, .int .i64 (m1 + a), .int .i64 (oo : Int), .int .i64 (oo : Int), .slice none 0 0, .bool true, .int .i64 0] ∧ (nxRc g x).ap = (q + 1, m1 + a, (oo : Int)) ∧ g.up (nxO x.o) (nxRc g x).ap = g.up oo (q + 1, m1 + a, (oo : Int))) := Lib.hid (by
            obtain ⟨e1, e2, e3⟩ := HQE.out
            have e4 := HOE.out
            have e5 := HAE.out
            have e6 := HGO.out
            have e7 : (if a = 0 then c1 + 1 else (oo : Int)) = (oo : Int) := by rw [if_neg h0.out]
            have er : nxRc g x = ⟨(oo : Int), q + 1, kL x.key, m1 + a, (oo : Int), (oo : Int), [], true, 0⟩ := by
              unfold nxRc
              rw [e4, e1, e2, e3, e5, e7, e6]
              rfl
            refine ⟨?_, ?_, ?_⟩
            · unfold nxM
              rw [er, e6]
              simp [Mr.cs, str_kL]
            · rw [er]; rfl
            · rw [er, e4]; rfl)
          have HDA : Hid (∀ W, Below V8.heap.size V8 W → W.cell? ⟨dn, oo * 3, none⟩ = some (.int .i64 (q + 1))) := Lib.hid (fun W k => (HD8.out.below k).block (apV_at _ oo ho5).1 |>.trans (by rw [Ap.up_same]))
          have HRA8 : Hid (∀ W, Below V8.heap.size V8 W → W.cell? ⟨r8, 2, none⟩ = some (.string x.key)) := Lib.hid (fun W k => (HR8.out.below k).block (i := 2) rfl)
          have HVA : Hid (∀ W, Below V8.heap.size V8 W → W.rangeAt vb 0 [.int .i64 (m1 + a), .int .i64 (oo : Int), .int .i64 (oo : Int), .slice none 0 0, .bool true, .int .i64 0]) := Lib.hid (fun W k => (HV8.out.below k).range)
          go_upto_region 17 with fail
          refine wp_region_held_drew (S := fun w' => w'.cell? ⟨dn, oo * 3, none⟩ = some (.int .i64 (q + 1)) ∧ w'.cell? ⟨r8, 2, none⟩ = some (.string x.key) ∧ w'.rangeAt vb 0 [.int .i64 (m1 + a), .int .i64 (oo : Int), .int .i64 (oo : Int), .slice none 0 0, .bool true, .int .i64 0]) (by kernel_rfl) ?_ (fun hHeld => ?_)
          · exact ⟨HDA.out _ ((Below.refl _ _).drew), HRA8.out _ ((Below.refl _ _).drew), HVA.out _ ((Below.refl _ _).drew)⟩
          have kd : Below V8.heap.size V8 V8.drew := (Below.refl _ _).drew
          obtain ⟨VA, hV⟩ : ∃ V, V8.drew = V := ⟨_, rfl⟩
          rw [hV] at kd hHeld ⊢
          clear hV
          have HKA := Lib.hid kd
          clear kd
          refine tk9 0 ?_
          refine tk9 1 ?_
          refine tk9 2 ?_
          refine tk9 3 ?_
          refine tk9 4 ?_
          refine tk9 5 ?_
          refine tk9 6 ?_
          refine tk9 7 ?_
          refine tk9 8 (hy := yieldsIf_load_mid (by rfl) 44 (.tmp 11) rfl vb 0 rfl [.int .i64 (m1 + a), .int .i64 (oo : Int), .int .i64 (oo : Int), .slice none 0 0, .bool true, .int .i64 0] _ (fun _ hS => hS.2.2) Tryz.underlying44 rfl vers6_size) ?_
          refine tk9 9 ?_
          refine wpAnyH_ready (rs := [10]) (by kernel_rfl) (by simp) ?_
          refine AllReadyH.cons rfl (fun K hK => ?_) (AllReadyH.nil)
          (try rw [if_pos (by rfl)])
          go_simp
          obtain ⟨VB, hV⟩ : ∃ V, VA.alloc (.cells #[.int .i64 (oo : Int), .int .i64 (q + 1), .string x.key, .int .i64 (m1 + a), .int .i64 (oo : Int), .int .i64 (oo : Int), .slice none 0 0, .bool true, .int .i64 0] 46) = V := ⟨_, rfl⟩
          have kb : Below VA.heap.size VA VB := by rw [← hV]; exact (Below.refl _ _).alloc (Nat.le_refl _) _
          have bb : Bk VB VA.heap.size [.int .i64 (oo : Int), .int .i64 (q + 1), .string x.key, .int .i64 (m1 + a), .int .i64 (oo : Int), .int .i64 (oo : Int), .slice none 0 0, .bool true, .int .i64 0] := by rw [← hV]; exact Bk.new VA #[.int .i64 (oo : Int), .int .i64 (q + 1), .string x.key, .int .i64 (m1 + a), .int .i64 (oo : Int), .int .i64 (oo : Int), .slice none 0 0, .bool true, .int .i64 0] 46
          rw [hV]
          clear hV
          have HKB : Hid (Below V8.heap.size V8 VB) := Lib.hid (HKA.out.trans (kb.mono HKA.out.size))
          have HBB := Lib.hid bb
          clear kb bb HKA
          generalize VA.heap.size = bs at *
          (try dsimp only)
          refine hK.out _ _ ?_ (fun hHeld => ?_)
          · exact ⟨HDA.out _ (HKB.out), HRA8.out _ (HKB.out), HVA.out _ (HKB.out)⟩
          clear hK K
          (try simp only [Act.put, List.setIfInBounds_toArray, List.set_cons_zero, List.set_cons_succ, List.getElem_toArray, List.getElem_cons_succ, List.getElem_cons_zero])
          refine wpAnyH_ready (rs := [11]) (by kernel_rfl) (by simp) ?_
          refine AllReadyH.cons rfl (fun K hK => ?_) (AllReadyH.nil)
          (try rw [if_pos (by rfl)])
          refine app_rec (.tmp 78) (.tmp 88) rfl w.heap.size v M k HLN.out rfl ((But.of_below (S := fun _ => False) HKB.out).row HO8.out (fun _ _ hf => hf)) ⟨bs, 0, none⟩ 1 (nxM g x) rfl (by rw [HCS.out.1]; exact HBB.out.news) (by omega) (HB8.out.trans (HKB.out.mono HB8.out.size)).size (fun gg cap VC h1 h2 h3 => ?_)
          have HKC : Hid (But (fun i => v.ownBlock = some i) V8 VC) := Lib.hid ((But.of_below (S := fun i => v.ownBlock = some i) HKB.out).trans h2 (fun i _ hi => hi))
          have HFN : Hid (NxR w VC dn f L (k + 1) (.slice (some ⟨gg, 0, none⟩) (k + 1) cap)) := Lib.hid ⟨HB8.out.trans (HKC.out.below (fun i hi => (World.ownsRow.lt HO8.out i hi).1) HB8.out.size), by
              rw [HSN.out.2, HCS.out.2.2]
              exact HD8.out.but HKC.out (fun e => HO1.out.2.1 e), by rw [HSN.out.1]; exact h1, fun e => by
              have e' : gg = dn := by simpa [Value.ownBlock] using e
              rcases h3 with h3 | h3
              · exact HO1.out.2.1 (by rw [h3, e'])
              · have := HKB.out.size; have := HD8.out.lt; omega⟩
          have HSX : Hid (VC.cell? ⟨dn, oo * 3, none⟩ = some (.int .i64 (q + 1)) ∧ VC.cell? ⟨r8, 2, none⟩ = some (.string x.key) ∧ VC.rangeAt vb 0 [.int .i64 (m1 + a), .int .i64 (oo : Int), .int .i64 (oo : Int), .slice none 0 0, .bool true, .int .i64 0]) := Lib.hid ⟨(HD8.out.but HKC.out (fun e => HO1.out.2.1 e)).block (apV_at _ oo ho5).1 |>.trans (by rw [Ap.up_same]), (HR8.out.but HKC.out (fun e => by have := HO1.out.2.2 _ e; omega)).block (i := 2) rfl, (HV8.out.but HKC.out (fun e => by have := HO1.out.2.2 _ e; have := HVL.out; omega)).range⟩
          clear h1 h2 h3
          (try dsimp only)
          refine hK.out _ _ ?_ (fun hHeld => ?_)
          · exact HSX.out
          clear hK K
          (try simp only [Act.put, List.setIfInBounds_toArray, List.set_cons_zero, List.set_cons_succ, List.getElem_toArray, List.getElem_cons_succ, List.getElem_cons_zero])
          refine tk9 12 ?_
          refine wpAnyH_done (by kernel_rfl) ?_ _
          clear hHeld
          go_wp2_with fail
          go_roundw
          case rel => exact ⟨k + 1, _, by omega, by go_num, rfl, HFN.out⟩
          case measure => simp [intOf]; omega
    · obtain rfl : k = L.length := by omega
      have HF := Lib.hid hN
      clear hN hlt hk
      go_wp2_with fail
      go_ret
      exact ⟨⟨v, rfl, by have := HF.out.row; rwa [List.take_length] at this⟩, HF.out.bel⟩
end Go.Proofs.YtpflbhcgkndpcaaGreatDoor

/- Stage 16: Keys, Age of an empty store; Put of records that check refuses (written by gen/pe16.py). -/
namespace Go.Proofs.YtpflbhcgkndpcaaGreatDoor
open Go.RowKit

theorem rowM_cons (a : Mr) (t : List Mr) : rowM (a :: t) = a.cs ++ rowM t := rfl
theorem mr_len (a : Mr) : a.cs.length = 9 := rfl
/-- A record of a row with one cell another. -/
theorem rowM_set : ∀ (L : List Mr) (k j : Nat) (m m' : Mr) (u : Value), L[k]? = some m → j < 9 → m'.cs = m.cs.set j u → (rowM L).set (k * 9 + j) u = rowM (L.set k m')
  | [], k, _, _, _, _, h, _, _ => by simp at h
  | a :: t, 0, j, m, m', u, h, hj, e => by
    simp at h
    subst h
    show (a.cs ++ rowM t).set (0 * 9 + j) u = m'.cs ++ rowM t
    rw [Nat.zero_mul, Nat.zero_add, List.set_append_left _ _ (by rw [mr_len]; exact hj), e]
  | a :: t, k + 1, j, m, m', u, h, hj, e => by
    show (a.cs ++ rowM t).set ((k + 1) * 9 + j) u = a.cs ++ rowM (t.set k m')
    rw [List.set_append_right _ _ (by rw [mr_len]; omega), mr_len, show (k + 1) * 9 + j - 9 = k * 9 + j by omega, rowM_set t k j m m' u (by simpa using h) hj e]
/-- A row of the call's own as a block. -/
theorem bk_of_row {w : World} {base g cap n : Nat} {L : List Mr} (h : w.ownsRow base 46 9 (.slice (some ⟨g, 0, none⟩) n cap) n (rowM L)) (hg : g < w.heap.size) : Bk w g (rowM L) :=
  ⟨fun j u hu => row_cell h hu, row_frozen h, hg⟩
theorem row_of_bk {w : World} {g cap n : Nat} {L : List Mr} (h : Bk w g (rowM L)) (hn : L.length = n) : RowAt w (.slice (some ⟨g, 0, none⟩) n cap) L :=
  ⟨_, cap, by rw [hn], fun _ => ⟨g, 0, rfl, h.lt, fun j u hu => by rw [Nat.zero_add]; exact h.c j u hu⟩⟩
theorem clone_nil (w : World) : Calls Tryz.prog 32 #[.slice none 0 0] w fun e w' => e = .returned (.slice none 0 0) ∧ Below w.heap.size w w' := by
  have hq := fun W : World => Lib.run_eql_slice_nil (P := Tryz.prog) W
  go_enter Tryz.func32, Tryz.ntmps32
  go_wp2_with fail
  go_ret
  exact ⟨rfl, Below.refl _ _⟩
theorem keys_none (s : Nat) (vs : List Value) (w : World) (h : Bk w s vs) (h6 : vs[6]? = some (.slice none 0 0)) : Calls Tryz.prog 11 #[.pointer (some ⟨s, 0, none⟩)] w fun e w' => e = .returned (.tuple #[.slice none 0 0, .int .i64 0]) ∧ Below w.heap.size w w' := by
  have c6 := h.block h6
  have HC := Lib.hid (clone_nil w)
  clear h
  go_enter Tryz.func11, Tryz.ntmps11
  go_upto_region 5 with fail
  refine wp_loop_rounds 1 ?_
  rw [rounds_succ]
  go_wp2_with (go_at_call 32; refine HC.out.mono ?_; rintro e1 w1 ⟨rfl, k1⟩)
  go_ret2
  exact ⟨rfl, k1⟩
theorem age_is (s : Nat) (vs : List Value) (ag en : Int) (w : World) (h : Bk w s vs) (h4 : vs[4]? = some (.int .i64 ag)) (h5 : vs[5]? = some (.int .i64 en)) : Calls Tryz.prog 12 #[.pointer (some ⟨s, 0, none⟩)] w fun e w' => e = .returned (.tuple #[.int .i64 ag, .int .i64 en]) ∧ Below w.heap.size w w' := by
  have c4 := h.block h4
  have c5 := h.block h5
  clear h
  go_enter Tryz.func12, Tryz.ntmps12
  go_upto_region 3 with fail
  go_quiet (fail)
  go_wp2_with fail
  go_ret2
  exact ⟨rfl, by (repeat' (first | (with_reducible exact Below.refl _ _) | (with_reducible assumption) | (with_reducible refine Below.trans ?_ (Below.mono (by with_reducible assumption) ?_)) | (with_reducible refine Below.alloc ?_ ?_ _) | (with_reducible refine Below.setCell ?_ ?_ _) | (with_reducible refine below_drewN ?_ _) | (with_reducible refine Below.drew ?_) | go_size))⟩
set_option maxRecDepth 100000 in
theorem put_bad (s : Nat) (vs : List Value) (f : Ap) (mm mc : Int) (v : Value) (L : List Mr) (w : World) (hs : Bk w s vs) (h8 : vs[8]? = some (.int .i64 mm)) (h9 : vs[9]? = some (.int .i64 mc)) (hap : ∀ j u, (apV f)[j]? = some u → vs[10 + j]? = some u)
    (hbd : ∀ i, 0 ≤ (f i).1 ∧ (f i).1 ≤ 1099511627776) (h26 : vs[26]? = some (.bool false)) (hr : RowAt w v L) (hky : ∀ m ∈ L, isBy m.r.key) (hl : L.length ≤ 100000) (hn : 0 < L.length) (k : Int) (hk : chkC mm mc f (L.map Mr.r) = k) (hk0 : k ≠ 0) :
    Calls Tryz.prog 10 #[.pointer (some ⟨s, 0, none⟩), v] w fun e w' => e = .returned (.int .i64 k) ∧ Below w.heap.size w w' := by
  have c11 := hs.block h26
  have HC := Lib.hid (check_any s vs f mm mc v L w hs h8 h9 hap hbd hr hky hl)
  rw [hk] at HC
  obtain ⟨A, c, rfl, _⟩ := hr.ex
  have t0 : ((L.length : Int) == 0) = false := by simp only [beq_eq_false_iff_ne, ne_eq]; omega
  have t1 : (k != 0) = true := by simp [hk0]
  clear hs h8 h9 hap hbd hr hky hl hn hk hk0
  go_enter Tryz.func10, Tryz.ntmps10
  go_wp2_with (go_at_call 27; refine HC.out.mono ?_; rintro e1 w1 ⟨rfl, k1⟩)
  go_ret
  exact ⟨rfl, k1⟩
end Go.Proofs.YtpflbhcgkndpcaaGreatDoor

/- Stage 16: heavy of the laws, of one act (written by gen/hv16.py). -/
namespace Go.Proofs.YtpflbhcgkndpcaaGreatDoor
open Go.RowKit

def actV (A : Option Addr) (n c : Nat) : List Value := [.int .i64 0, .int .i64 0, .int .u8 0, .int .i64 0, .int .i64 0, .slice A n c, .slice none 0 0]
set_option maxRecDepth 100000 in
set_option maxHeartbeats 8000000 in
theorem heavy_any (b c1 : Nat) (A : Option Addr) (c : Nat) (L : List RwA) (w : World) (hb : Bk w b (actV A L.length c)) (hr : RowG RwA.cs w A L) (hl : L.length ≤ 9223372036854775807) : Calls Tryz.prog 5 #[.slice (some ⟨b, 0, none⟩) 1 c1] w fun e w' => (∃ q : Bool, e = .returned (.bool q)) ∧ Below w.heap.size w w' := by
  have hni : (L.length : Int) ≤ 9223372036854775807 := by omega
  have HR := Lib.hid hr
  have HA : Hid (∀ W, Below w.heap.size w W → W.cell? ⟨b, 5, none⟩ = some (.slice A L.length c) ∧ W.cell? ⟨b, 6, none⟩ = some (.slice none 0 0)) := Lib.hid (fun W k => ⟨(hb.below k).block (i := 5) rfl, (hb.below k).block (i := 6) rfl⟩)
  clear hr hb
  go_enter Tryz.func5, Tryz.ntmps5
  go_upto_region 3 with fail
  refine wp_loop_rounds 2 ?_
  rw [rounds_succ]
  obtain ⟨a5, a6⟩ := HA.out _ (Below.refl _ _)
  go_upto_region 7 with fail
  clear a5 a6
  go_loopw [5, 3] (fun i n wr => ∃ (k : Nat) (m : Int), k ≤ L.length ∧ i = .int .i64 k ∧ n = .int .i64 m ∧ Below w.heap.size w wr) (fun i _ _ => L.length - (intOf i).toNat)
  case atStart => exact ⟨0, _, Nat.zero_le _, rfl, rfl, Below.refl _ _⟩
  case round =>
    obtain ⟨k, m, hk, rfl, rfl, hB⟩ := hrel
    obtain ⟨a5, a6⟩ := HA.out _ hB
    by_cases hlt : k < L.length
    · have lk : (k : Int) < (L.length : Int) := by omega
      have hi1 : ((k : Int).toNat) = k := by simp
      have hwk : IntKind.i64.wrap ((k : Int) + 1) = (k : Int) + 1 := IntWalk.i64_in _ (by omega)
      obtain ⟨B, O, rfl, hBl, hcell⟩ := HR.out (by omega)
      have hx : L[k]? = some L[k] := List.getElem?_eq_getElem hlt
      generalize L[k] = x at *
      have HRW : Hid (∀ W, Below w.heap.size w W → W.cell? ⟨B, O + k * 6 + 2, none⟩ = some (.string x.key) ∧ W.cell? ⟨B, O + k * 6 + 3, none⟩ = some (.slice x.A x.val.length x.c)) := Lib.hid (fun W kW => ⟨by
        rw [Nat.add_assoc]; exact (kW.cell (p := ⟨B, O + (k * 6 + 2), none⟩) hBl).trans (hcell (k * 6 + 2) _ ((fm_at RwA.cs 6 RwA.len hx 2 (by omega)).trans rfl)), by
        rw [Nat.add_assoc]; exact (kW.cell (p := ⟨B, O + (k * 6 + 3), none⟩) hBl).trans (hcell (k * 6 + 3) _ ((fm_at RwA.cs 6 RwA.len hx 3 (by omega)).trans rfl))⟩)
      have HB := Lib.hid hB
      clear hx hcell hB
      go_upto_region 9 with fail
      clear a5 a6
      refine wp_region_held_drew (S := fun w' => w'.cell? ⟨b, 5, none⟩ = some (.slice (some ⟨B, O, none⟩) L.length c) ∧ w'.cell? ⟨B, O + k * 6 + 2, none⟩ = some (.string x.key) ∧ w'.cell? ⟨B, O + k * 6 + 3, none⟩ = some (.slice x.A x.val.length x.c)) (by kernel_rfl) ?_ (fun hHeld => ?_)
      · exact ⟨(HA.out _ HB.out.drew).1, (HRW.out _ HB.out.drew).1, (HRW.out _ HB.out.drew).2⟩
      have kd : Below w.heap.size w wr.drew := HB.out.drew
      obtain ⟨V1, hV⟩ : ∃ V, wr.drew = V := ⟨_, rfl⟩
      rw [hV] at kd hHeld ⊢
      clear hV
      have HB1 := Lib.hid kd
      clear kd HB
      refine tk9 0 ?_
      refine tk9 1 ?_
      refine tk9 2 ?_
      refine tk9 3 ?_
      refine tk9 4 ?_
      refine tk9 5 ?_
      refine tk9 6 ?_
      refine tk9 7 ?_
      refine tk9 8 ?_
      refine tk9 9 ?_
      refine tk9 10 ?_
      refine tk9 11 ?_
      refine tk9 12 ?_
      refine tk9 13 ?_
      refine tk9 14 ?_
      refine tk9 15 ?_
      refine tk9 16 ?_
      refine tk9 17 ?_
      refine tk9 18 ?_
      refine tk9 19 ?_
      refine tk9 20 ?_
      refine tk9 21 ?_
      refine tk9 22 ?_
      refine tk9 23 ?_
      refine tk9 24 ?_
      refine wpAnyH_done (by kernel_rfl) ?_ _
      clear hHeld
      obtain ⟨m2, hm2⟩ : ∃ q, IntKind.i64.wrap (IntKind.i64.wrap (IntKind.i64.wrap (m + 20) + (x.key.size : Int)) + (x.val.length : Int)) = q := ⟨_, rfl⟩
      rw [hm2]
      clear hm2
      by_cases h12 : (12000 : Int) < m2
      · have t1 : decide ((12000 : Int) < m2) = true := by simpa using h12
        go_wp2_with fail
        go_ret
        exact ⟨⟨_, rfl⟩, HB1.out⟩
      · have t1 : decide ((12000 : Int) < m2) = false := by simpa using h12
        go_wp2_with fail
        go_roundw
        case rel => exact ⟨k + 1, _, by omega, by go_num, rfl, HB1.out⟩
        case measure => simp [intOf]; omega
    · obtain rfl : k = L.length := by omega
      have HB := Lib.hid hB
      clear hB hlt hk
      go_upto_region 13 with fail
      refine wp_loop_rounds 1 ?_
      rw [rounds_succ]
      by_cases h12 : (12000 : Int) < m
      · have t1 : decide ((12000 : Int) < m) = true := by simpa using h12
        go_wp2_with fail
        go_ret
        exact ⟨⟨_, rfl⟩, HB.out⟩
      · have t1 : decide ((12000 : Int) < m) = false := by simpa using h12
        go_wp2_with fail
        rw [rounds_succ]
        go_wp2_with fail
        go_ret
        exact ⟨⟨_, rfl⟩, HB.out⟩
end Go.Proofs.YtpflbhcgkndpcaaGreatDoor

