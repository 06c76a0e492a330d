/- The reference's ReadList (written by gen/refrdl.py). -/
import Derived.Test.YtpccneikblbhdaaRecRow
import Derived.Test.YtpccneikblbhdaaRefNum
set_option linter.unusedSimpArgs false
set_option linter.unusedVariables false
namespace Go.Proofs.Ytpccneikblbhdaa
open Go.RowKit

theorem decR_nil : decR [] = none := by simp [decR, pR, rNum, rBytes, rRaw, decN]
theorem rBytes_no {s : RSt} (h : (rBytes s).2 = none) : (rBytes s).1 = [] := by
  unfold rBytes at h ⊢
  cases hs : (rNum s).2 with
  | none => rfl
  | some bs =>
    rw [hs] at h
    rcases Nat.lt_or_ge bs.length (rNum s).1 with q | q
    · rw [rRaw_long q]
    · rw [rRaw_yes q] at h; cases h
theorem rdL_no {l : List Int} (h : (rNum (some l)).2 = none) : rdL l = none := by
  cases hn : (rNum (some l)).1 with
  | zero => exact rdL_more (rs := []) (s := none) (by rw [h, hn]; rfl) (by simp)
  | succ k => exact rdL_bad (by rw [h, hn]; exact listR_none (by rw [show (rBytes none).1 = [] from rfl]; exact decR_nil))
set_option maxRecDepth 100000 in
set_option maxHeartbeats 8000000 in
theorem ref_rdl (A : Option Addr) (l : List Int) (c : Nat) (w : World) (hby : ByL w A l) (hb : isBy l) (hn : A = none → l.length = 0 ∧ c = 0) (hl : l.length ≤ 100000) (hc : l.length ≤ c) (hcm : c ≤ maxLen)
    (hDec : ∀ (A : Option Addr) (l : List Int) (c : Nat) (w : World), ByL w A l → isBy l → (A = none → l.length = 0 ∧ c = 0) → l.length ≤ 100000 → l.length ≤ c → c ≤ maxLen → Calls Try.prog 21 #[.slice A l.length c] w fun e w' => DecRes l w w' e ∧ Below w.heap.size w w') :
    Calls Try.prog 27 #[.slice A l.length c] w fun e w' => ListRes l w w' e ∧ Below w.heap.size w w' := by
  obtain ⟨i0, hi0, hz0, hz1, hz2⟩ := info_parts rec_info
  have hud : undef = Value.tuple #[] := rfl
  have HZ : Hid (Below w.heap.size w (w.alloc (.cells #[.slice A l.length c, .bool false] 72))) := Lib.hid (by (repeat' (first | (with_reducible exact Below.refl _ _) | (with_reducible assumption) | (with_reducible refine Below.trans ?_ (Below.mono (by with_reducible assumption) ?_)) | (with_reducible refine Below.alloc ?_ ?_ _) | (with_reducible refine Below.setCell ?_ ?_ _) | (with_reducible refine below_drewN ?_ _) | (with_reducible refine Below.drew ?_) | go_size)))
  have HR0 : Hid (Rd (fun i => i < w.heap.size) (w.alloc (.cells #[.slice A l.length c, .bool false] 72)) w.heap.size (some l)) := Lib.hid
    ⟨by omega, by simp, by simp, by simp, (fun e => by cases e), fun bs e => by
      injection e with e
      subst e
      exact ⟨A, c, by simp [World.cell?_alloc_new, go_sem], by simp [go_sem], hc, hcm, hby.below HZ.out, (fun ad had hp => by
        obtain ⟨B, O, e1, e2, _⟩ := hby hp
        rw [had] at e1
        injection e1 with e1
        subst e1
        exact ⟨e2, rfl⟩), hb, hn⟩⟩
  have HLL : Hid (l.length ≤ 100000) := Lib.hid hl
  have HD := Lib.hid hDec
  have hz : (w.alloc (.cells #[.slice A l.length c, .bool false] 72)).heap.size = w.heap.size + 1 := by simp
  clear hby hb hn hl hc hcm hDec
  go_enter Try.func27, Try.ntmps27
  go_wp2_with fail
  generalize w.alloc (.cells #[.slice A l.length c, .bool false] 72) = Z at *
  refine (rr_num w.heap.size (some l) Z HR0.out (by show l.length ≤ _; have := HLL.out; omega)).mono ?_; rintro e W2 ⟨rfl, hp⟩
  have hRL := RL.start hp.rd (Nat.le_trans (rNum_left (some l)) HLL.out) (HZ.out.trans (hp.only.below (by omega) HZ.out.size)) (Nat.le_refl _)
  have HLONG : Hid (64 < (rNum (some l)).1 → rdL l = none) := Lib.hid rdL_long
  have HBAD : Hid (listR (rNum (some l)).1 (rNum (some l)).2 [] = none → rdL l = none) := Lib.hid rdL_bad
  have HMORE : Hid (∀ rs s, listR (rNum (some l)).1 (rNum (some l)).2 [] = some (rs, s) → s ≠ some [] → rdL l = none) := Lib.hid (fun rs s h1 h2 => rdL_more h1 h2)
  have HYES : Hid (∀ rs, ¬ 64 < (rNum (some l)).1 → listR (rNum (some l)).1 (rNum (some l)).2 [] = some (rs, some []) → rdL l = some rs) := Lib.hid (fun rs h1 h2 => rdL_yes h1 h2)
  have HNO : Hid ((rNum (some l)).2 = none → rdL l = none) := Lib.hid rdL_no
  have hn62 : Hid ((rNum (some l)).1 ≤ 4611686018427387904) := Lib.hid (by have := rNum_le HR0.out.by_; simpa using this)
  have HS0 := Lib.hid hRL
  have s2 : w.heap.size + 1 ≤ W2.heap.size := by have := hp.only.size; omega
  clear hp hRL HR0 HZ hz
  generalize (rNum (some l)).1 = n at *
  generalize (rNum (some l)).2 = st at *
  have hni : (n : Int) ≤ 4611686018427387904 := by have := hn62.out; omega
  have hgq : ∀ i, W2.heap.size ≤ i → ¬ i < w.heap.size := fun i hi => by omega
  have HGQ := Lib.hid hgq
  clear hgq hn62
  go_wp2
  go_loopw [6, 7] (fun v i wr => ∃ (k : Nat) (L : List Mr) (s : RSt), k ≤ n ∧ k ≤ 65 ∧ i = .int .i64 k ∧ RL (fun i => i < w.heap.size) w wr w.heap.size v k L s ∧ W2.heap.size ≤ wr.heap.size ∧ ((s = none ∧ rdL l = none) ∨ ((∃ bs, s = some bs) ∧ listR n st [] = listR (n - k) s (L.map Mr.r)))) (fun _ i _ => n - (intOf i).toNat)
  case atStart =>
    refine ⟨0, [], st, Nat.zero_le _, by omega, rfl, HS0.out, Nat.le_refl _, ?_⟩
    cases st with
    | none => exact .inl ⟨rfl, HNO.out rfl⟩
    | some bs => exact .inr ⟨⟨bs, rfl⟩, rfl⟩
  case round =>
    obtain ⟨k, L, s, hk, hk65, rfl, hRL, hzr, hst⟩ := hrel
    clear HS0
    obtain ⟨Av, cv, rfl⟩ := hRL.shape
    have HBw := Lib.hid hRL.bel
    by_cases hlt : k < n
    rotate_left
    · obtain rfl : k = n := by omega
      have t1 : decide ((k : Int) < (k : Int)) = false := by simp
      by_cases hn64 : 64 < k
      · have t9 : decide ((64 : Int) < (k : Int)) = true := by simp; omega
        have HE := Lib.hid (HLONG.out (by omega))
        clear hRL hst
        go_wp2
        go_ret2
        exact ⟨.inl ⟨HE.out, rfl⟩, HBw.out⟩
      · have t9 : decide ((64 : Int) < (k : Int)) = false := by simp; omega
        have HW := Lib.hid (rr_whole w.heap.size s wr hRL.rd)
        have HRL := Lib.hid hRL
        have HN64 := Lib.hid hn64
        by_cases hs : s = some []
        · rw [show decide (s = some []) = true from by simp [hs]] at HW
          have HE : Hid (rdL l = some (L.map Mr.r)) := Lib.hid (by
            rcases hst with ⟨h1, _⟩ | ⟨_, h2⟩
            · rw [hs] at h1; cases h1
            · exact HYES.out (L.map Mr.r) hn64 (by rw [h2, Nat.sub_self, listR, hs]))
          clear hs hst hRL hn64 hlt hk
          go_wp2_with (go_at_call 43; refine HW.out.mono ?_; rintro e W6 ⟨rfl, rfl⟩)
          go_ret2
          exact ⟨.inr ⟨L, _, HE.out, rfl, by rw [HRL.out.len]; exact HRL.out.row, by have := HRL.out.len; have := HN64.out; omega, fun m hm => (HRL.out.ats m hm).mono (fun i _ h => h.1)⟩, HBw.out⟩
        · rw [show decide (s = some []) = false from by simp [hs]] at HW
          have HE : Hid (rdL l = none) := Lib.hid (by
            rcases hst with ⟨_, h1⟩ | ⟨_, h2⟩
            · exact h1
            · exact HMORE.out (L.map Mr.r) s (by rw [h2, Nat.sub_self, listR]) hs)
          clear hs hst hRL hn64 hlt hk
          go_wp2_with (go_at_call 43; refine HW.out.mono ?_; rintro e W6 ⟨rfl, rfl⟩)
          go_ret2
          exact ⟨.inl ⟨HE.out, rfl⟩, HBw.out⟩
    have t1 : decide ((k : Int) < (n : Int)) = true := by simp; omega
    by_cases hk64 : k ≤ 64
    rotate_left
    · have t2 : decide ((k : Int) ≤ 64) = false := by simp; omega
      have t9 : decide ((64 : Int) < (n : Int)) = true := by simp; omega
      have HE := Lib.hid (HLONG.out (by omega))
      clear hRL hst
      go_wp2
      go_ret2
      exact ⟨.inl ⟨HE.out, rfl⟩, HBw.out⟩
    have t2 : decide ((k : Int) ≤ 64) = true := by simp; omega
    have lk : (k : Int) < (n : Int) := by omega
    have lk64 : (k : Int) ≤ 64 := by omega
    rcases hst with ⟨hs0, hrn⟩ | ⟨⟨bs0, hs0⟩, heq⟩
    · have HSN := Lib.hid hs0
      have HRN := Lib.hid hrn
      obtain ⟨d0, d1⟩ := (hs0 ▸ hRL.rd).no rfl
      have dl := hRL.rd.lt
      have hst : True := trivial
      clear hrn hs0
      by_cases hn64 : 64 < n
      · have t9 : decide ((64 : Int) < (n : Int)) = true := by simp; omega
        have HE := Lib.hid (HLONG.out (by omega))
        clear hRL hst
        go_wp2
        go_ret2
        exact ⟨.inl ⟨HE.out, rfl⟩, HBw.out⟩
      · have t9 : decide ((64 : Int) < (n : Int)) = false := by simp; omega
        have HW := Lib.hid (rr_whole w.heap.size s wr hRL.rd)
        rw [show decide (s = some []) = false from by simp [HSN.out]] at HW
        have HE := Lib.hid HRN.out
        clear hRL hst
        go_wp2_with (go_at_call 43; refine HW.out.mono ?_; rintro e W6 ⟨rfl, rfl⟩)
        go_ret2
        exact ⟨.inl ⟨HE.out, rfl⟩, HBw.out⟩
    · obtain ⟨A0, c0, d0, d1, _⟩ := hRL.rd.yes bs0 hs0
      have dl := hRL.rd.lt
      rw [show n - k = (n - (k + 1)) + 1 from by omega] at heq
      have HBT := Lib.hid (rr_bytes w.heap.size s wr hRL.rd (by have := hRL.left; omega))
      have HL2 : Hid (rLeft (rBytes s).2 ≤ 100000 ∧ (rBytes s).1.length ≤ 100000) := Lib.hid ⟨Nat.le_trans (rBytes_left s).1 hRL.left, Nat.le_trans (rBytes_left s).2 hRL.left⟩
      have HBY := Lib.hid (rBytes_by hRL.rd.by_).2
      have HRL := Lib.hid hRL
      have HNO2 : Hid (decR (rBytes s).1 = none → rdL l = none) := Lib.hid (fun h => HBAD.out (heq.trans (listR_none h)))
      have HGO : Hid (∀ r, decR (rBytes s).1 = some r → (∃ bs, (rBytes s).2 = some bs) ∧ listR n st [] = listR (n - (k + 1)) (rBytes s).2 (L.map Mr.r ++ [r])) := Lib.hid (fun r h => ⟨(by
        cases hx : (rBytes s).2 with
        | some bs => exact ⟨bs, rfl⟩
        | none =>
          exfalso
          rw [rBytes_no hx, decR_nil] at h
          cases h), heq.trans (listR_some h)⟩)
      have HZL : Hid (w.heap.size < wr.heap.size) := Lib.hid hRL.rd.lt
      have HK := Lib.hid (And.intro hlt hk64)
      clear hRL heq hlt hs0 hk64
      generalize (rBytes s).2 = s' at *
      generalize (rBytes s).1 = bs at *
      go_wp2_with fail
      refine HBT.out.mono ?_; rintro e Wa ⟨ht, hp⟩
      obtain ⟨A3, c3, rfl, y3, n3, l3, m3, f3⟩ := ht
      have HRa := Lib.hid (HRL.out.read hp HL2.out.1)
      have HDa := Lib.hid (HD.out A3 bs c3 Wa y3 HBY.out n3 HL2.out.2 l3 m3)
      have za := hp.only.size
      clear hp HBT HRL y3 n3 f3 d0 d1 dl l3 m3
      go_wp2_with fail
      refine HDa.out.mono ?_; rintro e Wd ⟨hres, kd⟩
      have HRd := Lib.hid (HRa.out.below kd)
      have zd := kd.size
      rcases hres with ⟨hno, rfl⟩ | ⟨r, A4, c4, hyes, rfl, y4, n4, f4⟩
      · have HE := Lib.hid (HNO2.out hno)
        have HRe := Lib.hid (HRd.out.below ((Below.refl _ _).alloc (Nat.le_refl _) (recO 0 0 ⟨#[]⟩ 0 0 0 none 0 0 false 0)))
        have HXe := Lib.hid (XB.new Wd #[.int .i64 0, .int .i64 0, .string ⟨#[]⟩, .int .i64 0, .int .i64 0, .int .i64 0, .slice none 0 0, .bool false, .int .i64 0] 28)
        have HBADc := Lib.hid (rr_bad w.heap.size s' _ HRe.out.rd)
        clear hno kd HDa HRa HRd HGO HNO2
        go_wp2_with fail
        refine HBADc.out.mono ?_; rintro e Wb ⟨rfl, hpb⟩
        have HRb := Lib.hid (HRe.out.read hpb (by show (0 : Nat) ≤ _; omega))
        have HBd := Lib.hid HRb.out.bel
        have zb := hpb.only.size
        rw [World.size_alloc] at zb
        have X1 := HXe.out.only hpb.only (by have := HRe.out.rd.lt; have := HZL.out; omega)
        have x0 := X1.c 0 _ rfl
        have x1 := X1.c 1 _ rfl
        have x2 := X1.c 2 _ rfl
        have x3 := X1.c 3 _ rfl
        have x4 := X1.c 4 _ rfl
        have x5 := X1.c 5 _ rfl
        have x6 := X1.c 6 _ rfl
        have x7 := X1.c 7 _ rfl
        have x8 := X1.c 8 _ rfl
        have xl := X1.lt
        clear hpb HXe HRe HBADc X1
        have HM : Hid ((Mr.mk ⟨0, 0, [], 0, 0, 0, [], false, 0⟩ none 0).At (fun i => w.heap.size ≤ i ∧ i ≠ w.heap.size ∧ (Value.slice Av k cv).ownBlock ≠ some i) Wb) := Lib.hid ⟨ByL.nil _ _, fun _ => rfl, fun h0 => absurd h0 (by simp)⟩
        have HMC : Hid ((Mr.mk ⟨0, 0, [], 0, 0, 0, [], false, 0⟩ none 0).cs = [.int .i64 0, .int .i64 0, .string ⟨#[]⟩, .int .i64 0, .int .i64 0, .int .i64 0, .slice none 0 0, .bool false, .int .i64 0]) := Lib.hid rfl
        have hrow := HRb.out.row.alloc (.cells #[.int .i64 0, .int .i64 0, .string ⟨#[]⟩, .int .i64 0, .int .i64 0, .int .i64 0, .slice none 0 0, .bool false, .int .i64 0] 28)
        have HA2 : Hid (Below Wb.heap.size Wb (Wb.alloc (.cells #[.int .i64 0, .int .i64 0, .string ⟨#[]⟩, .int .i64 0, .int .i64 0, .int .i64 0, .slice none 0 0, .bool false, .int .i64 0] 28))) := Lib.hid (by (repeat' (first | (with_reducible exact Below.refl _ _) | (with_reducible assumption) | (with_reducible refine Below.trans ?_ (Below.mono (by with_reducible assumption) ?_)) | (with_reducible refine Below.alloc ?_ ?_ _) | (with_reducible refine Below.setCell ?_ ?_ _) | (with_reducible refine below_drewN ?_ _) | (with_reducible refine Below.drew ?_) | go_size)))
        have HNEWS : Hid _ := Lib.hid (World.news_of_block (cs := #[.int .i64 0, .int .i64 0, .string ⟨#[]⟩, .int .i64 0, .int .i64 0, .int .i64 0, .slice none 0 0, .bool false, .int .i64 0]) (t := 28) (fr := (0, 0)) (heap_alloc_new Wb (.cells #[.int .i64 0, .int .i64 0, .string ⟨#[]⟩, .int .i64 0, .int .i64 0, .int .i64 0, .slice none 0 0, .bool false, .int .i64 0] 28)))
        go_wp2_with (at_builtin; refine wpList_append_lies _ rfl (.tmp 41) (.tmp 43) _ rfl w.heap.size 28 i0 _ 9 96 Try.underlying30 hi0 hz0 hz1 hz2 rfl (by decide) (.slice Av k cv) k _ rfl hrow ⟨Wb.heap.size, 0, none⟩ 1 1 [.int .i64 0, .int .i64 0, .string ⟨#[]⟩, .int .i64 0, .int .i64 0, .int .i64 0, .slice none 0 0, .bool false, .int .i64 0] rfl rfl HNEWS.out (by simp [Value.oneCell']) (by omega) (by unfold maxLen; omega) (by omega) (by have := HBd.out.size; simp; omega) _ rfl ?_; intro g2 cap2 W5 hown2 hg2 hat2 hlt2)
        have HRf := Lib.hid (HRb.out.app HM.out HA2.out hg2 (by rw [HMC.out]; exact hown2) (hat2.imp_right (fun e => Nat.le_of_eq e.symm)) (fun i hi => HGQ.out i (by omega)))
        have z5 : W2.heap.size ≤ W5.heap.size := by have h1 := hg2.size; simp only [World.size_alloc] at h1; omega
        clear hown2 hg2 hat2 hlt2 hrow HA2 HM HNEWS
        (try go_wp2)
        go_roundw
        case rel => exact ⟨k + 1, L ++ [Mr.mk ⟨0, 0, [], 0, 0, 0, [], false, 0⟩ none 0], none, by have := HK.out; omega, by have := HK.out; omega, by go_num, HRf.out, z5, .inl ⟨rfl, HE.out⟩⟩
        case measure => simp [intOf]; have := HK.out; omega
      · have HBd := Lib.hid HRd.out.bel
        have HM : Hid ((Mr.mk r A4 c4).At (fun i => w.heap.size ≤ i ∧ i ≠ w.heap.size ∧ (Value.slice Av k cv).ownBlock ≠ some i) Wd) := Lib.hid ⟨y4, n4, fun h0 ad had => by
          have h1 := f4 ad had
          have h2 := HRa.out.bel.size
          have h3 := HRa.out.rd.lt
          refine ⟨by omega, by omega, fun e => ?_⟩
          have := (World.ownsRow.lt HRa.out.row _ e).2
          omega⟩
        have HGO' := Lib.hid (HGO.out r hyes)
        clear hyes y4 n4 f4 HDa HRa HGO HNO2
        obtain ⟨o, sq, key, ml, ct, vo, val, gn, tt⟩ := r
        have HMC : Hid ((Mr.mk ⟨o, sq, key, ml, ct, vo, val, gn, tt⟩ A4 c4).cs = [.int .i64 o, .int .i64 sq, .string (strB key), .int .i64 ml, .int .i64 ct, .int .i64 vo, .slice A4 val.length c4, .bool gn, .int .i64 tt]) := Lib.hid rfl
        have hrow := (HRd.out.row.alloc (recO o sq (strB key) ml ct vo A4 val.length c4 gn tt)).alloc (.cells #[.int .i64 o, .int .i64 sq, .string (strB key), .int .i64 ml, .int .i64 ct, .int .i64 vo, .slice A4 val.length c4, .bool gn, .int .i64 tt] 28)
        have HA2 : Hid (Below Wd.heap.size Wd ((Wd.alloc (recO o sq (strB key) ml ct vo A4 val.length c4 gn tt)).alloc (.cells #[.int .i64 o, .int .i64 sq, .string (strB key), .int .i64 ml, .int .i64 ct, .int .i64 vo, .slice A4 val.length c4, .bool gn, .int .i64 tt] 28))) := Lib.hid (by (repeat' (first | (with_reducible exact Below.refl _ _) | (with_reducible assumption) | (with_reducible refine Below.trans ?_ (Below.mono (by with_reducible assumption) ?_)) | (with_reducible refine Below.alloc ?_ ?_ _) | (with_reducible refine Below.setCell ?_ ?_ _) | (with_reducible refine below_drewN ?_ _) | (with_reducible refine Below.drew ?_) | go_size)))
        have HNEWS : Hid _ := Lib.hid (World.news_of_block (cs := #[.int .i64 o, .int .i64 sq, .string (strB key), .int .i64 ml, .int .i64 ct, .int .i64 vo, .slice A4 val.length c4, .bool gn, .int .i64 tt]) (t := 28) (fr := (0, 0)) (heap_alloc_new (Wd.alloc (recO o sq (strB key) ml ct vo A4 val.length c4 gn tt)) (.cells #[.int .i64 o, .int .i64 sq, .string (strB key), .int .i64 ml, .int .i64 ct, .int .i64 vo, .slice A4 val.length c4, .bool gn, .int .i64 tt] 28)))
        rw [World.size_alloc] at HNEWS
        go_wp2_with (at_builtin; refine wpList_append_lies _ rfl (.tmp 41) (.tmp 43) _ rfl w.heap.size 28 i0 _ 9 96 Try.underlying30 hi0 hz0 hz1 hz2 rfl (by decide) (.slice Av k cv) k _ rfl hrow ⟨Wd.heap.size + 1, 0, none⟩ 1 1 [.int .i64 o, .int .i64 sq, .string (strB key), .int .i64 ml, .int .i64 ct, .int .i64 vo, .slice A4 val.length c4, .bool gn, .int .i64 tt] rfl rfl HNEWS.out (by simp [Value.oneCell']) (by omega) (by unfold maxLen; omega) (by omega) (by have := HBd.out.size; simp; omega) _ rfl ?_; intro g2 cap2 W5 hown2 hg2 hat2 hlt2)
        have HRf := Lib.hid (HRd.out.app HM.out HA2.out hg2 (by rw [HMC.out]; exact hown2) (hat2.imp_right (fun e => Nat.le_of_eq e.symm)) (fun i hi => HGQ.out i (by omega)))
        have z5 : W2.heap.size ≤ W5.heap.size := by have h1 := hg2.size; simp only [World.size_alloc] at h1; omega
        clear hown2 hg2 hat2 hlt2 hrow HA2 HM HNEWS kd
        (try go_wp2)
        go_roundw
        case rel => exact ⟨k + 1, L ++ [Mr.mk ⟨o, sq, key, ml, ct, vo, val, gn, tt⟩ A4 c4], s', by have := HK.out; omega, by have := HK.out; omega, by go_num, HRf.out, z5, .inr ⟨HGO'.out.1, by rw [HGO'.out.2]; simp⟩⟩
        case measure => simp [intOf]; have := HK.out; omega
end Go.Proofs.Ytpccneikblbhdaa
