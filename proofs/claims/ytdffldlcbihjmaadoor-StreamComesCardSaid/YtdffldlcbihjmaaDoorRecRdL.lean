/- rec.ReadList. -/
import Derived.Test.YtdffldlcbihjmaaDoorRecRow
set_option linter.unusedSimpArgs false
set_option linter.unusedVariables false
namespace Go.Proofs.YtdffldlcbihjmaaDoor
open Go.RowKit

set_option maxRecDepth 100000 in
set_option maxHeartbeats 8000000 in
theorem rec_rdl (A : Option Addr) (l : List Int) (c : Nat) (w : World) (hby : ByL w A l) (hb : isBy l) (hn : A = none → l.length = 0) (hl : l.length ≤ 100000)
    (hDec : ∀ (A : Option Addr) (l : List Int) (c : Nat) (w : World), ByL w A l → isBy l → (A = none → l.length = 0) → l.length ≤ 100000 → Calls Tryd.prog 94 #[.slice A l.length c] w fun e w' => DecRes l w w' e ∧ Below w.heap.size w w') :
    Calls Tryd.prog 61 #[.slice A l.length c] w fun e w' => ListRes l w w' e ∧ Below w.heap.size w w' := by
  obtain ⟨i0, hi0, hz0, hz1, hz2⟩ := info_parts rec_info
  have HNR := Lib.hid (new_reader A l c w hby hb hn (by omega))
  have HLL : Hid (l.length ≤ 100000) := Lib.hid hl
  have HD := Lib.hid hDec
  have HRD : Hid (∀ x, rdL l = x → rdL l = x) := Lib.hid (fun _ h => h)
  clear hby hb hn hl hDec
  go_enter Tryd.func61, Tryd.ntmps61
  go_wp2_with fail
  refine HNR.out.mono ?_; rintro e W1 ⟨b, g, rfl, hR1, hg, hbg, k1, hgl⟩
  have HN := Lib.hid (rd_num b (some l) W1 hR1 (by show l.length ≤ _; have := HLL.out; omega))
  have HB1 := Lib.hid k1
  clear hR1 k1 HNR
  go_wp2_with fail
  refine HN.out.mono ?_; rintro e W2 ⟨rfl, hp⟩
  have hRL := RL.start hp.rd (Nat.le_trans (rNum_left (some l)) HLL.out) (HB1.out.trans (hp.only.below (by omega) HB1.out.size)) hbg
  have hgq : ∀ i, W2.heap.size ≤ i → ¬ i = g := fun i hi e => by have := hp.only.size; omega
  have HLONG : Hid (64 < (rNum (some l)).1 → rdL l = none) := Lib.hid rdL_long
  have HBAD : Hid (listR (rNum (some l)).1 (rNum (some l)).2 [] = none → rdL l = none) := Lib.hid rdL_bad
  have HMORE : Hid (∀ rs s, listR (rNum (some l)).1 (rNum (some l)).2 [] = some (rs, s) → s ≠ some [] → rdL l = none) := Lib.hid (fun rs s h1 h2 => rdL_more h1 h2)
  have HYES : Hid (∀ rs, ¬ 64 < (rNum (some l)).1 → listR (rNum (some l)).1 (rNum (some l)).2 [] = some (rs, some []) → rdL l = some rs) := Lib.hid (fun rs h1 h2 => rdL_yes h1 h2)
  have HBW := Lib.hid hRL.bel
  have HGQ := Lib.hid hgq
  have s2 := hRL.bel.size
  clear HN HB1 hp hgq hg hgl HRD
  generalize (rNum (some l)).1 = n at *
  generalize (rNum (some l)).2 = st at *
  by_cases hn64 : 64 < n
  · have t1 : decide ((64 : Int) < (n : Int)) = true := by simp; omega
    have HE := Lib.hid (HLONG.out hn64)
    clear hRL hn64
    go_wp2
    go_ret2
    exact ⟨.inl ⟨HE.out, rfl⟩, HBW.out⟩
  have t1 : decide ((64 : Int) < (n : Int)) = false := by simp; omega
  have HN64 := Lib.hid hn64
  have hni : (n : Int) ≤ 64 := by omega
  have HS0 := Lib.hid hRL
  clear hn64 hRL
  go_wp2
  go_loopw [6, 16] (fun v i wr => ∃ (k : Nat) (L : List Mr) (s : RSt), k ≤ n ∧ i = .int .i64 k ∧ RL (fun i => i = g) w wr b v k L s ∧ W2.heap.size ≤ wr.heap.size ∧ listR n st [] = listR (n - k) s (L.map Mr.r)) (fun _ i _ => n - (intOf i).toNat)
  case atStart => exact ⟨0, [], st, Nat.zero_le _, rfl, HS0.out, Nat.le_refl _, rfl⟩
  case round =>
    obtain ⟨k, L, s, hk, rfl, hRL, hzr, heq⟩ := hrel
    clear HS0
    obtain ⟨Av, cv, rfl⟩ := hRL.shape
    by_cases hlt : k < n
    · have lk : (k : Int) < (n : Int) := by omega
      rw [show n - k = (n - (k + 1)) + 1 from by omega] at heq
      have HBT := Lib.hid (rd_bytes b s wr hRL.rd (by have := hRL.left; omega))
      have HL2 : Hid (rLeft (rBytes s).2 ≤ 100000 ∧ (rBytes s).1.length ≤ 100000) := Lib.hid ⟨Nat.le_trans (rBytes_left s).1 hRL.left, Nat.le_trans (rBytes_left s).2 hRL.left⟩
      have HBY := Lib.hid (rBytes_by hRL.rd.by_).2
      have HRL := Lib.hid hRL
      have HNO : Hid (decR (rBytes s).1 = none → rdL l = none) := Lib.hid (fun h => HBAD.out (heq.trans (listR_none h)))
      have HGO : Hid (∀ r, decR (rBytes s).1 = some r → listR n st [] = listR (n - (k + 1)) (rBytes s).2 (L.map Mr.r ++ [r])) := Lib.hid (fun r h => heq.trans (listR_some h))
      clear hRL heq hlt
      generalize (rBytes s).2 = s' at *
      generalize (rBytes s).1 = bs at *
      go_wp2_with fail
      refine HBT.out.mono ?_; rintro e Wa ⟨ht, hp⟩
      obtain ⟨A3, c3, rfl, y3, n3, _, _, f3⟩ := ht
      have HRa := Lib.hid (HRL.out.read hp HL2.out.1)
      have HDa := Lib.hid (HD.out A3 bs c3 Wa y3 HBY.out (fun e => (n3 e).1) HL2.out.2)
      have za := hp.only.size
      clear hp HBT HRL y3 n3 f3
      go_wp2_with fail
      refine HDa.out.mono ?_; rintro e Wd ⟨hres, kd⟩
      have HRd := Lib.hid (HRa.out.below kd)
      have zd := kd.size
      have HBd := Lib.hid HRd.out.bel
      rcases hres with ⟨hno, rfl⟩ | ⟨r, A4, c4, hyes, rfl, y4, n4, f4⟩
      · have HE := Lib.hid (HNO.out hno)
        have HBf : Hid (Below w.heap.size w (Wd.alloc (recO 0 0 ⟨#[]⟩ 0 0 0 none 0 0 false 0))) := Lib.hid (HBd.out.alloc HBd.out.size _)
        clear hno kd HDa HRa
        go_wp2
        go_ret2
        exact ⟨.inl ⟨HE.out, rfl⟩, HBf.out⟩
      · have HM : Hid ((Mr.mk r A4 c4).At (fun i => w.heap.size ≤ i ∧ i ≠ b ∧ (Value.slice Av k cv).ownBlock ≠ some i) Wd) := Lib.hid ⟨y4, n4, fun h0 ad had => by
          have h1 := f4 ad had
          have h2 := HRa.out.bel.size
          have h3 := HRa.out.rd.lt
          refine ⟨by omega, by omega, fun e => ?_⟩
          have := (World.ownsRow.lt HRa.out.row _ e).2
          omega⟩
        have HGO' := Lib.hid (HGO.out r hyes)
        have HL64 : Hid (L.length = k) := Lib.hid HRd.out.len
        clear hyes y4 n4 f4 HDa HRa HNO HGO
        obtain ⟨o, sq, key, ml, ct, vo, val, gn, tt⟩ := r
        have HMC : Hid ((Mr.mk ⟨o, sq, key, ml, ct, vo, val, gn, tt⟩ A4 c4).cs = [.int .i64 o, .int .i64 sq, .string (strB key), .int .i64 ml, .int .i64 ct, .int .i64 vo, .slice A4 val.length c4, .bool gn, .int .i64 tt]) := Lib.hid rfl
        have hrow := (HRd.out.row.alloc (recO o sq (strB key) ml ct vo A4 val.length c4 gn tt)).alloc (.cells #[.int .i64 o, .int .i64 sq, .string (strB key), .int .i64 ml, .int .i64 ct, .int .i64 vo, .slice A4 val.length c4, .bool gn, .int .i64 tt] 89)
        have HA2 : Hid (Below Wd.heap.size Wd ((Wd.alloc (recO o sq (strB key) ml ct vo A4 val.length c4 gn tt)).alloc (.cells #[.int .i64 o, .int .i64 sq, .string (strB key), .int .i64 ml, .int .i64 ct, .int .i64 vo, .slice A4 val.length c4, .bool gn, .int .i64 tt] 89))) := Lib.hid (by (repeat' (first | (with_reducible exact Below.refl _ _) | (with_reducible assumption) | (with_reducible refine Below.trans ?_ (Below.mono (by with_reducible assumption) ?_)) | (with_reducible refine Below.alloc ?_ ?_ _) | (with_reducible refine Below.setCell ?_ ?_ _) | (with_reducible refine below_drewN ?_ _) | (with_reducible refine Below.drew ?_) | go_size)))
        have HNEWS : Hid _ := Lib.hid (World.news_of_block (cs := #[.int .i64 o, .int .i64 sq, .string (strB key), .int .i64 ml, .int .i64 ct, .int .i64 vo, .slice A4 val.length c4, .bool gn, .int .i64 tt]) (t := 89) (fr := (0, 0)) (heap_alloc_new (Wd.alloc (recO o sq (strB key) ml ct vo A4 val.length c4 gn tt)) (.cells #[.int .i64 o, .int .i64 sq, .string (strB key), .int .i64 ml, .int .i64 ct, .int .i64 vo, .slice A4 val.length c4, .bool gn, .int .i64 tt] 89)))
        rw [World.size_alloc] at HNEWS
        go_wp2_with (at_builtin; refine wpList_append_lies _ rfl (.tmp 26) (.tmp 28) _ rfl w.heap.size 89 i0 _ 9 96 Tryd.underlying24 hi0 hz0 hz1 hz2 rfl (by decide) (.slice Av k cv) k _ rfl hrow ⟨Wd.heap.size + 1, 0, none⟩ 1 1 [.int .i64 o, .int .i64 sq, .string (strB key), .int .i64 ml, .int .i64 ct, .int .i64 vo, .slice A4 val.length c4, .bool gn, .int .i64 tt] rfl rfl HNEWS.out (by simp [Value.oneCell']) (by omega) (by unfold maxLen; omega) (by omega) (by have := HBd.out.size; simp; omega) _ rfl ?_; intro g2 cap2 W5 hown2 hg2 hat2 hlt2)
        have HRf := Lib.hid (HRd.out.app HM.out HA2.out hg2 (by rw [HMC.out]; exact hown2) (hat2.imp_right (fun e => Nat.le_of_eq e.symm)) (fun i hi => HGQ.out i (by omega)))
        have z5 : W2.heap.size ≤ W5.heap.size := by have h1 := hg2.size; simp only [World.size_alloc] at h1; omega
        clear hown2 hg2 hat2 hlt2 hrow HA2 HM HNEWS kd
        go_roundw
        case rel => exact ⟨k + 1, L ++ [Mr.mk ⟨o, sq, key, ml, ct, vo, val, gn, tt⟩ A4 c4], s', by omega, by go_num, HRf.out, z5, by rw [HGO'.out]; simp⟩
        case measure => simp [intOf]; omega
    · obtain rfl : k = n := by omega
      rw [Nat.sub_self, listR] at heq
      have HW := Lib.hid (rd_whole b s wr hRL.rd)
      have HBw := Lib.hid hRL.bel
      have HRL := Lib.hid hRL
      have HEQ := Lib.hid heq
      clear hRL heq hlt
      by_cases hs : s = some []
      · have t2 : decide (s = some []) = true := by simpa using hs
        rw [t2] at HW
        have HE := Lib.hid (HYES.out (L.map Mr.r) HN64.out (by rw [HEQ.out, hs]))
        clear hs t2
        go_wp2_with (go_at_call 64; refine HW.out.mono ?_; rintro e W6 ⟨rfl, rfl⟩)
        go_ret2
        exact ⟨.inr ⟨L, _, HE.out, rfl, by rw [HRL.out.len]; exact HRL.out.row, by have := HRL.out.len; have := HN64.out; omega, fun m hm => (HRL.out.ats m hm).mono (fun i _ h => h.1)⟩, HBw.out⟩
      · have t2 : decide (s = some []) = false := by simpa using hs
        rw [t2] at HW
        have HE := Lib.hid (HMORE.out (L.map Mr.r) s HEQ.out hs)
        clear hs t2
        go_wp2_with (go_at_call 64; refine HW.out.mono ?_; rintro e W6 ⟨rfl, rfl⟩)
        go_ret2
        exact ⟨.inl ⟨HE.out, rfl⟩, HBw.out⟩
end Go.Proofs.YtdffldlcbihjmaaDoor
