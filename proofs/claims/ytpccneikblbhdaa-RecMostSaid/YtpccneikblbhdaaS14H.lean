/- Stage 14: RecMost (written by gen/s14h.py). -/
import Derived.Test.YtpccneikblbhdaaS14G
set_option linter.unusedSimpArgs false
set_option linter.unusedVariables false
namespace Go.Proofs.Ytpccneikblbhdaa
open Go.ChangeShapes Go.WideShapes Go.ChangeAt Go.RowKit Go.Joins

theorem row_slice {w : World} {base : Nat} {e : TypeId} {size : Nat} {v : Value} {k : Nat} {xs : List Value} (h : w.ownsRow base e size v k xs) : ∃ Av cv, v = .slice Av k cv := by
  rcases h.2 with ⟨e, h0⟩ | ⟨g', cap, cur, e, _⟩
  · exact ⟨none, 0, by rw [e, h0]⟩
  · exact ⟨_, _, e⟩
set_option maxHeartbeats 2000000 in
theorem recMost_out (nn : Int) (o s : Int) (key : ByteArray) (ml ct vo : Int) (A : Option Addr) (p : List Int) (c : Nat) (g : Bool) (tt : Int) (w : World) (hby : ByL w A p) (hb : isBy p) (hn : A = none → p.length = 0) (hk : key.size ≤ 281474976710656 ∧ p.length ≤ 281474976710656) (hw : -9223372036854775808 ≤ nn ∧ nn ≤ 9223372036854775807) (h : nn < 0 ∨ (0 ≤ nn ∧ 80 < nn) ∨ (0 ≤ nn ∧ nn ≤ 80 ∧ 50 < key.size) ∨ (0 ≤ nn ∧ nn ≤ 80 ∧ key.size ≤ 50 ∧ 50 < p.length) ∨ (0 ≤ nn ∧ nn ≤ 80 ∧ key.size ≤ 50 ∧ p.length ≤ 50 ∧ okN o s key.size ml ct vo p.length g tt = false)) :
    Calls Try.prog 10 #[.int .i64 nn, recV o s key ml ct vo A p.length c g tt] w fun e w' => e = .returned (.bool true) ∧ Below w.heap.size w w' := by
  have hud : undef = Value.tuple #[] := rfl
  have HB0 : Below w.heap.size w (w.alloc (recO o s key ml ct vo A p.length c g tt)) := by (repeat' (first | (with_reducible exact Below.refl _ _) | (with_reducible assumption) | (with_reducible refine Below.trans ?_ (Below.mono (by with_reducible assumption) ?_)) | (with_reducible refine Below.alloc ?_ ?_ _) | (with_reducible refine Below.setCell ?_ ?_ _) | (with_reducible refine below_drewN ?_ _) | (with_reducible refine Below.drew ?_) | go_size))
  rcases h with h | ⟨h1, h⟩ | ⟨h1, h2, h⟩ | ⟨h1, h2, h3, h⟩ | ⟨h1, h2, h3, h4, h⟩
  · have t1 : decide (nn < 0) = true := by simpa using h
    clear h hby hb hn
    go_enter Try.func10, Try.ntmps10
    go_wp2_with (go_at_call 18; refine (known14 _).mono ?_; rintro e w1 ⟨rfl, hb1⟩; obtain ⟨hc1, hf1⟩ := bcell hb1; have hz1 := hb1.size; (try simp only [World.size_alloc, World.size_setCell, World.heap_drewN] at hb1 hc1 hf1 hz1); (try have ha01 : w.heap.size < w1.heap.size := by omega); (try have ha11 : w.heap.size + 1 < w1.heap.size := by omega); (try have ha21 : w.heap.size + 2 < w1.heap.size := by omega); (try have hal1 : w.heap.size ≤ w1.heap.size := by omega); (try have ham1 : w.heap.size < w1.heap.size + 2 := by omega))
    go_ret
    go_light
    exact ⟨rfl, by (repeat' (first | (with_reducible exact Below.refl _ _) | (with_reducible assumption) | (with_reducible refine Below.trans ?_ (Below.mono (by with_reducible assumption) ?_)) | (with_reducible refine Below.alloc ?_ ?_ _) | (with_reducible refine Below.setCell ?_ ?_ _) | (with_reducible refine below_drewN ?_ _) | (with_reducible refine Below.drew ?_) | go_size))⟩
  · have t1 : decide (nn < 0) = false := by simp; omega
    have t2 : decide (80 < nn) = true := by simpa using h
    clear h hby hb hn
    go_enter Try.func10, Try.ntmps10
    go_wp2_with (go_at_call 18; refine (known14 _).mono ?_; rintro e w1 ⟨rfl, hb1⟩; obtain ⟨hc1, hf1⟩ := bcell hb1; have hz1 := hb1.size; (try simp only [World.size_alloc, World.size_setCell, World.heap_drewN] at hb1 hc1 hf1 hz1); (try have ha01 : w.heap.size < w1.heap.size := by omega); (try have ha11 : w.heap.size + 1 < w1.heap.size := by omega); (try have ha21 : w.heap.size + 2 < w1.heap.size := by omega); (try have hal1 : w.heap.size ≤ w1.heap.size := by omega); (try have ham1 : w.heap.size < w1.heap.size + 2 := by omega))
    go_ret
    go_light
    exact ⟨rfl, by (repeat' (first | (with_reducible exact Below.refl _ _) | (with_reducible assumption) | (with_reducible refine Below.trans ?_ (Below.mono (by with_reducible assumption) ?_)) | (with_reducible refine Below.alloc ?_ ?_ _) | (with_reducible refine Below.setCell ?_ ?_ _) | (with_reducible refine below_drewN ?_ _) | (with_reducible refine Below.drew ?_) | go_size))⟩
  · have t1 : decide (nn < 0) = false := by simp; omega
    have t2 : decide (80 < nn) = false := by simp; omega
    have t3 : decide ((50 : Int) < (key.size : Int)) = true := by simp; omega
    clear h hby hb hn
    go_enter Try.func10, Try.ntmps10
    go_wp2_with (go_at_call 18; refine (known14 _).mono ?_; rintro e w1 ⟨rfl, hb1⟩; obtain ⟨hc1, hf1⟩ := bcell hb1; have hz1 := hb1.size; (try simp only [World.size_alloc, World.size_setCell, World.heap_drewN] at hb1 hc1 hf1 hz1); (try have ha01 : w.heap.size < w1.heap.size := by omega); (try have ha11 : w.heap.size + 1 < w1.heap.size := by omega); (try have ha21 : w.heap.size + 2 < w1.heap.size := by omega); (try have hal1 : w.heap.size ≤ w1.heap.size := by omega); (try have ham1 : w.heap.size < w1.heap.size + 2 := by omega))
    go_ret
    go_light
    exact ⟨rfl, by (repeat' (first | (with_reducible exact Below.refl _ _) | (with_reducible assumption) | (with_reducible refine Below.trans ?_ (Below.mono (by with_reducible assumption) ?_)) | (with_reducible refine Below.alloc ?_ ?_ _) | (with_reducible refine Below.setCell ?_ ?_ _) | (with_reducible refine below_drewN ?_ _) | (with_reducible refine Below.drew ?_) | go_size))⟩
  · have t1 : decide (nn < 0) = false := by simp; omega
    have t2 : decide (80 < nn) = false := by simp; omega
    have t3 : decide ((50 : Int) < (key.size : Int)) = false := by simp; omega
    have t4 : decide ((50 : Int) < (p.length : Int)) = true := by simp; omega
    clear h hby hb hn
    go_enter Try.func10, Try.ntmps10
    go_wp2_with (go_at_call 18; refine (known14 _).mono ?_; rintro e w1 ⟨rfl, hb1⟩; obtain ⟨hc1, hf1⟩ := bcell hb1; have hz1 := hb1.size; (try simp only [World.size_alloc, World.size_setCell, World.heap_drewN] at hb1 hc1 hf1 hz1); (try have ha01 : w.heap.size < w1.heap.size := by omega); (try have ha11 : w.heap.size + 1 < w1.heap.size := by omega); (try have ha21 : w.heap.size + 2 < w1.heap.size := by omega); (try have hal1 : w.heap.size ≤ w1.heap.size := by omega); (try have ham1 : w.heap.size < w1.heap.size + 2 := by omega))
    go_ret
    go_light
    exact ⟨rfl, by (repeat' (first | (with_reducible exact Below.refl _ _) | (with_reducible assumption) | (with_reducible refine Below.trans ?_ (Below.mono (by with_reducible assumption) ?_)) | (with_reducible refine Below.alloc ?_ ?_ _) | (with_reducible refine Below.setCell ?_ ?_ _) | (with_reducible refine below_drewN ?_ _) | (with_reducible refine Below.drew ?_) | go_size))⟩
  · have t1 : decide (nn < 0) = false := by simp; omega
    have t2 : decide (80 < nn) = false := by simp; omega
    have t3 : decide ((50 : Int) < (key.size : Int)) = false := by simp; omega
    have t4 : decide ((50 : Int) < (p.length : Int)) = false := by simp; omega
    have HI := Lib.hid (ref_is o s key ml ct vo A p.length c g tt (w.alloc (recO o s key ml ct vo A p.length c g tt)))
    rw [h] at HI
    have HBB := Lib.hid HB0
    clear h hby hb hn HB0
    go_enter Try.func10, Try.ntmps10
    go_wp2_with (first | (go_at_call 29; refine HI.out.mono ?_; rintro e w1 ⟨rfl, k1⟩; have HB1 := Lib.hid (HBB.out.trans (k1.mono HBB.out.size))) | (go_at_call 18; refine (known14 _).mono ?_; rintro e w2 ⟨rfl, k2⟩; have HB2 := Lib.hid (HB1.out.trans (k2.mono HB1.out.size))))
    go_ret
    exact ⟨rfl, HB2.out⟩
set_option maxRecDepth 100000 in
set_option maxHeartbeats 8000000 in
theorem recMost_in (n : Nat) (o s : Int) (key : ByteArray) (ml ct vo : Int) (A : Option Addr) (p : List Int) (c : Nat) (g : Bool) (tt : Int) (w : World) (hby : ByL w A p) (hb : isBy p) (hn : A = none → p.length = 0) (hk : key.size ≤ 281474976710656 ∧ p.length ≤ 281474976710656) (h2 : n ≤ 80) (h3 : key.size ≤ 50) (h4 : p.length ≤ 50) (hok : okN o s key.size ml ct vo p.length g tt = true) :
    Calls Try.prog 10 #[.int .i64 n, recV o s key ml ct vo A p.length c g tt] w fun e w' => e = .returned (.bool true) ∧ Below w.heap.size w w' := by
  obtain ⟨i0, hi0, hz0, hz1, hz2⟩ := info_parts rec_info
  have t1 : decide ((n : Int) < 0) = false := by simp
  have t2 : decide ((80 : Int) < (n : Int)) = false := by simp; omega
  have t3 : decide ((50 : Int) < (key.size : Int)) = false := by simp; omega
  have t4 : decide ((50 : Int) < (p.length : Int)) = false := by simp; omega
  have t5 : ¬ (n : Int) < 0 := by omega
  have hni : (n : Int) ≤ 80 := by omega
  have HI := Lib.hid (ref_is o s key ml ct vo A p.length c g tt (w.alloc (recO o s key ml ct vo A p.length c g tt)))
  rw [hok] at HI
  have HB0 : Hid (Below w.heap.size w (w.alloc (recO o s key ml ct vo A p.length c g tt))) := Lib.hid (by (repeat' (first | (with_reducible exact Below.refl _ _) | (with_reducible assumption) | (with_reducible refine Below.trans ?_ (Below.mono (by with_reducible assumption) ?_)) | (with_reducible refine Below.alloc ?_ ?_ _) | (with_reducible refine Below.setCell ?_ ?_ _) | (with_reducible refine below_drewN ?_ _) | (with_reducible refine Below.drew ?_) | go_size)))
  have HX0 : Hid (XB (w.alloc (recO o s key ml ct vo A p.length c g tt)) w.heap.size [.int .i64 o, .int .i64 s, .string key, .int .i64 ml, .int .i64 ct, .int .i64 vo, .slice A p.length c, .bool g, .int .i64 tt]) := Lib.hid (XB.new w _ _)
  have hz0' : (w.alloc (recO o s key ml ct vo A p.length c g tt)).heap.size = w.heap.size + 1 := by simp
  obtain ⟨m, hm⟩ : ∃ m : Mr, m = ⟨⟨o, s, kL key, ml, ct, vo, p, g, tt⟩, A, c⟩ := ⟨_, rfl⟩
  have HMC : Hid (m.cs = [.int .i64 o, .int .i64 s, .string key, .int .i64 ml, .int .i64 ct, .int .i64 vo, .slice A p.length c, .bool g, .int .i64 tt]) := Lib.hid (by rw [hm]; simp [Mr.cs, str_kL])
  have HMI : Hid (MrIn w m) := Lib.hid (by rw [hm]; exact ⟨⟨hby, hn, fun _ _ _ => trivial⟩, kL_by key, hb⟩)
  have HMO : Hid (okR m.r = true) := Lib.hid (by rw [hm, okR_n]; simpa [kL_len] using hok)
  clear hm hby hb hn hok
  go_enter Try.func10, Try.ntmps10
  go_wp2_with fail
  refine HI.out.mono ?_; rintro e w1 ⟨rfl, k1⟩
  have HX1 := Lib.hid (HX0.out.below k1)
  have HB1 := Lib.hid (HB0.out.trans (k1.mono HB0.out.size))
  have z1 : w.heap.size + 1 ≤ w1.heap.size := by have := k1.size; omega
  clear k1 HX0 HB0 HI
  go_wp2
  go_loopw [5, 6] (fun v i wr => ∃ (k : Nat), k ≤ n ∧ i = .int .i64 k ∧ wr.ownsRow (w.heap.size + 1) 28 9 v k (rowM (List.replicate k m)) ∧ Below (w.heap.size + 1) w1 wr) (fun _ i _ => n - (intOf i).toNat)
  case atStart => exact ⟨0, Nat.zero_le _, rfl, World.ownsRow_nil _ _ _ _, Below.refl _ _⟩
  case round =>
    obtain ⟨k, hkn, rfl, hrow, hB⟩ := hrel
    obtain ⟨Av, cv, rfl⟩ := row_slice hrow
    have HBr : Hid (Below w.heap.size w wr) := Lib.hid (HB1.out.trans (hB.mono (by omega)))
    have HBr1 := Lib.hid hB
    have zr := hB.size
    by_cases hlt : k < n
    · have lk : (k : Int) < (n : Int) := by omega
      have Xr : XB wr w.heap.size [.int .i64 o, .int .i64 s, .string key, .int .i64 ml, .int .i64 ct, .int .i64 vo, .slice A p.length c, .bool g, .int .i64 tt] := ⟨fun j u hu => (hB.cell (p := ⟨w.heap.size, j, none⟩) (by show w.heap.size < w.heap.size + 1; omega)).trans (HX1.out.c j u hu), fun q => (hB.frozen (p := ⟨w.heap.size, q, none⟩) (by show w.heap.size < w.heap.size + 1; omega)).trans (HX1.out.fz q), by omega⟩
      have x0 := Xr.c 0 _ rfl
      have x1 := Xr.c 1 _ rfl
      have x2 := Xr.c 2 _ rfl
      have x3 := Xr.c 3 _ rfl
      have x4 := Xr.c 4 _ rfl
      have x5 := Xr.c 5 _ rfl
      have x6 := Xr.c 6 _ rfl
      have x7 := Xr.c 7 _ rfl
      have x8 := Xr.c 8 _ rfl
      have xl := Xr.lt
      have hrow2 := hrow.alloc (.cells #[.int .i64 o, .int .i64 s, .string key, .int .i64 ml, .int .i64 ct, .int .i64 vo, .slice A p.length c, .bool g, .int .i64 tt] 28)
      have HROW := Lib.hid hrow
      have HNEWS : Hid _ := Lib.hid (World.news_of_block (cs := #[.int .i64 o, .int .i64 s, .string key, .int .i64 ml, .int .i64 ct, .int .i64 vo, .slice A p.length c, .bool g, .int .i64 tt]) (t := 28) (fr := (0, 0)) (heap_alloc_new wr (.cells #[.int .i64 o, .int .i64 s, .string key, .int .i64 ml, .int .i64 ct, .int .i64 vo, .slice A p.length c, .bool g, .int .i64 tt] 28)))
      clear Xr hB hrow
      go_wp2_with (at_builtin; refine wpList_append_lies _ rfl (.tmp 41) (.tmp 43) _ rfl (w.heap.size + 1) 28 i0 _ 9 96 Try.underlying30 hi0 hz0 hz1 hz2 rfl (by decide) (.slice Av k cv) k _ rfl hrow2 ⟨wr.heap.size, 0, none⟩ 1 1 [.int .i64 o, .int .i64 s, .string key, .int .i64 ml, .int .i64 ct, .int .i64 vo, .slice A p.length c, .bool g, .int .i64 tt] rfl rfl HNEWS.out (by simp [Value.oneCell']) (by omega) (by unfold maxLen; omega) (by omega) (by simp; omega) _ rfl ?_; intro g2 cap2 W5 hown2 hg2 hat2 hlt2)
      have HF : Hid (W5.ownsRow (w.heap.size + 1) 28 9 (.slice (some ⟨g2, 0, none⟩) (k + 1) cap2) (k + 1) (rowM (List.replicate (k + 1) m)) ∧ Below (w.heap.size + 1) w1 W5) := Lib.hid ⟨by
        rw [List.replicate_succ', rowM_append, rowM_one, HMC.out]
        exact hown2, (HBr1.out.alloc (by omega) _).grown hg2 (by simp; omega) (fun q hq => (World.ownsRow.lt HROW.out q hq).1)⟩
      clear hown2 hg2 hat2 hlt2 hrow2 HNEWS HROW x0 x1 x2 x3 x4 x5 x6 x7 x8 xl
      (try go_wp2)
      go_roundw
      case rel => exact ⟨k + 1, by omega, by go_num, HF.out.1, HF.out.2⟩
      case measure => simp [intOf]; omega
    · obtain rfl : k = n := by omega
      clear hB hlt
      have HRA := Lib.hid (RowAt.of (L := List.replicate k m) (by rw [List.length_replicate]; exact hrow))
      have HAT : Hid (∀ W, Below w.heap.size w W → ∀ m' ∈ List.replicate k m, m'.At (fun _ => True) W) := Lib.hid (fun W hW m' hm' => by
        rw [(List.mem_replicate.1 hm').2]
        exact HMI.out.at_.below hW)
      have HKY : Hid (∀ m' ∈ List.replicate k m, isBy m'.r.key ∧ isBy m'.r.val) := Lib.hid (fun m' hm' => by
        rw [(List.mem_replicate.1 hm').2]
        exact ⟨HMI.out.key, HMI.out.val⟩)
      have HL1 := Lib.hid (rec_list _ (List.replicate k m) wr HRA.out (HAT.out wr HBr.out) (fun m' hm' => (HKY.out m' hm').1) (by rw [List.length_replicate]; omega))
      clear hrow
      go_wp2_with fail
      refine HL1.out.mono ?_; rintro e W3 ⟨hres, k3⟩
      have HB3 := Lib.hid (HBr.out.trans (k3.mono HBr.out.size))
      have HRA3 := Lib.hid (HRA.out.below k3)
      by_cases h64 : 64 < k
      · have t6 : decide ((64 : Int) < (k : Int)) = true := by simp; omega
        have hl := ls_long (L := (List.replicate k m).map Mr.r) (by simpa using h64)
        unfold LsRes at hres
        rw [hl.1, hl.2] at hres
        obtain ⟨A1, c1, he, _⟩ := hres
        have he' : e = .returned (.tuple #[.slice A1 0 c1, .int .i64 5]) := he
        subst he'
        clear he hl k3 HL1 h64
        go_wp2_with (go_at_call 18; refine (known14 _).mono ?_; rintro e w2 ⟨rfl, k2⟩; have HB4 := Lib.hid (HB3.out.trans (k2.mono HB3.out.size)))
        go_ret
        exact ⟨rfl, HB4.out⟩
      · have t6 : decide ((64 : Int) < (k : Int)) = false := by simp; omega
        have hy := ls_yes (L := (List.replicate k m).map Mr.r) (by simpa using h64) (fun r hr => by
          obtain ⟨m', hm', rfl⟩ := List.mem_map.1 hr
          rw [(List.mem_replicate.1 hm').2]
          exact HMO.out)
        have HPR := Lib.hid (rdL_enc hy.2)
        have HPB : Hid (isBy (lsV ((List.replicate k m).map Mr.r)) ∧ (lsV ((List.replicate k m).map Mr.r)).length ≤ 80000) := Lib.hid ⟨lsV_by (fun r hr => by
          obtain ⟨m', hm', rfl⟩ := List.mem_map.1 hr
          exact HKY.out m' hm'), lsV_len _⟩
        unfold LsRes at hres
        rw [hy.2] at hres
        generalize lsV ((List.replicate k m).map Mr.r) = P at *
        obtain ⟨A1, c1, rfl, y1, n1, _, _⟩ := hres
        have HRD := Lib.hid (rec_rdl A1 P c1 W3 y1 HPB.out.1 (fun e => (n1 e).1) (by have := HPB.out.2; omega) (fun A l c w h1 h2 h3 h4 => rec_dec A l c w h1 h2 h3 h4 rec_is))
        clear hy y1 n1 k3 HL1 h64
        go_wp2_with fail
        refine HRD.out.mono ?_; rintro e W6 ⟨hres, k6⟩
        have HB6 := Lib.hid (HB3.out.trans (k6.mono HB3.out.size))
        rcases hres with ⟨hno, _⟩ | ⟨L', v', hyes, rfl, hrow', hl64, hat'⟩
        · exfalso
          rw [HPR.out.1] at hno
          cases hno
        have hmm : L'.map Mr.r = (List.replicate k m).map Mr.r := by
          have := HPR.out.1
          rw [hyes] at this
          injection this
        have HRC := Lib.hid (law_records v' _ L' (List.replicate k m) W6 (RowAt.of hrow') (HRA3.out.below k6) (fun m hm => (hat' m hm).mono (fun _ _ _ => trivial)) (HAT.out W6 HB6.out) (fun m2 hm2 => by
          have : m2.r ∈ (List.replicate k m).map Mr.r := hmm ▸ List.mem_map_of_mem hm2
          obtain ⟨m3, hm3, e3⟩ := List.mem_map.1 this
          rw [← e3]
          exact (HKY.out m3 hm3).2) hmm (by omega))
        clear hyes hrow' hl64 hat' hmm k6 HRD HPR HPB
        go_wp2_with (first | (go_at_call 26; refine HRC.out.mono ?_; rintro e U7 ⟨rfl, k7⟩; have HB7 := Lib.hid (HB6.out.trans (k7.mono HB6.out.size))) | (go_at_call 18; refine (known14 _).mono ?_; rintro e U8 ⟨rfl, k8⟩; have HB8 := Lib.hid (HB7.out.trans (k8.mono HB7.out.size))))
        go_ret
        exact ⟨rfl, HB8.out⟩
theorem recMost_any (nn : Int) (o s : Int) (key : ByteArray) (ml ct vo : Int) (A : Option Addr) (p : List Int) (c : Nat) (g : Bool) (tt : Int) (w : World) (hby : ByL w A p) (hb : isBy p) (hn : A = none → p.length = 0) (hk : key.size ≤ 281474976710656 ∧ p.length ≤ 281474976710656) (hw : -9223372036854775808 ≤ nn ∧ nn ≤ 9223372036854775807) :
    Calls Try.prog 10 #[.int .i64 nn, recV o s key ml ct vo A p.length c g tt] w fun e w' => e = .returned (.bool true) ∧ Below w.heap.size w w' := by
  by_cases h1 : nn < 0
  · exact recMost_out nn o s key ml ct vo A p c g tt w hby hb hn hk hw (.inl h1)
  by_cases h2 : 80 < nn
  · exact recMost_out nn o s key ml ct vo A p c g tt w hby hb hn hk hw (.inr (.inl ⟨by omega, h2⟩))
  by_cases h3 : 50 < key.size
  · exact recMost_out nn o s key ml ct vo A p c g tt w hby hb hn hk hw (.inr (.inr (.inl ⟨by omega, by omega, h3⟩)))
  by_cases h4 : 50 < p.length
  · exact recMost_out nn o s key ml ct vo A p c g tt w hby hb hn hk hw (.inr (.inr (.inr (.inl ⟨by omega, by omega, by omega, h4⟩))))
  cases hok : okN o s key.size ml ct vo p.length g tt
  · exact recMost_out nn o s key ml ct vo A p c g tt w hby hb hn hk hw (.inr (.inr (.inr (.inr ⟨by omega, by omega, by omega, by omega, hok⟩))))
  obtain ⟨n, rfl⟩ : ∃ n : Nat, nn = n := ⟨nn.toNat, by omega⟩
  exact recMost_in n o s key ml ct vo A p c g tt w hby hb hn hk (by omega) (by omega) (by omega) hok
set_option maxRecDepth 100000 in
theorem recMost_lifted (os : Os) (started : os.Started) (H : Type) (enc : TypeId × Value → H) :
    ReturnsInHanded {} Try.checked os 10 .any (Rows.recMostSpec.pre6 enc Try.prog Try.f10 Rows.recMostRow.domain false) (Rows.recMostSpec.post enc Try.prog Try.f10 false true false false) := by
  refine returnsInHanded_of_change_sized (C := Try.checked) law_own started (by kernel_rfl) Try.func10
    (ChangeSpec.witness6 (enc := enc) (C := Try.checked) false ⟨#[], #[.int .i64 0, recV 0 0 ⟨#[]⟩ 0 0 0 none 0 0 false 0], []⟩ 8 (by kernel_rfl) (by kernel_rfl) (by kernel_rfl) (by kernel_rfl)) ?_
  intro W base args ds gs before hval0 hW hcnd hsz0 _
  have hval : ∀ (j : Nat) t v, Try.f10.params[j]? = some t → args[j]? = some v → Value.okWide Try.prog W .any base t v := hval0
  have hsz : (DataW.weightsEach Try.prog (Try.f10.params.toList ++ Rows.recMostSpec.plain.varTypes Try.prog) (ds ++ gs)).all (· ≤ reachBytes) = true := hsz0
  have hW' := hW
  obtain ⟨p, q, hA0, hV, rfl, hfz, hnd⟩ := hW
  have hA : DataW.TrodAll enc Try.prog W 0 (fun _ => true) true Try.f10.params.toList args.toList ds p := hA0
  rw [Try.params10] at hA hval hsz
  have hsame : (Rows.recMostSpec.fn H (ds ++ gs)).results = [.lit (.bool true)] ∧ (Rows.recMostSpec.fn H (ds ++ gs)).args = ds ∧ (Rows.recMostSpec.fn H (ds ++ gs)).vars = [] → ∀ W', Below W.heap.size W W' → Rows.recMostSpec.post enc Try.prog Try.f10 false true false false W args (.bool true) W' :=
    fun h W' hb => law_post (tb := 4) hW' law_laid (by kernel_rfl) rfl Try.underlying4 h.1 h.2.1 rfl h.2.2 hb
  obtain ⟨v0, vs0, d0, ds0, p0, q0, hargs, rfl, rfl, h0, r0⟩ := trodAll_cons hA
  obtain ⟨v1, vs1, d1, ds1, p1, q1, rfl, rfl, rfl, h1, r1⟩ := trodAll_cons r0
  obtain ⟨rfl, rfl, rfl⟩ := trodAll_nil r1
  obtain rfl : args = #[v0, v1] := by cases args; simp_all
  obtain ⟨rfl, rfl⟩ := trodVars_none hV
  have hpost := hsame ⟨rfl, rfl, rfl⟩
  clear hsame hA0 hval0 hsz0
  obtain ⟨nn, rfl, rfl, rfl, wfn⟩ := open_int Try.underlying3 (hval 0 3 v0 rfl rfl) h0
  obtain ⟨o, s, key, ml, ct, vo, A, p, c, g, tt, rfl, _, _, hby, hb, hn, hz⟩ := open_record (hval 1 28 v1 rfl rfl) h1
  have hk := hz reachBytes (sized_each (j := 1) hsz rfl rfl)
  unfold reachBytes at hk
  have hw : -9223372036854775808 ≤ nn ∧ nn ≤ 9223372036854775807 := by
    simp [Lit.wf, IntKind.min, IntKind.max, IntKind.signed, IntKind.bits] at wfn
    exact ⟨by omega, by omega⟩
  exact (recMost_any nn o s key ml ct vo A p c g tt W hby hb hn ⟨by omega, by omega⟩ hw).mono fun e W' ⟨he, hb⟩ => ⟨_, he, hpost W' hb⟩
theorem recMost_holds : Rows.RecMostSaid :=
  OpenClaim.holds_of_wide 10 Try.f10 rfl rfl rfl rfl rfl rfl rfl ⟨rfl, rfl, rfl, rfl, rfl⟩ rfl rfl rfl rfl rfl (by kernel_rfl) Try.func10 (by kernel_rfl)
    (of_decide_eq_true (by kernel_rfl)) (by unfold Func.isWrapper; first | (rw [if_pos (by decide +kernel)]; kernel_rfl) | (rw [if_neg (by decide +kernel)]; exact ⟨rfl, rfl⟩))
    (fun os started H enc _ => recMost_lifted os started H enc)
end Go.Proofs.Ytpccneikblbhdaa
