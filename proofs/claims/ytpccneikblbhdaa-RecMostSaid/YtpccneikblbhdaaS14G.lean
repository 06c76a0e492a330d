/- Stage 14: RecLists (written by gen/s14g.py). -/
import Derived.Test.YtpccneikblbhdaaArgRecs
import Derived.Test.YtpccneikblbhdaaRefList
import Derived.Test.YtpccneikblbhdaaRecRdL
import Derived.Test.YtpccneikblbhdaaKnown14
import Derived.Test.YtpccneikblbhdaaRecIs
set_option linter.unusedSimpArgs false
set_option linter.unusedVariables false
namespace Go.Proofs.Ytpccneikblbhdaa
open Go.ChangeShapes Go.WideShapes Go.ChangeAt Go.RowKit Go.Joins

theorem listR_enc : ∀ (rs : List Rc) (t : List Int) (acc : List Rc), (∀ r ∈ rs, r.Ok) → listR rs.length (some (bodyE rs ++ t)) acc = some (acc ++ rs, some t)
  | [], t, acc, _ => by simp [bodyE, listR]
  | r :: rs, t, acc, h => by
    have hr := h r (List.mem_cons_self ..)
    have e1 : bodyE (r :: rs) ++ t = encN (encR r).length ++ (encR r ++ (bodyE rs ++ t)) := by simp [bodyE]
    have e2 := rBytes_enc (encR r) (bodyE rs ++ t) (by have := encR_len r hr; omega)
    show listR (rs.length + 1) _ _ = _
    rw [e1, listR_some (r := r) (by rw [e2]; exact decR_enc r hr), e2, listR_enc rs t (acc ++ [r]) (fun x hx => h x (List.mem_cons_of_mem _ hx))]
    simp
theorem rdL_enc {rs : List Rc} (h : lsC rs = 0) : rdL (lsV rs) = some rs ∧ rs.length ≤ 64 := by
  by_cases h64 : 64 < rs.length
  · rw [(ls_long h64).2] at h; omega
  by_cases ho : ∀ r ∈ rs, okR r = true
  · have hy := ls_yes h64 ho
    rw [hy.1]
    have hn := rNum_enc rs.length (bodyE rs) (by omega)
    refine ⟨rdL_yes (by rw [hn]; exact h64) ?_, by omega⟩
    rw [hn]
    have := listR_enc rs [] [] (fun r hr => (ok_iff r).1 (ho r hr))
    simpa using this
  · simp only [Classical.not_forall] at ho
    obtain ⟨r, hr, ho⟩ := ho
    rw [(ls_bad h64 hr (by simpa using ho)).2] at h
    omega
theorem lsV_len (rs : List Rc) : (lsV rs).length ≤ 80000 := by
  by_cases h64 : 64 < rs.length
  · rw [(ls_long h64).1]; simp
  by_cases ho : ∀ r ∈ rs, okR r = true
  · rw [(ls_yes h64 ho).1]
    have h1 := bodyE_len rs (fun r hr => (ok_iff r).1 (ho r hr))
    have h2 := enc2_len (n := rs.length) (by omega)
    rw [List.length_append]
    have : rs.length * 1202 ≤ 64 * 1202 := Nat.mul_le_mul_right _ (by omega)
    omega
  · simp only [Classical.not_forall] at ho
    obtain ⟨r, hr, ho⟩ := ho
    rw [(ls_bad h64 hr (by simpa using ho)).1]
    simp
theorem bodyE_by : ∀ (rs : List Rc), (∀ r ∈ rs, isBy r.key ∧ isBy r.val) → isBy (bodyE rs)
  | [], _ => isBy_nil
  | r :: rs, h => isBy_append (isBy_append (encN_by _) (encR_by r (h r (List.mem_cons_self ..)).1 (h r (List.mem_cons_self ..)).2)) (bodyE_by rs (fun x hx => h x (List.mem_cons_of_mem _ hx)))
theorem lsV_by {rs : List Rc} (h : ∀ r ∈ rs, isBy r.key ∧ isBy r.val) : isBy (lsV rs) := by
  unfold lsV
  repeat' split
  · exact isBy_nil
  · exact isBy_append (encN_by _) (bodyE_by rs h)
  · exact isBy_nil
theorem MrIn.below {w w' : World} {m : Mr} (h : MrIn w m) (k : Below w.heap.size w w') : MrIn w' m := ⟨h.at_.below k, h.key, h.val⟩
set_option maxRecDepth 100000 in
set_option maxHeartbeats 8000000 in
theorem recLists_any (A : Option Addr) (c : Nat) (L : List Mr) (w : World) (hrow : RowAt w (.slice A L.length c) L) (hin : ∀ m ∈ L, MrIn w m) (hA : A = none → L.length = 0 ∧ c = 0) (hsz : ∀ m ∈ L, m.r.val.length ≤ 281474976710656 ∧ m.r.key.length ≤ 281474976710656) (hlm : L.length ≤ maxLen) :
    Calls Try.prog 5 #[.slice A L.length c] w fun e w' => e = .returned (.bool true) ∧ Below w.heap.size w w' := by
  obtain ⟨i0, hi0, hz0, hz1, hz2⟩ := info_parts rec_info
  have HH := Lib.hid (law_heavy _ L w hrow hsz hlm)
  have HIN := Lib.hid (And.intro hrow hin)
  have HAN := Lib.hid hA
  obtain ⟨P, hP⟩ : ∃ P, lsV (L.map Mr.r) = P := ⟨_, rfl⟩
  obtain ⟨k0, hK⟩ : ∃ k0, lsC (L.map Mr.r) = k0 := ⟨_, rfl⟩
  have hrs : ∀ r ∈ L.map Mr.r, isBy r.key ∧ isBy r.val := fun r hr => by
    obtain ⟨m, hm, rfl⟩ := List.mem_map.1 hr
    exact ⟨(hin m hm).key, (hin m hm).val⟩
  have HPB : Hid (isBy P ∧ P.length ≤ 80000) := Lib.hid (by rw [← hP]; exact ⟨lsV_by hrs, lsV_len _⟩)
  have HPR : Hid (k0 = 0 → rdL P = some (L.map Mr.r) ∧ (L.map Mr.r).length ≤ 64) := Lib.hid (fun h => by rw [← hP]; exact rdL_enc (hK.trans h))
  have HLS : Hid (∀ w' e, LsRes (L.map Mr.r) w' e → ∃ A c, e = .returned (.tuple #[.slice A P.length c, .int .i64 k0]) ∧ ByL w' A P ∧ (A = none → P.length = 0 ∧ c = 0) ∧ P.length ≤ c ∧ c ≤ maxLen) := Lib.hid (fun w' e h => by
    unfold LsRes at h
    rw [hP, hK] at h
    exact h)
  clear hrow hin hA hsz hP hK hrs
  go_enter Try.func5, Try.ntmps5
  go_wp2_with fail
  refine HH.out.mono ?_; rintro e W1 ⟨⟨b, rfl, hb⟩, q, rfl⟩
  have B1 : Below w.heap.size w (w.drewN q) := drewN_below w q
  have HB1 := Lib.hid B1
  clear B1
  generalize w.drewN q = W1 at *
  cases b
  rotate_left
  · clear hb
    go_wp2
    go_ret
    exact ⟨rfl, HB1.out⟩
  have hl300 : L.length ≤ 300 := hb rfl
  clear hb HH hlm
  have HB2 : Hid (Below w.heap.size w (W1.alloc (.cells #[] 28))) := Lib.hid (HB1.out.alloc HB1.out.size _)
  have hmade := World.ownsRow_made (base := w.heap.size) (e := 28) (size := 9) W1 #[] 0 HB1.out.size (Nat.zero_le _) rfl
  have zW := HB1.out.size
  by_cases hpos : 0 < L.length
  · obtain ⟨A', c', he, hc0⟩ := HIN.out.1.ex
    obtain ⟨rfl, rfl⟩ : A = A' ∧ c = c' := by injection he with q1 q2 q3; exact ⟨q1, q3⟩
    obtain ⟨B, O, rfl, hBl, hcell⟩ := hc0 hpos
    have hsrc : ∀ j u, (rowM L)[j]? = some u → (W1.alloc (.cells #[] 28)).cell? ((⟨B, O, none⟩ : Addr).add j) = some u := fun j u hu => by
      rw [at_add]
      exact (HB2.out.cell (p := ⟨B, O + j, none⟩) hBl).trans (hcell j u hu)
    clear he hc0 hcell
    go_wp2_with (at_builtin; refine wpList_append_lies _ rfl (.tmp 12) (.tmp 13) _ rfl w.heap.size 28 i0 _ 9 96 Try.underlying30 hi0 hz0 hz1 hz2 rfl (by decide) (.slice (some ⟨W1.heap.size, 0, none⟩) 0 0) 0 [] rfl hmade ⟨B, O, none⟩ L.length c (rowM L) rfl (rowM_len L) hsrc (rowM_one1 L) hpos (by unfold maxLen; omega) (by omega) (by simp; omega) _ rfl ?_; intro g cap W2 hown0 hg2 hat2 hlt2; have hown2 : W2.ownsRow w.heap.size 28 9 (.slice (some ⟨g, 0, none⟩) L.length cap) L.length (rowM L) := (by simpa using hown0))
    have HROW2 := Lib.hid (RowAt.of hown2)
    have HBW2 : Hid (Below w.heap.size w W2) := Lib.hid (HB2.out.grown hg2 (by simp; omega) (fun k hk => by simp [Value.ownBlock] at hk; omega))
    clear hown0 hown2 hg2 hat2 hlt2 hsrc hmade HB2
    have HL1 := Lib.hid (rec_list (.slice (some ⟨g, 0, none⟩) L.length cap) L W2 HROW2.out (fun m hm => (HIN.out.2 m hm).at_.below HBW2.out) (fun m hm => (HIN.out.2 m hm).key) (by omega))
    go_wp2_with fail
    refine HL1.out.mono ?_; rintro e W3 ⟨hres, k3⟩
    obtain ⟨A1, c1, rfl, y1, n1, l1, m1⟩ := HLS.out _ _ hres
    have HB3 := Lib.hid (HBW2.out.trans (k3.mono HBW2.out.size))
    have HY1 := Lib.hid (And.intro y1 n1)
    have HL2 := Lib.hid (ref_list (.slice (some ⟨B, O, none⟩) L.length c) L W3 (HIN.out.1.below HB3.out) (fun m hm => (HIN.out.2 m hm).at_.below HB3.out) (fun m hm => (HIN.out.2 m hm).key) (by omega))
    clear hres y1 n1 l1 m1 k3 HL1 HROW2 HBW2
    go_wp2_with fail
    refine HL2.out.mono ?_; rintro e W4 ⟨hres, k4⟩
    obtain ⟨A2, c2, rfl, y2, n2, l2, m2⟩ := HLS.out _ _ hres
    have HB4 := Lib.hid (HB3.out.trans (k4.mono HB3.out.size))
    have HY4 := Lib.hid (HY1.out.1.below k4)
    have HSM := Lib.hid (lsame A1 P c1 A2 P c2 W4 (by have := HPB.out.2; omega) (by have := HPB.out.2; omega) HY4.out y2)
    rw [show decide (P = P) = true from by simp] at HSM
    clear hres y2 n2 l2 m2 k4 HL2 HB3
    go_wp2_with fail
    refine HSM.out.mono ?_; rintro e W5 ⟨rfl, q5, rfl⟩
    have HB5 := Lib.hid (HB4.out.trans ((drewN_below W4 q5).mono HB4.out.size))
    have HY5 := Lib.hid (HY4.out.below (drewN_below W4 q5))
    clear HSM HB4 HY4
    generalize W4.drewN q5 = W5 at *
    by_cases hk0 : k0 = 0
    rotate_left
    · have t9 : (k0 != 0) = true := by simpa using hk0
      have t8 : (k0 == 0) = false := by simpa using hk0
      clear hk0
      go_wp2_with (go_at_call 18; refine (known14 _).mono ?_; rintro e U4 ⟨rfl, k4⟩; have HB6 := Lib.hid (HB5.out.trans (k4.mono HB5.out.size)))
      go_ret
      exact ⟨rfl, HB6.out⟩
    have HRV := Lib.hid (HPR.out hk0)
    subst hk0
    have HRD := Lib.hid (rec_rdl A1 P c1 W5 HY5.out HPB.out.1 (fun e => (HY1.out.2 e).1) (by have := HPB.out.2; omega) (fun A l c w h1 h2 h3 h4 => rec_dec A l c w h1 h2 h3 h4 rec_is))
    go_wp2_with fail
    refine HRD.out.mono ?_; rintro e W6 ⟨hres, k6⟩
    have HB6 := Lib.hid (HB5.out.trans (k6.mono HB5.out.size))
    rcases hres with ⟨hno, _⟩ | ⟨L', v', hyes, rfl, hrow', hl64, hat'⟩
    · exfalso
      rw [HRV.out.1] at hno
      cases hno
    have hmm : L'.map Mr.r = L.map Mr.r := by
      have := HRV.out.1
      rw [hyes] at this
      injection this
    have HRC := Lib.hid (law_records v' (.slice (some ⟨B, O, none⟩) L.length c) L' L W6 (RowAt.of hrow') (HIN.out.1.below HB6.out) (fun m hm => (hat' m hm).mono (fun _ _ _ => trivial)) (fun m hm => (HIN.out.2 m hm).at_.below HB6.out) (fun m hm => by
      have : m.r ∈ L.map Mr.r := hmm ▸ List.mem_map_of_mem hm
      obtain ⟨m2, hm2, e2⟩ := List.mem_map.1 this
      rw [← e2]
      exact (HIN.out.2 m2 hm2).val) hmm (by omega))
    clear hyes hrow' hl64 hat' hmm k6 HRD HRV HB5 HY5
    go_wp2_with (first | (go_at_call 26; refine HRC.out.mono ?_; rintro e U7 ⟨rfl, k7⟩; have HB7 := Lib.hid (HB6.out.trans (k7.mono HB6.out.size))) | (go_at_call 18; refine (known14 _).mono ?_; rintro e U8 ⟨rfl, k8⟩; have HB8 := Lib.hid (HB7.out.trans (k8.mono HB7.out.size))))
    go_ret
    exact ⟨rfl, HB8.out⟩
  · obtain rfl : L = [] := List.length_eq_zero_iff.1 (by omega)
    have hld := empty_loads.1
    have hst := empty_loads.2
    have step : A = none ∨ ∃ ad, A = some ad := by cases A <;> simp
    have HROW0 : Hid (RowAt (W1.alloc (.cells #[] 28)) (.slice (some ⟨W1.heap.size, 0, none⟩) 0 0) []) := Lib.hid ⟨some ⟨W1.heap.size, 0, none⟩, 0, rfl, fun h => absurd h (by simp)⟩
    rcases step with rfl | ⟨ad, rfl⟩
    · obtain rfl : c = 0 := (HAN.out rfl).2
      have HROW2 := HROW0
      have HBW2 := HB2
      clear HROW0 HB2
      have HL1 := Lib.hid (rec_list (.slice (some ⟨W1.heap.size, 0, none⟩) 0 0) [] (W1.alloc (.cells #[] 28)) HROW2.out (fun m hm => (by cases hm)) (fun m hm => (by cases hm)) (by simp))
      go_wp2_with fail
      refine HL1.out.mono ?_; rintro e W3 ⟨hres, k3⟩
      obtain ⟨A1, c1, rfl, y1, n1, l1, m1⟩ := HLS.out _ _ hres
      have HB3 := Lib.hid (HBW2.out.trans (k3.mono HBW2.out.size))
      have HY1 := Lib.hid (And.intro y1 n1)
      have HL2 := Lib.hid (ref_list (.slice none 0 0) [] W3 (HIN.out.1.below HB3.out) (fun m hm => (HIN.out.2 m hm).at_.below HB3.out) (fun m hm => (HIN.out.2 m hm).key) (by omega))
      clear hres y1 n1 l1 m1 k3 HL1 HROW2 HBW2
      go_wp2_with fail
      refine HL2.out.mono ?_; rintro e W4 ⟨hres, k4⟩
      obtain ⟨A2, c2, rfl, y2, n2, l2, m2⟩ := HLS.out _ _ hres
      have HB4 := Lib.hid (HB3.out.trans (k4.mono HB3.out.size))
      have HY4 := Lib.hid (HY1.out.1.below k4)
      have HSM := Lib.hid (lsame A1 P c1 A2 P c2 W4 (by have := HPB.out.2; omega) (by have := HPB.out.2; omega) HY4.out y2)
      rw [show decide (P = P) = true from by simp] at HSM
      clear hres y2 n2 l2 m2 k4 HL2 HB3
      go_wp2_with fail
      refine HSM.out.mono ?_; rintro e W5 ⟨rfl, q5, rfl⟩
      have HB5 := Lib.hid (HB4.out.trans ((drewN_below W4 q5).mono HB4.out.size))
      have HY5 := Lib.hid (HY4.out.below (drewN_below W4 q5))
      clear HSM HB4 HY4
      generalize W4.drewN q5 = W5 at *
      by_cases hk0 : k0 = 0
      rotate_left
      · have t9 : (k0 != 0) = true := by simpa using hk0
        have t8 : (k0 == 0) = false := by simpa using hk0
        clear hk0
        go_wp2_with (go_at_call 18; refine (known14 _).mono ?_; rintro e U4 ⟨rfl, k4⟩; have HB6 := Lib.hid (HB5.out.trans (k4.mono HB5.out.size)))
        go_ret
        exact ⟨rfl, HB6.out⟩
      have HRV := Lib.hid (HPR.out hk0)
      subst hk0
      have HRD := Lib.hid (rec_rdl A1 P c1 W5 HY5.out HPB.out.1 (fun e => (HY1.out.2 e).1) (by have := HPB.out.2; omega) (fun A l c w h1 h2 h3 h4 => rec_dec A l c w h1 h2 h3 h4 rec_is))
      go_wp2_with fail
      refine HRD.out.mono ?_; rintro e W6 ⟨hres, k6⟩
      have HB6 := Lib.hid (HB5.out.trans (k6.mono HB5.out.size))
      rcases hres with ⟨hno, _⟩ | ⟨L', v', hyes, rfl, hrow', hl64, hat'⟩
      · exfalso
        rw [HRV.out.1] at hno
        cases hno
      have hmm : L'.map Mr.r = List.map Mr.r [] := by
        have := HRV.out.1
        rw [hyes] at this
        injection this
      have HRC := Lib.hid (law_records v' (.slice none 0 0) L' [] W6 (RowAt.of hrow') (HIN.out.1.below HB6.out) (fun m hm => (hat' m hm).mono (fun _ _ _ => trivial)) (fun m hm => (HIN.out.2 m hm).at_.below HB6.out) (fun m hm => by
        have : m.r ∈ List.map Mr.r [] := hmm ▸ List.mem_map_of_mem hm
        obtain ⟨m2, hm2, e2⟩ := List.mem_map.1 this
        rw [← e2]
        exact (HIN.out.2 m2 hm2).val) hmm (by omega))
      clear hyes hrow' hl64 hat' hmm k6 HRD HRV HB5 HY5
      go_wp2_with (first | (go_at_call 26; refine HRC.out.mono ?_; rintro e U7 ⟨rfl, k7⟩; have HB7 := Lib.hid (HB6.out.trans (k7.mono HB6.out.size))) | (go_at_call 18; refine (known14 _).mono ?_; rintro e U8 ⟨rfl, k8⟩; have HB8 := Lib.hid (HB7.out.trans (k8.mono HB7.out.size))))
      go_ret
      exact ⟨rfl, HB8.out⟩
    · have HROW2 := HROW0
      have HBW2 := HB2
      clear HROW0 HB2
      have HL1 := Lib.hid (rec_list (.slice (some ⟨W1.heap.size, 0, none⟩) 0 0) [] (W1.alloc (.cells #[] 28)) HROW2.out (fun m hm => (by cases hm)) (fun m hm => (by cases hm)) (by simp))
      go_wp2_with fail
      refine HL1.out.mono ?_; rintro e W3 ⟨hres, k3⟩
      obtain ⟨A1, c1, rfl, y1, n1, l1, m1⟩ := HLS.out _ _ hres
      have HB3 := Lib.hid (HBW2.out.trans (k3.mono HBW2.out.size))
      have HY1 := Lib.hid (And.intro y1 n1)
      have HL2 := Lib.hid (ref_list (.slice (some ad) 0 c) [] W3 (HIN.out.1.below HB3.out) (fun m hm => (HIN.out.2 m hm).at_.below HB3.out) (fun m hm => (HIN.out.2 m hm).key) (by omega))
      clear hres y1 n1 l1 m1 k3 HL1 HROW2 HBW2
      go_wp2_with fail
      refine HL2.out.mono ?_; rintro e W4 ⟨hres, k4⟩
      obtain ⟨A2, c2, rfl, y2, n2, l2, m2⟩ := HLS.out _ _ hres
      have HB4 := Lib.hid (HB3.out.trans (k4.mono HB3.out.size))
      have HY4 := Lib.hid (HY1.out.1.below k4)
      have HSM := Lib.hid (lsame A1 P c1 A2 P c2 W4 (by have := HPB.out.2; omega) (by have := HPB.out.2; omega) HY4.out y2)
      rw [show decide (P = P) = true from by simp] at HSM
      clear hres y2 n2 l2 m2 k4 HL2 HB3
      go_wp2_with fail
      refine HSM.out.mono ?_; rintro e W5 ⟨rfl, q5, rfl⟩
      have HB5 := Lib.hid (HB4.out.trans ((drewN_below W4 q5).mono HB4.out.size))
      have HY5 := Lib.hid (HY4.out.below (drewN_below W4 q5))
      clear HSM HB4 HY4
      generalize W4.drewN q5 = W5 at *
      by_cases hk0 : k0 = 0
      rotate_left
      · have t9 : (k0 != 0) = true := by simpa using hk0
        have t8 : (k0 == 0) = false := by simpa using hk0
        clear hk0
        go_wp2_with (go_at_call 18; refine (known14 _).mono ?_; rintro e U4 ⟨rfl, k4⟩; have HB6 := Lib.hid (HB5.out.trans (k4.mono HB5.out.size)))
        go_ret
        exact ⟨rfl, HB6.out⟩
      have HRV := Lib.hid (HPR.out hk0)
      subst hk0
      have HRD := Lib.hid (rec_rdl A1 P c1 W5 HY5.out HPB.out.1 (fun e => (HY1.out.2 e).1) (by have := HPB.out.2; omega) (fun A l c w h1 h2 h3 h4 => rec_dec A l c w h1 h2 h3 h4 rec_is))
      go_wp2_with fail
      refine HRD.out.mono ?_; rintro e W6 ⟨hres, k6⟩
      have HB6 := Lib.hid (HB5.out.trans (k6.mono HB5.out.size))
      rcases hres with ⟨hno, _⟩ | ⟨L', v', hyes, rfl, hrow', hl64, hat'⟩
      · exfalso
        rw [HRV.out.1] at hno
        cases hno
      have hmm : L'.map Mr.r = List.map Mr.r [] := by
        have := HRV.out.1
        rw [hyes] at this
        injection this
      have HRC := Lib.hid (law_records v' (.slice (some ad) 0 c) L' [] W6 (RowAt.of hrow') (HIN.out.1.below HB6.out) (fun m hm => (hat' m hm).mono (fun _ _ _ => trivial)) (fun m hm => (HIN.out.2 m hm).at_.below HB6.out) (fun m hm => by
        have : m.r ∈ List.map Mr.r [] := hmm ▸ List.mem_map_of_mem hm
        obtain ⟨m2, hm2, e2⟩ := List.mem_map.1 this
        rw [← e2]
        exact (HIN.out.2 m2 hm2).val) hmm (by omega))
      clear hyes hrow' hl64 hat' hmm k6 HRD HRV HB5 HY5
      go_wp2_with (first | (go_at_call 26; refine HRC.out.mono ?_; rintro e U7 ⟨rfl, k7⟩; have HB7 := Lib.hid (HB6.out.trans (k7.mono HB6.out.size))) | (go_at_call 18; refine (known14 _).mono ?_; rintro e U8 ⟨rfl, k8⟩; have HB8 := Lib.hid (HB7.out.trans (k8.mono HB7.out.size))))
      go_ret
      exact ⟨rfl, HB8.out⟩
set_option maxRecDepth 100000 in
theorem recLists_lifted (os : Os) (started : os.Started) (H : Type) (enc : TypeId × Value → H) :
    ReturnsInHanded {} Try.checked os 5 .any (Rows.recListsSpec.pre6 enc Try.prog Try.f5 Rows.recListsRow.domain false) (Rows.recListsSpec.post enc Try.prog Try.f5 false true false false) := by
  refine returnsInHanded_of_change_sized (C := Try.checked) law_own started (by kernel_rfl) Try.func5
    (ChangeSpec.witness6 (enc := enc) (C := Try.checked) false ⟨#[], #[.slice none 0 0], []⟩ 8 (by kernel_rfl) (by kernel_rfl) (by kernel_rfl) (by kernel_rfl)) ?_
  intro W base args ds gs before hval0 hW hcnd hsz0 _
  have hval : ∀ (j : Nat) t v, Try.f5.params[j]? = some t → args[j]? = some v → Value.okWide Try.prog W .any base t v := hval0
  have hsz : (DataW.weightsEach Try.prog (Try.f5.params.toList ++ Rows.recListsSpec.plain.varTypes Try.prog) (ds ++ gs)).all (· ≤ reachBytes) = true := hsz0
  have hW' := hW
  obtain ⟨p, q, hA0, hV, rfl, hfz, hnd⟩ := hW
  have hA : DataW.TrodAll enc Try.prog W 0 (fun _ => true) true Try.f5.params.toList args.toList ds p := hA0
  rw [Try.params5] at hA hval hsz
  have hsame : (Rows.recListsSpec.fn H (ds ++ gs)).results = [.lit (.bool true)] ∧ (Rows.recListsSpec.fn H (ds ++ gs)).args = ds ∧ (Rows.recListsSpec.fn H (ds ++ gs)).vars = [] → ∀ W', Below W.heap.size W W' → Rows.recListsSpec.post enc Try.prog Try.f5 false true false false W args (.bool true) W' :=
    fun h W' hb => law_post (tb := 4) hW' law_laid (by kernel_rfl) rfl Try.underlying4 h.1 h.2.1 rfl h.2.2 hb
  obtain ⟨v0, vs0, d0, ds0, p0, q0, hargs, rfl, rfl, h0, r0⟩ := trodAll_cons hA
  obtain ⟨rfl, rfl, rfl⟩ := trodAll_nil r0
  obtain rfl : args = #[v0] := by cases args; simp_all
  obtain ⟨rfl, rfl⟩ := trodVars_none hV
  have hpost := hsame ⟨rfl, rfl, rfl⟩
  clear hsame hA0 hval0 hsz0
  obtain ⟨L, A, c, rfl, hlm, hrow, hin, hA, hz⟩ := open_records (hval 0 30 v0 rfl rfl) h0
  have hk := hz reachBytes (sized_each (j := 0) hsz rfl rfl)
  unfold reachBytes at hk
  exact (recLists_any A c L W hrow hin hA (fun m hm => ⟨by have := (hk m hm).1; omega, by have := (hk m hm).2; omega⟩) hlm).mono fun e W' ⟨he, hb⟩ => ⟨_, he, hpost W' hb⟩
theorem recLists_holds : Rows.RecListsSaid :=
  OpenClaim.holds_of_wide 5 Try.f5 rfl rfl rfl rfl rfl rfl rfl ⟨rfl, rfl, rfl, rfl, rfl⟩ rfl rfl rfl rfl rfl (by kernel_rfl) Try.func5 (by kernel_rfl)
    (of_decide_eq_true (by kernel_rfl)) (by unfold Func.isWrapper; first | (rw [if_pos (by decide +kernel)]; kernel_rfl) | (rw [if_neg (by decide +kernel)]; exact ⟨rfl, rfl⟩))
    (fun os started H enc _ => recLists_lifted os started H enc)
end Go.Proofs.Ytpccneikblbhdaa
