/- SectTexts: which bytes are a text, and a section of any name. -/
import Derived.Test.YtcmidegffpehoaaDoorScP
import Derived.Test.YtcmidegffpehoaaDoorScG
import Derived.Test.YtcmidegffpehoaaDoorScS
import Derived.Deep.RegionHeld3
namespace Go.Proofs.YtcmidegffpehoaaDoor
open Go.RowKit
namespace Sc
set_option linter.unusedVariables false
set_option linter.unusedSimpArgs false

theorem one_secL {w : World} {v : Value} {g : Nat → Prop} {K : List Int} (h : Byt w g K v) : SecL (w.alloc (.cells #[.int .u8 0, .int .i64 0, v] 37)) [⟨0, 0, K⟩] (.slice (some ⟨w.heap.size, 0, none⟩) 1 1) := by
  refine ⟨_, 1, rfl, by simp, by simp, fun j hj => ?_⟩
  obtain rfl : j = 0 := by simpa using hj
  refine ⟨w.heap.size, 0, rfl, by simp, ?_⟩
  have hb := box_new w #[.int .u8 0, .int .i64 0, v] 37
  refine ⟨hb 0, hb 1, v, hb 2, ?_⟩
  exact (h.below (one_alloc _ _)).any fun _ _ _ => trivial
theorem byt_bytes {w : World} {g : Nat → Prop} {K : List Int} {v : Value} (h : Byt w g K v) : ∀ z ∈ K, 0 ≤ z ∧ z ≤ 255 := by obtain ⟨_, _, _, _, _, hr, _⟩ := h; exact hr.2.1
set_option maxRecDepth 100000 in
set_option maxHeartbeats 3200000 in
theorem texts_any {a0 a1 : Option Addr} {n c0 m c1 : Nat} {zs cs : List Int} {w : World} (h : Row w a0 n zs) (hc0 : n ≤ c0) (h1 : Row w a1 m cs) (hc1 : m ≤ c1) (hnil : a1 = none → c1 = 0) (hE : ErrT w) (hT : U8 w) :
    Calls Tryd.prog 5 #[.slice a0 n c0, .slice a1 m c1] w fun e w' => e = .returned (.bool true) ∧ Below w.heap.size w w' := by
  have HE := hide hE; have HT := hide hT; have HH := hide h; have H1 := hide h1
  clear hE hT h h1
  by_cases g0 : n ≤ 400
  · by_cases g1 : m ≤ 400
    · have g0z : ¬ ((400 : Int) < (n : Int)) := by omega
      have g1z : ¬ ((400 : Int) < (m : Int)) := by omega
      have g0b : decide (400 < n) = false := decide_eq_false (by omega)
      have g1b : decide (400 < m) = false := decide_eq_false (by omega)
      have hrt := rtext_any (cap := c0) (unhide HH) (by omega)
      have hzl := (unhide HH).1; have hcl := (unhide H1).1
      have hzb := (unhide HH).2.1
      obtain ⟨St, hSt⟩ : ∃ St, strOfNums zs = St := ⟨_, rfl⟩
      have HSt := hide hSt
      have hnm := fun wx (hb : Below w.heap.size w wx) => named_any (c := cs) ((unhide H1).below (Nat.le_refl _) hb) hnil g1 hzb (by omega) hSt (Utf8Tabs_below (unhide HT) hb)
      have htx := fun wx (hb : Below w.heap.size w wx) => text_any (cap := c0) ((unhide HH).below (Nat.le_refl _) hb) hc0 (by omega) (Utf8Tabs_below (unhide HT) hb)
      have HRt := hide hrt; have HNm := hide hnm; have HTx := hide htx
      clear hrt hnm htx hSt hzb
      cases hv : vd zs with
      | false =>
        rw [hv] at HRt HTx
        have hok : nok zs = false := by unfold nok; rw [hv]; rfl
        go_enter Tryd.func5, Tryd.ntmps5
        go_wp2_with fail
        refine (unhide HRt).mono ?_
        rintro e w1 ⟨rfl, hb1⟩
        have hcv := convS (cap := c0) ((unhide HH).below (Nat.le_refl _) hb1) HSt
        have HB1 := hide hb1; clear hb1
        go_wp2_with fail
        refine (unhide HNm _ (unhide HB1)).mono ?_
        rintro e w2 ⟨hb2, _, hno⟩
        obtain rfl := hno hok
        have HB2 := hide (Below.on (unhide HB1) hb2)
        clear hb2 hno HB1 hcv
        go_wp2_with fail
        refine (unhide HTx _ (Below.on (unhide HB2) (one_alloc _ _))).mono ?_
        rintro e w3 ⟨rfl, hb3⟩
        have hbx := box3 hb3
        have c3 : w3.cell? ⟨w2.heap.size, 2, none⟩ = some (.slice none 0 0) := hbx.1 2
        have hlt3 := hbx.2.2
        have HB3 := hide (Below.on (unhide HB2) (Below.on (one_alloc _ _) hb3))
        clear hb3 hbx HB2
        go_wp2_with fail
        refine (num_hit 1 _ ((unhide HE).below (Nat.le_refl _) (unhide HB3))).mono ?_
        rintro e w4 ⟨rfl, hb4⟩
        have c4 : w4.cell? ⟨w2.heap.size, 2, none⟩ = some (.slice none 0 0) := (World.cell?_of_block (a := ⟨w2.heap.size, 2, none⟩) (hb4.block _ hlt3)).trans c3
        have HB4 := hide (Below.on (unhide HB3) hb4); clear hb4 HB3 c3
        go_wp2_with fail
        refine (sure_any _ (Utf8Tabs_below (unhide HT) (unhide HB4))).mono ?_
        rintro e w5 ⟨rfl, hb5⟩
        have HB5 := hide (Below.on (unhide HB4) hb5); clear hb5
        go_wp2
        go_ret
        exact ⟨rfl, unhide HB5⟩
      | true =>
        rw [hv] at HRt HTx
        by_cases g2 : n ≤ 256
        · have hok : nok zs = true := by unfold nok; rw [hv, decide_eq_true (by omega)]; rfl
          have g2z : ¬ ((256 : Int) < (n : Int)) := by omega
          have g2b : decide (256 < n) = false := decide_eq_false (by omega)
          have hjd := judge_named (c := cs) (show zs.length ≤ 256 by omega) hv
          have hP := Leb.bU_pos 10 (zs.length : Int)
          have hPl := Leb.bU_len 10 (zs.length : Int)
          obtain ⟨K, hK⟩ : ∃ K, Leb.bU 10 zs.length ++ zs ++ cs = K := ⟨_, rfl⟩
          have hKl : K.length = (Leb.bU 10 zs.length).length + n + m := by rw [← hK]; simp; omega
          have hKd : K.drop ((Leb.bU 10 zs.length).length + n) = cs := by rw [← hK]; exact List.drop_left' (by simp; omega)
          obtain ⟨q, hq⟩ : ∃ q, (Leb.bU 10 zs.length).length + n = q := ⟨_, rfl⟩
          rw [hq] at hKl hKd
          rw [hK] at hjd
          have hq0 : n + 1 ≤ q := by omega
          have hq1 : q ≤ 300 := by omega
          unfold NamedPost at HNm
          rw [hK] at HNm
          clear hP hPl hq hK
          have hJl : (JB [⟨0, 0, K⟩]).length ≤ 50000 := by
            have := Leb.bU_len 10 (K.length : Int)
            simp [JB, encS, hd]; omega
          have hjk : jok [⟨0, 0, K⟩] 0 = true := by simp [jok, hjd, mf]
          have hSj := (S_join hJl).1 hjk
          have HKd := hide hKd; have HSj := hide hSj
          clear hjd hKd hSj
          go_enter Tryd.func5, Tryd.ntmps5
          go_wp2_with fail
          refine (unhide HRt).mono ?_
          rintro e w1 ⟨rfl, hb1⟩
          have hcv := convS (cap := c0) ((unhide HH).below (Nat.le_refl _) hb1) HSt
          have HB1 := hide hb1; clear hb1
          go_wp2_with fail
          refine (unhide HNm _ (unhide HB1)).mono ?_
          rintro e w2 ⟨hb2, hyes, _⟩
          obtain ⟨v, rfl, hby⟩ := hyes hok
          obtain ⟨va, vc, rfl, hvc⟩ : ∃ va vc, v = .slice va K.length vc ∧ K.length ≤ vc := by obtain ⟨va, vc, e, h2, _⟩ := hby; exact ⟨va, vc, e, h2⟩
          have HB2 := hide (Below.on (unhide HB1) hb2); have HBy := hide hby
          clear hb2 hyes hby HB1 hcv
          rw [hKl] at hvc ⊢
          go_wp2_with fail
          refine (unhide HTx _ (Below.on (unhide HB2) (one_alloc _ _))).mono ?_
          rintro e w3 ⟨rfl, hb3⟩
          have hbx := box3 hb3
          have d0 : w3.cell? ⟨w2.heap.size, 0, none⟩ = some (.int .u8 0) := hbx.1 0
          have d1 : w3.cell? ⟨w2.heap.size, 1, none⟩ = some (.int .i64 0) := hbx.1 1
          have d2 : w3.cell? ⟨w2.heap.size, 2, none⟩ = some (.slice va (q + m) vc) := hbx.1 2
          have hlt3 := hbx.2.2
          have hb23 := Below.on (one_alloc w2 (.cells #[.int .u8 0, .int .i64 0, .slice va (q + m) vc] 37)) hb3
          have hby3 := (unhide HBy).below hb23
          have HBy3 := hide hby3
          have HB3 := hide (Below.on (unhide HB2) hb23)
          rw [hKl] at hby3
          have hsl := one_secL hby3
          have hal := one_alloc w3 (.cells #[.int .u8 0, .int .i64 0, .slice va (q + m) vc] 37)
          have hjn := join_any hsl (by simp) (by intro s hs z hz; simp at hs; subst hs; exact byt_bytes hby3 z hz) hJl (Utf8Tabs_below (unhide HT) (Below.on (unhide HB3) hal))
          have HJn := hide hjn; have HAl := hide hal
          clear hb3 hbx hb23 hby3 hsl hal hjn HBy HB2
          go_wp2_with fail
          refine (unhide HJn).mono ?_
          rintro e w4 ⟨hb4, hyes, _⟩
          obtain ⟨v4, rfl, hby4⟩ := hyes hjk
          have hb34 := Below.on (unhide HAl) hb4
          have e0 : w4.cell? ⟨w2.heap.size, 0, none⟩ = some (.int .u8 0) := (World.cell?_of_block (a := ⟨w2.heap.size, 0, none⟩) (hb34.block _ hlt3)).trans d0
          have e2 : w4.cell? ⟨w2.heap.size, 2, none⟩ = some (.slice va (q + m) vc) := (World.cell?_of_block (a := ⟨w2.heap.size, 2, none⟩) (hb34.block _ hlt3)).trans d2
          have hlt4 : w2.heap.size < w4.heap.size := Nat.lt_of_lt_of_le hlt3 hb34.size
          obtain ⟨ja, jc, rfl, hjc, _, hjr, _⟩ := hby4
          have HB4 := hide (Below.on (unhide HB3) hb34)
          have hsp := split_any (cap := jc) hjr hjc hJl (Utf8Tabs_below (unhide HT) (unhide HB4))
          rw [unhide HSj] at hsp
          have HSp := hide hsp; have HBy4 := hide ((unhide HBy3).below hb34)
          clear hb4 hyes hb34 hjr hsp d0 d1 d2 HJn HAl HB3 HBy3
          go_wp2_with fail
          refine (unhide HSp).mono ?_
          rintro e w5 ⟨v5, rfl, hb5, hc5, _⟩
          rw [errV_0]
          obtain ⟨sa, sc, rfl, _⟩ := hc5 rfl
          rw [placed_len]
          have f0 : w5.cell? ⟨w2.heap.size, 0, none⟩ = some (.int .u8 0) := (World.cell?_of_block (a := ⟨w2.heap.size, 0, none⟩) (hb5.block _ hlt4)).trans e0
          have f2 : w5.cell? ⟨w2.heap.size, 2, none⟩ = some (.slice va (q + m) vc) := (World.cell?_of_block (a := ⟨w2.heap.size, 2, none⟩) (hb5.block _ hlt4)).trans e2
          have HB5 := hide (Below.on (unhide HB4) hb5); have HBy5 := hide ((unhide HBy4).below hb5)
          clear hb5 hc5 e0 e2 HSp HB4 HBy4
          obtain ⟨Sc, hSc⟩ : ∃ Sc, strOfNums cs = Sc := ⟨_, rfl⟩
          have HSc := hide hSc
          have hrc5 : Row w5 a1 m cs := (unhide H1).below (Nat.le_refl _) (unhide HB5)
          have hrk5 : Row w5 va (q + m) K := by
            obtain ⟨_, _, e, _, _, hr, _⟩ := unhide HBy5
            simp only [Value.slice.injEq] at e
            obtain ⟨rfl, e2, _⟩ := e
            rw [← hKl]
            exact hr
          have hrq5 := row_from hrk5 q (by omega)
          rw [unhide HKd, Nat.add_sub_cancel_left] at hrq5
          have hsu := sure_any w5.drew (Utf8Tabs_below (unhide HT) (unhide HB5).drew)
          have HSu := hide hsu; have HRc := hide hrc5; have HRq := hide hrq5
          have HB6 := hide ((unhide HB5).drew)
          clear hrc5 hrk5 hSc hsu HBy5 HB5 hrq5
          have hqz : (q : Int) ≤ 300 := by omega
          have hmz : (m : Int) ≤ 400 := by omega
          have hn4z : (n : Int) ≤ 400 := by omega
          have hw9 : IntKind.i64.wrap ((n : Int) + (m : Int)) = (n : Int) + (m : Int) := by rw [IntKind.wrap_i64]; omega
          have hw8 : IntKind.i64.wrap ((q : Int) + (m : Int) - (m : Int)) = (q : Int) := by rw [IntKind.wrap_i64]; omega
          have hw7 : IntKind.i64.wrap (q : Int) = (q : Int) := by rw [IntKind.wrap_i64]; omega
          have hw4 : IntKind.i64.wrap (n : Int) = (n : Int) := by rw [IntKind.wrap_i64]; omega
          have hnqd : decide ((n : Int) + (m : Int) ≤ ((q + m : Nat) : Int)) = true := decide_eq_true (by omega)
          have hnq : n ≤ q := by omega
          have hnqz : (n : Int) ≤ (q : Int) := by omega
          have hnqb : decide (n ≤ q) = true := decide_eq_true hnq
          have hnqc : decide ((n : Int) + (m : Int) ≤ (q : Int) + (m : Int)) = true := decide_eq_true (by omega)
          by_cases hqv : q = vc
          · obtain rfl : m = 0 := by omega
            subst hqv
            obtain rfl : cs = [] := List.eq_nil_of_length_eq_zero hcl
            rw [Nat.add_zero] at f2 hKl
            have hnqe : decide ((n : Int) ≤ (q : Int)) = true := decide_eq_true hnqz
            clear hnqc hnqd hw9 hw8
            have HRq := hide (row_none w5 va)
            have h40b : (0 : Int) ≤ (q : Int) := by omega
            have kA := convS (cap := 0) (unhide HRq) HSc
            have kC := convS (cap := c1) (unhide HRc) HSc
            have kA' := convS (cap := 0) ((unhide HRq).below (Nat.le_refl _) (Below.refl _ _).drew) HSc
            have kC' := convS (cap := c1) ((unhide HRc).below (Nat.le_refl _) (Below.refl _ _).drew) HSc
            have hN5 : w2.heap.size < w5.heap.size := World.block_lt_of_cell? w5 _ f0
            generalize w2.heap.size = N at *
            go_wp2_with fail
            go_region_held3 (fun w' => w'.cell? ⟨N, 0, none⟩ = some (.int .u8 0) ∧ w'.cell? ⟨N, 2, none⟩ = some (.slice va q q) ∧ Sem.run Tryd.prog (convert 22 9 (.slice va 0 0)) w' = .ok (.string Sc) w' ∧ Sem.run Tryd.prog (convert 22 9 (.slice a1 0 c1)) w' = .ok (.string Sc) w') (first | go_keep | exact ⟨r0, r2, rA, rC⟩)
              (first | (go_at_call 8; refine (unhide HSu).mono ?_; rintro e w6 ⟨rfl, hb6⟩; have r0 := (hb6.cell (p := ⟨N, 0, none⟩) (by show N < w5.heap.size; omega)).trans f0; have r2 := (hb6.cell (p := ⟨N, 2, none⟩) (by show N < w5.heap.size; omega)).trans f2; have rA := convS (cap := 0) (((unhide HRq).below (Nat.le_refl _) (Below.refl _ _).drew).below (Nat.le_refl _) hb6) HSc; have rC := convS (cap := c1) (((unhide HRc).below (Nat.le_refl _) (Below.refl _ _).drew).below (Nat.le_refl _) hb6) HSc))
            have HB7 := hide (Below.on (unhide HB6) hb6)
            clear hb6 r0 r2 rA rC
            go_wp2
            go_ret
            exact ⟨rfl, unhide HB7⟩
          · have hqc : ¬ vc = q := fun e => hqv e.symm
            have hqlt : q < vc := by omega
            have h40a : (q : Int) ≤ (q : Int) + (m : Int) := by omega
            have h40b : (0 : Int) ≤ (q : Int) := by omega
            have h40c : (q : Int) ≤ ((q + m : Nat) : Int) := by omega
            have h40d : q ≤ q + m := by omega
            have kA := convS (cap := vc - q) (unhide HRq) HSc
            have kC := convS (cap := c1) (unhide HRc) HSc
            have kA' := convS (cap := vc - q) ((unhide HRq).below (Nat.le_refl _) (Below.refl _ _).drew) HSc
            have kC' := convS (cap := c1) ((unhide HRc).below (Nat.le_refl _) (Below.refl _ _).drew) HSc
            have hN5 : w2.heap.size < w5.heap.size := World.block_lt_of_cell? w5 _ f0
            generalize w2.heap.size = N at *
            go_wp2_with fail
            go_region_held3 (fun w' => w'.cell? ⟨N, 0, none⟩ = some (.int .u8 0) ∧ w'.cell? ⟨N, 2, none⟩ = some (.slice va (q + m) vc) ∧ Sem.run Tryd.prog (convert 22 9 (.slice (Option.map (fun x => x.add q) va) m (vc - q))) w' = .ok (.string Sc) w' ∧ Sem.run Tryd.prog (convert 22 9 (.slice a1 m c1)) w' = .ok (.string Sc) w') (first | go_keep | exact ⟨r0, r2, rA, rC⟩)
              (first | (go_at_call 8; refine (unhide HSu).mono ?_; rintro e w6 ⟨rfl, hb6⟩; have r0 := (hb6.cell (p := ⟨N, 0, none⟩) (by show N < w5.heap.size; omega)).trans f0; have r2 := (hb6.cell (p := ⟨N, 2, none⟩) (by show N < w5.heap.size; omega)).trans f2; have rA := convS (cap := vc - q) (((unhide HRq).below (Nat.le_refl _) (Below.refl _ _).drew).below (Nat.le_refl _) hb6) HSc; have rC := convS (cap := c1) (((unhide HRc).below (Nat.le_refl _) (Below.refl _ _).drew).below (Nat.le_refl _) hb6) HSc))
            have HB7 := hide (Below.on (unhide HB6) hb6)
            clear hb6 r0 r2 rA rC
            go_wp2
            go_ret
            exact ⟨rfl, unhide HB7⟩
        · have g2z : (256 : Int) < (n : Int) := by omega
          have g2b : decide (256 < n) = true := decide_eq_true (by omega)
          have hok : nok zs = false := by unfold nok; rw [decide_eq_false (by omega)]; simp
          go_enter Tryd.func5, Tryd.ntmps5
          go_wp2_with fail
          refine (unhide HRt).mono ?_
          rintro e w1 ⟨rfl, hb1⟩
          have hcv := convS (cap := c0) ((unhide HH).below (Nat.le_refl _) hb1) HSt
          have HB1 := hide hb1; clear hb1
          go_wp2_with fail
          refine (unhide HNm _ (unhide HB1)).mono ?_
          rintro e w2 ⟨hb2, _, hno⟩
          obtain rfl := hno hok
          have HB2 := hide (Below.on (unhide HB1) hb2)
          clear hb2 hno HB1 hcv
          go_wp2_with fail
          refine (unhide HTx _ (Below.on (unhide HB2) (one_alloc _ _))).mono ?_
          rintro e w3 ⟨rfl, hb3⟩
          have hbx := box3 hb3
          have c3 : w3.cell? ⟨w2.heap.size, 2, none⟩ = some (.slice none 0 0) := hbx.1 2
          have hlt3 := hbx.2.2
          have HB3 := hide (Below.on (unhide HB2) (Below.on (one_alloc _ _) hb3))
          clear hb3 hbx HB2
          go_wp2_with fail
          refine (num_hit 1 _ ((unhide HE).below (Nat.le_refl _) (unhide HB3))).mono ?_
          rintro e w4 ⟨rfl, hb4⟩
          have c4 : w4.cell? ⟨w2.heap.size, 2, none⟩ = some (.slice none 0 0) := (World.cell?_of_block (a := ⟨w2.heap.size, 2, none⟩) (hb4.block _ hlt3)).trans c3
          have HB4 := hide (Below.on (unhide HB3) hb4); clear hb4 HB3 c3
          go_wp2_with fail
          refine (sure_any _ (Utf8Tabs_below (unhide HT) (unhide HB4))).mono ?_
          rintro e w5 ⟨rfl, hb5⟩
          have HB5 := hide (Below.on (unhide HB4) hb5); clear hb5
          go_wp2
          go_ret
          exact ⟨rfl, unhide HB5⟩
    · have g0z : ¬ ((400 : Int) < (n : Int)) := by omega
      have g1z : (400 : Int) < (m : Int) := by omega
      have g0b : decide (400 < n) = false := decide_eq_false (by omega)
      have g1b : decide (400 < m) = true := decide_eq_true (by omega)
      go_enter Tryd.func5, Tryd.ntmps5
      go_wp2_with fail
      refine (sure_any _ (unhide HT)).mono ?_
      rintro e w5 ⟨rfl, hb5⟩
      have HB5 := hide hb5; clear hb5
      go_wp2
      go_ret
      exact ⟨rfl, unhide HB5⟩
  · have g0z : (400 : Int) < (n : Int) := by omega
    have g0b : decide (400 < n) = true := decide_eq_true (by omega)
    go_enter Tryd.func5, Tryd.ntmps5
    go_wp2_with fail
    refine (sure_any _ (unhide HT)).mono ?_
    rintro e w5 ⟨rfl, hb5⟩
    have HB5 := hide hb5; clear hb5
    go_wp2
    go_ret
    exact ⟨rfl, unhide HB5⟩
end Sc
end Go.Proofs.YtcmidegffpehoaaDoor
