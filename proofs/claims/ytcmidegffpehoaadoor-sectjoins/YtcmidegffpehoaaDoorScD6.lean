/- takeSection. -/
import Derived.Test.YtcmidegffpehoaaDoorScD4
import Derived.Test.YtcmidegffpehoaaDoorScD5
namespace Go.Proofs.YtcmidegffpehoaaDoor
open Go.RowKit
namespace Sc
set_option linter.unusedVariables false
set_option linter.unusedSimpArgs false
set_option maxRecDepth 100000 in
set_option maxHeartbeats 3200000 in
theorem take_any {b o n cap p : Nat} {zs : List Int} {w : World} {top : Int} (h : Row w (some ⟨b, o, none⟩) n zs) (hc : n ≤ cap) (hn : n ≤ 50000) (hp : p < n) (h2 : 0 ≤ top) (h3 : top ≤ 255) (hT : U8 w) :
    Calls Tryd.prog 20 #[.slice (some ⟨b, o, none⟩) n cap, .int .i64 p, .int .u8 top] w (TakePost w (one zs p top)) := by
  obtain ⟨c0, hbl, hz0, hz1⟩ := row_at h hp
  have hl := h.1
  have hal := one_alloc w (.cells #[.int .u8 0, .int .i64 0, .slice none 0 0] 37)
  have hT1 := Utf8Tabs_below hT hal
  have h1 := h.below (Nat.le_refl _) hal
  have hpz : (p : Int) < (n : Int) := by omega
  obtain ⟨ID, hID⟩ : ∃ ID, zs.getD p 0 = ID := ⟨_, rfl⟩
  have hR : one zs p top = one zs p top := rfl
  conv at hR => rhs; unfold one
  generalize one zs p top = R at *
  rw [hID] at hR c0 hz0 hz1
  have hmf := mf_any ID top (w.alloc (.cells #[.int .u8 0, .int .i64 0, .slice none 0 0] 37)) hz0 hz1 h2 h3
  have HAl := hide hal; have HT1 := hide hT1; have H1 := hide h1; have HMf := hide hmf; have HR := hide hR
  clear hal hT hT1 h h1 hmf hR
  by_cases cm : mf ID top = true
  · rw [cm] at HMf
    rw [if_pos cm] at HR
    by_cases hq : p + 1 = n
    · have hdr : zs.drop (p + 1) = [] := List.drop_eq_nil_of_le (by omega)
      rw [hdr, tuE_nil 32 (by decide) (by decide), if_neg (by decide)] at HR
      have hv0 := tuV_no (qs := []) (n := 32) (by rw [tuE_nil 32 (by decide) (by decide)]; decide)
      have ht := fun a c => takeU_b a 0 c [] 32 (w.alloc (.cells #[.int .u8 0, .int .i64 0, .slice none 0 0] 37)) (row_none _ a) (by omega) (by omega)
      rw [tuE_nil 32 (by decide) (by decide), hv0.1, hv0.2, errV_4] at ht
      have HTk := hide ht
      clear hv0 ht hdr
      subst hq
      by_cases hcp : cap = p + 1
      · subst hcp
        clear hc
        go_enter Tryd.func20, Tryd.ntmps20
        go_wp2_with fail
        refine (unhide HMf).mono ?_
        rintro e w9 ⟨rfl, rfl⟩
        go_wp2_with fail
        refine (unhide HTk _ _).mono ?_
        rintro e w1 ⟨rfl, hb1⟩
        have hbx := box3 hb1
        have c1 : w1.cell? ⟨w.heap.size, 0, none⟩ = some (.int .u8 0) := hbx.1 0
        have c2 : w1.cell? ⟨w.heap.size, 1, none⟩ = some (.int .i64 0) := hbx.1 1
        have c3 : w1.cell? ⟨w.heap.size, 2, none⟩ = some (.slice none 0 0) := hbx.1 2
        have f1 := hbx.2.1 0; have f2 := hbx.2.1 1; have f3 := hbx.2.1 2
        have HB1 := hide hb1
        clear hbx hb1
        go_wp2
        refine bodyPost_ret (v := .tuple #[.agg #[.int .u8 0, .int .i64 0, .slice none 0 0], .int .i64 ((p : Int) + 1), .iface 57 (.int .i64 4)]) (by simp [results, Tryd.results20, go_sem, c1, c2, c3, f1, f2, f3]) rfl ?_
        exact take_err (p := p + 1) (unhide HR) (Below.on (unhide HAl) (unhide HB1)) (by decide) rfl
      · have hcq : ¬ p + 1 = cap := fun e => hcp e.symm
        clear hcp
        go_enter Tryd.func20, Tryd.ntmps20
        go_wp2_with fail
        refine (unhide HMf).mono ?_
        rintro e w9 ⟨rfl, rfl⟩
        go_wp2_with fail
        refine (unhide HTk _ _).mono ?_
        rintro e w1 ⟨rfl, hb1⟩
        have hbx := box3 hb1
        have c1 : w1.cell? ⟨w.heap.size, 0, none⟩ = some (.int .u8 0) := hbx.1 0
        have c2 : w1.cell? ⟨w.heap.size, 1, none⟩ = some (.int .i64 0) := hbx.1 1
        have c3 : w1.cell? ⟨w.heap.size, 2, none⟩ = some (.slice none 0 0) := hbx.1 2
        have f1 := hbx.2.1 0; have f2 := hbx.2.1 1; have f3 := hbx.2.1 2
        have HB1 := hide hb1
        clear hbx hb1
        go_wp2
        refine bodyPost_ret (v := .tuple #[.agg #[.int .u8 0, .int .i64 0, .slice none 0 0], .int .i64 ((p : Int) + 1), .iface 57 (.int .i64 4)]) (by simp [results, Tryd.results20, go_sem, c1, c2, c3, f1, f2, f3]) rfl ?_
        exact take_err (p := p + 1) (unhide HR) (Below.on (unhide HAl) (unhide HB1)) (by decide) rfl
    · have hcq : ¬ p + 1 = cap := by omega
      have hr1 : Row (w.alloc (.cells #[.int .u8 0, .int .i64 0, .slice none 0 0] 37)) (some ⟨b, o + (p + 1), none⟩) (n - (p + 1)) (zs.drop (p + 1)) := row_drop (unhide H1) (p + 1) (by omega)
      have ht := takeU_b _ _ (cap - (p + 1)) _ 32 _ hr1 (by omega) (by omega)
      have hby := hr1.2.1
      have hln := hr1.1
      obtain ⟨qs, hqs⟩ : ∃ qs, zs.drop (p + 1) = qs := ⟨_, rfl⟩
      rw [hqs] at HR ht hby hln
      by_cases he : Leb.tuE qs 32 = 0
      · have hv := tuV_32 hby he
        have hb := tu_bd _ _ he
        rw [if_pos he] at HR
        rw [he, errV_0] at ht
        obtain ⟨N, hN⟩ : ∃ N : Nat, (Leb.tuN qs 32).toNat = N := ⟨_, rfl⟩
        have hNz : Leb.tuN qs 32 = (N : Int) := by omega
        obtain ⟨V, hV⟩ : ∃ V : Nat, (Leb.tuV qs 32).toNat = V := ⟨_, rfl⟩
        have hVz : Leb.tuV qs 32 = (V : Int) := by omega
        rw [hNz, hVz] at ht
        rw [hNz, hVz, Int.toNat_natCast, Int.toNat_natCast, hl] at HR
        have hVb : (V : Int) < 4294967296 := by omega
        have hNb : 1 ≤ N ∧ p + 1 + N ≤ n := by omega
        have hNn := hNb.2
        have hN1 := hNb.1
        have w64 : IntKind.i64.wrap ((p : Int) + 1 + (N : Int)) = ((p + 1 + N : Nat) : Int) := by rw [IntKind.wrap_i64]; omega
        have HTk := hide ht
        clear ht hv hb he hN hNz hV hVz hby hln hqs hr1 hNb
        have hrk := row_dropc (unhide H1) (p + 1 + N) hNn
        by_cases hfq : cap = p + 1 + N
        · exact take_f3 hc hn hp h2 h3 c0 hbl hz0 hz1 hl hpz HAl HT1 H1 HMf HTk HR hcq hVb hN1 hNn w64 hrk (by omega) hfq
        · exact take_f2 hc hn hp h2 h3 c0 hbl hz0 hz1 hl hpz HAl HT1 H1 HMf HTk HR hcq hVb hN1 hNn w64 hrk (fun e => hfq e.symm)
      · rw [if_neg he] at HR
        rw [(tuV_no he).1, (tuV_no he).2, errV_pos he] at ht
        have HTk := hide ht; have HE := hide he
        generalize Leb.tuE qs 32 = E at *
        clear ht he hby hln hqs hr1
        go_enter Tryd.func20, Tryd.ntmps20
        go_wp2_with fail
        refine (unhide HMf).mono ?_
        rintro e w9 ⟨rfl, rfl⟩
        go_wp2_with fail
        refine (unhide HTk).mono ?_
        rintro e w1 ⟨rfl, hb1⟩
        have hbx := box3 hb1
        have c1 : w1.cell? ⟨w.heap.size, 0, none⟩ = some (.int .u8 0) := hbx.1 0
        have c2 : w1.cell? ⟨w.heap.size, 1, none⟩ = some (.int .i64 0) := hbx.1 1
        have c3 : w1.cell? ⟨w.heap.size, 2, none⟩ = some (.slice none 0 0) := hbx.1 2
        have f1 := hbx.2.1 0; have f2 := hbx.2.1 1; have f3 := hbx.2.1 2
        have HB1 := hide hb1
        clear hbx hb1
        go_wp2
        refine bodyPost_ret (v := .tuple #[.agg #[.int .u8 0, .int .i64 0, .slice none 0 0], .int .i64 ((p : Int) + 1), .iface 57 (.int .i64 E)]) (by simp [results, Tryd.results20, go_sem, c1, c2, c3, f1, f2, f3]) rfl ?_
        exact take_err (p := p + 1) (unhide HR) (Below.on (unhide HAl) (unhide HB1)) (unhide HE) rfl
  · have cm2 : mf ID top = false := by simpa using cm
    rw [cm2] at HMf
    rw [if_neg cm] at HR
    go_enter Tryd.func20, Tryd.ntmps20
    go_wp2_with fail
    refine (unhide HMf).mono ?_
    rintro e w9 ⟨rfl, rfl⟩
    have hb1 := Below.refl (w.alloc (.cells #[.int .u8 0, .int .i64 0, .slice none 0 0] 37)).heap.size (w.alloc (.cells #[.int .u8 0, .int .i64 0, .slice none 0 0] 37))
    go_wp2
    refine bodyPost_ret (v := .tuple #[.agg #[.int .u8 0, .int .i64 0, .slice none 0 0], .int .i64 (p : Int), .iface 57 (.int .i64 6)]) (by simp [results, Tryd.results20, go_sem]) rfl ?_
    have hR := unhide HR
    subst hR
    exact ⟨.slice none 0 0, by show _ = Ending.returned (.tuple #[_, _, errV 6]); rw [errV_6]; rfl, Byt.nil _ _, unhide HAl⟩
end Sc
end Go.Proofs.YtcmidegffpehoaaDoor
