/- takeSection: a section whose length is told. -/
import Derived.Test.YtcmidegffpehoaaDoorScD2
namespace Go.Proofs.YtcmidegffpehoaaDoor
open Go.RowKit
namespace Sc
set_option linter.unusedVariables false
set_option linter.unusedSimpArgs false
set_option maxRecDepth 100000 in
set_option maxHeartbeats 3200000 in
theorem take_f2 {b o n cap p N V : Nat} {zs : List Int} {w : World} {top ID : Int} {R : One} (hc : n ≤ cap) (hn : n ≤ 50000) (hp : p < n) (h2 : 0 ≤ top) (h3 : top ≤ 255) (c0 : w.cell? ⟨b, o + p, none⟩ = some (.int .u8 ID)) (hbl : b < w.heap.size) (hz0 : 0 ≤ ID) (hz1 : ID ≤ 255) (hl : zs.length = n) (hpz : (p : Int) < (n : Int))
    (HAl : Hid (Below w.heap.size w (w.alloc (.cells #[.int .u8 0, .int .i64 0, .slice none 0 0] 37)))) (HT1 : Hid (U8 (w.alloc (.cells #[.int .u8 0, .int .i64 0, .slice none 0 0] 37)))) (H1 : Hid (Row (w.alloc (.cells #[.int .u8 0, .int .i64 0, .slice none 0 0] 37)) (some ⟨b, o, none⟩) n zs))
    (HMf : Hid (Calls Tryd.prog 23 #[.int .u8 ID, .int .u8 top] (w.alloc (.cells #[.int .u8 0, .int .i64 0, .slice none 0 0] 37)) fun e w' => e = .returned (.bool true) ∧ (w.alloc (.cells #[.int .u8 0, .int .i64 0, .slice none 0 0] 37)) = w'))
    (HTk : Hid (Calls Tryd.prog 28 #[.slice (some ⟨b, o + (p + 1), none⟩) (n - (p + 1)) (cap - (p + 1)), .int .i64 32] (w.alloc (.cells #[.int .u8 0, .int .i64 0, .slice none 0 0] 37)) fun e w' => e = .returned (.tuple #[.int .u64 V, .int .i64 N, .nilIface]) ∧ Below (w.alloc (.cells #[.int .u8 0, .int .i64 0, .slice none 0 0] 37)).heap.size (w.alloc (.cells #[.int .u8 0, .int .i64 0, .slice none 0 0] 37)) w'))
    (HR : Hid (R = if (n : Int) - ((p : Int) + 1 + (N : Int)) < (V : Int) then ⟨4, p + 1, no⟩ else if judge ID ((zs.drop (p + 1 + N)).take V) = 0 then ⟨0, p + 1 + N + V, ⟨ID, p + 1 + N, ((zs.drop (p + 1 + N)).take V)⟩⟩ else ⟨judge ID ((zs.drop (p + 1 + N)).take V), p + 1 + N, no⟩))
    (hcq : ¬ p + 1 = cap) (hVb : (V : Int) < 4294967296) (hN1 : 1 ≤ N) (hNn : p + 1 + N ≤ n) (w64 : IntKind.i64.wrap ((p : Int) + 1 + (N : Int)) = ((p + 1 + N : Nat) : Int)) (hrk : Row (w.alloc (.cells #[.int .u8 0, .int .i64 0, .slice none 0 0] 37)) (some ⟨b, o + (p + 1 + N), none⟩) (n - (p + 1 + N)) (zs.drop (p + 1 + N))) (hfq : ¬ p + 1 + N = cap) :
    Calls Tryd.prog 20 #[.slice (some ⟨b, o, none⟩) n cap, .int .i64 p, .int .u8 top] w (TakePost w R) := by
  obtain ⟨k, hk0⟩ : ∃ k, n - (p + 1 + N) = k := ⟨_, rfl⟩
  obtain ⟨c, hc0⟩ : ∃ c, cap - (p + 1 + N) = c := ⟨_, rfl⟩
  rw [hk0] at hrk
  have HK0 := hide hrk; have HK1 := hide hk0; have HC1 := hide hc0
  clear hrk hk0 hc0
  go_enter Tryd.func20, Tryd.ntmps20
  go_wp2_with fail
  refine (unhide HMf).mono ?_
  rintro e w9 ⟨rfl, rfl⟩
  go_wp2_with fail
  refine (unhide HTk).mono ?_
  rintro e w1 ⟨rfl, hb1⟩
  go_upto_region 9 with fail
  have hkc : k ≤ c := by have := unhide HK1; have := unhide HC1; omega
  have hk : k ≤ 50000 := by have := unhide HK1; omega
  have hk2 : (n : Int) - ((p : Int) + 1 + (N : Int)) = (k : Int) := by have := unhide HK1; omega
  rw [unhide HK1, unhide HC1]
  have HK := HK0; clear HK0 HK1 HC1
  generalize (⟨b, o + (p + 1 + N), none⟩ : Addr) = ad at HK ⊢
  by_cases hs : k < V
  · have hd : decide (k < V) = true := decide_eq_true hs
    rw [if_pos (show (n : Int) - ((p : Int) + 1 + (N : Int)) < (V : Int) by omega)] at HR
    clear hkc hNn hpz hp hfq hcq hl hn
    have hbx := box3 hb1
    have c1 : w1.cell? ⟨w.heap.size, 0, none⟩ = some (.int .u8 0) := hbx.1 0
    have c2 : w1.cell? ⟨w.heap.size, 1, none⟩ = some (.int .i64 0) := hbx.1 1
    have c3 : w1.cell? ⟨w.heap.size, 2, none⟩ = some (.slice none 0 0) := hbx.1 2
    have f1 := hbx.2.1 0; have f2 := hbx.2.1 1; have f3 := hbx.2.1 2
    have HB1 := hide hb1
    clear hbx hb1
    go_wp2
    refine bodyPost_ret (v := .tuple #[.agg #[.int .u8 0, .int .i64 0, .slice none 0 0], .int .i64 ((p : Int) + 1), .iface 57 (.int .i64 4)]) (by simp [results, Tryd.results20, go_sem, c1, c2, c3, f1, f2, f3]) rfl ?_
    exact take_err (p := p + 1) (unhide HR) (Below.on (unhide HAl) (unhide HB1)) (by decide) rfl
  · rw [if_neg (show ¬ (n : Int) - ((p : Int) + 1 + (N : Int)) < (V : Int) by omega)] at HR
    have hd : decide (k < V) = false := decide_eq_false hs
    have hs5 : V ≤ k := by omega
    have hs6 : V ≤ c := by omega
    have hV5 : V ≤ 50000 := by omega
    have hPN : p + 1 + N + V ≤ 50000 := by omega
    have hrc : Row w1 (some ad) V ((zs.drop (p + 1 + N)).take V) := ((unhide HK).take V hs5).below (Nat.le_refl _) hb1
    have hj := judge_any (cap := c) ID hz0 hz1 hrc hs6 (by omega) (Utf8Tabs_below (unhide HT1) hb1)
    obtain ⟨cs, hcs⟩ : ∃ cs, (zs.drop (p + 1 + N)).take V = cs := ⟨_, rfl⟩
    rw [hcs] at hrc hj HR
    obtain ⟨E, hE⟩ : ∃ E, judge ID cs = E := ⟨_, rfl⟩
    rw [hE] at hj HR
    have HJ := hide hj; have HRc := hide hrc; have HB := hide hb1
    have hk9 : (k : Int) ≤ 50000 := by omega
    have hV9 : (V : Int) ≤ 50000 := by omega
    have hPNz : (p : Int) + 1 + (N : Int) + (V : Int) ≤ 50000 := by omega
    have HV5 := hide hV5
    clear hj hrc hb1 hcs hE hs hkc hk hNn hpz hp hfq hcq hl hn hc hk2 w64 hPN hV5 hVb
    by_cases he : E = 0
    · rw [if_pos he] at HR
      rw [he, errV_0] at HJ
      go_wp2_with fail
      refine (unhide HJ).mono ?_
      rintro e w2 ⟨rfl, hb2⟩
      have hcl := clone_any (cap := c) ((unhide HRc).below (Nat.le_refl _) hb2) (unhide HV5)
      have HB2 := hide (Below.on (unhide HB) hb2); have HCl := hide hcl
      have hsz : w.heap.size ≤ w2.heap.size := by have := (unhide HAl).size; have := (unhide HB).size; have := hb2.size; omega
      clear hb2 hcl
      go_wp2_with fail
      refine (unhide HCl).mono ?_
      rintro e w3 ⟨v, rfl, hby, hb3⟩
      obtain ⟨va, vc, rfl⟩ : ∃ va vc, v = .slice va cs.length vc := by obtain ⟨va, vc, e, _⟩ := hby; exact ⟨va, vc, e⟩
      have hb5 := Below.on (unhide HB2) hb3
      have hby2 : Byt w3 (w.heap.size < ·) cs (.slice va cs.length vc) := hby.any fun q hq hg => by have := (unhide HB2).size; simp at this; have : w2.heap.size ≤ q := hg; omega
      have HBy := hide hby2
      clear hby hb3 hby2
      have hbx := box3 hb5
      have c1 : w3.cell? ⟨w.heap.size, 0, none⟩ = some (.int .u8 0) := hbx.1 0
      have c2 : w3.cell? ⟨w.heap.size, 1, none⟩ = some (.int .i64 0) := hbx.1 1
      have c3 : w3.cell? ⟨w.heap.size, 2, none⟩ = some (.slice none 0 0) := hbx.1 2
      have f1 := hbx.2.1 0; have f2 := hbx.2.1 1; have f3 := hbx.2.1 2
      have HB5 := hide hb5
      clear hbx hb5
      go_wp2
      refine bodyPost_ret (v := .tuple #[.agg #[.int .u8 ID, .int .i64 ((p : Int) + 1 + (N : Int)), .slice va cs.length vc], .int .i64 ((p : Int) + 1 + (N : Int) + (V : Int)), .nilIface]) (by simp [results, Tryd.results20, go_sem, c1, c2, c3, f1, f2, f3]) rfl ?_
      exact take_ok (q := p + 1 + N + V) (f := p + 1 + N) (unhide HR) (Below.on (unhide HAl) (unhide HB5)) (unhide HBy) rfl
    · rw [if_neg he] at HR
      rw [errV_pos he] at HJ
      have HE := hide he; clear he
      go_wp2_with fail
      refine (unhide HJ).mono ?_
      rintro e w2 ⟨rfl, hb2⟩
      have hb5 := Below.on (unhide HB) hb2
      clear hb2
      have hbx := box3 hb5
      have c1 : w2.cell? ⟨w.heap.size, 0, none⟩ = some (.int .u8 0) := hbx.1 0
      have c2 : w2.cell? ⟨w.heap.size, 1, none⟩ = some (.int .i64 0) := hbx.1 1
      have c3 : w2.cell? ⟨w.heap.size, 2, none⟩ = some (.slice none 0 0) := hbx.1 2
      have f1 := hbx.2.1 0; have f2 := hbx.2.1 1; have f3 := hbx.2.1 2
      have HB5 := hide hb5
      clear hbx hb5
      go_wp2
      refine bodyPost_ret (v := .tuple #[.agg #[.int .u8 0, .int .i64 0, .slice none 0 0], .int .i64 ((p : Int) + 1 + (N : Int)), .iface 57 (.int .i64 E)]) (by simp [results, Tryd.results20, go_sem, c1, c2, c3, f1, f2, f3]) rfl ?_
      exact take_err (p := p + 1 + N) (unhide HR) (Below.on (unhide HAl) (unhide HB5)) (unhide HE) rfl
end Sc
end Go.Proofs.YtcmidegffpehoaaDoor
