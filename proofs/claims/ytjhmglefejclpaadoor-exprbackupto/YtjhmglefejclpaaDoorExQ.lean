/- The reader's numbers, kind and labels, as the document's parts. -/
import Derived.Test.YtjhmglefejclpaaDoorExP
namespace Go.Proofs.YtjhmglefejclpaaDoor
open Go.RowKit
namespace Ex
set_option linter.unusedVariables false

theorem pU_ok {zs : List Int} {p : Nat} {most : Int} (h : Leb.tuE (zs.drop p) 32 = 0) (hm : ¬ most < Leb.tuV (zs.drop p) 32) : pU zs p most = ⟨0, p + (Leb.tuN (zs.drop p) 32).toNat, Leb.tuV (zs.drop p) 32⟩ := by unfold pU; rw [if_pos h, if_neg hm]
theorem pU_lim {zs : List Int} {p : Nat} {most : Int} (h : Leb.tuE (zs.drop p) 32 = 0) (hm : most < Leb.tuV (zs.drop p) 32) : pU zs p most = ⟨9, p, 0⟩ := by unfold pU; rw [if_pos h, if_pos hm]
theorem pU_bad {zs : List Int} {p : Nat} {most : Int} (h : ¬ Leb.tuE (zs.drop p) 32 = 0) : pU zs p most = ⟨Leb.tuE (zs.drop p) 32, p, 0⟩ := by unfold pU; rw [if_neg h]
theorem pS_ok {zs : List Int} {p : Nat} {n : Int} (h : Leb.tsE (zs.drop p) n = 0) : pS zs p n = ⟨0, p + (Leb.tsN (zs.drop p) n).toNat, Leb.tsV (zs.drop p) n⟩ := by unfold pS; rw [if_pos h]
theorem pS_bad {zs : List Int} {p : Nat} {n : Int} (h : ¬ Leb.tsE (zs.drop p) n = 0) : pS zs p n = ⟨Leb.tsE (zs.drop p) n, p, 0⟩ := by unfold pS; rw [if_neg h]

/-- leb.TakeU where the reader asks it -/
theorem tu_q {w : World} {a : Option Addr} {len cap : Nat} {qs : List Int} (n : Int) (hr : Row w a len qs) (hc : len ≤ cap) (hl : len ≤ 1099511627776) :
    ∀ m, Calls Tryd.prog 93 #[.slice a len cap, .int .i64 n] (w.drewN m) fun e w' => e = .returned (.tuple #[.int .u64 (Leb.tuV qs n), .int .i64 (Leb.tuN qs n), errV (Leb.tuE qs n)]) ∧ ∃ j, w' = w.drewN j := fun m =>
  (takeU_any a len cap qs n (w.drewN m) hr hc (by omega)).mono fun e w' ⟨h, j, h'⟩ => ⟨h, m + j, by rw [h', World.drewN_drewN]⟩
theorem ts_q {w : World} {a : Option Addr} {len cap : Nat} {qs : List Int} (n : Int) (hr : Row w a len qs) (hc : len ≤ cap) (hl : len ≤ 1099511627776) :
    ∀ m, Calls Tryd.prog 80 #[.slice a len cap, .int .i64 n] (w.drewN m) fun e w' => e = .returned (.tuple #[.int .i64 (Leb.tsV qs n), .int .i64 (Leb.tsN qs n), errV (Leb.tsE qs n)]) ∧ ∃ j, w' = w.drewN j := fun m =>
  (takeS_any a len cap qs n (w.drewN m) hr hc (by omega)).mono fun e w' ⟨h, h'⟩ => ⟨h, m, h'.symm⟩

theorem ut_any {N len cap p k : Nat} {a : Option Addr} {zs : List Int} {w : World} (h : Rd w N a len cap zs p k 0) (most : Int) :
    Calls Tryd.prog 81 #[.pointer (some ⟨N, 0, none⟩), .int .u64 most] w fun e w' => e = .returned (.int .u32 (pU zs p most).v) ∧ Rd w' N a len cap zs (pU zs p most).at_ k (pU zs p most).e ∧ Tn N w w' := by
  have hl := h.len; have hat := h.at_; have hcap := h.cap; have hzl := h.zlen
  by_cases hp : p < len
  · obtain ⟨b, o, rfl, hlt, hc⟩ := h.row.2.2 (by omega)
    have hr := row_drop h.row p hp
    have hq := tu_q (cap := cap - p) 32 hr (by omega) (by omega)
    have hby := hr.2.1
    by_cases he : Leb.tuE (zs.drop p) 32 = 0
    · have hb := tu_bd _ _ he
      have hv := tuV_32 hby he
      rw [List.length_drop] at hb
      rw [he, errV_0, hb.2.2] at hq
      by_cases hm : most < Leb.tuV (zs.drop p) 32
      · rw [pU_lim he hm]
        exact ut_in_lim h (by omega) (by omega) most _ _ hm hq
      · rw [pU_ok he hm]
        exact ut_in_ok h (by omega) (by omega) most _ _ (by omega) hv.1 hv.2 hm hq
    · rw [pU_bad he]
      rw [(tuV_no he).1, (tuV_no he).2] at hq
      exact ut_in_bad h (by omega) (by omega) most _ he hq
  · obtain rfl : p = len := by omega
    have hd : zs.drop p = [] := List.drop_eq_nil_of_le (by omega)
    have he : ¬ Leb.tuE (zs.drop p) 32 = 0 := by rw [hd, tuE_nil 32 (by omega) (by omega)]; decide
    have he4 : ¬ Leb.tuE [] 32 = 0 := by rw [← hd]; exact he
    rw [pU_bad he, hd]
    have hq := fun (a : Option Addr) (c : Nat) => tu_q (cap := c) 32 (row_none w a) (by omega) (by omega)
    rw [(tuV_no he4).1, (tuV_no he4).2] at hq
    by_cases h0 : p = 0
    · subst h0
      cases a with
      | none =>
        have := h.nil rfl
        subst this
        exact ut_nil_bad h most _ he4 (hq none 0)
      | some ad => exact ut_zero_bad h most _ he4 (hq (some ad) cap)
    · obtain ⟨b, o, rfl, hlt, hc⟩ := h.row.2.2 (by omega)
      by_cases hcp : cap = p
      · subst hcp
        exact ut_full_bad h most _ he4 (hq _ _)
      · exact ut_at_bad h (by omega) most _ he4 (hq _ _)
theorem sg_any {N len cap p k : Nat} {a : Option Addr} {zs : List Int} {w : World} (h : Rd w N a len cap zs p k 0) (n : Int) (n1 : 1 ≤ n) (n2 : n ≤ 64) :
    Calls Tryd.prog 65 #[.pointer (some ⟨N, 0, none⟩), .int .i64 n] w fun e w' => e = .returned (.int .i64 (pS zs p n).v) ∧ Rd w' N a len cap zs (pS zs p n).at_ k (pS zs p n).e ∧ Tn N w w' := by
  have hl := h.len; have hat := h.at_; have hcap := h.cap; have hzl := h.zlen
  by_cases hp : p < len
  · obtain ⟨b, o, rfl, hlt, hc⟩ := h.row.2.2 (by omega)
    have hr := row_drop h.row p hp
    have hq := ts_q (cap := cap - p) n hr (by omega) (by omega)
    by_cases he : Leb.tsE (zs.drop p) n = 0
    · have hb := ts_bd _ _ he
      rw [List.length_drop] at hb
      rw [he, errV_0, hb.2.2] at hq
      rw [pS_ok he]
      exact sg_in_ok h (by omega) (by omega) n _ _ (by omega) hq
    · rw [pS_bad he]
      rw [(tsV_no he).1, (tsV_no he).2] at hq
      exact sg_in_bad h (by omega) (by omega) n _ he hq
  · obtain rfl : p = len := by omega
    have hd : zs.drop p = [] := List.drop_eq_nil_of_le (by omega)
    have he : ¬ Leb.tsE (zs.drop p) n = 0 := by rw [hd, tsE_nil n (by omega) (by omega)]; decide
    have he4 : ¬ Leb.tsE [] n = 0 := by rw [← hd]; exact he
    rw [pS_bad he, hd]
    have hq := fun (a : Option Addr) (c : Nat) => ts_q (cap := c) n (row_none w a) (by omega) (by omega)
    rw [(tsV_no he4).1, (tsV_no he4).2] at hq
    by_cases h0 : p = 0
    · subst h0
      cases a with
      | none =>
        have := h.nil rfl
        subst this
        exact sg_nil_bad h n _ he4 (hq none 0)
      | some ad => exact sg_zero_bad h n _ he4 (hq (some ad) cap)
    · obtain ⟨b, o, rfl, hlt, hc⟩ := h.row.2.2 (by omega)
      by_cases hcp : cap = p
      · subst hcp
        exact sg_full_bad h n _ he4 (hq _ _)
      · exact sg_at_bad h (by omega) n _ he4 (hq _ _)

theorem un_any {N len cap p k : Nat} {a : Option Addr} {zs : List Int} {w : World} (h : Rd w N a len cap zs p k 0) :
    Calls Tryd.prog 66 #[.pointer (some ⟨N, 0, none⟩)] w fun e w' => e = .returned (.int .u32 (pU zs p 4294967295).v) ∧ Rd w' N a len cap zs (pU zs p 4294967295).at_ k (pU zs p 4294967295).e ∧ Tn N w w' := by
  have hu := ut_any h 4294967295
  generalize (pU zs p 4294967295).v = v at *
  have HU := hide hu; clear hu h
  go_enter Tryd.func66, Tryd.ntmps66
  go_wp2_with fail
  refine (unhide HU).mono ?_
  rintro e w1 ⟨rfl, hb⟩
  have HB := hide hb; clear hb
  go_wp2
  go_ret
  exact ⟨rfl, unhide HB⟩
theorem un_err {N len cap p k : Nat} {a : Option Addr} {zs : List Int} {er : Int} {w : World} (h : Rd w N a len cap zs p k er) (he : ¬ er = 0) :
    Calls Tryd.prog 66 #[.pointer (some ⟨N, 0, none⟩)] w fun e w' => e = .returned (.int .u32 0) ∧ Rd w' N a len cap zs p k er ∧ Tn N w w' := by
  have hu := ut_err h he 4294967295
  have HU := hide hu; clear hu h
  go_enter Tryd.func66, Tryd.ntmps66
  go_wp2_with fail
  refine (unhide HU).mono ?_
  rintro e w1 ⟨rfl, hb⟩
  have HB := hide hb; clear hb
  go_wp2
  go_ret
  exact ⟨rfl, unhide HB⟩
theorem kd_any {N len cap p k : Nat} {a : Option Addr} {zs : List Int} {w : World} (h : Rd w N a len cap zs p k 0) :
    Calls Tryd.prog 69 #[.pointer (some ⟨N, 0, none⟩)] w fun e w' => e = .returned (.int .u8 (kV (pB zs p jK).v)) ∧ Rd w' N a len cap zs (pB zs p jK).at_ k (pB zs p jK).e ∧ Tn N w w' := by
  have hu := obK_any h
  generalize (pB zs p jK).v = v at *
  have HU := hide hu; clear hu h
  by_cases h64 : v = 64
  · subst h64
    go_enter Tryd.func69, Tryd.ntmps69
    go_wp2_with fail
    refine (unhide HU).mono ?_
    rintro e w1 ⟨rfl, hb⟩
    have HB := hide hb; clear hb
    go_wp2
    go_ret
    exact ⟨rfl, unhide HB⟩
  · have t : (v == 64) = false := by simpa using h64
    rw [show kV v = v by simp [kV, h64]]
    clear h64
    go_enter Tryd.func69, Tryd.ntmps69
    go_wp2_with fail
    refine (unhide HU).mono ?_
    rintro e w1 ⟨rfl, hb⟩
    have HB := hide hb; clear hb
    go_wp2
    go_ret
    exact ⟨rfl, unhide HB⟩
end Ex
end Go.Proofs.YtjhmglefejclpaaDoor
