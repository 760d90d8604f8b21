/- The reader's numbers: unsignedUpTo, unsigned, signed; kind. -/
import Derived.Test.YtjhmglefejclpaaDoorExO
import Derived.Test.YtjhmglefejclpaaDoorLaws0
namespace Go.Proofs.YtjhmglefejclpaaDoor
open Go.RowKit
namespace Ex
set_option linter.unusedVariables false

theorem row_drop {w : World} {b o len : Nat} {zs : List Int} (h : Row w (some ⟨b, o, none⟩) len zs) (p : Nat) (hp : p < len) : Row w (some ⟨b, o + p, none⟩) (len - p) (zs.drop p) := by
  obtain ⟨b', o', e, hlt, hc⟩ := h.2.2 (by omega)
  simp only [Option.some.injEq, Addr.mk.injEq] at e
  obtain ⟨rfl, rfl, _⟩ := e
  refine ⟨by rw [List.length_drop, h.1], fun z hz => h.2.1 z (List.mem_of_mem_drop hz), fun _ => ⟨b, o + p, rfl, hlt, fun i hi => ?_⟩⟩
  rw [show o + p + i = o + (p + i) by omega, hc (p + i) (by omega)]
  simp [List.getD]
theorem row_none (w : World) (a : Option Addr) : Row w a 0 [] := ⟨rfl, by simp, fun h => by omega⟩
theorem lead_bd {qs : List Int} (h : ∀ z ∈ qs, 0 ≤ z ∧ z ≤ 255) : 0 ≤ qs.getD (Leb.lead qs) 0 := by
  by_cases hl : Leb.lead qs < qs.length
  · rw [List.getD, List.getElem?_eq_getElem hl]
    exact (h _ (List.getElem_mem hl)).1
  · simp [List.getD, List.getElem?_eq_none (by omega : qs.length ≤ Leb.lead qs)]
theorem tuE_cnt {qs : List Int} {n : Int} (h : Leb.tuE qs n = 0) : Leb.cntE qs n = 0 := by
  unfold Leb.tuE at h
  by_cases hh : Leb.cntE qs n = 0
  · exact hh
  · rw [if_neg hh] at h; exact h
theorem tsE_cnt {qs : List Int} {n : Int} (h : Leb.tsE qs n = 0) : Leb.cntE qs n = 0 := by
  unfold Leb.tsE at h
  by_cases hh : Leb.cntE qs n = 0
  · exact hh
  · rw [if_neg hh] at h; exact h
theorem tuV_32 {qs : List Int} (hq : ∀ z ∈ qs, 0 ≤ z ∧ z ≤ 255) (h : Leb.tuE qs 32 = 0) : 0 ≤ Leb.tuV qs 32 ∧ Leb.tuV qs 32 < 4294967296 := by
  have h1 := Leb.tuE_iff qs 32 (tuE_cnt h) (lead_bd hq)
  rw [show Leb.tuE qs ((32 : Nat) : Int) = 0 from h] at h1
  have hj := Leb.jn_bd (qs.take (Leb.lead qs + 1))
  have h2 : Leb.JJ qs / 2 ^ 32 = 0 := by
    by_cases e : Leb.JJ qs / 2 ^ 32 = 0
    · exact e
    · rw [if_neg e] at h1; exact absurd h1 (by decide)
  unfold Leb.tuV
  rw [if_pos h]
  unfold Leb.JJ at h2
  have : (2 : Int) ^ 32 = 4294967296 := by decide
  rw [this] at h2
  omega
theorem tsV_32 {qs : List Int} (hq : ∀ z ∈ qs, 0 ≤ z ∧ z ≤ 255) (h : Leb.tsE qs 32 = 0) : -2147483648 ≤ Leb.tsV qs 32 ∧ Leb.tsV qs 32 < 2147483648 := by
  have h1 := Leb.tsE_iff qs 31 (tsE_cnt h) (lead_bd hq)
  rw [show Leb.tsE qs ((31 + 1 : Nat) : Int) = 0 from h] at h1
  have h2 : Leb.XX qs / 2 ^ 31 = 0 ∨ Leb.XX qs / 2 ^ 31 = -1 := by
    by_cases e : Leb.XX qs / 2 ^ 31 = 0 ∨ Leb.XX qs / 2 ^ 31 = -1
    · exact e
    · rw [if_neg e] at h1; exact absurd h1 (by decide)
  have : (2 : Int) ^ 31 = 2147483648 := by decide
  rw [this] at h2
  unfold Leb.tsV
  rw [if_pos h]
  have e2 : Leb.jn (qs.take (Leb.lead qs + 1)) - (if Leb.sg (qs.getD (Leb.lead qs) 0) < 0 then 128 ^ (Leb.lead qs + 1) else 0) = Leb.XX qs := rfl
  rw [e2, IntKind.wrap_i64]
  omega
theorem tsV_64 (qs : List Int) (n : Int) : -9223372036854775808 ≤ Leb.tsV qs n ∧ Leb.tsV qs n < 9223372036854775808 := by
  unfold Leb.tsV
  split
  · rw [IntKind.wrap_i64]; omega
  · omega
theorem tuE_nil (n : Int) (h1 : 1 ≤ n) (h2 : n ≤ 64) : Leb.tuE [] n = 4 := by
  have := (Leb.cnt_end [] n h1 h2 (by simp [Leb.lead, Leb.mb]; omega) rfl).1
  unfold Leb.tuE; rw [if_neg (by omega), this]
theorem tsE_nil (n : Int) (h1 : 1 ≤ n) (h2 : n ≤ 64) : Leb.tsE [] n = 4 := by
  have := (Leb.cnt_end [] n h1 h2 (by simp [Leb.lead, Leb.mb]; omega) rfl).1
  unfold Leb.tsE; rw [if_neg (by omega), this]
theorem tuV_no {qs : List Int} {n : Int} (h : ¬ Leb.tuE qs n = 0) : Leb.tuV qs n = 0 ∧ Leb.tuN qs n = 0 := by unfold Leb.tuV Leb.tuN; rw [if_neg h, if_neg h]; exact ⟨rfl, rfl⟩
theorem tsV_no {qs : List Int} {n : Int} (h : ¬ Leb.tsE qs n = 0) : Leb.tsV qs n = 0 ∧ Leb.tsN qs n = 0 := by unfold Leb.tsV Leb.tsN; rw [if_neg h, if_neg h]; exact ⟨rfl, rfl⟩

/-- something was wrong already -/
theorem ut_err {N len cap p k : Nat} {a : Option Addr} {zs : List Int} {er : Int} {w : World} (h : Rd w N a len cap zs p k er) (he : ¬ er = 0) (most : Int) :
    Calls Tryd.prog 81 #[.pointer (some ⟨N, 0, none⟩), .int .u64 most] w fun e w' => e = .returned (.int .u32 0) ∧ Rd w' N a len cap zs p k er ∧ Tn N w w' := by
  have c3 := h.c3
  rw [errV_pos he] at c3
  have HR := hide h; clear h he
  go_enter Tryd.func81, Tryd.ntmps81
  go_wp2
  go_ret
  exact ⟨rfl, unhide HR, Tn.refl _ _⟩
theorem sg_err {N len cap p k : Nat} {a : Option Addr} {zs : List Int} {er : Int} {w : World} (h : Rd w N a len cap zs p k er) (he : ¬ er = 0) (bits : Int) :
    Calls Tryd.prog 65 #[.pointer (some ⟨N, 0, none⟩), .int .i64 bits] w fun e w' => e = .returned (.int .i64 0) ∧ Rd w' N a len cap zs p k er ∧ Tn N w w' := by
  have c3 := h.c3
  rw [errV_pos he] at c3
  have HR := hide h; clear h he
  go_enter Tryd.func65, Tryd.ntmps65
  go_wp2
  go_ret
  exact ⟨rfl, unhide HR, Tn.refl _ _⟩

set_option maxRecDepth 100000 in
set_option maxHeartbeats 1600000 in
theorem ut_in_ok {N len cap p k b o : Nat} {zs : List Int} {w : World} (h : Rd w N (some ⟨b, o, none⟩) len cap zs p k 0) (hp : (p : Int) < len) (hc : (len : Int) ≤ cap) (most v : Int) (n : Nat) (hn : p + n ≤ len) (v0 : 0 ≤ v) (v1 : v < 4294967296) (hm : ¬ most < v)
    (hU : ∀ m, Calls Tryd.prog 93 #[.slice (some ⟨b, o + p, none⟩) (len - p) (cap - p), .int .i64 32] (w.drewN m) fun e w' => e = .returned (.tuple #[.int .u64 v, .int .i64 n, .nilIface]) ∧ ∃ j, w' = w.drewN j) :
    Calls Tryd.prog 81 #[.pointer (some ⟨N, 0, none⟩), .int .u64 most] w fun e w' => e = .returned (.int .u32 v) ∧ Rd w' N (some ⟨b, o, none⟩) len cap zs (p + n) k 0 ∧ Tn N w w' := by
  have c3 := h.c3
  rw [errV_0] at c3
  have c0 := h.c0; have c1 := h.c1; have f3 := h.fz 3; have f1 := h.fz 1
  have h2 := fun m => (h.below (Below.drewn w m)).set_err 0
  have h3 := fun m => (h2 m).set_at (p + n) hn
  have c1' := fun m => (h2 m).c1; have f1' := fun m => (h2 m).fz 1; have c3' := fun m => (h2 m).c3
  rw [errV_0] at c1' f1' c3' h3
  have hl := h.len
  have HU := hide hU; have HR := hide h3; clear h h2 h3 hU
  go_enter Tryd.func81, Tryd.ntmps81
  go_wp2_with fail
  go_quiet ((go_at_call 93; exact unhide HU _))
  go_wp2
  go_ret
  exact ⟨rfl, unhide HR _, Tn.on (Tn.drewN N w _) (Tn.on (Tn.set N 3 _ _) (Tn.set N 1 _ _))⟩
set_option maxRecDepth 100000 in
set_option maxHeartbeats 1600000 in
theorem ut_in_lim {N len cap p k b o : Nat} {zs : List Int} {w : World} (h : Rd w N (some ⟨b, o, none⟩) len cap zs p k 0) (hp : (p : Int) < len) (hc : (len : Int) ≤ cap) (most v : Int) (n : Nat) (hm : most < v)
    (hU : ∀ m, Calls Tryd.prog 93 #[.slice (some ⟨b, o + p, none⟩) (len - p) (cap - p), .int .i64 32] (w.drewN m) fun e w' => e = .returned (.tuple #[.int .u64 v, .int .i64 n, .nilIface]) ∧ ∃ j, w' = w.drewN j) :
    Calls Tryd.prog 81 #[.pointer (some ⟨N, 0, none⟩), .int .u64 most] w fun e w' => e = .returned (.int .u32 0) ∧ Rd w' N (some ⟨b, o, none⟩) len cap zs p k 9 ∧ Tn N w w' := by
  have c3 := h.c3
  rw [errV_0] at c3
  have c0 := h.c0; have c1 := h.c1; have f3 := h.fz 3; have f1 := h.fz 1
  have h2 := fun m => (h.below (Below.drewn w m)).set_err 9
  rw [errV_9] at h2
  have HU := hide hU; have HR := hide h2; clear h h2 hU
  go_enter Tryd.func81, Tryd.ntmps81
  go_wp2_with fail
  go_quiet ((go_at_call 93; exact unhide HU _))
  go_wp2
  go_ret
  exact ⟨rfl, unhide HR _, Tn.on (Tn.drewN N w _) (Tn.set N 3 _ _)⟩
set_option maxRecDepth 100000 in
set_option maxHeartbeats 1600000 in
theorem sg_in_ok {N len cap p k b o : Nat} {zs : List Int} {w : World} (h : Rd w N (some ⟨b, o, none⟩) len cap zs p k 0) (hp : (p : Int) < len) (hc : (len : Int) ≤ cap) (bits v : Int) (n : Nat) (hn : p + n ≤ len)
    (hU : ∀ m, Calls Tryd.prog 80 #[.slice (some ⟨b, o + p, none⟩) (len - p) (cap - p), .int .i64 bits] (w.drewN m) fun e w' => e = .returned (.tuple #[.int .i64 v, .int .i64 n, .nilIface]) ∧ ∃ j, w' = w.drewN j) :
    Calls Tryd.prog 65 #[.pointer (some ⟨N, 0, none⟩), .int .i64 bits] w fun e w' => e = .returned (.int .i64 v) ∧ Rd w' N (some ⟨b, o, none⟩) len cap zs (p + n) k 0 ∧ Tn N w w' := by
  have c3 := h.c3
  rw [errV_0] at c3
  have c0 := h.c0; have c1 := h.c1; have f3 := h.fz 3; have f1 := h.fz 1
  have h2 := fun m => (h.below (Below.drewn w m)).set_at (p + n) hn
  have h3 := fun m => (h2 m).set_err 0
  have c1' := fun m => (h2 m).c1; have f1' := fun m => (h2 m).fz 3; have c3' := fun m => (h2 m).c3
  rw [errV_0] at c3' h3
  have hl := h.len
  have HU := hide hU; have HR := hide h3; clear h h2 h3 hU
  go_enter Tryd.func65, Tryd.ntmps65
  go_wp2_with fail
  go_quiet ((go_at_call 80; exact unhide HU _))
  go_wp2
  go_ret
  exact ⟨rfl, unhide HR _, Tn.on (Tn.drewN N w _) (Tn.on (Tn.set N 1 _ _) (Tn.set N 3 _ _))⟩

set_option maxRecDepth 100000 in
set_option maxHeartbeats 1600000 in
theorem ut_in_bad {N len cap p k b o : Nat} {zs : List Int} {w : World} (h : Rd w N (some ⟨b, o, none⟩) len cap zs p k 0) (hp : (p : Int) < len) (hc : (len : Int) ≤ cap) (most : Int) (er : Int) (he : ¬ er = 0)
    (hU : ∀ m, Calls Tryd.prog 93 #[.slice (some ⟨b, o + p, none⟩) (len - p) (cap - p), .int .i64 32] (w.drewN m) fun e w' => e = .returned (.tuple #[.int .u64 0, .int .i64 0, errV er]) ∧ ∃ j, w' = w.drewN j) :
    Calls Tryd.prog 81 #[.pointer (some ⟨N, 0, none⟩), .int .u64 most] w fun e w' => e = .returned (.int .u32 0) ∧ Rd w' N (some ⟨b, o, none⟩) len cap zs p k er ∧ Tn N w w' := by
  have c3 := h.c3
  rw [errV_0] at c3
  have c0 := h.c0; have c1 := h.c1; have f3 := h.fz 3; have f1 := h.fz 1
  have h2 := fun m => (h.below (Below.drewn w m)).set_err er
  rw [errV_pos he] at h2 hU
  have HU := hide hU; have HR := hide h2; clear h h2 hU he
  go_enter Tryd.func81, Tryd.ntmps81
  go_wp2_with fail
  go_quiet ((go_at_call 93; exact unhide HU _))
  go_wp2
  go_ret
  exact ⟨rfl, unhide HR _, Tn.on (Tn.drewN N w _) (Tn.set N 3 _ _)⟩
set_option maxRecDepth 100000 in
set_option maxHeartbeats 1600000 in
theorem sg_in_bad {N len cap p k b o : Nat} {zs : List Int} {w : World} (h : Rd w N (some ⟨b, o, none⟩) len cap zs p k 0) (hp : (p : Int) < len) (hc : (len : Int) ≤ cap) (bits : Int) (er : Int) (he : ¬ er = 0)
    (hU : ∀ m, Calls Tryd.prog 80 #[.slice (some ⟨b, o + p, none⟩) (len - p) (cap - p), .int .i64 bits] (w.drewN m) fun e w' => e = .returned (.tuple #[.int .i64 0, .int .i64 0, errV er]) ∧ ∃ j, w' = w.drewN j) :
    Calls Tryd.prog 65 #[.pointer (some ⟨N, 0, none⟩), .int .i64 bits] w fun e w' => e = .returned (.int .i64 0) ∧ Rd w' N (some ⟨b, o, none⟩) len cap zs p k er ∧ Tn N w w' := by
  have c3 := h.c3
  rw [errV_0] at c3
  have c0 := h.c0; have c1 := h.c1; have f3 := h.fz 3; have f1 := h.fz 1
  have hl := h.len
  have hat := h.at_
  have h2 := fun m => (h.below (Below.drewn w m)).set_at p (Nat.le_trans h.at_ (Nat.le_refl _))
  have h3 := fun m => (h2 m).set_err er
  have c1' := fun m => (h2 m).c1; have f1' := fun m => (h2 m).fz 3; have c3' := fun m => (h2 m).c3
  rw [errV_0] at c3'
  rw [errV_pos he] at h3 hU
  have HU := hide hU; have HR := hide h3; clear h h2 h3 hU he
  go_enter Tryd.func65, Tryd.ntmps65
  go_wp2_with fail
  go_quiet ((go_at_call 80; exact unhide HU _))
  go_wp2
  go_ret
  exact ⟨rfl, unhide HR _, Tn.on (Tn.drewN N w _) (Tn.on (Tn.set N 1 _ _) (Tn.set N 3 _ _))⟩

set_option maxRecDepth 100000 in
set_option maxHeartbeats 1600000 in
theorem ut_at_bad {N cap p k b o : Nat} {zs : List Int} {w : World} (h : Rd w N (some ⟨b, o, none⟩) p cap zs p k 0) (hc : (p : Int) < cap) (most : Int) (er : Int) (he : ¬ er = 0)
    (hU : ∀ m, Calls Tryd.prog 93 #[.slice (some ⟨b, o + p, none⟩) 0 (cap - p), .int .i64 32] (w.drewN m) fun e w' => e = .returned (.tuple #[.int .u64 0, .int .i64 0, errV er]) ∧ ∃ j, w' = w.drewN j) :
    Calls Tryd.prog 81 #[.pointer (some ⟨N, 0, none⟩), .int .u64 most] w fun e w' => e = .returned (.int .u32 0) ∧ Rd w' N (some ⟨b, o, none⟩) p cap zs p k er ∧ Tn N w w' := by
  have c3 := h.c3
  rw [errV_0] at c3
  have c0 := h.c0; have c1 := h.c1; have f3 := h.fz 3; have f1 := h.fz 1
  have h2 := fun m => (h.below (Below.drewn w m)).set_err er
  rw [errV_pos he] at h2 hU
  have HU := hide hU; have HR := hide h2; clear h h2 hU he
  go_enter Tryd.func81, Tryd.ntmps81
  go_wp2_with fail
  go_quiet ((go_at_call 93; exact unhide HU _))
  go_wp2
  go_ret
  exact ⟨rfl, unhide HR _, Tn.on (Tn.drewN N w _) (Tn.set N 3 _ _)⟩
set_option maxRecDepth 100000 in
set_option maxHeartbeats 1600000 in
theorem sg_at_bad {N cap p k b o : Nat} {zs : List Int} {w : World} (h : Rd w N (some ⟨b, o, none⟩) p cap zs p k 0) (hc : (p : Int) < cap) (bits : Int) (er : Int) (he : ¬ er = 0)
    (hU : ∀ m, Calls Tryd.prog 80 #[.slice (some ⟨b, o + p, none⟩) 0 (cap - p), .int .i64 bits] (w.drewN m) fun e w' => e = .returned (.tuple #[.int .i64 0, .int .i64 0, errV er]) ∧ ∃ j, w' = w.drewN j) :
    Calls Tryd.prog 65 #[.pointer (some ⟨N, 0, none⟩), .int .i64 bits] w fun e w' => e = .returned (.int .i64 0) ∧ Rd w' N (some ⟨b, o, none⟩) p cap zs p k er ∧ Tn N w w' := by
  have c3 := h.c3
  rw [errV_0] at c3
  have c0 := h.c0; have c1 := h.c1; have f3 := h.fz 3; have f1 := h.fz 1
  have hl := h.len
  have hat := h.at_
  have h2 := fun m => (h.below (Below.drewn w m)).set_at p (Nat.le_trans h.at_ (Nat.le_refl _))
  have h3 := fun m => (h2 m).set_err er
  have c1' := fun m => (h2 m).c1; have f1' := fun m => (h2 m).fz 3; have c3' := fun m => (h2 m).c3
  rw [errV_0] at c3'
  rw [errV_pos he] at h3 hU
  have HU := hide hU; have HR := hide h3; clear h h2 h3 hU he
  go_enter Tryd.func65, Tryd.ntmps65
  go_wp2_with fail
  go_quiet ((go_at_call 80; exact unhide HU _))
  go_wp2
  go_ret
  exact ⟨rfl, unhide HR _, Tn.on (Tn.drewN N w _) (Tn.on (Tn.set N 1 _ _) (Tn.set N 3 _ _))⟩

set_option maxRecDepth 100000 in
set_option maxHeartbeats 1600000 in
theorem ut_full_bad {N p k b o : Nat} {zs : List Int} {w : World} (h : Rd w N (some ⟨b, o, none⟩) p p zs p k 0)  (most : Int) (er : Int) (he : ¬ er = 0)
    (hU : ∀ m, Calls Tryd.prog 93 #[.slice (some ⟨b, o, none⟩) 0 0, .int .i64 32] (w.drewN m) fun e w' => e = .returned (.tuple #[.int .u64 0, .int .i64 0, errV er]) ∧ ∃ j, w' = w.drewN j) :
    Calls Tryd.prog 81 #[.pointer (some ⟨N, 0, none⟩), .int .u64 most] w fun e w' => e = .returned (.int .u32 0) ∧ Rd w' N (some ⟨b, o, none⟩) p p zs p k er ∧ Tn N w w' := by
  have c3 := h.c3
  rw [errV_0] at c3
  have c0 := h.c0; have c1 := h.c1; have f3 := h.fz 3; have f1 := h.fz 1
  have h2 := fun m => (h.below (Below.drewn w m)).set_err er
  rw [errV_pos he] at h2 hU
  have HU := hide hU; have HR := hide h2; clear h h2 hU he
  go_enter Tryd.func81, Tryd.ntmps81
  go_wp2_with fail
  go_quiet ((go_at_call 93; exact unhide HU _))
  go_wp2
  go_ret
  exact ⟨rfl, unhide HR _, Tn.on (Tn.drewN N w _) (Tn.set N 3 _ _)⟩
set_option maxRecDepth 100000 in
set_option maxHeartbeats 1600000 in
theorem sg_full_bad {N p k b o : Nat} {zs : List Int} {w : World} (h : Rd w N (some ⟨b, o, none⟩) p p zs p k 0)  (bits : Int) (er : Int) (he : ¬ er = 0)
    (hU : ∀ m, Calls Tryd.prog 80 #[.slice (some ⟨b, o, none⟩) 0 0, .int .i64 bits] (w.drewN m) fun e w' => e = .returned (.tuple #[.int .i64 0, .int .i64 0, errV er]) ∧ ∃ j, w' = w.drewN j) :
    Calls Tryd.prog 65 #[.pointer (some ⟨N, 0, none⟩), .int .i64 bits] w fun e w' => e = .returned (.int .i64 0) ∧ Rd w' N (some ⟨b, o, none⟩) p p zs p k er ∧ Tn N w w' := by
  have c3 := h.c3
  rw [errV_0] at c3
  have c0 := h.c0; have c1 := h.c1; have f3 := h.fz 3; have f1 := h.fz 1
  have hl := h.len
  have hat := h.at_
  have h2 := fun m => (h.below (Below.drewn w m)).set_at p (Nat.le_trans h.at_ (Nat.le_refl _))
  have h3 := fun m => (h2 m).set_err er
  have c1' := fun m => (h2 m).c1; have f1' := fun m => (h2 m).fz 3; have c3' := fun m => (h2 m).c3
  rw [errV_0] at c3'
  rw [errV_pos he] at h3 hU
  have HU := hide hU; have HR := hide h3; clear h h2 h3 hU he
  go_enter Tryd.func65, Tryd.ntmps65
  go_wp2_with fail
  go_quiet ((go_at_call 80; exact unhide HU _))
  go_wp2
  go_ret
  exact ⟨rfl, unhide HR _, Tn.on (Tn.drewN N w _) (Tn.on (Tn.set N 1 _ _) (Tn.set N 3 _ _))⟩

set_option maxRecDepth 100000 in
set_option maxHeartbeats 1600000 in
theorem ut_zero_bad {N k cap : Nat} {ad : Addr} {zs : List Int} {w : World} (h : Rd w N (some ad) 0 cap zs 0 k 0)  (most : Int) (er : Int) (he : ¬ er = 0)
    (hU : ∀ m, Calls Tryd.prog 93 #[.slice (some ad) 0 cap, .int .i64 32] (w.drewN m) fun e w' => e = .returned (.tuple #[.int .u64 0, .int .i64 0, errV er]) ∧ ∃ j, w' = w.drewN j) :
    Calls Tryd.prog 81 #[.pointer (some ⟨N, 0, none⟩), .int .u64 most] w fun e w' => e = .returned (.int .u32 0) ∧ Rd w' N (some ad) 0 cap zs 0 k er ∧ Tn N w w' := by
  have c3 := h.c3
  rw [errV_0] at c3
  have c0 := h.c0; have c1 := h.c1; have f3 := h.fz 3; have f1 := h.fz 1
  have h2 := fun m => (h.below (Below.drewn w m)).set_err er
  rw [errV_pos he] at h2 hU
  have HU := hide hU; have HR := hide h2; clear h h2 hU he
  go_enter Tryd.func81, Tryd.ntmps81
  go_wp2_with fail
  go_quiet ((go_at_call 93; exact unhide HU _))
  go_wp2
  go_ret
  exact ⟨rfl, unhide HR _, Tn.on (Tn.drewN N w _) (Tn.set N 3 _ _)⟩
set_option maxRecDepth 100000 in
set_option maxHeartbeats 1600000 in
theorem sg_zero_bad {N k cap : Nat} {ad : Addr} {zs : List Int} {w : World} (h : Rd w N (some ad) 0 cap zs 0 k 0)  (bits : Int) (er : Int) (he : ¬ er = 0)
    (hU : ∀ m, Calls Tryd.prog 80 #[.slice (some ad) 0 cap, .int .i64 bits] (w.drewN m) fun e w' => e = .returned (.tuple #[.int .i64 0, .int .i64 0, errV er]) ∧ ∃ j, w' = w.drewN j) :
    Calls Tryd.prog 65 #[.pointer (some ⟨N, 0, none⟩), .int .i64 bits] w fun e w' => e = .returned (.int .i64 0) ∧ Rd w' N (some ad) 0 cap zs 0 k er ∧ Tn N w w' := by
  have c3 := h.c3
  rw [errV_0] at c3
  have c0 := h.c0; have c1 := h.c1; have f3 := h.fz 3; have f1 := h.fz 1
  have hl := h.len
  have hat := h.at_
  have h2 := fun m => (h.below (Below.drewn w m)).set_at 0 (Nat.le_trans h.at_ (Nat.le_refl _))
  have h3 := fun m => (h2 m).set_err er
  have c1' := fun m => (h2 m).c1; have f1' := fun m => (h2 m).fz 3; have c3' := fun m => (h2 m).c3
  rw [errV_0] at c3'
  rw [errV_pos he] at h3 hU
  have HU := hide hU; have HR := hide h3; clear h h2 h3 hU he
  go_enter Tryd.func65, Tryd.ntmps65
  go_wp2_with fail
  go_quiet ((go_at_call 80; exact unhide HU _))
  go_wp2
  go_ret
  exact ⟨rfl, unhide HR _, Tn.on (Tn.drewN N w _) (Tn.on (Tn.set N 1 _ _) (Tn.set N 3 _ _))⟩

set_option maxRecDepth 100000 in
set_option maxHeartbeats 1600000 in
theorem ut_nil_bad {N k : Nat} {zs : List Int} {w : World} (h : Rd w N none 0 0 zs 0 k 0)  (most : Int) (er : Int) (he : ¬ er = 0)
    (hU : ∀ m, Calls Tryd.prog 93 #[.slice none 0 0, .int .i64 32] (w.drewN m) fun e w' => e = .returned (.tuple #[.int .u64 0, .int .i64 0, errV er]) ∧ ∃ j, w' = w.drewN j) :
    Calls Tryd.prog 81 #[.pointer (some ⟨N, 0, none⟩), .int .u64 most] w fun e w' => e = .returned (.int .u32 0) ∧ Rd w' N none 0 0 zs 0 k er ∧ Tn N w w' := by
  have c3 := h.c3
  rw [errV_0] at c3
  have c0 := h.c0; have c1 := h.c1; have f3 := h.fz 3; have f1 := h.fz 1
  have h2 := fun m => (h.below (Below.drewn w m)).set_err er
  rw [errV_pos he] at h2 hU
  have HU := hide hU; have HR := hide h2; clear h h2 hU he
  go_enter Tryd.func81, Tryd.ntmps81
  go_wp2_with fail
  go_quiet ((go_at_call 93; exact unhide HU _))
  go_wp2
  go_ret
  exact ⟨rfl, unhide HR _, Tn.on (Tn.drewN N w _) (Tn.set N 3 _ _)⟩
set_option maxRecDepth 100000 in
set_option maxHeartbeats 1600000 in
theorem sg_nil_bad {N k : Nat} {zs : List Int} {w : World} (h : Rd w N none 0 0 zs 0 k 0)  (bits : Int) (er : Int) (he : ¬ er = 0)
    (hU : ∀ m, Calls Tryd.prog 80 #[.slice none 0 0, .int .i64 bits] (w.drewN m) fun e w' => e = .returned (.tuple #[.int .i64 0, .int .i64 0, errV er]) ∧ ∃ j, w' = w.drewN j) :
    Calls Tryd.prog 65 #[.pointer (some ⟨N, 0, none⟩), .int .i64 bits] w fun e w' => e = .returned (.int .i64 0) ∧ Rd w' N none 0 0 zs 0 k er ∧ Tn N w w' := by
  have c3 := h.c3
  rw [errV_0] at c3
  have c0 := h.c0; have c1 := h.c1; have f3 := h.fz 3; have f1 := h.fz 1
  have hl := h.len
  have hat := h.at_
  have h2 := fun m => (h.below (Below.drewn w m)).set_at 0 (Nat.le_trans h.at_ (Nat.le_refl _))
  have h3 := fun m => (h2 m).set_err er
  have c1' := fun m => (h2 m).c1; have f1' := fun m => (h2 m).fz 3; have c3' := fun m => (h2 m).c3
  rw [errV_0] at c3'
  rw [errV_pos he] at h3 hU
  have HU := hide hU; have HR := hide h3; clear h h2 h3 hU he
  go_enter Tryd.func65, Tryd.ntmps65
  go_wp2_with fail
  go_quiet ((go_at_call 80; exact unhide HU _))
  go_wp2
  go_ret
  exact ⟨rfl, unhide HR _, Tn.on (Tn.drewN N w _) (Tn.on (Tn.set N 1 _ _) (Tn.set N 3 _ _))⟩
end Ex
end Go.Proofs.YtjhmglefejclpaaDoor
