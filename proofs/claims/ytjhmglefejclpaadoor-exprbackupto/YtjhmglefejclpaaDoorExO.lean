/- The reader's oneByte, at each of its judges. -/
import Derived.Test.YtjhmglefejclpaaDoorExR
namespace Go.Proofs.YtjhmglefejclpaaDoor
open Go.RowKit
namespace Ex
set_option linter.unusedVariables false

theorem ret_u8 {a b : Int} (h : a = b) : Ending.returned (.int .u8 a) = .returned (.int .u8 b) := by rw [h]
set_option maxRecDepth 100000 in
set_option maxHeartbeats 800000 in
theorem l1_any (N b0 b1 b2 c k nest : Nat) (me : Bool) (w : World) (hT : Tb w) (hc : c < 256) (hk : w.cell? ⟨N, 2, none⟩ = some (.int .i64 k)) (hk2 : k ≤ 16384) (hn : nest ≤ 64)
    (h0 : w.cell? ⟨b0, 0, none⟩ = some (.pointer (some ⟨N, 0, none⟩))) (h1 : w.cell? ⟨b1, 0, none⟩ = some (.int .i64 nest)) (h2 : w.cell? ⟨b2, 0, none⟩ = some (.bool me)) :
    Calls Tryd.prog 47 #[.int .u8 c, .pointer (some ⟨b0, 0, none⟩), .pointer (some ⟨b1, 0, none⟩), .pointer (some ⟨b2, 0, none⟩)] w fun e w' => e = .returned (errV (jO k nest me c)) ∧ Below w.heap.size w w' := by
  have hj := jo_any N c k nest me w hT hc hk hk2 hn
  generalize errV (jO k nest me c) = r at *
  have HJ := hide hj; clear hj hT
  go_enter Tryd.func47, Tryd.ntmps47
  go_wp2_with fail
  refine (unhide HJ).mono ?_
  rintro e w1 ⟨rfl, hb⟩
  have HB := hide hb; clear hb
  go_wp2
  go_ret
  exact ⟨rfl, unhide HB⟩

/-- something was wrong already -/
theorem obZ_err {N len cap p k : Nat} {a : Option Addr} {zs : List Int} {er : Int} {w : World} (h : Rd w N a len cap zs p k er) (he : ¬ er = 0) :
    Calls Tryd.prog 46 #[.pointer (some ⟨N, 0, none⟩), .func (.func 67) #[] #[]] w fun e w' => e = .returned (.int .u8 0) ∧ Rd w' N a len cap zs p k er ∧ Tn N w w' := by
  have c3 := h.c3
  rw [errV_pos he] at c3
  have HR := hide h; clear h he
  go_enter Tryd.func46, Tryd.ntmps46
  go_wp2_with fail
  go_quiet (fail)
  go_wp2
  go_ret
  exact ⟨rfl, (unhide HR).below (Below.drewn _ _), Tn.drewN _ _ _⟩
set_option maxRecDepth 100000 in
set_option maxHeartbeats 1600000 in
theorem obZ_any {N len cap p k : Nat} {a : Option Addr} {zs : List Int} {w : World} (h : Rd w N a len cap zs p k 0) :
    Calls Tryd.prog 46 #[.pointer (some ⟨N, 0, none⟩), .func (.func 67) #[] #[]] w fun e w' => e = .returned (.int .u8 (pB zs p jZ).v) ∧ Rd w' N a len cap zs (pB zs p jZ).at_ k (pB zs p jZ).e ∧ Tn N w w' := by
  have c3 := h.c3
  rw [errV_0] at c3
  have c0 := h.c0; have c1 := h.c1; have fz := h.fz 3; have fz1 := h.fz 1; have hln := h.lt
  have hzl := h.zlen
  have hl := h.len
  have hat := h.at_
  by_cases hp : p < len
  · obtain ⟨b, o, rfl, hb, v0, v1⟩ := h.byte hp
    have hpB : pB zs p jZ = if jZ (zs.getD p 0) = 0 then ⟨0, p + 1, zs.getD p 0⟩ else ⟨jZ (zs.getD p 0), p, 0⟩ := by unfold pB; rw [if_neg (by omega)]
    obtain ⟨c, hc⟩ : ∃ c : Nat, zs.getD p 0 = (c : Int) := ⟨(zs.getD p 0).toNat, by omega⟩
    rw [hc] at hb hpB v1
    have hJ : ∀ m, Calls Tryd.prog 67 #[.int .u8 c] (w.drewN m) fun e w' => e = .returned (errV (jZ c)) ∧ Below w.heap.size w w' := fun m => (jz_any c _).mono fun e w' q => ⟨q.1, Below.on (Below.drewn w m) q.2⟩
    have hlt : (p : Int) < len := by omega
    have hne : ((p : Int) == (len : Int)) = false := by simp; omega
    by_cases hz : jZ (c : Int) = 0
    · rw [hz, errV_0] at hJ
      rw [if_pos hz] at hpB
      rw [hpB]
      have HJ := hide hJ; have HR := hide h; clear hJ h hpB hc hz
      go_enter Tryd.func46, Tryd.ntmps46
      go_wp2_with fail
      go_quiet (fail)
      go_wp2_with fail
      go_quiet (fail)
      go_wp2_with fail
      refine (unhide HJ _).mono ?_
      rintro e w1 ⟨rfl, hb1⟩
      have h1 := (unhide HR).below hb1
      have c1 := h1.c1; have f3 := h1.fz 3; have f1 := h1.fz 1; have hln1 := h1.lt
      have g3 := h1.c3
      have h2 := h1.set_err 0
      rw [errV_0] at h2
      have c1 := h2.c1; have f1 := h2.fz 1; have g3 := h2.c3
      rw [errV_0] at g3
      have h3 := h2.set_at (p + 1) (by omega)
      have HR3 := hide h3; have HT := hide (Tn.on (Tn.of (N := N) hb1) (Tn.on (Tn.set N 3 w1 .nilIface) (Tn.set N 1 _ (.int .i64 ((p + 1 : Nat) : Int)))))
      clear h1 h2 h3 hb1 HR
      go_wp2
      go_ret
      exact ⟨rfl, unhide HR3, unhide HT⟩
    · rw [if_neg hz] at hpB
      rw [errV_pos hz] at hJ
      rw [hpB]
      have HZ := hide hz
      have HJ := hide hJ; have HR := hide h; clear hJ h hpB hc hz
      go_enter Tryd.func46, Tryd.ntmps46
      go_wp2_with fail
      go_quiet (fail)
      go_wp2_with fail
      go_quiet (fail)
      go_wp2_with fail
      refine (unhide HJ _).mono ?_
      rintro e w1 ⟨rfl, hb1⟩
      have h1 := (unhide HR).below hb1
      have f3 := h1.fz 3
      have g3 := h1.c3
      have hln1 := h1.lt
      have h2 := h1.set_err (jZ c)
      rw [errV_pos (unhide HZ)] at h2
      have HR3 := hide h2; have HT := hide (Tn.on (Tn.of (N := N) hb1) (Tn.set N 3 w1 (.iface 64 (.int .i64 (jZ c)))))
      clear h1 h2 hb1 HR
      go_wp2
      go_ret
      exact ⟨rfl, unhide HR3, unhide HT⟩
  · obtain rfl : p = len := by omega
    have hpB : pB zs p jZ = ⟨4, p, 0⟩ := by unfold pB; rw [if_pos (by omega)]
    rw [hpB]
    have h2 := fun m => (h.below (Below.drewn w m)).set_err 4
    rw [errV_4] at h2
    have HR := hide h2; clear h h2 hpB hp hat
    go_enter Tryd.func46, Tryd.ntmps46
    go_wp2_with fail
    go_quiet (fail)
    go_wp2
    go_ret
    exact ⟨rfl, unhide HR _, Tn.on (Tn.drewN N w _) (Tn.set N 3 _ _)⟩

/-- something was wrong already -/
theorem obK_err {N len cap p k : Nat} {a : Option Addr} {zs : List Int} {er : Int} {w : World} (h : Rd w N a len cap zs p k er) (he : ¬ er = 0) :
    Calls Tryd.prog 46 #[.pointer (some ⟨N, 0, none⟩), .func (.func 82) #[] #[]] w fun e w' => e = .returned (.int .u8 0) ∧ Rd w' N a len cap zs p k er ∧ Tn N w w' := by
  have c3 := h.c3
  rw [errV_pos he] at c3
  have HR := hide h; clear h he
  go_enter Tryd.func46, Tryd.ntmps46
  go_wp2_with fail
  go_quiet (fail)
  go_wp2
  go_ret
  exact ⟨rfl, (unhide HR).below (Below.drewn _ _), Tn.drewN _ _ _⟩
set_option maxRecDepth 100000 in
set_option maxHeartbeats 1600000 in
theorem obK_any {N len cap p k : Nat} {a : Option Addr} {zs : List Int} {w : World} (h : Rd w N a len cap zs p k 0) :
    Calls Tryd.prog 46 #[.pointer (some ⟨N, 0, none⟩), .func (.func 82) #[] #[]] w fun e w' => e = .returned (.int .u8 (pB zs p jK).v) ∧ Rd w' N a len cap zs (pB zs p jK).at_ k (pB zs p jK).e ∧ Tn N w w' := by
  have c3 := h.c3
  rw [errV_0] at c3
  have c0 := h.c0; have c1 := h.c1; have fz := h.fz 3; have fz1 := h.fz 1; have hln := h.lt
  have hzl := h.zlen
  have hl := h.len
  have hat := h.at_
  by_cases hp : p < len
  · obtain ⟨b, o, rfl, hb, v0, v1⟩ := h.byte hp
    have hpB : pB zs p jK = if jK (zs.getD p 0) = 0 then ⟨0, p + 1, zs.getD p 0⟩ else ⟨jK (zs.getD p 0), p, 0⟩ := by unfold pB; rw [if_neg (by omega)]
    obtain ⟨c, hc⟩ : ∃ c : Nat, zs.getD p 0 = (c : Int) := ⟨(zs.getD p 0).toNat, by omega⟩
    rw [hc] at hb hpB v1
    have hJ : ∀ m, Calls Tryd.prog 82 #[.int .u8 c] (w.drewN m) fun e w' => e = .returned (errV (jK c)) ∧ Below w.heap.size w w' := fun m => (jk_any c _).mono fun e w' q => ⟨q.1, Below.on (Below.drewn w m) q.2⟩
    have hlt : (p : Int) < len := by omega
    have hne : ((p : Int) == (len : Int)) = false := by simp; omega
    by_cases hz : jK (c : Int) = 0
    · rw [hz, errV_0] at hJ
      rw [if_pos hz] at hpB
      rw [hpB]
      have HJ := hide hJ; have HR := hide h; clear hJ h hpB hc hz
      go_enter Tryd.func46, Tryd.ntmps46
      go_wp2_with fail
      go_quiet (fail)
      go_wp2_with fail
      go_quiet (fail)
      go_wp2_with fail
      refine (unhide HJ _).mono ?_
      rintro e w1 ⟨rfl, hb1⟩
      have h1 := (unhide HR).below hb1
      have c1 := h1.c1; have f3 := h1.fz 3; have f1 := h1.fz 1; have hln1 := h1.lt
      have g3 := h1.c3
      have h2 := h1.set_err 0
      rw [errV_0] at h2
      have c1 := h2.c1; have f1 := h2.fz 1; have g3 := h2.c3
      rw [errV_0] at g3
      have h3 := h2.set_at (p + 1) (by omega)
      have HR3 := hide h3; have HT := hide (Tn.on (Tn.of (N := N) hb1) (Tn.on (Tn.set N 3 w1 .nilIface) (Tn.set N 1 _ (.int .i64 ((p + 1 : Nat) : Int)))))
      clear h1 h2 h3 hb1 HR
      go_wp2
      go_ret
      exact ⟨rfl, unhide HR3, unhide HT⟩
    · rw [if_neg hz] at hpB
      rw [errV_pos hz] at hJ
      rw [hpB]
      have HZ := hide hz
      have HJ := hide hJ; have HR := hide h; clear hJ h hpB hc hz
      go_enter Tryd.func46, Tryd.ntmps46
      go_wp2_with fail
      go_quiet (fail)
      go_wp2_with fail
      go_quiet (fail)
      go_wp2_with fail
      refine (unhide HJ _).mono ?_
      rintro e w1 ⟨rfl, hb1⟩
      have h1 := (unhide HR).below hb1
      have f3 := h1.fz 3
      have g3 := h1.c3
      have hln1 := h1.lt
      have h2 := h1.set_err (jK c)
      rw [errV_pos (unhide HZ)] at h2
      have HR3 := hide h2; have HT := hide (Tn.on (Tn.of (N := N) hb1) (Tn.set N 3 w1 (.iface 64 (.int .i64 (jK c)))))
      clear h1 h2 hb1 HR
      go_wp2
      go_ret
      exact ⟨rfl, unhide HR3, unhide HT⟩
  · obtain rfl : p = len := by omega
    have hpB : pB zs p jK = ⟨4, p, 0⟩ := by unfold pB; rw [if_pos (by omega)]
    rw [hpB]
    have h2 := fun m => (h.below (Below.drewn w m)).set_err 4
    rw [errV_4] at h2
    have HR := hide h2; clear h h2 hpB hp hat
    go_enter Tryd.func46, Tryd.ntmps46
    go_wp2_with fail
    go_quiet (fail)
    go_wp2
    go_ret
    exact ⟨rfl, unhide HR _, Tn.on (Tn.drewN N w _) (Tn.set N 3 _ _)⟩

/-- something was wrong already -/
theorem obO_err {N len cap p k : Nat} {a : Option Addr} {zs : List Int} {er : Int} {b0 b1 b2 nest : Nat} {me : Bool} {w : World} (h : Rd w N a len cap zs p k er) (he : ¬ er = 0) :
    Calls Tryd.prog 46 #[.pointer (some ⟨N, 0, none⟩), .func (.func 47) #[] #[.pointer (some ⟨b0, 0, none⟩), .pointer (some ⟨b1, 0, none⟩), .pointer (some ⟨b2, 0, none⟩)]] w fun e w' => e = .returned (.int .u8 0) ∧ Rd w' N a len cap zs p k er ∧ Tn N w w' := by
  have c3 := h.c3
  rw [errV_pos he] at c3
  have HR := hide h; clear h he
  go_enter Tryd.func46, Tryd.ntmps46
  go_wp2_with fail
  go_quiet (fail)
  go_wp2
  go_ret
  exact ⟨rfl, (unhide HR).below (Below.drewn _ _), Tn.drewN _ _ _⟩
set_option maxRecDepth 100000 in
set_option maxHeartbeats 1600000 in
theorem obO_any {N len cap p k : Nat} {a : Option Addr} {zs : List Int} {b0 b1 b2 nest : Nat} {me : Bool} {w : World} (h : Rd w N a len cap zs p k 0) (hT : Tb w) (hn : nest ≤ 64) (q0 : w.cell? ⟨b0, 0, none⟩ = some (.pointer (some ⟨N, 0, none⟩))) (q1 : w.cell? ⟨b1, 0, none⟩ = some (.int .i64 nest)) (q2 : w.cell? ⟨b2, 0, none⟩ = some (.bool me)) :
    Calls Tryd.prog 46 #[.pointer (some ⟨N, 0, none⟩), .func (.func 47) #[] #[.pointer (some ⟨b0, 0, none⟩), .pointer (some ⟨b1, 0, none⟩), .pointer (some ⟨b2, 0, none⟩)]] w fun e w' => e = .returned (.int .u8 (pB zs p (jO k nest me)).v) ∧ Rd w' N a len cap zs (pB zs p (jO k nest me)).at_ k (pB zs p (jO k nest me)).e ∧ Tn N w w' := by
  have c3 := h.c3
  rw [errV_0] at c3
  have c0 := h.c0; have c1 := h.c1; have fz := h.fz 3; have fz1 := h.fz 1; have hln := h.lt
  have hzl := h.zlen
  have hl := h.len
  have hat := h.at_
  by_cases hp : p < len
  · obtain ⟨b, o, rfl, hb, v0, v1⟩ := h.byte hp
    have hpB : pB zs p (jO k nest me) = if (jO k nest me) (zs.getD p 0) = 0 then ⟨0, p + 1, zs.getD p 0⟩ else ⟨(jO k nest me) (zs.getD p 0), p, 0⟩ := by unfold pB; rw [if_neg (by omega)]
    obtain ⟨c, hc⟩ : ∃ c : Nat, zs.getD p 0 = (c : Int) := ⟨(zs.getD p 0).toNat, by omega⟩
    rw [hc] at hb hpB v1
    have hJ : ∀ m, Calls Tryd.prog 47 #[.int .u8 c, .pointer (some ⟨b0, 0, none⟩), .pointer (some ⟨b1, 0, none⟩), .pointer (some ⟨b2, 0, none⟩)] (w.drewN m) fun e w' => e = .returned (errV ((jO k nest me) c)) ∧ Below w.heap.size w w' := fun m => (l1_any N b0 b1 b2 c k nest me (w.drewN m) (hT.below (Below.drewn w m)) (by omega) h.c2 h.k hn q0 q1 q2).mono fun e w' q => ⟨q.1, Below.on (Below.drewn w m) q.2⟩
    have hlt : (p : Int) < len := by omega
    have hne : ((p : Int) == (len : Int)) = false := by simp; omega
    by_cases hz : (jO k nest me) (c : Int) = 0
    · rw [hz, errV_0] at hJ
      rw [if_pos hz] at hpB
      rw [hpB]
      have HJ := hide hJ; have HR := hide h; clear hJ h hpB hc hz
      go_enter Tryd.func46, Tryd.ntmps46
      go_wp2_with fail
      go_quiet (fail)
      go_wp2_with fail
      go_quiet (fail)
      go_wp2_with fail
      refine (unhide HJ _).mono ?_
      rintro e w1 ⟨rfl, hb1⟩
      have h1 := (unhide HR).below hb1
      have c1 := h1.c1; have f3 := h1.fz 3; have f1 := h1.fz 1; have hln1 := h1.lt
      have g3 := h1.c3
      have h2 := h1.set_err 0
      rw [errV_0] at h2
      have c1 := h2.c1; have f1 := h2.fz 1; have g3 := h2.c3
      rw [errV_0] at g3
      have h3 := h2.set_at (p + 1) (by omega)
      have HR3 := hide h3; have HT := hide (Tn.on (Tn.of (N := N) hb1) (Tn.on (Tn.set N 3 w1 .nilIface) (Tn.set N 1 _ (.int .i64 ((p + 1 : Nat) : Int)))))
      clear h1 h2 h3 hb1 HR
      go_wp2
      go_ret
      exact ⟨rfl, unhide HR3, unhide HT⟩
    · rw [if_neg hz] at hpB
      rw [errV_pos hz] at hJ
      rw [hpB]
      have HZ := hide hz
      have HJ := hide hJ; have HR := hide h; clear hJ h hpB hc hz
      go_enter Tryd.func46, Tryd.ntmps46
      go_wp2_with fail
      go_quiet (fail)
      go_wp2_with fail
      go_quiet (fail)
      go_wp2_with fail
      refine (unhide HJ _).mono ?_
      rintro e w1 ⟨rfl, hb1⟩
      have h1 := (unhide HR).below hb1
      have f3 := h1.fz 3
      have g3 := h1.c3
      have hln1 := h1.lt
      have h2 := h1.set_err ((jO k nest me) c)
      rw [errV_pos (unhide HZ)] at h2
      have HR3 := hide h2; have HT := hide (Tn.on (Tn.of (N := N) hb1) (Tn.set N 3 w1 (.iface 64 (.int .i64 ((jO k nest me) c)))))
      clear h1 h2 hb1 HR
      go_wp2
      go_ret
      exact ⟨rfl, unhide HR3, unhide HT⟩
  · obtain rfl : p = len := by omega
    have hpB : pB zs p (jO k nest me) = ⟨4, p, 0⟩ := by unfold pB; rw [if_pos (by omega)]
    rw [hpB]
    have h2 := fun m => (h.below (Below.drewn w m)).set_err 4
    rw [errV_4] at h2
    have HR := hide h2; clear h h2 hpB hp hat
    go_enter Tryd.func46, Tryd.ntmps46
    go_wp2_with fail
    go_quiet (fail)
    go_wp2
    go_ret
    exact ⟨rfl, unhide HR _, Tn.on (Tn.drewN N w _) (Tn.set N 3 _ _)⟩
end Ex
end Go.Proofs.YtjhmglefejclpaaDoor
