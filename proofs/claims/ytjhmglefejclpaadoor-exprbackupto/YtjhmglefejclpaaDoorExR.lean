/- The reader in memory; what its judges say. -/
import Derived.Test.YtjhmglefejclpaaDoorExC
import Derived.Test.YtjhmglefejclpaaDoorExD
import Derived.Test.YtjhmglefejclpaaDoorOpI
namespace Go.Proofs.YtjhmglefejclpaaDoor
open Go.RowKit
namespace Ex
set_option linter.unusedVariables false

theorem errV_pos {k : Int} (h : ¬ k = 0) : errV k = .iface 64 (.int .i64 k) := by simp [errV, h]
theorem errV_8 : errV 8 = .iface 64 (.int .i64 8) := by simp [errV]
theorem errV_9 : errV 9 = .iface 64 (.int .i64 9) := by simp [errV]

/-- the reader's box at N, over bytes zs -/
structure Rd (w : World) (N : Nat) (a : Option Addr) (len cap : Nat) (zs : List Int) (p k : Nat) (e : Int) : Prop where
  box : w.heap[N]? = some (.cells #[.slice a len cap, .int .i64 p, .int .i64 k, errV e] 76 (0, 0))
  row : Row w a len zs
  ne : ∀ b o, a = some ⟨b, o, none⟩ → 0 < len → b ≠ N
  nil : a = none → cap = 0
  cap : len ≤ cap
  at_ : p ≤ len
  len : len ≤ 1099511627776
  k : k ≤ 16384
/-- only block N has turned, and new ones are there -/
abbrev Tn (N : Nat) (w w' : World) : Prop := w.grownBy w' (some N)
theorem Tn.on {N : Nat} {w w1 w2 : World} (h : Tn N w w1) (h2 : Tn N w1 w2) : Tn N w w2 :=
  ⟨h2.os.trans h.os, h2.tape.trans h.tape, h2.output.trans h.output, Nat.le_trans h.size h2.size, fun k hk hne => (h2.block k (Nat.lt_of_lt_of_le hk h.size) hne).trans (h.block k hk hne)⟩
theorem Tn.of {N : Nat} {w w1 : World} (h : Below w.heap.size w w1) : Tn N w w1 := ⟨h.os, h.tape, h.output, h.size, fun k hk _ => h.block k hk⟩
theorem Tn.refl (N : Nat) (w : World) : Tn N w w := Tn.of (Below.refl _ _)
theorem Tn.drewN (N : Nat) (w : World) (k : Nat) : Tn N w (w.drewN k) := Tn.of ⟨rfl, rfl, rfl, Nat.le_refl _, fun _ _ => rfl⟩
theorem Tn.set (N i : Nat) (w : World) (v : Value) : Tn N w (w.setCell ⟨N, i, none⟩ v) := by
  have h : Below N w (w.setCell ⟨N, i, none⟩ v) := (Below.refl _ _).setCell (p := ⟨N, i, none⟩) (Nat.le_refl _) _
  refine ⟨h.os, h.tape, h.output, h.size, fun k hk hne => ?_⟩
  exact heap_setCell_other w ⟨N, i, none⟩ k v (by rintro rfl; exact hne rfl)
theorem row_turn {N : Nat} {w w' : World} {a : Option Addr} {len : Nat} {zs : List Int} (h : Row w a len zs) (hne : ∀ b o, a = some ⟨b, o, none⟩ → 0 < len → b ≠ N) (ht : Tn N w w') : Row w' a len zs := by
  refine ⟨h.1, h.2.1, fun hl => ?_⟩
  obtain ⟨b, off, rfl, hlt, hc⟩ := h.2.2 hl
  have hb := ht.block b hlt (fun e => hne b off rfl hl (Option.some.inj e))
  exact ⟨b, off, rfl, Nat.lt_of_lt_of_le hlt ht.size, fun i hi => (World.cell?_of_block (a := ⟨b, off + i, none⟩) hb).trans (hc i hi)⟩
namespace Rd
variable {w : World} {N : Nat} {a : Option Addr} {len cap : Nat} {zs : List Int} {p k : Nat} {e : Int}
theorem lt (h : Rd w N a len cap zs p k e) : N < w.heap.size := (Array.getElem?_eq_some_iff.1 h.box).1
theorem c0 (h : Rd w N a len cap zs p k e) : w.cell? ⟨N, 0, none⟩ = some (.slice a len cap) := by rw [cell_of_row w N 0 _ _ _ h.box]; rfl
theorem c1 (h : Rd w N a len cap zs p k e) : w.cell? ⟨N, 1, none⟩ = some (.int .i64 p) := by rw [cell_of_row w N 1 _ _ _ h.box]; rfl
theorem c2 (h : Rd w N a len cap zs p k e) : w.cell? ⟨N, 2, none⟩ = some (.int .i64 k) := by rw [cell_of_row w N 2 _ _ _ h.box]; rfl
theorem c3 (h : Rd w N a len cap zs p k e) : w.cell? ⟨N, 3, none⟩ = some (errV e) := by rw [cell_of_row w N 3 _ _ _ h.box]; rfl
theorem fz (h : Rd w N a len cap zs p k e) (i : Nat) : w.frozen? ⟨N, i, none⟩ = false := by simp [World.frozen?, h.box]
theorem below (h : Rd w N a len cap zs p k e) {w' : World} (hb : Below w.heap.size w w') : Rd w' N a len cap zs p k e :=
  ⟨(hb.block N h.lt).trans h.box, h.row.below (Nat.le_refl _) hb, h.ne, h.nil, h.cap, h.at_, h.len, h.k⟩
theorem zlen (h : Rd w N a len cap zs p k e) : zs.length = len := h.row.1
theorem set_err (h : Rd w N a len cap zs p k e) (e' : Int) : Rd (w.setCell ⟨N, 3, none⟩ (errV e')) N a len cap zs p k e' :=
  ⟨(heap_setCell_same w N 3 _ _ (errV e') h.box).trans rfl, row_turn h.row h.ne (Tn.set N 3 w _), h.ne, h.nil, h.cap, h.at_, h.len, h.k⟩
theorem set_at (h : Rd w N a len cap zs p k e) (p' : Nat) (hp : p' ≤ len) : Rd (w.setCell ⟨N, 1, none⟩ (.int .i64 p')) N a len cap zs p' k e :=
  ⟨(heap_setCell_same w N 1 _ _ (.int .i64 p') h.box).trans rfl, row_turn h.row h.ne (Tn.set N 1 w _), h.ne, h.nil, h.cap, hp, h.len, h.k⟩
theorem set_k (h : Rd w N a len cap zs p k e) (k' : Nat) (hp : k' ≤ 16384) : Rd (w.setCell ⟨N, 2, none⟩ (.int .i64 k')) N a len cap zs p k' e :=
  ⟨(heap_setCell_same w N 2 _ _ (.int .i64 k') h.box).trans rfl, row_turn h.row h.ne (Tn.set N 2 w _), h.ne, h.nil, h.cap, h.at_, h.len, hp⟩
theorem byte (h : Rd w N a len cap zs p k e) (hl : p < len) : ∃ b o, a = some ⟨b, o, none⟩ ∧ w.cell? ⟨b, o + p, none⟩ = some (.int .u8 (zs.getD p 0)) ∧ 0 ≤ zs.getD p 0 ∧ zs.getD p 0 ≤ 255 := by
  obtain ⟨b, off, rfl, hlt, hc⟩ := h.row.2.2 (by omega)
  have hz := h.row.2.1 (zs.getD p 0) (by
    have : p < zs.length := by rw [h.row.1]; exact hl
    rw [List.getD, List.getElem?_eq_getElem this]
    exact List.getElem_mem this)
  exact ⟨b, off, rfl, hc p hl, hz⟩
end Rd

theorem ib_any (f : Int) (w : World) : Calls Tryd.prog 62 #[.int .i64 f] w fun e w' => e = .returned (.bool (blk f)) ∧ w = w' := by
  by_cases h6 : f = 6
  · subst h6
    go_enter Tryd.func62, Tryd.ntmps62
    go_wp2
    go_ret
    exact ⟨rfl, rfl⟩
  by_cases h7 : f = 7
  · subst h7
    go_enter Tryd.func62, Tryd.ntmps62
    go_wp2
    go_ret
    exact ⟨rfl, rfl⟩
  have t6 : (f == 6) = false := by simpa using h6
  have t7 : (f == 7) = false := by simpa using h7
  have hb : blk f = false := by simp [blk, h6, h7]
  have HB := hide hb; clear hb h6 h7
  go_enter Tryd.func62, Tryd.ntmps62
  go_wp2
  go_ret
  exact ⟨ret_bool (unhide HB).symm, rfl⟩

theorem jz_any (c : Int) (w : World) : Calls Tryd.prog 67 #[.int .u8 c] w fun e w' => e = .returned (errV (jZ c)) ∧ Below w.heap.size w w' := by
  by_cases h : c = 0
  · subst h
    rw [show jZ 0 = 0 from rfl, errV_0]
    go_enter Tryd.func67, Tryd.ntmps67
    go_wp2
    go_ret
    exact ⟨rfl, Below.refl _ _⟩
  · have t : (c != 0) = true := by simpa using h
    rw [show jZ c = 6 by simp [jZ, h], errV_6]
    clear h
    go_enter Tryd.func67, Tryd.ntmps67
    go_wp2
    go_ret
    exact ⟨rfl, Below.refl _ _⟩

theorem jk_any (c : Int) (w : World) : Calls Tryd.prog 82 #[.int .u8 c] w fun e w' => e = .returned (errV (jK c)) ∧ Below w.heap.size w w' := by
  by_cases h1 : c = 64
  · subst h1
    rw [show jK 64 = 0 from rfl, errV_0]
    go_enter Tryd.func82, Tryd.ntmps82
    go_wp2
    go_ret
    exact ⟨rfl, Below.refl _ _⟩
  by_cases h2 : c = 127
  · subst h2
    rw [show jK 127 = 0 from rfl, errV_0]
    go_enter Tryd.func82, Tryd.ntmps82
    go_wp2
    go_ret
    exact ⟨rfl, Below.refl _ _⟩
  by_cases h3 : c = 126
  · subst h3
    rw [show jK 126 = 0 from rfl, errV_0]
    go_enter Tryd.func82, Tryd.ntmps82
    go_wp2
    go_ret
    exact ⟨rfl, Below.refl _ _⟩
  by_cases h4 : c = 125
  · subst h4
    rw [show jK 125 = 8 from rfl, errV_8]
    go_enter Tryd.func82, Tryd.ntmps82
    go_wp2
    go_ret
    exact ⟨rfl, Below.refl _ _⟩
  by_cases h5 : c = 124
  · subst h5
    rw [show jK 124 = 8 from rfl, errV_8]
    go_enter Tryd.func82, Tryd.ntmps82
    go_wp2
    go_ret
    exact ⟨rfl, Below.refl _ _⟩
  have t1 : (c == 64) = false := by simpa using h1
  have t2 : (c == 127) = false := by simpa using h2
  have t3 : (c == 126) = false := by simpa using h3
  have t4 : (c == 125) = false := by simpa using h4
  have t5 : (c == 124) = false := by simpa using h5
  rw [show jK c = 6 by simp [jK, h1, h2, h3, h4, h5], errV_6]
  clear h1 h2 h3 h4 h5
  go_enter Tryd.func82, Tryd.ntmps82
  go_wp2
  go_ret
  exact ⟨rfl, Below.refl _ _⟩

theorem flt5 : flt ((5 : Nat) : Int) = false ∧ fam ((5 : Nat) : Int) = none := by decide
theorem jO_gen {k nest : Nat} {me : Bool} {c : Int} (h : ¬ (c = 11 ∨ (c = 5 ∧ me = true))) : jO k nest me c = if flt c = true then 8 else match frm c with | none => 6 | some f => if k = 16384 ∨ (blk f = true ∧ nest = 64) then 9 else 0 := by
  unfold jO; rw [if_neg h]; try (cases frm c <;> rfl)
set_option maxRecDepth 100000 in
set_option maxHeartbeats 1600000 in
theorem jo_any (N : Nat) (c k nest : Nat) (me : Bool) (w : World) (hT : Tb w) (hc : c < 256) (hk : w.cell? ⟨N, 2, none⟩ = some (.int .i64 k)) (hk2 : k ≤ 16384) (hn : nest ≤ 64) :
    Calls Tryd.prog 48 #[.pointer (some ⟨N, 0, none⟩), .int .u8 c, .int .i64 nest, .bool me] w fun e w' => e = .returned (errV (jO k nest me c)) ∧ Below w.heap.size w w' := by
  have hlt : N < w.heap.size := World.block_lt_of_cell? w _ hk
  by_cases h11 : c = 11
  · subst h11
    rw [show jO k nest me ((11 : Nat) : Int) = 0 by simp [jO], errV_0]
    go_enter Tryd.func48, Tryd.ntmps48
    go_wp2
    go_ret
    exact ⟨rfl, Below.refl _ _⟩
  have hF := float_any c hc w hT.2
  have hFm := fun wx hx => form_any c hc wx hx
  have hT1 := hT.1
  have HT := hide hT1
  clear hT1 hT
  by_cases h5 : c = 5
  · subst h5
    cases me with
    | true =>
      rw [show jO k nest true ((5 : Nat) : Int) = 0 by simp [jO], errV_0]
      clear hF hFm h11
      go_enter Tryd.func48, Tryd.ntmps48
      go_wp2
      go_ret
      exact ⟨rfl, Below.refl _ _⟩
    | false =>
      have hJ : jO k nest false ((5 : Nat) : Int) = 6 := by rw [jO_gen (by simp), flt5.1]; simp [frm, show fam 5 = none from flt5.2]
      rw [hJ, errV_6]
      rw [flt5.1] at hF
      simp only [flt5.2, formR, errV_1] at hFm
      have HF := hide hF; have HFm := hide hFm; clear hF hFm hJ h11
      go_enter Tryd.func48, Tryd.ntmps48
      go_wp2_with fail
      refine (unhide HF).mono ?_
      rintro e w1 ⟨rfl, hb1⟩
      have hT1 := (unhide HT).below hb1
      have HB1 := hide hb1; clear hb1
      go_wp2_with fail
      refine (unhide HFm _ hT1).mono ?_
      rintro e w2 ⟨rfl, hb2⟩
      have hb3 := Below.on (unhide HB1) hb2
      have hk3 := (hb3.cell (p := ⟨N, 2, none⟩) hlt).trans hk
      have HB2 := hide hb3; clear hb2 hT1 hb3
      go_wp2
      go_ret
      exact ⟨rfl, unhide HB2⟩

  have t11 : ((c : Int) == 11) = false := by simp; omega
  have t5 : ((c : Int) == 5) = false := by simp; omega
  rw [jO_gen (by omega)]
  clear h5 h11
  cases hfl : flt c with
  | true =>
    rw [hfl] at hF
    simp only [if_true, errV_8]
    have HF := hide hF; clear hF hFm hfl
    go_enter Tryd.func48, Tryd.ntmps48
    go_wp2_with fail
    refine (unhide HF).mono ?_
    rintro e w1 ⟨rfl, hb1⟩
    have HB1 := hide hb1; clear hb1
    go_wp2
    go_ret
    exact ⟨rfl, unhide HB1⟩
  | false =>
    rw [hfl] at hF
    have HF := hide hF; clear hF
    cases hfm : fam (c : Int) with
    | none =>
      simp only [hfm, formR, errV_1] at hFm
      have hfr : frm c = none := by unfold frm; rw [hfm]; rfl
      simp only [hfr, Bool.false_eq_true, if_false, errV_6]
      have HFm := hide hFm; clear hFm hfm hfr hfl
      go_enter Tryd.func48, Tryd.ntmps48
      go_wp2_with fail
      refine (unhide HF).mono ?_
      rintro e w1 ⟨rfl, hb1⟩
      have hT1 := (unhide HT).below hb1
      have HB1 := hide hb1; clear hb1
      go_wp2_with fail
      refine (unhide HFm _ hT1).mono ?_
      rintro e w2 ⟨rfl, hb2⟩
      have hb3 := Below.on (unhide HB1) hb2
      have hk3 := (hb3.cell (p := ⟨N, 2, none⟩) hlt).trans hk
      have HB2 := hide hb3; clear hb2 hT1 hb3
      go_wp2
      go_ret
      exact ⟨rfl, unhide HB2⟩
    | some x =>
      obtain ⟨x1, x2, o, x4, x5, x6⟩ := x
      simp only [hfm, formR, errV_0] at hFm
      have hfr : frm c = some o := by unfold frm; rw [hfm]; rfl
      simp only [hfr, Bool.false_eq_true, if_false]
      have HFm := hide hFm; clear hFm hfm hfr hfl
      by_cases k1 : k = 16384
      · subst k1
        simp only [true_or, if_true, errV_9]
        go_enter Tryd.func48, Tryd.ntmps48
        go_wp2_with fail
        refine (unhide HF).mono ?_
        rintro e w1 ⟨rfl, hb1⟩
        have hT1 := (unhide HT).below hb1
        have HB1 := hide hb1; clear hb1
        go_wp2_with fail
        refine (unhide HFm _ hT1).mono ?_
        rintro e w2 ⟨rfl, hb2⟩
        have hb3 := Below.on (unhide HB1) hb2
        have hk3 := (hb3.cell (p := ⟨N, 2, none⟩) hlt).trans hk
        have HB2 := hide hb3; clear hb2 hT1 hb3
        go_wp2
        go_ret
        exact ⟨rfl, unhide HB2⟩
      have tk : ((k : Int) == 16384) = false := by simp; omega
      have hib := fun wx => ib_any o wx
      cases hbl : blk o with
      | false =>
        rw [hbl] at hib
        rw [if_neg (by simp [k1]), errV_0]
        have HIB := hide hib; clear hib k1 hbl
        go_enter Tryd.func48, Tryd.ntmps48
        go_wp2_with fail
        refine (unhide HF).mono ?_
        rintro e w1 ⟨rfl, hb1⟩
        have hT1 := (unhide HT).below hb1
        have HB1 := hide hb1; clear hb1
        go_wp2_with fail
        refine (unhide HFm _ hT1).mono ?_
        rintro e w2 ⟨rfl, hb2⟩
        have hb3 := Below.on (unhide HB1) hb2
        have hk3 := (hb3.cell (p := ⟨N, 2, none⟩) hlt).trans hk
        have HB2 := hide hb3; clear hb2 hT1 hb3
        go_wp2_with fail
        refine (unhide HIB _).mono ?_
        rintro e w3 ⟨rfl, rfl⟩
        go_wp2
        go_ret
        exact ⟨rfl, unhide HB2⟩
      | true =>
        rw [hbl] at hib
        have HIB := hide hib; clear hib hbl
        by_cases e : nest = 64
        · subst e
          rw [if_pos (by simp), errV_9]
          clear k1
          go_enter Tryd.func48, Tryd.ntmps48
          go_wp2_with fail
          refine (unhide HF).mono ?_
          rintro e w1 ⟨rfl, hb1⟩
          have hT1 := (unhide HT).below hb1
          have HB1 := hide hb1; clear hb1
          go_wp2_with fail
          refine (unhide HFm _ hT1).mono ?_
          rintro e w2 ⟨rfl, hb2⟩
          have hb3 := Below.on (unhide HB1) hb2
          have hk3 := (hb3.cell (p := ⟨N, 2, none⟩) hlt).trans hk
          have HB2 := hide hb3; clear hb2 hT1 hb3
          go_wp2_with fail
          refine (unhide HIB _).mono ?_
          rintro e w3 ⟨rfl, rfl⟩
          go_wp2
          go_ret
          exact ⟨rfl, unhide HB2⟩
        · rw [if_neg (by simp [k1, e]), errV_0]
          have tn : ((nest : Int) == 64) = false := by simp; omega
          clear k1 e
          go_enter Tryd.func48, Tryd.ntmps48
          go_wp2_with fail
          refine (unhide HF).mono ?_
          rintro e w1 ⟨rfl, hb1⟩
          have hT1 := (unhide HT).below hb1
          have HB1 := hide hb1; clear hb1
          go_wp2_with fail
          refine (unhide HFm _ hT1).mono ?_
          rintro e w2 ⟨rfl, hb2⟩
          have hb3 := Below.on (unhide HB1) hb2
          have hk3 := (hb3.cell (p := ⟨N, 2, none⟩) hlt).trans hk
          have HB2 := hide hb3; clear hb2 hT1 hb3
          go_wp2_with fail
          refine (unhide HIB _).mono ?_
          rintro e w3 ⟨rfl, rfl⟩
          go_wp2
          go_ret
          exact ⟨rfl, unhide HB2⟩
end Ex
end Go.Proofs.YtjhmglefejclpaaDoor
