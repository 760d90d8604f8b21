/- The writer: labels, block, fields, list; expr.Encode. -/
import Derived.Test.YtjhmglefejclpaaDoorExX
namespace Go.Proofs.YtjhmglefejclpaaDoor
open Go.RowKit
namespace Ex
set_option linter.unusedVariables false
set_option linter.unusedSimpArgs false

def kB (re : Int) : Int := if re = 0 then 64 else re
theorem kb_any (re : Int) (w : World) : Calls Tryd.prog 79 #[.int .u8 re] w fun e w' => e = .returned (.int .u8 (kB re)) ∧ w = w' := by
  by_cases h : re = 0
  · subst h
    go_enter Tryd.func79, Tryd.ntmps79
    go_wp2
    go_ret
    exact ⟨rfl, rfl⟩
  · have t : (re == 0) = false := by simpa using h
    rw [show kB re = re by simp [kB, h]]
    clear h
    go_enter Tryd.func79, Tryd.ntmps79
    go_wp2
    go_ret
    exact ⟨rfl, rfl⟩
theorem moves_belowN {w w' : World} {N : Nat} (hb : Below N w w') : Moves w w' (· < N) (· < N) := fun k _ _ hg => ⟨hg, hb.block k hg⟩
theorem Code.belowN {w w' : World} {N : Nat} {l : List Ins} {v : Value} (h : Code w (· < N) l v) (hb : Below N w w') : Code w' (· < N) l v := h.move (moves_belowN hb)
theorem Labs.belowN {w w' : World} {N : Nat} {ls : List Int} {v : Value} (h : Lies (· < N) ls.length (Lab w ls) v) (hb : Below N w w') : Lies (· < N) ls.length (Lab w' ls) v := Labs.move (moves_belowN hb) h
theorem TC.belowN {w w' : World} {g N : Nat} {vs : List Value} (h : TC w g vs) (hg : g < N) (hb : Below N w w') : TC w' g vs := by
  obtain ⟨h1, t, fr, h2⟩ := h
  exact ⟨Nat.lt_of_lt_of_le h1 hb.size, t, fr, (hb.block g hg).trans h2⟩
theorem flat_take {ls : List Int} {j : Nat} (h : j < ls.length) : (ls.take (j + 1)).flatMap (Leb.bU 10) = (ls.take j).flatMap (Leb.bU 10) ++ Leb.bU 10 (ls.getD j 0) := by
  rw [List.take_succ_eq_append_getElem h, List.flatMap_append]
  simp [List.getD, h]
theorem flat_len (ls : List Int) : (ls.flatMap (Leb.bU 10)).length ≤ 11 * ls.length := by
  induction ls with
  | nil => simp
  | cons a l ih => rw [List.flatMap_cons, List.length_append, List.length_cons]; have := Leb.bU_len 10 a; omega

set_option maxRecDepth 100000 in
set_option maxHeartbeats 1600000 in
theorem labs_any {w : World} {N : Nat} {zs ls : List Int} {v : Value} (h : Wr w N zs) (hl : Lies (· < N) ls.length (Lab w ls) v) (h1 : 1 ≤ ls.length) (h2 : ls.length ≤ 257) (hz : zs.length + 4000 ≤ 1099511627776) (hb : ∀ z ∈ ls, 0 ≤ z ∧ z < 4294967296) :
    Calls Tryd.prog 56 #[.pointer (some ⟨N, 0, none⟩), v] w fun e w' => e = .returned (.tuple #[]) ∧ Wr w' N (zs ++ (Leb.bU 10 ((ls.length : Int) - 1) ++ ls.flatMap (Leb.bU 10))) ∧ Fr N w w' := by
  obtain ⟨a, ca, rfl, hca, _, hA⟩ := hl
  obtain ⟨b, o, rfl, hbN, hLab⟩ := hA (by omega)
  have hu := uns_any ((ls.length : Int) - 1) h (by omega) (by omega) (by omega)
  have hle := Leb.bU_len 10 ((ls.length : Int) - 1)
  have HU := hide hu; have HLab := hide hLab; have HBd := hide hb; have HBN := hide hbN
  clear hu hLab hb hA h hbN
  generalize hn : ls.length = n at *
  have HN := hide hn; clear hn
  have e1 : IntKind.u64.wrap ((n : Int) - 1) = (n : Int) - 1 := by rw [IntKind.wrap_u64]; omega
  go_enter Tryd.func56, Tryd.ntmps56
  go_wp2_with fail
  refine (unhide HU).mono ?_
  rintro e w1 ⟨rfl, hw1, hb1⟩
  have HW1 := hide hw1; have HB1 := hide hb1
  clear hw1 hb1 e1
  generalize hP : Leb.bU 10 ((n : Int) - 1) = P at *
  have HP := hide hP; clear hP
  go_wp2_with fail
  go_loopw [14] (fun c wr => ∃ j : Nat, c = .int .i64 j ∧ (j : Int) ≤ n ∧ Wr wr N (zs ++ (P ++ (ls.take j).flatMap (Leb.bU 10))) ∧ Fr N w wr) (fun c _ => n - (intOf c).toNat)
  case atStart => exact ⟨0, rfl, by omega, by simpa using unhide HW1, unhide HB1⟩
  case round =>
    clear HW1 HB1
    obtain ⟨j, rfl, hj, hw, hbe⟩ := hrel
    by_cases hlt : (j : Int) < n
    · have jl : j < ls.length := by have := unhide HN; omega
      have hc := (World.cell?_of_block (a := ⟨b, o + j, none⟩) (hbe.lo.block b (unhide HBN))).trans (unhide HLab j jl)
      have hbd := unhide HBd (ls.getD j 0) (by simp [List.getD, jl])
      have hft := flat_take jl
      have hfl := flat_len (ls.take j)
      have htl : (ls.take j).length ≤ 257 := by rw [List.length_take]; omega
      have hu := uns_any (ls.getD j 0) hw (by simp only [List.length_append]; omega) hbd.1 (by omega)
      generalize ls.getD j 0 = x at *
      have HU2 := hide hu; have HFt := hide hft; have HBe := hide hbe
      obtain ⟨x0, x1⟩ := hbd
      clear hu hft hfl htl jl hw hbe hj
      go_wp2_with fail
      refine (unhide HU2).mono ?_
      rintro e w3 ⟨rfl, hw3, hb3⟩
      have HW3 := hide hw3; have HB3 := hide (Fr.on (unhide HBe) hb3)
      clear hw3 hb3 hc
      go_wp2
      go_roundw
      case rel => exact ⟨j + 1, by go_num, by omega, by rw [unhide HFt]; have := unhide HW3; simpa using this, unhide HB3⟩
      case measure => simp [intOf]; omega
    · obtain rfl : j = n := by omega
      have htk : ls.take j = ls := by rw [← unhide HN]; exact List.take_length
      rw [htk] at hw
      have HW := hide hw; have HBe := hide hbe
      clear hj hlt htk hw hbe
      go_wp2
      go_end0
      exact ⟨rfl, by have := unhide HW; rw [← unhide HP] at this; exact this, unhide HBe⟩

def WrP (l : List Ins) : Prop := ∀ (N d : Nat) (zs : List Int) (v : Value) (w : World), Wr w N zs → Code w (· < N) l v → may d l = true → Wf l → Sz 1099511627776 l → l.length ≤ 1099511627776 → zs.length + (enc l).length + 4000 ≤ 1099511627776 → TC w 2 fmV → 2 < N →
  Calls Tryd.prog 24 #[.pointer (some ⟨N, 0, none⟩), v] w fun e w' => e = .returned (.tuple #[]) ∧ Wr w' N (zs ++ enc l) ∧ Fr N w w'
/-- an instruction's box -/
theorem box1 (w : World) (x0 x1 x2 x3 x4 x5 x6 x7 : Value) : Bx (w.alloc (.cells #[x0, x1, x2, x3, x4, x5, x6, x7] 50)) w.heap.size x0 x1 x2 x3 x4 x5 x6 x7 := heap_alloc_new w _
end Ex
end Go.Proofs.YtjhmglefejclpaaDoor
