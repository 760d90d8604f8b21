/- ops.Name: what it returns, by the tables. -/
import Derived.Test.YtcpknafaocdjdaaGreatDoorOpA
namespace Go.Proofs.YtcpknafaocdjdaaGreatDoor
open Go.RowKit
set_option linter.unusedVariables false

/-- a table of texts in its variable -/
def TS (w : World) (g : Nat) (l : List (List UInt8)) : Prop := ∀ j s, l[j]? = some s → w.cell? ⟨g, j, none⟩ = some (.string (str s))
theorem TS.below {w w' : World} {g : Nat} {l : List (List UInt8)} (h : TS w g l) (hb : Below w.heap.size w w') : TS w' g l := fun j s hj => by
  have h1 := h j s hj
  have hlt : g < w.heap.size := block_lt_of_cell h1
  exact (hb.cell (p := ⟨g, j, none⟩) hlt).trans h1
def Nms (w : World) : Prop := TS w 3 nms ∧ TS w 4 tns ∧ TS w 5 rns
theorem Nms.below {w w' : World} (h : Nms w) (hb : Below w.heap.size w w') : Nms w' := ⟨h.1.below hb, h.2.1.below hb, h.2.2.below hb⟩

/-- the name of a number; empty where there is none -/
def nm (n : Nat) : List UInt8 :=
  if n < 67 then nms.getD n []
  else if 69 ≤ n ∧ n < 91 then tns.getD (n - 69) []
  else if 103 ≤ n ∧ n < 139 then rns.getD (n - 103) []
  else if n = 167 then [105, 51, 50, 46, 119, 114, 97, 112, 95, 105, 54, 52]
  else if n = 172 then [105, 54, 52, 46, 101, 120, 116, 101, 110, 100, 95, 105, 51, 50, 95, 115]
  else if n = 173 then [105, 54, 52, 46, 101, 120, 116, 101, 110, 100, 95, 105, 51, 50, 95, 117]
  else []

theorem ret_str {a b : ByteArray} (h : a = b) : Ending.returned (.string a) = .returned (.string b) := by rw [h]

set_option maxRecDepth 100000 in
set_option maxHeartbeats 800000 in
theorem name_any (n : Nat) (hn : n < 256) (w : World) (hT : Nms w) :
    Calls Tryz.prog 148 #[.int .u8 n] w fun e w' => e = .returned (.string (str (nm n))) ∧ w = w' := by
  obtain ⟨hA, hB, hC⟩ := hT
  by_cases h1 : n < 67
  · have hl : n < nms.length := h1
    have hc := hA n _ (List.getElem?_eq_getElem hl)
    rw [show nm n = nms[n] by unfold nm; rw [if_pos h1]; simp [List.getD, hl]]
    generalize nms[n] = s at *
    clear hA hB hC hl
    go_enter Tryz.func148, Tryz.ntmps148
    go_wp2
    go_ret
    exact ⟨rfl, rfl⟩
  by_cases h2 : 69 ≤ n ∧ n < 91
  · have hl : n - 69 < tns.length := by show n - 69 < 22; omega
    have hc := hB (n - 69) _ (List.getElem?_eq_getElem hl)
    rw [show nm n = tns[n - 69] by unfold nm; rw [if_neg h1, if_pos h2]; simp [List.getD, hl]]
    generalize tns[n - 69] = s at *
    clear hA hB hC hl
    obtain ⟨k, rfl⟩ : ∃ k, n = k + 69 := ⟨n - 69, by omega⟩
    rw [Nat.add_sub_cancel] at hc
    go_enter Tryz.func148, Tryz.ntmps148
    go_wp2
    go_ret
    exact ⟨rfl, rfl⟩
  by_cases h3 : 103 ≤ n ∧ n < 139
  · have hl : n - 103 < rns.length := by show n - 103 < 36; omega
    have hc := hC (n - 103) _ (List.getElem?_eq_getElem hl)
    rw [show nm n = rns[n - 103] by unfold nm; rw [if_neg h1, if_neg h2, if_pos h3]; simp [List.getD, hl]]
    generalize rns[n - 103] = s at *
    clear hA hB hC hl
    obtain ⟨k, rfl⟩ : ∃ k, n = k + 103 := ⟨n - 103, by omega⟩
    rw [Nat.add_sub_cancel] at hc
    go_enter Tryz.func148, Tryz.ntmps148
    go_wp2
    go_ret
    exact ⟨rfl, rfl⟩
  by_cases h4 : n = 167
  · subst h4
    go_enter Tryz.func148, Tryz.ntmps148
    go_wp2
    go_ret
    exact ⟨rfl, rfl⟩
  by_cases h5 : n = 172
  · subst h5
    go_enter Tryz.func148, Tryz.ntmps148
    go_wp2
    go_ret
    exact ⟨rfl, rfl⟩
  by_cases h6 : n = 173
  · subst h6
    go_enter Tryz.func148, Tryz.ntmps148
    go_wp2
    go_ret
    exact ⟨rfl, rfl⟩
  rw [show nm n = [] by unfold nm; rw [if_neg h1, if_neg h2, if_neg h3, if_neg h4, if_neg h5, if_neg h6]]
  clear hA hB hC
  have t4 : ((n : Int) == 167) = false := by simp; omega
  have t5 : ((n : Int) == 172) = false := by simp; omega
  have t6 : ((n : Int) == 173) = false := by simp; omega
  clear h4 h5 h6
  by_cases a1 : 69 ≤ n
  · have a2 : ¬ n < 91 := by omega
    by_cases a3 : 103 ≤ n
    · have a4 : ¬ n < 139 := by omega
      clear h1 h2 h3
      go_enter Tryz.func148, Tryz.ntmps148
      go_wp2
      go_ret
      exact ⟨rfl, rfl⟩
    · clear h1 h2 h3
      go_enter Tryz.func148, Tryz.ntmps148
      go_wp2
      go_ret
      exact ⟨rfl, rfl⟩
  · clear h2 h3
    go_enter Tryz.func148, Tryz.ntmps148
    go_wp2
    go_ret
    exact ⟨rfl, rfl⟩
end Go.Proofs.YtcpknafaocdjdaaGreatDoor
