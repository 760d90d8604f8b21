/- append(own, bytes...): bytes of whatever slice, behind those of a row of the call's own. -/
import Derived.Test.YtcmidegffpehoaaDoorOwn
import Derived.Laws.AppendOwnNone
namespace Go.Proofs.YtcmidegffpehoaaDoor
open Go.RowKit
set_option linter.unusedVariables false

theorem wpList_append_row {ops : Array Oper} {rest : List Oper} {o : Oper} {a : Act} {Q : Exit → Act → World → Prop} (w : World) (hgd : o.guard = none) (s x : Operand)
    (ho : o.op = .call { callee := .builtin .append, args := #[s, x], argTypes := #[22, 22] })
    (B : Nat) (v : Value) (n : Nat) (xs : List Int) (hs : a.eval s = v) (hown : w.ownsRow B 5 1 v n (xs.map (Value.int .u8)))
    (ao : Option Addr) (m c : Nat) (zs : List Int) (hx : a.eval x = .slice ao m c) (hrow : Row w ao m zs) (hnil : ao = none → c = 0) (hb : n + m ≤ 100000) (hB : B ≤ w.heap.size)
    (h : ∀ v' w', w'.ownsRow B 5 1 v' (n + m) ((xs ++ zs).map (Value.int .u8)) → Below B w w' → wpList Tryd.prog ops Q rest (a.put o.dst v') w') : wpList Tryd.prog ops Q (o :: rest) a w := by
  obtain ⟨i0, hi, hz0, hz1, hz2⟩ := info_parts Tryd.info5
  cases ao with
  | none =>
    have hm : m = 0 := by
      rcases Nat.eq_zero_or_pos m with h1 | h1
      · exact h1
      · obtain ⟨b, off, hc, _⟩ := hrow.2.2 h1; simp at hc
    subst hm
    have hzs : zs = [] := List.eq_nil_of_length_eq_zero hrow.1
    subst hzs
    have hc0 := hnil rfl
    subst hc0
    refine wpList_append_own_none hgd s x 22 ho B 5 i0 1 Tryd.underlying22 hi v n (xs.map (Value.int .u8)) hs hown hx ?_
    exact h v w (by simpa using hown) (Below.refl _ _)
  | some ad =>
    refine wpList_append_own w hgd s x 22 ho B 5 i0 (.int .u8 0) 1 1 Tryd.underlying22 hi hz0 hz1 hz2 rfl (by decide) v n (xs.map (Value.int .u8)) hs hown ad m c (zs.map (Value.int .u8)) hx (by simp [hrow.1]) ?_ (ints_oneCell _ _) (by unfold maxLen; omega) (by omega) hB ?_
    · intro j u hj
      simp at hj
      obtain ⟨z, hz, rfl⟩ := hj
      have hj2 : j < m := by have := (List.getElem?_eq_some_iff.1 hz).1; have := hrow.1; omega
      obtain ⟨b, off, he, _, hcell⟩ := hrow.2.2 (by omega)
      simp at he; subst he
      rw [addr_add, hcell j hj2]; simp [List.getD, hz]
    · intro v' w' hown' hgrow _
      exact h v' w' (by simpa using hown') ((Below.refl B w).grown hgrow hB (fun k hk => (hown.lt k hk).1))
end Go.Proofs.YtcmidegffpehoaaDoor
