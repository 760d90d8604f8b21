/- append to a row of the call's own, or to one that is full: what a builder of bytes lays. -/
import Derived.Test.YtcmidegffpehoaaDoorScD
import Derived.Deep.AppendLies
namespace Go.Proofs.YtcmidegffpehoaaDoor
open Go.RowKit
namespace Sc
set_option linter.unusedVariables false

/-- bytes that are laid one behind another: a row of the call's own, or a full one -/
def Bld (w : World) (B : Nat) (v : Value) (xs : List Int) : Prop :=
  w.ownsRow B 5 1 v xs.length (xs.map (Value.int .u8)) ∨ ∃ g, v = .slice (some ⟨g, 0, none⟩) xs.length xs.length ∧ B ≤ g ∧ Row w (some ⟨g, 0, none⟩) xs.length xs
theorem Bld.below {w w' : World} {B : Nat} {v : Value} {xs : List Int} (h : Bld w B v xs) (hb : Below w.heap.size w w') (h0 : 0 < xs.length) : Bld w' B v xs := by
  rcases h with h | ⟨g, e, hg, hr⟩
  · exact .inl (by
      rcases h.2 with ⟨h1, h2⟩ | ⟨g, cap, cur, h1, h2, h3, h4⟩
      · exact ⟨h.1, .inl ⟨h1, h2⟩⟩
      · exact ⟨h.1, .inr ⟨g, cap, cur, h1, h2, (hb.block g (Array.getElem?_eq_some_iff.1 h3).1).trans h3, h4⟩⟩)
  · exact .inr ⟨g, e, hg, hr.below (Nat.le_refl _) hb⟩
theorem grow_own {w : World} {B : Nat} {xs zs : List Int} {old : Nat} (hB : B ≤ w.heap.size) (hn : xs.length + zs.length ≤ 100000) (hc : grownCap w (xs.length + zs.length) old 5 ≤ maxLen) :
    (w.drew.alloc (.cells ((xs.map (Value.int .u8)).toArray ++ (zs.map (Value.int .u8)).toArray ++ Builtin.zeroCells (Value.int .u8 0).cells (grownCap w (xs.length + zs.length) old 5 - (xs.length + zs.length))) 5)).ownsRow B 5 1
      (.slice (some ⟨w.heap.size, 0, none⟩) (xs.length + zs.length) (grownCap w (xs.length + zs.length) old 5)) (xs.length + zs.length) ((xs ++ zs).map (Value.int .u8)) := by
  have hge := grownCap_ge w (xs.length + zs.length) old 5
  have hzc : (Builtin.zeroCells (Value.int .u8 0).cells (grownCap w (xs.length + zs.length) old 5 - (xs.length + zs.length))).size = grownCap w (xs.length + zs.length) old 5 - (xs.length + zs.length) := by
    have := size_zeroCells (Value.int .u8 0).cells (grownCap w (xs.length + zs.length) old 5 - (xs.length + zs.length))
    simpa [Value.cells] using this
  refine ⟨by simp, .inr ⟨w.heap.size, _, _, rfl, hB, heap_alloc_new w.drew _, hge, hc, ?_, ?_⟩⟩
  · simp [hzc]; omega
  · simp only [Array.toList_append, Nat.mul_one, List.map_append]
    exact List.take_left' (by simp)
theorem grown_of {w w' : World} (h : Below w.heap.size w w') (r : Option Nat) : w.grownBy w' r := ⟨h.os, h.tape, h.output, h.size, fun k hk _ => h.block k hk⟩
theorem Bld.blk {w : World} {B : Nat} {v : Value} {xs : List Int} (h : Bld w B v xs) (h0 : 0 < xs.length) : ∀ k, v.ownBlock = some k → B ≤ k ∧ k < w.heap.size := by
  rcases h with h | ⟨g, rfl, hg, hr⟩
  · exact h.lt
  · intro k hk
    simp only [Value.ownBlock, Option.some.injEq] at hk
    subst hk
    exact ⟨hg, (row_at hr h0).2.1⟩
theorem wpList_append_lay {ops : Array Oper} {rest : List Oper} {o : Oper} {a : Act} {Q : Exit → Act → World → Prop} (w : World) (hgd : o.guard = none) (s x : Operand)
    (ho : o.op = .call { callee := .builtin .append, args := #[s, x], argTypes := #[22, 22] })
    (B : Nat) (v : Value) (xs : List Int) (hs : a.eval s = v) (hown : Bld w B v xs) (h0 : 0 < xs.length)
    (ad : Addr) (m c : Nat) (zs : List Int) (hx : a.eval x = .slice (some ad) m c) (hrow : Row w (some ad) m zs) (hb : xs.length + m ≤ 100000) (hm : 0 < m) (hB : B ≤ w.heap.size)
    (h : ∀ g cap w', w'.ownsRow B 5 1 (.slice (some ⟨g, 0, none⟩) (xs.length + m) cap) (xs.length + m) ((xs ++ zs).map (Value.int .u8)) → w.grownBy w' v.ownBlock → (v.ownBlock = some g ∨ g = w.heap.size) → wpList Tryd.prog ops Q rest (a.put o.dst (.slice (some ⟨g, 0, none⟩) (xs.length + m) cap)) w') : wpList Tryd.prog ops Q (o :: rest) a w := by
  obtain ⟨i0, hi, hz0, hz1, hz2⟩ := info_parts Tryd.info5
  have hml : zs.length = m := hrow.1
  have hnews : ∀ j u, (zs.map (Value.int .u8))[j]? = some u → w.cell? (ad.add j) = some u := fun j u hj => by
    simp at hj
    obtain ⟨z, hz, rfl⟩ := hj
    have hj2 : j < m := by have := (List.getElem?_eq_some_iff.1 hz).1; omega
    obtain ⟨b, off, he, _, hcell⟩ := hrow.2.2 (by omega)
    simp at he; subst he
    rw [addr_add, hcell j hj2]; simp [List.getD, hz]
  rcases hown with hown | ⟨g, rfl, hg, hr⟩
  · refine wpList_append_lies w hgd s x 22 ho B 5 i0 (.int .u8 0) 1 1 Tryd.underlying22 hi hz0 hz1 hz2 rfl (by decide) v xs.length (xs.map (Value.int .u8)) hs hown ad m c (zs.map (Value.int .u8)) hx (by simp [hml]) hnews (ints_oneCell _ _) hm (by unfold maxLen; omega) (by omega) hB w.heap.size rfl ?_
    intro g cap w' h1 h2 h3 _
    exact h g cap w' (by simpa using h1) h2 h3
  · refine wpList_plain hgd fun K hK => ?_
    have hrun := run_append_grow (P := Tryd.prog) w 22 o.type 5 i0 (.int .u8 0) Tryd.underlying22 hi hz0 ⟨g, 0, none⟩ xs.length xs.length (xs.map (Value.int .u8)) (by simp [hz1])
      (fun j u hj => by
        simp at hj
        obtain ⟨z, hz, rfl⟩ := hj
        have hj2 : j < xs.length := (List.getElem?_eq_some_iff.1 hz).1
        rw [addr_add, (row_at hr hj2).1]; simp [List.getD, hz])
      ad m c (zs.map (Value.int .u8)) (by simp [hz1, hml]) hnews
      (by omega) (by omega) (by rw [hz2]; have := nextslicecap_le (need := xs.length + m) (old := xs.length) (by omega); omega)
    unfold Oper.wp execOp
    simp only [ho, resolve, invoke, builtin, Sem.run_bind, Sem.run_pure, Result.andThen_ok, List.map_toArray, List.map_cons, List.map_nil, hs, hx, hrun]
    refine hK _ _ (h _ _ _ ?_ ?_ (.inr rfl))
    · subst hml
      exact grow_own hB hb (grownCap_le_maxLen w _ _ _ (by unfold maxLen; omega))
    · exact grown_of ((Below.refl w.heap.size w).drew.alloc (Nat.le_refl _) _) _
end Sc
end Go.Proofs.YtcmidegffpehoaaDoor
