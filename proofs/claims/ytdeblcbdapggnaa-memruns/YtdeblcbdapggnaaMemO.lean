/- The document's list in the heap; Get. -/
import Derived.Test.YtdeblcbdapggnaaMemN
import Derived.Test.YtdeblcbdapggnaaMemB
namespace Go.Proofs.Ytdeblcbdapggnaa
open Go.RowKit Mm
set_option linter.unusedVariables false

/-- the cells of a list -/
def cl (L : List (Int × Int)) : List Value := L.flatMap fun x => [.int .u64 x.1, .int .u8 x.2]
theorem cl_nil : cl [] = [] := rfl
theorem cl_cons (x : Int × Int) (L : List (Int × Int)) : cl (x :: L) = .int .u64 x.1 :: .int .u8 x.2 :: cl L := rfl
theorem cl_app (L M : List (Int × Int)) : cl (L ++ M) = cl L ++ cl M := by simp [cl]
theorem cl_len : ∀ L : List (Int × Int), (cl L).length = L.length * 2
  | [] => rfl
  | x :: L => by rw [cl_cons]; simp [cl_len L]; omega
theorem cl_at : ∀ (L : List (Int × Int)) (i : Nat), i < L.length → (cl L)[i * 2]? = some (.int .u64 (L[i]?.getD (0, 0)).1) ∧ (cl L)[i * 2 + 1]? = some (.int .u8 (L[i]?.getD (0, 0)).2)
  | [], _, h => by simp at h
  | x :: L, 0, _ => by rw [cl_cons]; simp
  | x :: L, i + 1, h => by
    have := cl_at L i (by simpa using h)
    rw [cl_cons, show (i + 1) * 2 = i * 2 + 1 + 1 from by omega]
    simpa using this

/-- A list of the document's cells: a row from block B on. -/
structure LRow (w : World) (B : Nat) (v : Value) (L : List (Int × Int)) : Prop where
  own : w.ownsRow B 49 2 v L.length (cl L)
  small : L.length ≤ 65536
  bd : ∀ x ∈ L, (0 ≤ x.1 ∧ x.1 < 65536) ∧ 0 ≤ x.2 ∧ x.2 ≤ 255
namespace LRow
variable {w : World} {B : Nat} {v : Value} {L : List (Int × Int)}
theorem shape (h : LRow w B v L) : ∃ a cap, v = .slice a L.length cap ∧ L.length ≤ cap ∧ cap ≤ maxLen ∧
    (0 < L.length → ∃ g, a = some ⟨g, 0, none⟩ ∧ g < w.heap.size ∧ B ≤ g ∧ ∀ i, i < L.length → w.cell? ⟨g, i * 2, none⟩ = some (.int .u64 (L[i]?.getD (0, 0)).1) ∧ w.cell? ⟨g, i * 2 + 1, none⟩ = some (.int .u8 (L[i]?.getD (0, 0)).2)) := by
  rcases h.own.2 with ⟨rfl, h0⟩ | ⟨g, cap, cur, rfl, hg, hb, h1, h2, h3, h4⟩
  · rw [h0]; exact ⟨none, 0, rfl, by omega, by unfold maxLen; omega, by omega⟩
  · refine ⟨_, cap, rfl, h1, h2, fun _ => ⟨g, rfl, (Array.getElem?_eq_some_iff.1 hb).1, hg, fun i hi => ?_⟩⟩
    have hc := h.own.cells (g := g) rfl
    have ha := cl_at L i hi
    have e : ∀ j, (⟨g, 0, none⟩ : Addr).add j = ⟨g, j, none⟩ := fun j => by unfold Addr.add; split <;> simp_all
    have c1 := hc _ _ ha.1; have c2 := hc _ _ ha.2
    rw [e] at c1 c2
    exact ⟨c1, c2⟩
theorem keep (h : LRow w B v L) {w' : World} {row : Option Nat} (hg : w.grownBy w' row) (hne : v.ownBlock = none ∨ v.ownBlock ≠ row) : LRow w' B v L := ⟨h.own.kept hg hne, h.small, h.bd⟩
theorem below (h : LRow w B v L) {w' : World} (hb : Below w.heap.size w w') : LRow w' B v L :=
  ⟨h.own.kept (row := none) ⟨hb.os, hb.tape, hb.output, hb.size, fun k hk _ => hb.block k hk⟩ (by cases hv : v.ownBlock <;> simp), h.small, h.bd⟩
/-- a memory's own blocks are others: what is written into them leaves the list -/
theorem oth (h : LRow w B v L) {w' : World} {b g n cap : Nat} {most : Int} {zs : List Int} (hm : MemAt w b g n cap most zs) (ho : Oth b g w w') : LRow w' B v L := by
  refine ⟨⟨h.own.1, ?_⟩, h.small, h.bd⟩
  rcases h.own.2 with hn | ⟨g', cap', cur, rfl, hg, hb, h1, h2, h3, h4⟩
  · exact .inl hn
  · refine .inr ⟨g', cap', cur, rfl, hg, ?_, h1, h2, h3, h4⟩
    rw [ho.block g' (Array.getElem?_eq_some_iff.1 hb).1 ?_ ?_]
    · exact hb
    · rintro rfl; have := hm.box.symm.trans hb; simp at this
    · rintro rfl; obtain ⟨c, hc, _⟩ := hm.row; have := hc.symm.trans hb; simp at this
theorem base (h : LRow w B v L) {B' : Nat} (hB : B' ≤ B) : LRow w B' v L := by
  refine ⟨⟨h.own.1, ?_⟩, h.small, h.bd⟩
  rcases h.own.2 with hn | ⟨g', cap', cur, rfl, hg, r⟩
  · exact .inl hn
  · exact .inr ⟨g', cap', cur, rfl, by omega, r⟩
end LRow

theorem bd_at {L : List (Int × Int)} (h : ∀ x ∈ L, (0 ≤ x.1 ∧ x.1 < 65536) ∧ 0 ≤ x.2 ∧ x.2 ≤ 255) (i : Nat) (hi : i < L.length) : (0 ≤ (L[i]?.getD (0, 0)).1 ∧ (L[i]?.getD (0, 0)).1 < 65536) ∧ 0 ≤ (L[i]?.getD (0, 0)).2 ∧ (L[i]?.getD (0, 0)).2 ≤ 255 := by
  have := h L[i] (List.getElem_mem hi)
  simpa [hi] using this
theorem drop_at {L : List (Int × Int)} (k : Nat) (h : k < L.length) : L.drop k = L[k]?.getD (0, 0) :: L.drop (k + 1) := by
  rw [List.drop_eq_getElem_cons h]; simp [h]

set_option maxHeartbeats 1000000 in
theorem get_any {w : World} {B : Nat} {v : Value} {L : List (Int × Int)} (h : LRow w B v L) (P k a : Int) :
    Calls Try.prog 22 #[.agg #[.int .i64 P, .int .i64 k, v], .int .u64 a] w fun e w' => e = .returned (.int .u8 (getL L a)) ∧ Below w.heap.size w w' := by
  obtain ⟨ad, cap, rfl, hc1, hc2, hcell⟩ := h.shape
  have hs := h.small
  have hbd := fun i hi => bd_at h.bd i hi
  unfold maxLen at hc2
  have hw1 : Below w.heap.size w (w.alloc (.cells #[.int .i64 P, .int .i64 k, .slice ad L.length cap] 31)) := (Below.refl _ _).alloc (Nat.le_refl _) _
  have HW := hide hw1; have HC := hide hcell; have HB := hide hbd
  clear hw1 hcell hbd h
  go_enter Try.func22, Try.ntmps22
  go_wp2_with fail
  go_loop [5] (fun i => ∃ j : Nat, j ≤ L.length ∧ i = .int .i64 j ∧ getL (L.drop j) a = getL L a) (fun i => (L.length - intOf i).toNat)
  case atStart => exact ⟨0, by omega, rfl, rfl⟩
  case round =>
    obtain ⟨j, hj, rfl, hget⟩ := hrel
    by_cases hlt : j < L.length
    · obtain ⟨g, rfl, hg, _, hcs⟩ := unhide HC (by omega)
      obtain ⟨c1, c2⟩ := hcs j hlt
      have hb := unhide HB j hlt
      rw [drop_at j hlt] at hget
      generalize hx : L[j]?.getD (0, 0) = x at *
      obtain ⟨p, c⟩ := x
      rw [getL] at hget
      have HG := hide hget
      have d1 : (w.alloc (.cells #[.int .i64 P, .int .i64 k, .slice (some ⟨g, 0, none⟩) L.length cap] 31)).cell? ⟨g, j * 2, none⟩ = some (.int .u64 p) := ((unhide HW).cell (p := ⟨g, j * 2, none⟩) hg).trans c1
      have d2 : (w.alloc (.cells #[.int .i64 P, .int .i64 k, .slice (some ⟨g, 0, none⟩) L.length cap] 31)).cell? ⟨g, j * 2 + 1, none⟩ = some (.int .u8 c) := ((unhide HW).cell (p := ⟨g, j * 2 + 1, none⟩) hg).trans c2
      have hj2 : (j : Int) < L.length := by omega
      clear hget c1 c2 hcs hx hlt hj
      by_cases hp : p = a
      · have t : (p == a) = true := by simpa using hp
        have e := unhide HG
        rw [if_pos hp] at e
        have HE := hide e
        clear hp e HG
        go_wp2
        go_ret
        exact ⟨ret_int (unhide HE), unhide HW⟩
      · have t : (p == a) = false := by simpa using hp
        have e := unhide HG
        rw [if_neg hp] at e
        have HE := hide e
        clear hp e HG
        go_wp2
        go_round
        case rel => exact ⟨j + 1, by omega, by go_num, unhide HE⟩
        case measure => simp [intOf]; omega
    · obtain rfl : j = L.length := by omega
      rw [List.drop_length] at hget
      have HG := hide hget; clear hget
      go_wp2
      go_ret
      exact ⟨ret_int (unhide HG), unhide HW⟩
end Go.Proofs.Ytdeblcbdapggnaa
