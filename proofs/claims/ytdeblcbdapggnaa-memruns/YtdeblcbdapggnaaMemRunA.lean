/- MemRuns: the relation of its loop, and what each step does to it. -/
import Derived.Test.YtdeblcbdapggnaaMemS
import Derived.Test.YtdeblcbdapggnaaMemF
import Derived.Test.YtdeblcbdapggnaaMemU
import Derived.Test.YtdeblcbdapggnaaMemQ
namespace Go.Proofs.Ytdeblcbdapggnaa
open Go.RowKit Mm
set_option linter.unusedVariables false

/-- the acts that were handed in -/
structure Acts (w : World) (al : Option Addr) (ll : Nat) (A : Nat → Int × Int × Int × Int × Int) : Prop where
  at_ : 0 < ll → ∃ b off, al = some ⟨b, off, none⟩ ∧ b < w.heap.size ∧ ∀ i, i < ll →
    w.cell? ⟨b, off + i * 5, none⟩ = some (.int .i64 (A i).1) ∧ w.cell? ⟨b, off + i * 5 + 1, none⟩ = some (.int .u64 (A i).2.1) ∧ w.cell? ⟨b, off + i * 5 + 2, none⟩ = some (.int .u64 (A i).2.2.1) ∧
    w.cell? ⟨b, off + i * 5 + 3, none⟩ = some (.int .i64 (A i).2.2.2.1) ∧ w.cell? ⟨b, off + i * 5 + 4, none⟩ = some (.int .u64 (A i).2.2.2.2)
  bd : ∀ i, i < ll → U64 (A i).2.1 ∧ U64 (A i).2.2.1 ∧ (-9223372036854775808 ≤ (A i).2.2.2.1 ∧ (A i).2.2.2.1 < 9223372036854775808) ∧ U64 (A i).2.2.2.2
  len : ll ≤ 9223372036854775807

set_option maxHeartbeats 400000 in
theorem new_yes2 (p k : Int) (w : World) (h0 : 0 ≤ p) (h1 : p ≤ k) (h2 : k ≤ 16) :
    Calls Try.prog 7 #[.int .i64 p, .int .i64 k] w fun e w' => e = .returned (.tuple #[.pointer (some ⟨w.heap.size + 1, 0, none⟩), .nilIface]) ∧
      MemAt w' (w.heap.size + 1) w.heap.size (p.toNat * 4096) (p.toNat * 4096) k (List.replicate (p.toNat * 4096) 0) ∧ Below w.heap.size w w' ∧ w'.heap.size = w.heap.size + 2 := by
  obtain ⟨q, rfl⟩ := Int.eq_ofNat_of_zero_le h0
  have hq : q ≤ 16 := by omega
  have hmk := fun wx => run_make_row' (P := Try.prog) 45 5 (.int .u8 0) 1 Try.underlying45 Try.info5 rfl .i64 .i64 (q * 4096) (by omega) (by omega) wx
  have e1 : ((q * 4096 : Nat) : Int) = (q : Int) * 4096 := by omega
  rw [e1] at hmk
  have HN := hide (new_memAt w (q * 4096) k (by omega))
  clear e1
  go_enter Try.func7, Try.ntmps7
  go_wp2
  go_ret2
  exact ⟨rfl, by simpa using unhide HN, ((Below.refl _ _).alloc (Nat.le_refl _) _).alloc (by simp) _, by simp⟩

/-- both memories, beside each other: the program's (its box at S + 1), the document's (its variable at S + 2) -/
structure Both (w wr : World) (K P : Nat) (zs : List Int) (g capm : Nat) (ad : Option Addr) (n cap : Nat) : Prop where
  pk : P ≤ K
  m : MemAt wr (w.heap.size + 1) g (P * 4096) capm K zs
  sg : w.heap.size ≤ g
  l : LRow wr w.heap.size (.slice ad n cap) (nz zs 0)
  x : wr.heap[w.heap.size + 2]? = some (.cells #[.int .i64 P, .int .i64 K, .slice ad n cap] 31 (0, 0))
  b : Below w.heap.size w wr

namespace Both
variable {w wr : World} {K P : Nat} {zs : List Int} {g capm : Nat} {ad : Option Addr} {n cap : Nat}
theorem later (h : Both w wr K P zs g capm ad n cap) {w' : World} (hb : Below wr.heap.size wr w') : Both w w' K P zs g capm ad n cap :=
  ⟨h.pk, h.m.below (Nat.le_refl _) hb, h.sg, h.l.below hb, (hb.block _ (Array.getElem?_eq_some_iff.1 h.x).1).trans h.x, Below.on h.b hb⟩
theorem gx (h : Both w wr K P zs g capm ad n cap) : g ≠ w.heap.size + 2 := by
  rintro e
  obtain ⟨cur, hc, _⟩ := h.m.row
  rw [e] at hc
  have := h.x.symm.trans hc
  simp at this
theorem lt2 (h : Both w wr K P zs g capm ad n cap) : w.heap.size + 2 < wr.heap.size := (Array.getElem?_eq_some_iff.1 h.x).1
/-- the document's variable written anew -/
theorem put (h : Both w wr K P zs g capm ad n cap) (PI : Int) (ad' : Option Addr) (n' cap' : Nat) (zs' : List Int) (o : Obj) (hl : LRow wr w.heap.size (.slice ad' n' cap') (nz zs' 0)) :
    let w' := (((wr.setCell ⟨w.heap.size + 2, 0, none⟩ (.int .i64 PI)).setCell ⟨w.heap.size + 2, 1, none⟩ (.int .i64 K)).setCell ⟨w.heap.size + 2, 2, none⟩ (.slice ad' n' cap')).alloc o
    MemAt w' (w.heap.size + 1) g (P * 4096) capm K zs ∧ LRow w' w.heap.size (.slice ad' n' cap') (nz zs' 0) ∧ w'.heap[w.heap.size + 2]? = some (.cells #[.int .i64 PI, .int .i64 K, .slice ad' n' cap'] 31 (0, 0)) ∧ Below w.heap.size w w' := by
  intro w'
  obtain ⟨k1, k2, k3⟩ := box3 h.x (.int .i64 PI) (.int .i64 K) (.slice ad' n' cap')
  have hlt := h.lt2
  have hal : ∀ wx : World, Below wx.heap.size wx (wx.alloc o) := fun wx => (Below.refl _ _).alloc (Nat.le_refl _) _
  have hm := h.m.keep (k2.block _ h.m.ltb (by simp)) (k2.block _ h.m.ltg (by simpa using h.gx))
  have hb := grown_below h.b k2 (by omega) (by omega)
  exact ⟨hm.below (Nat.le_refl _) (hal _), (hl.box h.x k2).below (hal _), (Below.heap_alloc _ _ _ (by rw [k3]; exact hlt)).trans k1, Below.on hb (hal _)⟩
end Both
/-- behind the program's own store, or growing -/
theorem both_mk {w w1 w2 : World} {K P P' : Nat} {PI : Int} {zs zs' : List Int} {g g' capm capm' : Nat} {ad : Option Addr} {n cap : Nat}
    (h : MemAt w1 (w.heap.size + 1) g (P * 4096) capm K zs ∧ LRow w1 w.heap.size (.slice ad n cap) (nz zs' 0) ∧ w1.heap[w.heap.size + 2]? = some (.cells #[.int .i64 PI, .int .i64 K, .slice ad n cap] 31 (0, 0)) ∧ Below w.heap.size w w1)
    (hPI : (P' : Int) = PI) (sg : w.heap.size ≤ g) (hm2 : MemAt w2 (w.heap.size + 1) g' (P' * 4096) capm' K zs') (ho : Oth (w.heap.size + 1) g w1 w2) (sg' : g' = g ∨ w1.heap.size ≤ g') (pk : P' ≤ K) : Both w w2 K P' zs' g' capm' ad n cap := by
  obtain ⟨hm, hl, hx, hb⟩ := h
  have hs := hb.size
  subst hPI
  refine ⟨pk, hm2, by omega, hl.oth hm ho, ?_, hb.trans (ho.below hs (by omega) sg)⟩
  rw [ho.block _ (Array.getElem?_eq_some_iff.1 hx).1 (by omega) ?_]
  · exact hx
  · rintro e
    obtain ⟨cur, hc, _⟩ := hm.row
    rw [← e] at hc
    have := hx.symm.trans hc
    simp at this
theorem both_same {w w1 : World} {K P : Nat} {zs : List Int} {g capm : Nat} {ad : Option Addr} {n cap : Nat}
    (h : MemAt w1 (w.heap.size + 1) g (P * 4096) capm K zs ∧ LRow w1 w.heap.size (.slice ad n cap) (nz zs 0) ∧ w1.heap[w.heap.size + 2]? = some (.cells #[.int .i64 P, .int .i64 K, .slice ad n cap] 31 (0, 0)) ∧ Below w.heap.size w w1)
    (sg : w.heap.size ≤ g) (pk : P ≤ K) : Both w w1 K P zs g capm ad n cap := ⟨pk, h.1, sg, h.2.1, h.2.2.1, h.2.2.2⟩
theorem nz_grown (zs : List Int) (m : Nat) : nz (zs ++ List.replicate m 0) 0 = nz zs 0 := by rw [nz_app, nz_zero, List.append_nil]

theorem pages_q {w : World} {b g P cap : Nat} {most : Int} {zs : List Int} (hm : MemAt w b g (P * 4096) cap most zs) (PI : Int) (h : (P : Int) = PI) :
    ∀ m, Calls Try.prog 14 #[.pointer (some ⟨b, 0, none⟩)] (w.drewN m) fun e w' => e = .returned (.int .i64 PI) ∧ w' = w.drewN m := fun m =>
  (pages_any (hm.keep (w' := w.drewN m) rfl rfl)).mono fun e w' ⟨h1, h2⟩ => ⟨by rw [h1, show P * 4096 / 4096 = P from by omega, h], h2.symm⟩

def RunRel (w : World) (K ll : Nat) (i : Value) (wr : World) : Prop :=
  ∃ (j P : Nat) (zs : List Int) (g capm : Nat) (ad : Option Addr) (n cap : Nat), j ≤ ll ∧ j ≤ 40 ∧ i = .int .i64 j ∧ Both w wr K P zs g capm ad n cap
end Go.Proofs.Ytdeblcbdapggnaa
