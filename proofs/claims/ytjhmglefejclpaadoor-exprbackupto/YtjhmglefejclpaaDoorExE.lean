/- expr.Decode. -/
import Derived.Test.YtjhmglefejclpaaDoorExK
namespace Go.Proofs.YtjhmglefejclpaaDoor
open Go.RowKit
namespace Ex
set_option linter.unusedVariables false

/-- a row of bytes as a slice -/
structure Bs (w : World) (a : Option Addr) (len cap : Nat) (zs : List Int) : Prop where
  row : Row w a len zs
  nil : a = none → cap = 0
  le : len ≤ cap
  len : len ≤ 1099511627776
theorem Bs.below {w w' : World} {a : Option Addr} {len cap : Nat} {zs : List Int} (h : Bs w a len cap zs) (hb : Below w.heap.size w w') : Bs w' a len cap zs := ⟨h.row.below (Nat.le_refl _) hb, h.nil, h.le, h.len⟩
theorem rd_new {w : World} {a : Option Addr} {len cap : Nat} {zs : List Int} (h : Bs w a len cap zs) :
    Rd (w.alloc (.cells #[.slice a len cap, .int .i64 0, .int .i64 0, .nilIface] 76)) w.heap.size a len cap zs 0 0 0 := by
  have hb := one_alloc w (.cells #[.slice a len cap, .int .i64 0, .int .i64 0, .nilIface] 76)
  refine ⟨?_, h.row.below (Nat.le_refl _) hb, fun b o e hl => ?_, h.nil, h.le, by omega, h.len, by omega⟩
  · rw [heap_alloc_new, errV_0]; rfl
  · obtain ⟨b', o', e', hlt, _⟩ := h.row.2.2 hl
    rw [e] at e'; simp at e'; omega
theorem Tn.below {w w1 w2 : World} (h1 : Below w.heap.size w w1) (h2 : Tn w.heap.size w1 w2) : Below w.heap.size w w2 :=
  ⟨h2.os.trans h1.os, h2.tape.trans h1.tape, h2.output.trans h1.output, Nat.le_trans h1.size h2.size, fun k hk => (h2.block k (Nat.lt_of_lt_of_le hk h1.size) (fun e => by cases e; omega)).trans (h1.block k hk)⟩
theorem ret3v {v u : Value} {a b : Int} {x y : Value} (h0 : v = u) (h : a = b) (h2 : x = y) : Ending.returned (.tuple #[v, .int .i64 a, x]) = .returned (.tuple #[u, .int .i64 b, y]) := by rw [h0, h, h2]
def DecPost (w : World) (R : Out (List Ins × Int)) (e : Ending) (w' : World) : Prop :=
  ∃ v, e = .returned (.tuple #[v, .int .i64 R.at_, errV R.e]) ∧ IsSl v ∧ Below w.heap.size w w' ∧ (R.e = 0 → Code w' (w.heap.size ≤ ·) R.v.1 v) ∧ (¬ R.e = 0 → v = .slice none 0 0)
set_option maxRecDepth 100000 in
set_option maxHeartbeats 1600000 in
theorem decode_any {a : Option Addr} {len cap : Nat} {zs : List Int} {w : World} (h : Bs w a len cap zs) (hT : Tb w) :
    Calls Tryd.prog 21 #[.slice a len cap] w (DecPost w (D zs 0 0 0 false)) := by
  have hr := rd_new h
  have hb := one_alloc w (.cells #[.slice a len cap, .int .i64 0, .int .i64 0, .nilIface] 76)
  have hl := list_any (len + 1) w.heap.size len cap 0 0 0 a zs false _ hr (hT.below hb) (by omega) (by omega)
  generalize D zs 0 0 0 false = R at *
  have HL := hide hl; have HB := hide hb
  clear hl hr hT h
  go_enter Tryd.func21, Tryd.ntmps21
  go_wp2_with fail
  refine (unhide HL).mono ?_
  rintro e w1 ⟨v, c, rfl, ⟨va, vl, vc, rfl⟩, hr1, ht1, ok, _⟩
  have hbel := Tn.below hb ht1
  have c1 := hr1.c1; have c3 := hr1.c3
  have hz : w.heap.size < w1.heap.size := hr1.lt
  have HBel := hide hbel; have HOk := hide ok
  clear hbel ok hr1 ht1 hb HB HL
  by_cases he : R.e = 0
  · rw [he, errV_0] at c3
    have HE := hide he; clear he
    go_wp2_with fail
    go_quiet (fail)
    go_wp2
    go_ret3
    refine ⟨.slice va vl vc, ?_, ⟨_, _, _, rfl⟩, Below.on (unhide HBel) (Below.drewn _ _), fun _ => ?_, fun e => absurd (unhide HE) e⟩
    · rw [unhide HE, errV_0]; rfl
    · exact ((unhide HOk (unhide HE)).2.below (Below.drewn _ _)).any fun q hq hg => by have := hg; simp at this; omega
  · rw [errV_pos he] at c3
    have HE := hide he; clear he
    go_wp2_with fail
    go_quiet (fail)
    go_wp2
    go_ret3
    refine ⟨.slice none 0 0, ?_, ⟨_, _, _, rfl⟩, Below.on (unhide HBel) (Below.drewn _ _), fun e => absurd e (unhide HE), fun _ => rfl⟩
    rw [errV_pos (unhide HE)]; rfl
end Ex
end Go.Proofs.YtjhmglefejclpaaDoor
