/- Code of virtual registers: plain, and in memory; what stays of it. -/
import Derived.Test.YtpecnljcgiicaaaDoorOpG
import Derived.Deep.OwnRows
import Derived.Deep.AppendLies
import Derived.Deep.QuietTactic
import Derived.BigQuiet
namespace Go.Proofs.YtpecnljcgiicaaaDoor
open Go.RowKit
namespace Vc
set_option linter.unusedVariables false

structure In where
  op : Nat
  dst : Int
  src : List Int
  n : Int
  of : Int
structure Bl where
  ins : List In
  next : List Int
  dep : Int
structure Co where
  pa : Int
  re : Int
  rs : Bool
  bl : List Bl

/-- a slice of so many, in a block that g lets -/
def Lies (g : Nat → Prop) (len : Nat) (P : Nat → Nat → Prop) (v : Value) : Prop :=
  ∃ a cap, v = .slice a len cap ∧ len ≤ cap ∧ (a = none → cap = 0) ∧ (0 < len → ∃ b o, a = some ⟨b, o, none⟩ ∧ g b ∧ P b o)
theorem Lies.move {g g' : Nat → Prop} {len : Nat} {P Q : Nat → Nat → Prop} {v : Value} (h : Lies g len P v) (hpq : 0 < len → ∀ b o, g b → P b o → g' b ∧ Q b o) : Lies g' len Q v := by
  obtain ⟨a, cap, h1, h2, h3, h4⟩ := h
  refine ⟨a, cap, h1, h2, h3, fun hl => ?_⟩
  obtain ⟨b, o, e, hb, hp⟩ := h4 hl
  exact ⟨b, o, e, hpq hl b o hb hp⟩
/-- numbers at a place -/
def Nums (w : World) (zs : List Int) (b o : Nat) : Prop := ∀ j, j < zs.length → w.cell? ⟨b, o + j, none⟩ = some (.int .i64 (zs.getD j 0))
def NumsL (w : World) (g : Nat → Prop) (zs : List Int) (v : Value) : Prop := Lies g zs.length (Nums w zs) v
/-- from one world to another: what g lets stays -/
def Mv (w w' : World) (g g' : Nat → Prop) : Prop := ∀ k, k < w.heap.size → g k → g' k ∧ w'.heap[k]? = w.heap[k]?
theorem Mv.below {w w' : World} {g g' : Nat → Prop} (hb : Below w.heap.size w w') (hg : ∀ k, k < w.heap.size → g k → g' k) : Mv w w' g g' := fun k hk h => ⟨hg k hk h, hb.block k hk⟩
theorem Nums.lt {w : World} {zs : List Int} {b o : Nat} (h : Nums w zs b o) (hl : 0 < zs.length) : b < w.heap.size := World.block_lt_of_cell? w _ (h 0 hl)
theorem NumsL.moved {w w' : World} {g g' : Nat → Prop} (hm : Mv w w' g g') {zs : List Int} {v : Value} (h : NumsL w g zs v) : NumsL w' g' zs v :=
  Lies.move h fun hl b o hg hp => have q := hm b (hp.lt hl) hg; ⟨q.1, fun j hj => (World.cell?_of_block (a := ⟨b, o + j, none⟩) q.2).trans (hp j hj)⟩
/-- a list whose items have c cells each -/
def LL {α : Type} (It : World → (Nat → Prop) → α → List Value → Prop) (c : Nat) (w : World) (g : Nat → Prop) (l : List α) (v : Value) : Prop :=
  Lies g l.length (fun b o => b < w.heap.size ∧ ∀ i x, l[i]? = some x → ∃ cs, cs.length = c ∧ It w g x cs ∧ ∀ j u, cs[j]? = some u → w.cell? ⟨b, o + i * c + j, none⟩ = some u) v
theorem LL.moved {α : Type} {It : World → (Nat → Prop) → α → List Value → Prop} {c : Nat} {w w' : World} {g g' : Nat → Prop} (hm : Mv w w' g g') (hs : w.heap.size ≤ w'.heap.size) (hI : ∀ x cs, It w g x cs → It w' g' x cs) {l : List α} {v : Value} (h : LL It c w g l v) : LL It c w' g' l v :=
  Lies.move h fun hl b o hg hp => by
    have q := hm b hp.1 hg
    refine ⟨q.1, Nat.lt_of_lt_of_le hp.1 hs, fun i x hi => ?_⟩
    obtain ⟨cs, h1, h2, h3⟩ := hp.2 i x hi
    exact ⟨cs, h1, hI _ _ h2, fun j u hu => (World.cell?_of_block (a := ⟨b, o + i * c + j, none⟩) q.2).trans (h3 j u hu)⟩
theorem LL_nil {α : Type} (It : World → (Nat → Prop) → α → List Value → Prop) (c : Nat) (w : World) (g : Nat → Prop) : LL It c w g [] (.slice none 0 0) := ⟨none, 0, rfl, Nat.le_refl _, fun _ => rfl, fun h => absurd h (by simp)⟩

/-- an instruction's five cells, a block's three -/
def InC (w : World) (g : Nat → Prop) (x : In) (cs : List Value) : Prop := ∃ v, cs = [.int .u8 (x.op : Int), .int .i64 x.dst, v, .int .i64 x.n, .int .u32 x.of] ∧ NumsL w g x.src v
def BlC (w : World) (g : Nat → Prop) (x : Bl) (cs : List Value) : Prop := ∃ v v', cs = [v, v', .int .i64 x.dep] ∧ LL InC 5 w g x.ins v ∧ NumsL w g x.next v'
theorem InC.moved {w w' : World} {g g' : Nat → Prop} (hm : Mv w w' g g') {x : In} {cs : List Value} (h : InC w g x cs) : InC w' g' x cs := by
  obtain ⟨v, e, h1⟩ := h
  exact ⟨v, e, h1.moved hm⟩
theorem BlC.moved {w w' : World} {g g' : Nat → Prop} (hm : Mv w w' g g') (hs : w.heap.size ≤ w'.heap.size) {x : Bl} {cs : List Value} (h : BlC w g x cs) : BlC w' g' x cs := by
  obtain ⟨v, v', e, h1, h2⟩ := h
  exact ⟨v, v', e, h1.moved hm hs (fun _ _ q => q.moved hm), h2.moved hm⟩
/-- the blocks of code -/
def Bls (w : World) (g : Nat → Prop) (l : List Bl) (v : Value) : Prop := LL BlC 3 w g l v
theorem Bls.moved {w w' : World} {g g' : Nat → Prop} (hm : Mv w w' g g') (hs : w.heap.size ≤ w'.heap.size) {l : List Bl} {v : Value} (h : Bls w g l v) : Bls w' g' l v := LL.moved hm hs (fun _ _ q => q.moved hm hs) h
theorem Bls.below {w w' : World} {g : Nat → Prop} (hb : Below w.heap.size w w') {l : List Bl} {v : Value} (h : Bls w g l v) : Bls w' g l v := h.moved (Mv.below hb fun _ _ h => h) hb.size
theorem Inss.below {w w' : World} {g : Nat → Prop} (hb : Below w.heap.size w w') {l : List In} {v : Value} (h : LL InC 5 w g l v) : LL InC 5 w' g l v := h.moved (Mv.below hb fun _ _ h => h) hb.size (fun _ _ q => q.moved (Mv.below hb fun _ _ h => h))
theorem NumsL.below {w w' : World} {g : Nat → Prop} (hb : Below w.heap.size w w') {l : List Int} {v : Value} (h : NumsL w g l v) : NumsL w' g l v := h.moved (Mv.below hb fun _ _ h => h)
/-- an instruction as a value -/
def inV (x : In) (v : Value) : Value := .agg #[.int .u8 (x.op : Int), .int .i64 x.dst, v, .int .i64 x.n, .int .u32 x.of]
def blV (x : Bl) (v v' : Value) : Value := .agg #[v, v', .int .i64 x.dep]
def coV (c : Co) (v : Value) : Value := .agg #[.int .i64 c.pa, .int .i64 c.re, .bool c.rs, v]
/-- numbers that a machine's are -/
def i64 (z : Int) : Prop := -9223372036854775808 ≤ z ∧ z ≤ 9223372036854775807
structure WfI (x : In) : Prop where
  op : x.op < 256
  dst : i64 x.dst
  src : ∀ z ∈ x.src, i64 z
  n : i64 x.n
  of0 : 0 ≤ x.of
  of1 : x.of ≤ 4294967295
  len : x.src.length ≤ 1099511627776
structure WfB (x : Bl) : Prop where
  ins : ∀ y ∈ x.ins, WfI y
  next : ∀ z ∈ x.next, i64 z
  dep : i64 x.dep
  len : x.ins.length ≤ 1099511627776
  nlen : x.next.length ≤ 1099511627776
structure WfC (c : Co) : Prop where
  pa : i64 c.pa
  re : i64 c.re
  bl : ∀ b ∈ c.bl, WfB b
  len : c.bl.length ≤ 1099511627776
theorem one_alloc (w : World) (o : Obj) : Below w.heap.size w (w.alloc o) := (Below.refl _ _).alloc (Nat.le_refl _) _
theorem two_allocs (w : World) (o p : Obj) : Below w.heap.size w ((w.alloc o).alloc p) := ((Below.refl _ _).alloc (Nat.le_refl _) _).alloc (by simp) _
theorem drewn (w : World) (k : Nat) : Below w.heap.size w (w.drewN k) := ⟨rfl, rfl, rfl, Nat.le_refl _, fun _ _ => rfl⟩
end Vc
end Go.Proofs.YtpecnljcgiicaaaDoor
