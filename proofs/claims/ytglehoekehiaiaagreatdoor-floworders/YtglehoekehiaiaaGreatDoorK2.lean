/- K2: what follows, part by part: each part tells what it holds. -/
import Derived.Test.YtglehoekehiaiaaGreatDoorK1
import Derived.Deep.OwnRows
import Derived.Deep.AppendLies
import Derived.Deep.QuietTactic
import Derived.BigQuiet
import Derived.Lib.SliceRun
namespace Go.Proofs.YtglehoekehiaiaaGreatDoor
open Go.RowKit
set_option linter.unusedVariables false
set_option linter.unusedSimpArgs false
set_option maxRecDepth 100000
set_option maxHeartbeats 32000000
namespace Vc
/- Code of virtual registers: plain, and in memory; what stays of it. -/
structure In where
  op : Nat
  dst : Int
  src : List Int
  n : Int
  of : Int
structure Bl where
  ins : List In
  next : List Int
  dep : Int
structure Co where
  pa : Int
  re : Int
  rs : Bool
  bl : List Bl
/-- a slice of so many, in a block that g lets -/
def Lies (g : Nat → Prop) (len : Nat) (P : Nat → Nat → Prop) (v : Value) : Prop :=
  ∃ a cap, v = .slice a len cap ∧ len ≤ cap ∧ (a = none → cap = 0) ∧ (0 < len → ∃ b o, a = some ⟨b, o, none⟩ ∧ g b ∧ P b o)
theorem Lies.move {g g' : Nat → Prop} {len : Nat} {P Q : Nat → Nat → Prop} {v : Value} (h : Lies g len P v) (hpq : 0 < len → ∀ b o, g b → P b o → g' b ∧ Q b o) : Lies g' len Q v := by
  obtain ⟨a, cap, h1, h2, h3, h4⟩ := h
  refine ⟨a, cap, h1, h2, h3, fun hl => ?_⟩
  obtain ⟨b, o, e, hb, hp⟩ := h4 hl
  exact ⟨b, o, e, hpq hl b o hb hp⟩
/-- numbers at a place -/
def Nums (w : World) (zs : List Int) (b o : Nat) : Prop := ∀ j, j < zs.length → w.cell? ⟨b, o + j, none⟩ = some (.int .i64 (zs.getD j 0))
def NumsL (w : World) (g : Nat → Prop) (zs : List Int) (v : Value) : Prop := Lies g zs.length (Nums w zs) v
/-- from one world to another: what g lets stays -/
def Mv (w w' : World) (g g' : Nat → Prop) : Prop := ∀ k, k < w.heap.size → g k → g' k ∧ w'.heap[k]? = w.heap[k]?
theorem Mv.below {w w' : World} {g g' : Nat → Prop} (hb : Below w.heap.size w w') (hg : ∀ k, k < w.heap.size → g k → g' k) : Mv w w' g g' := fun k hk h => ⟨hg k hk h, hb.block k hk⟩
theorem Nums.lt {w : World} {zs : List Int} {b o : Nat} (h : Nums w zs b o) (hl : 0 < zs.length) : b < w.heap.size := World.block_lt_of_cell? w _ (h 0 hl)
theorem NumsL.moved {w w' : World} {g g' : Nat → Prop} (hm : Mv w w' g g') {zs : List Int} {v : Value} (h : NumsL w g zs v) : NumsL w' g' zs v :=
  Lies.move h fun hl b o hg hp => have q := hm b (hp.lt hl) hg; ⟨q.1, fun j hj => (World.cell?_of_block (a := ⟨b, o + j, none⟩) q.2).trans (hp j hj)⟩
/-- a list whose items have c cells each -/
def LL {α : Type} (It : World → (Nat → Prop) → α → List Value → Prop) (c : Nat) (w : World) (g : Nat → Prop) (l : List α) (v : Value) : Prop :=
  Lies g l.length (fun b o => b < w.heap.size ∧ ∀ i x, l[i]? = some x → ∃ cs, cs.length = c ∧ It w g x cs ∧ ∀ j u, cs[j]? = some u → w.cell? ⟨b, o + i * c + j, none⟩ = some u) v
theorem LL.moved {α : Type} {It : World → (Nat → Prop) → α → List Value → Prop} {c : Nat} {w w' : World} {g g' : Nat → Prop} (hm : Mv w w' g g') (hs : w.heap.size ≤ w'.heap.size) (hI : ∀ x cs, It w g x cs → It w' g' x cs) {l : List α} {v : Value} (h : LL It c w g l v) : LL It c w' g' l v :=
  Lies.move h fun hl b o hg hp => by
    have q := hm b hp.1 hg
    refine ⟨q.1, Nat.lt_of_lt_of_le hp.1 hs, fun i x hi => ?_⟩
    obtain ⟨cs, h1, h2, h3⟩ := hp.2 i x hi
    exact ⟨cs, h1, hI _ _ h2, fun j u hu => (World.cell?_of_block (a := ⟨b, o + i * c + j, none⟩) q.2).trans (h3 j u hu)⟩
theorem LL_nil {α : Type} (It : World → (Nat → Prop) → α → List Value → Prop) (c : Nat) (w : World) (g : Nat → Prop) : LL It c w g [] (.slice none 0 0) := ⟨none, 0, rfl, Nat.le_refl _, fun _ => rfl, fun h => absurd h (by simp)⟩
/-- an instruction's five cells, a block's three -/
def InC (w : World) (g : Nat → Prop) (x : In) (cs : List Value) : Prop := ∃ v, cs = [.int .u8 (x.op : Int), .int .i64 x.dst, v, .int .i64 x.n, .int .u32 x.of] ∧ NumsL w g x.src v
def BlC (w : World) (g : Nat → Prop) (x : Bl) (cs : List Value) : Prop := ∃ v v', cs = [v, v', .int .i64 x.dep] ∧ LL InC 5 w g x.ins v ∧ NumsL w g x.next v'
theorem InC.moved {w w' : World} {g g' : Nat → Prop} (hm : Mv w w' g g') {x : In} {cs : List Value} (h : InC w g x cs) : InC w' g' x cs := by
  obtain ⟨v, e, h1⟩ := h
  exact ⟨v, e, h1.moved hm⟩
theorem BlC.moved {w w' : World} {g g' : Nat → Prop} (hm : Mv w w' g g') (hs : w.heap.size ≤ w'.heap.size) {x : Bl} {cs : List Value} (h : BlC w g x cs) : BlC w' g' x cs := by
  obtain ⟨v, v', e, h1, h2⟩ := h
  exact ⟨v, v', e, h1.moved hm hs (fun _ _ q => q.moved hm), h2.moved hm⟩
/-- the blocks of code -/
def Bls (w : World) (g : Nat → Prop) (l : List Bl) (v : Value) : Prop := LL BlC 3 w g l v
theorem Bls.moved {w w' : World} {g g' : Nat → Prop} (hm : Mv w w' g g') (hs : w.heap.size ≤ w'.heap.size) {l : List Bl} {v : Value} (h : Bls w g l v) : Bls w' g' l v := LL.moved hm hs (fun _ _ q => q.moved hm hs) h
theorem Bls.below {w w' : World} {g : Nat → Prop} (hb : Below w.heap.size w w') {l : List Bl} {v : Value} (h : Bls w g l v) : Bls w' g l v := h.moved (Mv.below hb fun _ _ h => h) hb.size
theorem Inss.below {w w' : World} {g : Nat → Prop} (hb : Below w.heap.size w w') {l : List In} {v : Value} (h : LL InC 5 w g l v) : LL InC 5 w' g l v := h.moved (Mv.below hb fun _ _ h => h) hb.size (fun _ _ q => q.moved (Mv.below hb fun _ _ h => h))
theorem NumsL.below {w w' : World} {g : Nat → Prop} (hb : Below w.heap.size w w') {l : List Int} {v : Value} (h : NumsL w g l v) : NumsL w' g l v := h.moved (Mv.below hb fun _ _ h => h)
/-- an instruction as a value -/
def inV (x : In) (v : Value) : Value := .agg #[.int .u8 (x.op : Int), .int .i64 x.dst, v, .int .i64 x.n, .int .u32 x.of]
/-- numbers that a machine's are -/
def i64 (z : Int) : Prop := -9223372036854775808 ≤ z ∧ z ≤ 9223372036854775807
structure WfI (x : In) : Prop where
  op : x.op < 256
  dst : i64 x.dst
  src : ∀ z ∈ x.src, i64 z
  n : i64 x.n
  of0 : 0 ≤ x.of
  of1 : x.of ≤ 4294967295
  len : x.src.length ≤ 1099511627776
structure WfB (x : Bl) : Prop where
  ins : ∀ y ∈ x.ins, WfI y
  next : ∀ z ∈ x.next, i64 z
  dep : i64 x.dep
  len : x.ins.length ≤ 1099511627776
  nlen : x.next.length ≤ 1099511627776
structure WfC (c : Co) : Prop where
  pa : i64 c.pa
  re : i64 c.re
  bl : ∀ b ∈ c.bl, WfB b
  len : c.bl.length ≤ 1099511627776
theorem one_alloc (w : World) (o : Obj) : Below w.heap.size w (w.alloc o) := (Below.refl _ _).alloc (Nat.le_refl _) _
theorem two_allocs (w : World) (o p : Obj) : Below w.heap.size w ((w.alloc o).alloc p) := ((Below.refl _ _).alloc (Nat.le_refl _) _).alloc (by simp) _
theorem drewn (w : World) (k : Nat) : Below w.heap.size w (w.drewN k) := ⟨rfl, rfl, rfl, Nat.le_refl _, fun _ _ => rfl⟩
/- Lists of the call's own whose items have cells of their own. -/
/-- cells of a list that is being made -/
def Its {α : Type} (It : α → List Value → Prop) (c : Nat) (l : List α) (xs : List Value) : Prop :=
  xs.length = l.length * c ∧ ∀ i x, l[i]? = some x → ∃ cs, cs.length = c ∧ It x cs ∧ ∀ j, j < c → xs[i * c + j]? = cs[j]?
theorem Its.nil {α : Type} (It : α → List Value → Prop) (c : Nat) : Its It c [] [] := ⟨by simp, fun i x h => by simp at h⟩
theorem Its.snoc {α : Type} {It : α → List Value → Prop} {c : Nat} {l : List α} {xs : List Value} {x : α} {cs : List Value} (h : Its It c l xs) (hx : It x cs) (hc : cs.length = c) : Its It c (l ++ [x]) (xs ++ cs) := by
  refine ⟨by rw [List.length_append, h.1, hc, List.length_append, Nat.add_mul]; simp, fun i y hy => ?_⟩
  by_cases e : i < l.length
  · rw [List.getElem?_append_left e] at hy
    obtain ⟨ds, h1, h2, h3⟩ := h.2 i y hy
    refine ⟨ds, h1, h2, fun j hj => ?_⟩
    rw [List.getElem?_append_left (by rw [h.1]; have : (i + 1) * c ≤ l.length * c := Nat.mul_le_mul_right _ e; rw [Nat.add_mul] at this; omega)]
    exact h3 j hj
  · have hi : i = l.length := by
      have := (List.getElem?_eq_some_iff.1 hy).1; simp at this; omega
    subst hi
    rw [List.getElem?_append_right (Nat.le_refl _)] at hy
    simp at hy
    subst hy
    refine ⟨cs, hc, hx, fun j hj => ?_⟩
    rw [List.getElem?_append_right (by rw [h.1]; omega), h.1]
    congr 1; omega
theorem Its.mono {α : Type} {It It' : α → List Value → Prop} {c : Nat} {l : List α} {xs : List Value} (hI : ∀ x cs, It x cs → It' x cs) (h : Its It c l xs) : Its It' c l xs :=
  ⟨h.1, fun i x hx => by obtain ⟨cs, h1, h2, h3⟩ := h.2 i x hx; exact ⟨cs, h1, hI _ _ h2, h3⟩⟩
def own (G : Nat → Prop) (v : Value) (k : Nat) : Prop := v.ownBlock ≠ some k ∧ G k
def OwnL {α : Type} (It : World → (Nat → Prop) → α → List Value → Prop) (c : Nat) (T : TypeId) (w : World) (B : Nat) (G : Nat → Prop) (v : Value) (l : List α) : Prop := ∃ xs, w.ownsRow B T c v l.length xs ∧ Its (It w (own G v)) c l xs
theorem row_cells {w : World} {B e size n cap g : Nat} {xs : List Value} (h : w.ownsRow B e size (.slice (some ⟨g, 0, none⟩) n cap) n xs) : ∀ j u, xs[j]? = some u → w.cell? ⟨g, j, none⟩ = some u := by
  intro j u hj
  rcases h.2 with ⟨h1, _⟩ | ⟨g', cap', cur, h1, _, hc, _, _, _, ht⟩
  · simp at h1
  · simp at h1
    obtain ⟨rfl, rfl⟩ := h1
    rw [cell_of_row w g j cur e _ hc]
    rw [← ht, List.getElem?_take] at hj
    split at hj
    · rw [← Array.getElem?_toList]; exact hj
    · cases hj
theorem ownsRow_below {w w' : World} {B : Nat} {e : TypeId} {size : Nat} {v : Value} {n : Nat} {xs : List Value} (h : w.ownsRow B e size v n xs) (hb : Below w.heap.size w w') : w'.ownsRow B e size v n xs := by
  refine ⟨h.1, ?_⟩
  rcases h.2 with h0 | ⟨g, cap, cur, rfl, hg, hc, h5⟩
  · exact .inl h0
  · exact .inr ⟨g, cap, cur, rfl, hg, (hb.block g (Array.getElem?_eq_some_iff.1 hc).1).trans hc, h5⟩
theorem OwnL.made {α : Type} {It : World → (Nat → Prop) → α → List Value → Prop} {c : Nat} {T : TypeId} {w : World} {B : Nat} {G g : Nat → Prop} {v : Value} {l : List α} (h : OwnL It c T w B G v l) (hI : ∀ x cs, It w (own G v) x cs → It w g x cs) (hg : ∀ k, B ≤ k → k < w.heap.size → g k) : LL It c w g l v := by
  obtain ⟨xs, ho, hi⟩ := h
  have ho0 := ho
  rcases ho.2 with ⟨rfl, h0⟩ | ⟨gg, cap, cur, rfl, hB, hh, hc, _⟩
  · obtain rfl : l = [] := List.eq_nil_of_length_eq_zero h0
    exact LL_nil _ _ _ _
  · have hlt := (Array.getElem?_eq_some_iff.1 hh).1
    refine ⟨_, cap, rfl, hc, by simp, fun hl => ⟨gg, 0, rfl, hg gg hB hlt, hlt, fun i x hx => ?_⟩⟩
    obtain ⟨cs, h1, h2, h3⟩ := hi.2 i x hx
    refine ⟨cs, h1, hI _ _ h2, fun j u hu => ?_⟩
    have hj : j < c := by have := (List.getElem?_eq_some_iff.1 hu).1; omega
    rw [Nat.zero_add]
    exact row_cells ho0 _ u (by rw [h3 j hj]; exact hu)
theorem OwnL.shape {α : Type} {It : World → (Nat → Prop) → α → List Value → Prop} {c : Nat} {T : TypeId} {w : World} {B : Nat} {G : Nat → Prop} {v : Value} {l : List α} (h : OwnL It c T w B G v l) : ∃ a cap, v = .slice a l.length cap := by
  obtain ⟨xs, ho, hi⟩ := h
  exact own_slice ho
theorem OwnL.lt {α : Type} {It : World → (Nat → Prop) → α → List Value → Prop} {c : Nat} {T : TypeId} {w : World} {B : Nat} {G : Nat → Prop} {v : Value} {l : List α} (h : OwnL It c T w B G v l) : ∀ k, v.ownBlock = some k → B ≤ k ∧ k < w.heap.size := by
  obtain ⟨xs, ho, hi⟩ := h
  exact ho.lt
theorem OwnL.blk {α : Type} {It : World → (Nat → Prop) → α → List Value → Prop} {c : Nat} {T : TypeId} {w : World} {B : Nat} {G : Nat → Prop} {v : Value} {l : List α} (h : OwnL It c T w B G v l) : ∀ k, v.ownBlock = some k → ∃ cur, w.heap[k]? = some (.cells cur T (0, 0)) := by
  obtain ⟨xs, ho, hi⟩ := h
  intro k hk
  rcases ho.2 with ⟨rfl, h0⟩ | ⟨g, cap, cur, rfl, hg, hc, hn, h5⟩
  · cases hk
  · cases hk; exact ⟨cur, hc⟩
/-- behind what turns none of it -/
theorem OwnL.move {α : Type} {It : World → (Nat → Prop) → α → List Value → Prop} {c : Nat} {T : TypeId} {w w' : World} {B : Nat} {G G' : Nat → Prop} {v : Value} {l : List α} (h : OwnL It c T w B G v l) (ho : ∀ k, v.ownBlock = some k → w'.heap[k]? = w.heap[k]?) (hI : ∀ x cs, It w (own G v) x cs → It w' (own G' v) x cs) : OwnL It c T w' B G' v l := by
  obtain ⟨xs, hx, hi⟩ := h
  refine ⟨xs, ⟨hx.1, ?_⟩, hi.mono hI⟩
  rcases hx.2 with h0 | ⟨g, cap, cur, rfl, hg, hc, hn, h5⟩
  · exact .inl h0
  · exact .inr ⟨g, cap, cur, rfl, hg, (ho g rfl).trans hc, hn, h5⟩
theorem OwnL_nil {α : Type} (It : World → (Nat → Prop) → α → List Value → Prop) (c : Nat) (T : TypeId) (w : World) (B : Nat) (G : Nat → Prop) : OwnL It c T w B G (.slice none 0 0) [] := ⟨[], World.ownsRow_nil _ _ _ _, Its.nil _ _⟩
/-- one more -/
theorem OwnL.snoc {α : Type} {It : World → (Nat → Prop) → α → List Value → Prop} {c : Nat} {T : TypeId} {w w1 : World} {B : Nat} {G : Nat → Prop} {v : Value} {l : List α} {xs cs : List Value} {x : α} {g cap : Nat}
    (hm : ∀ x cs, It w (own G v) x cs → Mv w w1 (own G v) (own G (.slice (some ⟨g, 0, none⟩) (l.length + 1) cap)) → It w1 (own G (.slice (some ⟨g, 0, none⟩) (l.length + 1) cap)) x cs)
    (hi : Its (It w (own G v)) c l xs) (hx : It w (own G v) x cs) (hc : cs.length = c)
    (hown : w1.ownsRow B T c (.slice (some ⟨g, 0, none⟩) (l.length + 1) cap) (l.length + 1) (xs ++ cs)) (hgrow : w.grownBy w1 v.ownBlock) (hat : v.ownBlock = some g ∨ g = w.heap.size) :
    OwnL It c T w1 B G (.slice (some ⟨g, 0, none⟩) (l.length + 1) cap) (l ++ [x]) := by
  have hmv : Mv w w1 (own G v) (own G (.slice (some ⟨g, 0, none⟩) (l.length + 1) cap)) := by
    intro k hk hne
    have hk2 : some k ≠ v.ownBlock := fun e => hne.1 e.symm
    refine ⟨⟨?_, hne.2⟩, hgrow.block k hk hk2⟩
    intro e
    simp only [Value.ownBlock, Option.some.injEq] at e
    subst e
    rcases hat with e | e
    · exact hk2 e.symm
    · omega
  exact ⟨xs ++ cs, by simpa using hown, (hi.mono fun x cs h => hm x cs h hmv).snoc (hm x cs hx hmv) hc⟩
theorem infoIn : (Tryz.prog.info? 53).map (fun i => (i.zero, i.size, i.bytes)) = some (some (.agg #[.int .u8 0, .int .i64 0, .slice none 0 0, .int .i64 0, .int .u32 0]), 5, 56) := by kernel_rfl
theorem infoBl : (Tryz.prog.info? 56).map (fun i => (i.zero, i.size, i.bytes)) = some (some (.agg #[.slice none 0 0, .slice none 0 0, .int .i64 0]), 3, 56) := by kernel_rfl
def inC (x : In) (v : Value) : List Value := [.int .u8 (x.op : Int), .int .i64 x.dst, v, .int .i64 x.n, .int .u32 x.of]
def blC (d : Int) (v v' : Value) : List Value := [v, v', .int .i64 d]
theorem new_row (w : World) (l : List Value) (t : TypeId) : ∀ j u, l[j]? = some u → (w.alloc (.cells l.toArray t)).cell? ((⟨w.heap.size, 0, none⟩ : Addr).add j) = some u := by
  intro j u hj
  rw [Addr.add_lit, Nat.zero_add, cell_of_row _ _ j _ _ _ (heap_alloc_new w (.cells l.toArray t))]
  simpa using hj
/- slices.Clone of numbers, instructions, blocks. By mkvclone.py. -/
/-- what Clone gives: a row of the call's own that has the same cells -/
def CloP (w w' : World) (T : TypeId) (c n : Nat) (xs : List Value) (v : Value) : Prop :=
  (n = 0 ∧ w'.ownsRow w.heap.size T c v 0 []) ∨ (0 < n ∧ ∃ g cap, v = .slice (some ⟨g, 0, none⟩) n cap ∧ w'.ownsRow w.heap.size T c (.slice (some ⟨g, 0, none⟩) n cap) n xs)
theorem made0 (w : World) (T : TypeId) (c : Nat) : (w.alloc (.cells #[] T)).ownsRow w.heap.size T c (.slice (some ⟨w.heap.size, 0, none⟩) 0 0) 0 [] := World.ownsRow_made w #[] 0 (Nat.le_refl _) (by decide) (by simp)
theorem own0 {w : World} {B : Nat} {T : TypeId} {c : Nat} {v : Value} (h : w.ownsRow B T c v 0 []) : ∃ a cap, v = .slice a 0 cap ∧ (a = none → cap = 0) := by
  rcases h.2 with ⟨rfl, _⟩ | ⟨g, cap, cur, rfl, _⟩
  · exact ⟨none, 0, rfl, fun _ => rfl⟩
  · exact ⟨_, cap, rfl, fun h => by cases h⟩
theorem own_base {w : World} {B B' : Nat} {T : TypeId} {c : Nat} {v : Value} {n : Nat} {xs : List Value} (h : w.ownsRow B T c v n xs) (hB : B' ≤ B) : w.ownsRow B' T c v n xs := by
  refine ⟨h.1, ?_⟩
  rcases h.2 with h0 | ⟨g, cap, cur, e, hg, h5⟩
  · exact .inl h0
  · exact .inr ⟨g, cap, cur, e, Nat.le_trans hB hg, h5⟩
theorem infoN : (Tryz.prog.info? 3).map (fun i => (i.zero, i.size, i.bytes)) = some (some (.int .i64 0), 1, 8) := by kernel_rfl
theorem clN_any (n : Nat) (xs : List Value) (a : Option Addr) (cp : Nat) (w : World) (h0 : a = none → n = 0 ∧ cp = 0) (hx : xs.length = n * 1) (hce : ∀ ad, a = some ad → ∀ j u, xs[j]? = some u → w.cell? (ad.add j) = some u) (h1 : ∀ u ∈ xs, u.oneCell' = true) (hn : n ≤ 1099511627776) :
    Calls Tryz.prog 57 #[.slice a n cp] w fun e w' => ∃ v, e = .returned v ∧ CloP w w' 3 1 n xs v ∧ Below w.heap.size w w' := by
  obtain ⟨ii, hii, hi0, hi1, hi2⟩ := info_parts infoN
  cases a with
  | none =>
    obtain ⟨rfl, rfl⟩ := h0 rfl
    clear h0 hce hx h1 hn
    have hnl : ∀ W, (binOp .eql 31 (.slice none 0 0) (.slice none 0 0)).run Tryz.prog W = .ok (.bool true) W := fun W => Lib.run_eql_slice_nil W _ _ none _ _ _ _ Tryz.underlying31
    go_enter Tryz.func57, Tryz.ntmps57
    go_wp2
    go_ret
    exact ⟨_, rfl, .inl ⟨rfl, World.ownsRow_nil _ _ _ _⟩, Below.refl _ _⟩
  | some ad =>
    have hce' := hce ad rfl
    clear h0 hce
    have hnl : ∀ W, (binOp .eql 31 (.slice (some ad) n cp) (.slice none 0 0)).run Tryz.prog W = .ok (.bool false) W := fun W => Lib.run_eql_slice_nil W _ _ (some ad) _ _ _ _ Tryz.underlying31
    have hal := one_alloc w (.cells #[] 3)
    by_cases hn0 : n = 0
    · subst hn0
      have hxs : xs = [] := List.eq_nil_of_length_eq_zero (by omega)
      subst hxs
      have hm := made0 w 3 1
      have HM := hide hm; have HAl := hide hal
      clear hm hal hx hce' h1 hn
      go_enter Tryz.func57, Tryz.ntmps57
      go_wp2_with (at_builtin; refine wpList_append_own (w.alloc (.cells #[] 3)) rfl (.tmp 5) (.tmp 6) 31 rfl w.heap.size 3 ii (.int .i64 0) 1 8 Tryz.underlying31 hii hi0 hi1 hi2 rfl (by decide) (.slice (some ⟨w.heap.size, 0, none⟩) 0 0) 0 [] rfl (unhide HM) ad 0 cp [] rfl rfl (fun j u h => by simp at h) (fun u h => by simp at h) (by decide) (by decide) (by simp) ?_)
      intro v5 w5 hown hgrow hni
      have hB := (unhide HAl).grown hgrow (by simp) (fun k hk => by simp [Value.ownBlock] at hk; omega)
      have HOwn := hide hown
      obtain ⟨a5, c5, rfl⟩ := own_slice hown
      have HB := hide hB
      clear hown hgrow hB hni
      go_wp2
      go_ret
      exact ⟨_, rfl, .inl ⟨rfl, unhide HOwn⟩, unhide HB⟩
    · have hm := made0 w 3 1
      have hce2 : ∀ j u, xs[j]? = some u → (w.alloc (.cells #[] 3)).cell? (ad.add j) = some u := fun j u h => (hal.cell (block_lt_of_cell (hce' j u h))).trans (hce' j u h)
      have HM := hide hm; have HAl := hide hal; have HCe := hide hce2; have H1 := hide h1; have HX := hide hx
      clear hm hal hce2 hce' h1 hx
      go_enter Tryz.func57, Tryz.ntmps57
      go_wp2_with (at_builtin; refine wpList_append_lies (w.alloc (.cells #[] 3)) rfl (.tmp 5) (.tmp 6) 31 rfl w.heap.size 3 ii (.int .i64 0) 1 8 Tryz.underlying31 hii hi0 hi1 hi2 rfl (by decide) (.slice (some ⟨w.heap.size, 0, none⟩) 0 0) 0 [] rfl (unhide HM) ad n cp xs rfl (unhide HX) (unhide HCe) (unhide H1) (by omega) (by unfold maxLen; omega) (by omega) (by simp) (w.heap.size + 1) (by simp) ?_)
      intro g cap w5 hown hgrow hat hlt
      have hB := (unhide HAl).grown hgrow (by simp) (fun k hk => by simp [Value.ownBlock] at hk; omega)
      have HB := hide hB; have HOwn := hide hown
      clear hown hgrow hB hat hlt
      go_wp2
      go_ret
      exact ⟨_, rfl, .inr ⟨by omega, _, _, rfl, unhide HOwn⟩, unhide HB⟩
theorem clI_any (n : Nat) (xs : List Value) (a : Option Addr) (cp : Nat) (w : World) (h0 : a = none → n = 0 ∧ cp = 0) (hx : xs.length = n * 5) (hce : ∀ ad, a = some ad → ∀ j u, xs[j]? = some u → w.cell? (ad.add j) = some u) (h1 : ∀ u ∈ xs, u.oneCell' = true) (hn : n ≤ 1099511627776) :
    Calls Tryz.prog 93 #[.slice a n cp] w fun e w' => ∃ v, e = .returned v ∧ CloP w w' 53 5 n xs v ∧ Below w.heap.size w w' := by
  obtain ⟨ii, hii, hi0, hi1, hi2⟩ := info_parts infoIn
  cases a with
  | none =>
    obtain ⟨rfl, rfl⟩ := h0 rfl
    clear h0 hce hx h1 hn
    have hnl : ∀ W, (binOp .eql 54 (.slice none 0 0) (.slice none 0 0)).run Tryz.prog W = .ok (.bool true) W := fun W => Lib.run_eql_slice_nil W _ _ none _ _ _ _ Tryz.underlying54
    go_enter Tryz.func93, Tryz.ntmps93
    go_wp2
    go_ret
    exact ⟨_, rfl, .inl ⟨rfl, World.ownsRow_nil _ _ _ _⟩, Below.refl _ _⟩
  | some ad =>
    have hce' := hce ad rfl
    clear h0 hce
    have hnl : ∀ W, (binOp .eql 54 (.slice (some ad) n cp) (.slice none 0 0)).run Tryz.prog W = .ok (.bool false) W := fun W => Lib.run_eql_slice_nil W _ _ (some ad) _ _ _ _ Tryz.underlying54
    have hal := one_alloc w (.cells #[] 53)
    by_cases hn0 : n = 0
    · subst hn0
      have hxs : xs = [] := List.eq_nil_of_length_eq_zero (by omega)
      subst hxs
      have hm := made0 w 53 5
      have HM := hide hm; have HAl := hide hal
      clear hm hal hx hce' h1 hn
      go_enter Tryz.func93, Tryz.ntmps93
      go_wp2_with (at_builtin; refine wpList_append_own (w.alloc (.cells #[] 53)) rfl (.tmp 5) (.tmp 6) 54 rfl w.heap.size 53 ii (.agg #[.int .u8 0, .int .i64 0, .slice none 0 0, .int .i64 0, .int .u32 0]) 5 56 Tryz.underlying54 hii hi0 hi1 hi2 rfl (by decide) (.slice (some ⟨w.heap.size, 0, none⟩) 0 0) 0 [] rfl (unhide HM) ad 0 cp [] rfl rfl (fun j u h => by simp at h) (fun u h => by simp at h) (by decide) (by decide) (by simp) ?_)
      intro v5 w5 hown hgrow hni
      have hB := (unhide HAl).grown hgrow (by simp) (fun k hk => by simp [Value.ownBlock] at hk; omega)
      have HOwn := hide hown
      obtain ⟨a5, c5, rfl⟩ := own_slice hown
      have HB := hide hB
      clear hown hgrow hB hni
      go_wp2
      go_ret
      exact ⟨_, rfl, .inl ⟨rfl, unhide HOwn⟩, unhide HB⟩
    · have hm := made0 w 53 5
      have hce2 : ∀ j u, xs[j]? = some u → (w.alloc (.cells #[] 53)).cell? (ad.add j) = some u := fun j u h => (hal.cell (block_lt_of_cell (hce' j u h))).trans (hce' j u h)
      have HM := hide hm; have HAl := hide hal; have HCe := hide hce2; have H1 := hide h1; have HX := hide hx
      clear hm hal hce2 hce' h1 hx
      go_enter Tryz.func93, Tryz.ntmps93
      go_wp2_with (at_builtin; refine wpList_append_lies (w.alloc (.cells #[] 53)) rfl (.tmp 5) (.tmp 6) 54 rfl w.heap.size 53 ii (.agg #[.int .u8 0, .int .i64 0, .slice none 0 0, .int .i64 0, .int .u32 0]) 5 56 Tryz.underlying54 hii hi0 hi1 hi2 rfl (by decide) (.slice (some ⟨w.heap.size, 0, none⟩) 0 0) 0 [] rfl (unhide HM) ad n cp xs rfl (unhide HX) (unhide HCe) (unhide H1) (by omega) (by unfold maxLen; omega) (by omega) (by simp) (w.heap.size + 1) (by simp) ?_)
      intro g cap w5 hown hgrow hat hlt
      have hB := (unhide HAl).grown hgrow (by simp) (fun k hk => by simp [Value.ownBlock] at hk; omega)
      have HB := hide hB; have HOwn := hide hown
      clear hown hgrow hB hat hlt
      go_wp2
      go_ret
      exact ⟨_, rfl, .inr ⟨by omega, _, _, rfl, unhide HOwn⟩, unhide HB⟩
theorem clB_any (n : Nat) (xs : List Value) (a : Option Addr) (cp : Nat) (w : World) (h0 : a = none → n = 0 ∧ cp = 0) (hx : xs.length = n * 3) (hce : ∀ ad, a = some ad → ∀ j u, xs[j]? = some u → w.cell? (ad.add j) = some u) (h1 : ∀ u ∈ xs, u.oneCell' = true) (hn : n ≤ 1099511627776) :
    Calls Tryz.prog 70 #[.slice a n cp] w fun e w' => ∃ v, e = .returned v ∧ CloP w w' 56 3 n xs v ∧ Below w.heap.size w w' := by
  obtain ⟨ii, hii, hi0, hi1, hi2⟩ := info_parts infoBl
  cases a with
  | none =>
    obtain ⟨rfl, rfl⟩ := h0 rfl
    clear h0 hce hx h1 hn
    have hnl : ∀ W, (binOp .eql 27 (.slice none 0 0) (.slice none 0 0)).run Tryz.prog W = .ok (.bool true) W := fun W => Lib.run_eql_slice_nil W _ _ none _ _ _ _ Tryz.underlying27
    go_enter Tryz.func70, Tryz.ntmps70
    go_wp2
    go_ret
    exact ⟨_, rfl, .inl ⟨rfl, World.ownsRow_nil _ _ _ _⟩, Below.refl _ _⟩
  | some ad =>
    have hce' := hce ad rfl
    clear h0 hce
    have hnl : ∀ W, (binOp .eql 27 (.slice (some ad) n cp) (.slice none 0 0)).run Tryz.prog W = .ok (.bool false) W := fun W => Lib.run_eql_slice_nil W _ _ (some ad) _ _ _ _ Tryz.underlying27
    have hal := one_alloc w (.cells #[] 56)
    by_cases hn0 : n = 0
    · subst hn0
      have hxs : xs = [] := List.eq_nil_of_length_eq_zero (by omega)
      subst hxs
      have hm := made0 w 56 3
      have HM := hide hm; have HAl := hide hal
      clear hm hal hx hce' h1 hn
      go_enter Tryz.func70, Tryz.ntmps70
      go_wp2_with (at_builtin; refine wpList_append_own (w.alloc (.cells #[] 56)) rfl (.tmp 5) (.tmp 6) 27 rfl w.heap.size 56 ii (.agg #[.slice none 0 0, .slice none 0 0, .int .i64 0]) 3 56 Tryz.underlying27 hii hi0 hi1 hi2 rfl (by decide) (.slice (some ⟨w.heap.size, 0, none⟩) 0 0) 0 [] rfl (unhide HM) ad 0 cp [] rfl rfl (fun j u h => by simp at h) (fun u h => by simp at h) (by decide) (by decide) (by simp) ?_)
      intro v5 w5 hown hgrow hni
      have hB := (unhide HAl).grown hgrow (by simp) (fun k hk => by simp [Value.ownBlock] at hk; omega)
      have HOwn := hide hown
      obtain ⟨a5, c5, rfl⟩ := own_slice hown
      have HB := hide hB
      clear hown hgrow hB hni
      go_wp2
      go_ret
      exact ⟨_, rfl, .inl ⟨rfl, unhide HOwn⟩, unhide HB⟩
    · have hm := made0 w 56 3
      have hce2 : ∀ j u, xs[j]? = some u → (w.alloc (.cells #[] 56)).cell? (ad.add j) = some u := fun j u h => (hal.cell (block_lt_of_cell (hce' j u h))).trans (hce' j u h)
      have HM := hide hm; have HAl := hide hal; have HCe := hide hce2; have H1 := hide h1; have HX := hide hx
      clear hm hal hce2 hce' h1 hx
      go_enter Tryz.func70, Tryz.ntmps70
      go_wp2_with (at_builtin; refine wpList_append_lies (w.alloc (.cells #[] 56)) rfl (.tmp 5) (.tmp 6) 27 rfl w.heap.size 56 ii (.agg #[.slice none 0 0, .slice none 0 0, .int .i64 0]) 3 56 Tryz.underlying27 hii hi0 hi1 hi2 rfl (by decide) (.slice (some ⟨w.heap.size, 0, none⟩) 0 0) 0 [] rfl (unhide HM) ad n cp xs rfl (unhide HX) (unhide HCe) (unhide H1) (by omega) (by unfold maxLen; omega) (by omega) (by simp) (w.heap.size + 1) (by simp) ?_)
      intro g cap w5 hown hgrow hat hlt
      have hB := (unhide HAl).grown hgrow (by simp) (fun k hk => by simp [Value.ownBlock] at hk; omega)
      have HB := hide hB; have HOwn := hide hown
      clear hown hgrow hB hat hlt
      go_wp2
      go_ret
      exact ⟨_, rfl, .inr ⟨by omega, _, _, rfl, unhide HOwn⟩, unhide HB⟩
/- shape: which instructions there are, how many registers they take, whether they give. -/
structure Shp where
  t : Int
  m : Bool
  g : Bool
  e : Bool
/-- a sign: how many are taken, whether something is given -/
def sgn (n : Nat) : Option (Nat × Bool) := if n ≤ 36 then none else (fam n).map fun x => ((pk x.x x.y 2).length, x.g != 0)
def shp (n : Nat) (r : Bool) : Option Shp :=
  if n = 65 then none
  else if n = 192 then some ⟨1, false, true, false⟩
  else if n = 27 then some ⟨3, false, true, false⟩
  else if n = 35 then some ⟨0, false, true, false⟩
  else if n = 36 ∨ n = 194 ∨ n = 195 then some ⟨1, false, false, false⟩
  else if n = 16 then some ⟨0, true, false, true⟩
  else if n = 17 then some ⟨1, true, false, true⟩
  else if n = 193 ∨ n = 0 then some ⟨0, false, false, false⟩
  else if n = 15 then some ⟨if r then 1 else 0, false, false, false⟩
  else (sgn n).map fun p => ⟨p.1, false, p.2, false⟩
def ofV (o : Option Shp) : Value := match o with
  | none => .tuple #[.agg #[.int .i64 0, .bool false, .bool false, .bool false], .bool false]
  | some s => .tuple #[.agg #[.int .i64 s.t, .bool s.m, .bool s.g, .bool s.e], .bool true]
def Fms (w : World) : Prop := TC w 1 fmV
theorem ends_any (n : Nat) (hn : n < 256) (w : World) :
    Calls Tryz.prog 97 #[.int .u8 n] w fun e w' => e = .returned (.bool (decide (n = 0 ∨ n = 15 ∨ n = 193 ∨ n = 194 ∨ n = 195))) ∧ w' = w := by
  by_cases h0 : n = 0
  · subst h0
    go_enter Tryz.func97, Tryz.ntmps97
    go_wp2
    go_ret
    exact ⟨rfl, rfl⟩
  by_cases h1 : n = 15
  · subst h1
    go_enter Tryz.func97, Tryz.ntmps97
    go_wp2
    go_ret
    exact ⟨rfl, rfl⟩
  by_cases h2 : n = 193
  · subst h2
    go_enter Tryz.func97, Tryz.ntmps97
    go_wp2
    go_ret
    exact ⟨rfl, rfl⟩
  by_cases h3 : n = 194
  · subst h3
    go_enter Tryz.func97, Tryz.ntmps97
    go_wp2
    go_ret
    exact ⟨rfl, rfl⟩
  by_cases h4 : n = 195
  · subst h4
    go_enter Tryz.func97, Tryz.ntmps97
    go_wp2
    go_ret
    exact ⟨rfl, rfl⟩
  have t0 : ((n : Int) == 0) = false := by simp; omega
  have t1 : ((n : Int) == 15) = false := by simp; omega
  have t2 : ((n : Int) == 193) = false := by simp; omega
  have t3 : ((n : Int) == 194) = false := by simp; omega
  have t4 : ((n : Int) == 195) = false := by simp; omega
  rw [show decide (n = 0 ∨ n = 15 ∨ n = 193 ∨ n = 194 ∨ n = 195) = false by simp [h0, h1, h2, h3, h4]]
  clear h0 h1 h2 h3 h4
  go_enter Tryz.func97, Tryz.ntmps97
  go_wp2
  go_ret
  exact ⟨rfl, rfl⟩
def ends (n : Nat) : Bool := decide (n = 0 ∨ n = 15 ∨ n = 193 ∨ n = 194 ∨ n = 195)
theorem vends_any (n : Nat) (hn : n < 256) (w : World) :
    Calls Tryz.prog 80 #[.int .u8 n] w fun e w' => e = .returned (.bool (ends n)) ∧ w' = w := by
  have hc := ends_any n hn w
  rw [show decide (n = 0 ∨ n = 15 ∨ n = 193 ∨ n = 194 ∨ n = 195) = ends n from rfl] at hc
  have HC := hide hc; clear hc
  generalize ends n = b at *
  go_enter Tryz.func80, Tryz.ntmps80
  go_wp2_with fail
  refine (unhide HC).mono ?_
  rintro e w1 ⟨rfl, rfl⟩
  go_wp2
  go_ret
  exact ⟨rfl, rfl⟩
/-- has an instruction a use for N? -/
def numd (n : Nat) : Bool := decide (n = 66 ∨ n = 35 ∨ n = 36 ∨ n = 16 ∨ n = 17)
theorem numd_any (n : Nat) (hn : n < 256) (w : World) :
    Calls Tryz.prog 127 #[.int .u8 n] w fun e w' => e = .returned (.bool (numd n)) ∧ w' = w := by
  by_cases h0 : n = 66
  · subst h0
    go_enter Tryz.func127, Tryz.ntmps127
    go_wp2
    go_ret
    exact ⟨rfl, rfl⟩
  by_cases h1 : n = 35
  · subst h1
    go_enter Tryz.func127, Tryz.ntmps127
    go_wp2
    go_ret
    exact ⟨rfl, rfl⟩
  by_cases h2 : n = 36
  · subst h2
    go_enter Tryz.func127, Tryz.ntmps127
    go_wp2
    go_ret
    exact ⟨rfl, rfl⟩
  by_cases h3 : n = 16
  · subst h3
    go_enter Tryz.func127, Tryz.ntmps127
    go_wp2
    go_ret
    exact ⟨rfl, rfl⟩
  by_cases h4 : n = 17
  · subst h4
    go_enter Tryz.func127, Tryz.ntmps127
    go_wp2
    go_ret
    exact ⟨rfl, rfl⟩
  have t0 : ((n : Int) == 66) = false := by simp; omega
  have t1 : ((n : Int) == 35) = false := by simp; omega
  have t2 : ((n : Int) == 36) = false := by simp; omega
  have t3 : ((n : Int) == 16) = false := by simp; omega
  have t4 : ((n : Int) == 17) = false := by simp; omega
  rw [show numd n = false by simp [numd, h0, h1, h2, h3, h4]]
  clear h0 h1 h2 h3 h4
  go_enter Tryz.func127, Tryz.ntmps127
  go_wp2
  go_ret
  exact ⟨rfl, rfl⟩
/-- is it a load or a store? -/
def acc (n : Nat) : Bool := match fam n with
  | some x => x.o == 4
  | none => false
theorem acc_any (n : Nat) (hn : n < 256) (w : World) (hT : Fms w) :
    Calls Tryz.prog 116 #[.int .u8 n] w fun e w' => e = .returned (.bool (acc n)) ∧ Below w.heap.size w w' := by
  have hc := form_any n hn w hT
  unfold acc
  cases hf : fam n with
  | none =>
    rw [hf] at hc
    simp only [formR, errV_1] at hc
    have HC := hide hc; clear hc hf hT
    go_enter Tryz.func116, Tryz.ntmps116
    go_wp2_with fail
    refine (unhide HC).mono ?_
    rintro e w1 ⟨rfl, hb⟩
    have HB := hide hb; clear hb
    go_wp2
    go_ret
    exact ⟨rfl, unhide HB⟩
  | some x =>
    rw [hf] at hc
    obtain ⟨xa, xb, xo, xx, xy, xg⟩ := x
    simp only [formR, errV_0] at hc ⊢
    have HC := hide hc; clear hc hf hT
    go_enter Tryz.func116, Tryz.ntmps116
    go_wp2_with fail
    refine (unhide HC).mono ?_
    rintro e w1 ⟨rfl, hb⟩
    have HB := hide hb; clear hb
    go_wp2
    go_ret
    exact ⟨rfl, unhide HB⟩
/-- may an end lead to so many? -/
def leads (n : Nat) (k : Int) : Bool :=
  if n = 193 then k == 1 else if n = 194 then k == 2 else if n = 195 then decide (1 ≤ k) && decide (k ≤ 257) else k == 0
theorem leads_any (n : Nat) (hn : n < 256) (k : Int) (w : World) :
    Calls Tryz.prog 82 #[.int .u8 n, .int .i64 k] w fun e w' => e = .returned (.bool (leads n k)) ∧ w' = w := by
  by_cases h0 : n = 193
  · subst h0
    go_enter Tryz.func82, Tryz.ntmps82
    go_wp2
    go_ret
    exact ⟨rfl, rfl⟩
  by_cases h1 : n = 194
  · subst h1
    go_enter Tryz.func82, Tryz.ntmps82
    go_wp2
    go_ret
    exact ⟨rfl, rfl⟩
  by_cases h2 : n = 195
  · subst h2
    by_cases a : 1 ≤ k
    · rw [show leads 195 k = decide (k ≤ 257) by simp [leads, a]]
      go_enter Tryz.func82, Tryz.ntmps82
      go_wp2
      go_ret
      exact ⟨rfl, rfl⟩
    · rw [show leads 195 k = false by simp [leads]; omega]
      go_enter Tryz.func82, Tryz.ntmps82
      go_wp2
      go_ret
      exact ⟨rfl, rfl⟩
  have t0 : ((n : Int) == 193) = false := by simp; omega
  have t1 : ((n : Int) == 194) = false := by simp; omega
  have t2 : ((n : Int) == 195) = false := by simp; omega
  rw [show leads n k = (k == 0) by simp [leads, h0, h1, h2]]
  clear h0 h1 h2
  go_enter Tryz.func82, Tryz.ntmps82
  go_wp2
  go_ret
  exact ⟨rfl, rfl⟩
theorem gives_any (x : In) (v : Value) (w : World) (hv : ∃ a n c, v = .slice a n c) :
    Calls Tryz.prog 115 #[.agg #[.int .u8 (x.op : Int), .int .i64 x.dst, v, .int .i64 x.n, .int .u32 x.of]] w fun e w' => e = .returned (.bool (x.dst != -1)) ∧ Below w.heap.size w w' := by
  obtain ⟨a, n, c, rfl⟩ := hv
  obtain ⟨op, dst, src, nn, of⟩ := x
  simp only
  go_enter Tryz.func115, Tryz.ntmps115
  go_wp2
  go_ret
  exact ⟨rfl, one_alloc _ _⟩
/- shape.of, numberMay, May. By mkof.py. -/
theorem set4 (w : World) (b : Nat) (t : TypeId) (x0 x1 x2 x3 v0 v1 v2 v3 : Value) (h : w.heap[b]? = some (.cells #[x0, x1, x2, x3] t (0, 0))) :
    ((((w.setCell ⟨b, 0, none⟩ v0).setCell ⟨b, 1, none⟩ v1).setCell ⟨b, 2, none⟩ v2).setCell ⟨b, 3, none⟩ v3).heap[b]? = some (.cells #[v0, v1, v2, v3] t (0, 0)) := by
  have h0 := (heap_setCell_same w b 0 _ _ v0 h).trans rfl
  have h1 := (heap_setCell_same _ b 1 _ _ v1 h0).trans rfl
  have h2 := (heap_setCell_same _ b 2 _ _ v2 h1).trans rfl
  have h3 := (heap_setCell_same _ b 3 _ _ v3 h2).trans rfl
  rw [h3]; rfl
theorem bel4 {B : Nat} {a w : World} (h : Below B a w) (b : Nat) (hb : B ≤ b) (v0 v1 v2 v3 : Value) : Below B a ((((w.setCell ⟨b, 0, none⟩ v0).setCell ⟨b, 1, none⟩ v1).setCell ⟨b, 2, none⟩ v2).setCell ⟨b, 3, none⟩ v3) :=
  (((h.setCell (p := ⟨b, 0, none⟩) hb v0).setCell (p := ⟨b, 1, none⟩) hb v1).setCell (p := ⟨b, 2, none⟩) hb v2).setCell (p := ⟨b, 3, none⟩) hb v3
theorem of_65 (r : Bool) (w : World) : Calls Tryz.prog 114 #[.int .u8 65, .bool r] w fun e w' => e = .returned (ofV (shp 65 r)) ∧ Below w.heap.size w w' := by
  go_enter Tryz.func114, Tryz.ntmps114
  go_wp2
  refine bodyPost_ret (v := .tuple #[.agg #[.int .i64 0, .bool false, .bool false, .bool false], .bool false]) (by simp [results, Tryz.results114, go_sem]) rfl ⟨rfl, one_alloc _ _⟩
theorem of_192 (r : Bool) (w : World) : Calls Tryz.prog 114 #[.int .u8 192, .bool r] w fun e w' => e = .returned (ofV (shp 192 r)) ∧ Below w.heap.size w w' := by
  go_enter Tryz.func114, Tryz.ntmps114
  go_wp2
  refine bodyPost_ret (v := .tuple #[.agg #[.int .i64 1, .bool false, .bool true, .bool false], .bool true]) (by simp [results, Tryz.results114, go_sem]) rfl ⟨rfl, one_alloc _ _⟩
theorem of_27 (r : Bool) (w : World) : Calls Tryz.prog 114 #[.int .u8 27, .bool r] w fun e w' => e = .returned (ofV (shp 27 r)) ∧ Below w.heap.size w w' := by
  go_enter Tryz.func114, Tryz.ntmps114
  go_wp2
  refine bodyPost_ret (v := .tuple #[.agg #[.int .i64 3, .bool false, .bool true, .bool false], .bool true]) (by simp [results, Tryz.results114, go_sem]) rfl ⟨rfl, one_alloc _ _⟩
theorem of_35 (r : Bool) (w : World) : Calls Tryz.prog 114 #[.int .u8 35, .bool r] w fun e w' => e = .returned (ofV (shp 35 r)) ∧ Below w.heap.size w w' := by
  go_enter Tryz.func114, Tryz.ntmps114
  go_wp2
  refine bodyPost_ret (v := .tuple #[.agg #[.int .i64 0, .bool false, .bool true, .bool false], .bool true]) (by simp [results, Tryz.results114, go_sem]) rfl ⟨rfl, one_alloc _ _⟩
theorem of_36 (r : Bool) (w : World) : Calls Tryz.prog 114 #[.int .u8 36, .bool r] w fun e w' => e = .returned (ofV (shp 36 r)) ∧ Below w.heap.size w w' := by
  go_enter Tryz.func114, Tryz.ntmps114
  go_wp2
  refine bodyPost_ret (v := .tuple #[.agg #[.int .i64 1, .bool false, .bool false, .bool false], .bool true]) (by simp [results, Tryz.results114, go_sem]) rfl ⟨rfl, one_alloc _ _⟩
theorem of_194 (r : Bool) (w : World) : Calls Tryz.prog 114 #[.int .u8 194, .bool r] w fun e w' => e = .returned (ofV (shp 194 r)) ∧ Below w.heap.size w w' := by
  go_enter Tryz.func114, Tryz.ntmps114
  go_wp2
  refine bodyPost_ret (v := .tuple #[.agg #[.int .i64 1, .bool false, .bool false, .bool false], .bool true]) (by simp [results, Tryz.results114, go_sem]) rfl ⟨rfl, one_alloc _ _⟩
theorem of_195 (r : Bool) (w : World) : Calls Tryz.prog 114 #[.int .u8 195, .bool r] w fun e w' => e = .returned (ofV (shp 195 r)) ∧ Below w.heap.size w w' := by
  go_enter Tryz.func114, Tryz.ntmps114
  go_wp2
  refine bodyPost_ret (v := .tuple #[.agg #[.int .i64 1, .bool false, .bool false, .bool false], .bool true]) (by simp [results, Tryz.results114, go_sem]) rfl ⟨rfl, one_alloc _ _⟩
theorem of_16 (r : Bool) (w : World) : Calls Tryz.prog 114 #[.int .u8 16, .bool r] w fun e w' => e = .returned (ofV (shp 16 r)) ∧ Below w.heap.size w w' := by
  go_enter Tryz.func114, Tryz.ntmps114
  go_wp2
  refine bodyPost_ret (v := .tuple #[.agg #[.int .i64 0, .bool true, .bool false, .bool true], .bool true]) (by simp [results, Tryz.results114, go_sem]) rfl ⟨rfl, one_alloc _ _⟩
theorem of_17 (r : Bool) (w : World) : Calls Tryz.prog 114 #[.int .u8 17, .bool r] w fun e w' => e = .returned (ofV (shp 17 r)) ∧ Below w.heap.size w w' := by
  go_enter Tryz.func114, Tryz.ntmps114
  go_wp2
  refine bodyPost_ret (v := .tuple #[.agg #[.int .i64 1, .bool true, .bool false, .bool true], .bool true]) (by simp [results, Tryz.results114, go_sem]) rfl ⟨rfl, one_alloc _ _⟩
theorem of_193 (r : Bool) (w : World) : Calls Tryz.prog 114 #[.int .u8 193, .bool r] w fun e w' => e = .returned (ofV (shp 193 r)) ∧ Below w.heap.size w w' := by
  go_enter Tryz.func114, Tryz.ntmps114
  go_wp2
  refine bodyPost_ret (v := .tuple #[.agg #[.int .i64 0, .bool false, .bool false, .bool false], .bool true]) (by simp [results, Tryz.results114, go_sem]) rfl ⟨rfl, one_alloc _ _⟩
theorem of_0 (r : Bool) (w : World) : Calls Tryz.prog 114 #[.int .u8 0, .bool r] w fun e w' => e = .returned (ofV (shp 0 r)) ∧ Below w.heap.size w w' := by
  go_enter Tryz.func114, Tryz.ntmps114
  go_wp2
  refine bodyPost_ret (v := .tuple #[.agg #[.int .i64 0, .bool false, .bool false, .bool false], .bool true]) (by simp [results, Tryz.results114, go_sem]) rfl ⟨rfl, one_alloc _ _⟩
theorem of_15_true (w : World) : Calls Tryz.prog 114 #[.int .u8 15, .bool true] w fun e w' => e = .returned (ofV (shp 15 true)) ∧ Below w.heap.size w w' := by
  go_enter Tryz.func114, Tryz.ntmps114
  go_wp2
  refine bodyPost_ret (v := .tuple #[.agg #[.int .i64 1, .bool false, .bool false, .bool false], .bool true]) (by simp [results, Tryz.results114, go_sem]) rfl ⟨rfl, one_alloc _ _⟩
theorem of_15_false (w : World) : Calls Tryz.prog 114 #[.int .u8 15, .bool false] w fun e w' => e = .returned (ofV (shp 15 false)) ∧ Below w.heap.size w w' := by
  go_enter Tryz.func114, Tryz.ntmps114
  go_wp2
  refine bodyPost_ret (v := .tuple #[.agg #[.int .i64 0, .bool false, .bool false, .bool false], .bool true]) (by simp [results, Tryz.results114, go_sem]) rfl ⟨rfl, one_alloc _ _⟩
theorem sh_no (n : Nat) (r : Bool) (hno : ∀ k ∈ [65, 192, 27, 35, 36, 194, 195, 16, 17, 193, 0, 15], n ≠ k) : shp n r = (sgn n).map fun p => ⟨p.1, false, p.2, false⟩ := by
  have h : ∀ k ∈ [65, 192, 27, 35, 36, 194, 195, 16, 17, 193, 0, 15], ¬ n = k := hno
  simp only [List.mem_cons, List.not_mem_nil, or_false, forall_eq_or_imp, forall_eq] at h
  obtain ⟨a0, a1, a2, a3, a4, a5, a6, a7, a8, a9, a10, a11⟩ := h
  unfold shp
  rw [if_neg a0, if_neg a1, if_neg a2, if_neg a3, if_neg (by omega), if_neg a7, if_neg a8, if_neg (by omega), if_neg a11]
theorem of_none (n : Nat) (hn : n < 256) (r : Bool) (w : World) (hT : Fms w) (hno : ∀ k ∈ [65, 192, 27, 35, 36, 194, 195, 16, 17, 193, 0, 15], n ≠ k) (hs : sgn n = none) :
    Calls Tryz.prog 114 #[.int .u8 n, .bool r] w fun e w' => e = .returned (ofV (shp n r)) ∧ Below w.heap.size w w' := by
  have t65 : ((n : Int) == 65) = false := by have := hno 65 (by decide); simp; omega
  have t192 : ((n : Int) == 192) = false := by have := hno 192 (by decide); simp; omega
  have t27 : ((n : Int) == 27) = false := by have := hno 27 (by decide); simp; omega
  have t35 : ((n : Int) == 35) = false := by have := hno 35 (by decide); simp; omega
  have t36 : ((n : Int) == 36) = false := by have := hno 36 (by decide); simp; omega
  have t194 : ((n : Int) == 194) = false := by have := hno 194 (by decide); simp; omega
  have t195 : ((n : Int) == 195) = false := by have := hno 195 (by decide); simp; omega
  have t16 : ((n : Int) == 16) = false := by have := hno 16 (by decide); simp; omega
  have t17 : ((n : Int) == 17) = false := by have := hno 17 (by decide); simp; omega
  have t193 : ((n : Int) == 193) = false := by have := hno 193 (by decide); simp; omega
  have t0 : ((n : Int) == 0) = false := by have := hno 0 (by decide); simp; omega
  have t15 : ((n : Int) == 15) = false := by have := hno 15 (by decide); simp; omega
  rw [sh_no n r hno, hs]
  simp only [Option.map_none, ofV]
  have h0 : Below w.heap.size w (w.alloc (.cells #[.int .i64 0, .bool false, .bool false, .bool false] 182)) := one_alloc _ _
  have hc : Calls Tryz.prog 125 #[.int .u8 n] (w.alloc (.cells #[.int .i64 0, .bool false, .bool false, .bool false] 182)) fun e w' => e = .returned (.tuple #[.agg #[.slice none 0 0, .int .u8 0], errV 1]) ∧ Below (w.alloc (.cells #[.int .i64 0, .bool false, .bool false, .bool false] 182)).heap.size (w.alloc (.cells #[.int .i64 0, .bool false, .bool false, .bool false] 182)) w' := by
    unfold sgn at hs
    split at hs
    · rename_i h36
      cases hf : fam n with
      | none => exact sign_none n hn _ (TC.below hT h0) hf
      | some x => exact sign_low n hn _ (TC.below hT h0) x hf (by omega)
    · cases hf : fam n with
      | none => exact sign_none n hn _ (TC.below hT h0) hf
      | some x => rw [hf] at hs; cases hs
  rw [errV_1] at hc
  have HC := hide hc; have H0 := hide h0
  clear hc hs hT h0 hno
  go_enter Tryz.func114, Tryz.ntmps114
  go_wp2_with fail
  refine (unhide HC).mono ?_
  rintro e w1 ⟨rfl, hb⟩
  have r0 := (hb.block w.heap.size (by simp)).trans (heap_alloc_new w (.cells #[.int .i64 0, .bool false, .bool false, .bool false] 182))
  have hlt : w.heap.size < w1.heap.size := (Array.getElem?_eq_some_iff.1 r0).1
  have HB := hide (Below.on (unhide H0) hb)
  clear hb
  generalize hB : w.heap.size = B at *
  have HBB := hide hB; clear hB
  have c0 : w1.cell? ⟨B, 0, none⟩ = some (.int .i64 0) := by rw [cell_of_row w1 _ 0 _ _ _ r0]; rfl
  have c1 : w1.cell? ⟨B, 1, none⟩ = some (.bool false) := by rw [cell_of_row w1 _ 1 _ _ _ r0]; rfl
  have c2 : w1.cell? ⟨B, 2, none⟩ = some (.bool false) := by rw [cell_of_row w1 _ 2 _ _ _ r0]; rfl
  have c3 : w1.cell? ⟨B, 3, none⟩ = some (.bool false) := by rw [cell_of_row w1 _ 3 _ _ _ r0]; rfl
  have ff : ∀ i, w1.frozen? ⟨B, i, none⟩ = false := fun i => by simp [World.frozen?, r0]
  have HR := hide r0; clear r0 H0 HC
  go_wp2
  have hr := set4 w1 B _ _ _ _ _ (.int .i64 0) (.bool false) (.bool false) (.bool false) (unhide HR)
  have hb := bel4 (unhide HB) B (Nat.le_refl _) (.int .i64 0) (.bool false) (.bool false) (.bool false)
  have hz : B < ((((w1.setCell ⟨B, 0, none⟩ (.int .i64 0)).setCell ⟨B, 1, none⟩ (.bool false)).setCell ⟨B, 2, none⟩ (.bool false)).setCell ⟨B, 3, none⟩ (.bool false)).heap.size := (Array.getElem?_eq_some_iff.1 hr).1
  clear c0 c1 c2 c3 ff HR hlt
  generalize (((w1.setCell ⟨B, 0, none⟩ (.int .i64 0)).setCell ⟨B, 1, none⟩ (.bool false)).setCell ⟨B, 2, none⟩ (.bool false)).setCell ⟨B, 3, none⟩ (.bool false) = W2 at *
  have c0 := cell_of_row W2 B 0 _ _ _ hr; have c1 := cell_of_row W2 B 1 _ _ _ hr; have c2 := cell_of_row W2 B 2 _ _ _ hr; have c3 := cell_of_row W2 B 3 _ _ _ hr
  simp only [List.getElem?_toArray, List.getElem?_cons_zero, List.getElem?_cons_succ] at c0 c1 c2 c3
  refine bodyPost_ret (v := .tuple #[.agg #[.int .i64 0, .bool false, .bool false, .bool false], .bool false]) (by simp [results, Tryz.results114, go_sem, c0, c1, c2, c3, hz]) rfl ⟨rfl, by rw [unhide HBB]; exact hb.alloc (by omega) _⟩
theorem of_some (n : Nat) (hn : n < 256) (r : Bool) (w : World) (hT : Fms w) (hno : ∀ k ∈ [65, 192, 27, 35, 36, 194, 195, 16, 17, 193, 0, 15], n ≠ k) (x : Fam) (hf : fam n = some x) (h36 : ¬ n ≤ 36) :
    Calls Tryz.prog 114 #[.int .u8 n, .bool r] w fun e w' => e = .returned (ofV (shp n r)) ∧ Below w.heap.size w w' := by
  have t65 : ((n : Int) == 65) = false := by have := hno 65 (by decide); simp; omega
  have t192 : ((n : Int) == 192) = false := by have := hno 192 (by decide); simp; omega
  have t27 : ((n : Int) == 27) = false := by have := hno 27 (by decide); simp; omega
  have t35 : ((n : Int) == 35) = false := by have := hno 35 (by decide); simp; omega
  have t36 : ((n : Int) == 36) = false := by have := hno 36 (by decide); simp; omega
  have t194 : ((n : Int) == 194) = false := by have := hno 194 (by decide); simp; omega
  have t195 : ((n : Int) == 195) = false := by have := hno 195 (by decide); simp; omega
  have t16 : ((n : Int) == 16) = false := by have := hno 16 (by decide); simp; omega
  have t17 : ((n : Int) == 17) = false := by have := hno 17 (by decide); simp; omega
  have t193 : ((n : Int) == 193) = false := by have := hno 193 (by decide); simp; omega
  have t0 : ((n : Int) == 0) = false := by have := hno 0 (by decide); simp; omega
  have t15 : ((n : Int) == 15) = false := by have := hno 15 (by decide); simp; omega
  rw [sh_no n r hno, show sgn n = some ((pk x.x x.y 2).length, x.g != 0) by simp [sgn, h36, hf]]
  simp only [Option.map_some, ofV]
  have h0 : Below w.heap.size w (w.alloc (.cells #[.int .i64 0, .bool false, .bool false, .bool false] 182)) := one_alloc _ _
  have hc := sign_yes n hn _ (TC.below hT h0) x hf (by omega)
  rw [errV_0] at hc
  obtain ⟨xa, xb, xo, xx, xy, xg⟩ := x
  simp only at hc ⊢
  have hpl : (pk xx xy 2).length ≤ 2 := by unfold pk; exact Nat.le_trans (List.length_filter_le _ _) (by simp)
  generalize (pk xx xy 2).length = pl at *
  have HC := hide hc; have H0 := hide h0
  clear hc hf hT h0 hno
  go_enter Tryz.func114, Tryz.ntmps114
  go_wp2_with fail
  refine (unhide HC).mono ?_
  rintro e w1 ⟨v, rfl, ho, hb⟩
  obtain ⟨va, vc, rfl⟩ := own_slice ho
  clear ho
  have r0 := (hb.block w.heap.size (by simp)).trans (heap_alloc_new w (.cells #[.int .i64 0, .bool false, .bool false, .bool false] 182))
  have hlt : w.heap.size < w1.heap.size := (Array.getElem?_eq_some_iff.1 r0).1
  have HB := hide (Below.on (unhide H0) hb)
  clear hb
  generalize hB : w.heap.size = B at *
  have HBB := hide hB; clear hB
  have c0 : w1.cell? ⟨B, 0, none⟩ = some (.int .i64 0) := by rw [cell_of_row w1 _ 0 _ _ _ r0]; rfl
  have c1 : w1.cell? ⟨B, 1, none⟩ = some (.bool false) := by rw [cell_of_row w1 _ 1 _ _ _ r0]; rfl
  have c2 : w1.cell? ⟨B, 2, none⟩ = some (.bool false) := by rw [cell_of_row w1 _ 2 _ _ _ r0]; rfl
  have c3 : w1.cell? ⟨B, 3, none⟩ = some (.bool false) := by rw [cell_of_row w1 _ 3 _ _ _ r0]; rfl
  have ff : ∀ i, w1.frozen? ⟨B, i, none⟩ = false := fun i => by simp [World.frozen?, r0]
  have HR := hide r0; clear r0 H0 HC
  go_wp2
  have hr := set4 w1 B _ _ _ _ _ (.int .i64 (pl : Int)) (.bool false) (.bool (xg != 0)) (.bool false) (unhide HR)
  have hb := bel4 (unhide HB) B (Nat.le_refl _) (.int .i64 (pl : Int)) (.bool false) (.bool (xg != 0)) (.bool false)
  have hz : B < ((((w1.setCell ⟨B, 0, none⟩ (.int .i64 (pl : Int))).setCell ⟨B, 1, none⟩ (.bool false)).setCell ⟨B, 2, none⟩ (.bool (xg != 0))).setCell ⟨B, 3, none⟩ (.bool false)).heap.size := (Array.getElem?_eq_some_iff.1 hr).1
  clear c0 c1 c2 c3 ff HR hlt
  generalize (((w1.setCell ⟨B, 0, none⟩ (.int .i64 (pl : Int))).setCell ⟨B, 1, none⟩ (.bool false)).setCell ⟨B, 2, none⟩ (.bool (xg != 0))).setCell ⟨B, 3, none⟩ (.bool false) = W2 at *
  have c0 := cell_of_row W2 B 0 _ _ _ hr; have c1 := cell_of_row W2 B 1 _ _ _ hr; have c2 := cell_of_row W2 B 2 _ _ _ hr; have c3 := cell_of_row W2 B 3 _ _ _ hr
  simp only [List.getElem?_toArray, List.getElem?_cons_zero, List.getElem?_cons_succ] at c0 c1 c2 c3
  refine bodyPost_ret (v := .tuple #[.agg #[.int .i64 (pl : Int), .bool false, .bool (xg != 0), .bool false], .bool true]) (by simp [results, Tryz.results114, go_sem, c0, c1, c2, c3, hz]) rfl ⟨rfl, by rw [unhide HBB]; exact hb.alloc (by omega) _⟩
theorem of_any (n : Nat) (hn : n < 256) (r : Bool) (w : World) (hT : Fms w) :
    Calls Tryz.prog 114 #[.int .u8 n, .bool r] w fun e w' => e = .returned (ofV (shp n r)) ∧ Below w.heap.size w w' := by
  by_cases hno : ∀ k ∈ [65, 192, 27, 35, 36, 194, 195, 16, 17, 193, 0, 15], n ≠ k
  · cases hs : sgn n with
    | none => exact of_none n hn r w hT hno hs
    | some p =>
      unfold sgn at hs
      split at hs
      · cases hs
      · rename_i h36
        cases hf : fam n with
        | none => rw [hf] at hs; cases hs
        | some x => exact of_some n hn r w hT hno x hf h36
  · have h : ∃ k ∈ [65, 192, 27, 35, 36, 194, 195, 16, 17, 193, 0, 15], n = k := by
      simp at hno ⊢; omega
    obtain ⟨k, hk, rfl⟩ := h
    simp only [List.mem_cons, List.not_mem_nil, or_false] at hk
    rcases hk with rfl | rfl | rfl | rfl | rfl | rfl | rfl | rfl | rfl | rfl | rfl | rfl
    · exact of_65 r w
    · exact of_192 r w
    · exact of_27 r w
    · exact of_35 r w
    · exact of_36 r w
    · exact of_194 r w
    · exact of_195 r w
    · exact of_16 r w
    · exact of_17 r w
    · exact of_193 r w
    · exact of_0 r w
    · cases r
      · exact of_15_false w
      · exact of_15_true w
/-- may its number be? -/
def numM (x : In) : Bool := if x.op = 66 then true else if numd x.op then decide (0 ≤ x.n) else x.n == 0
theorem numM_any (x : In) (hx : WfI x) (v : Value) (w : World) (hv : ∃ a n c, v = .slice a n c) :
    Calls Tryz.prog 117 #[.agg #[.int .u8 (x.op : Int), .int .i64 x.dst, v, .int .i64 x.n, .int .u32 x.of]] w fun e w' => e = .returned (.bool (numM x)) ∧ Below w.heap.size w w' := by
  obtain ⟨a, n, c, rfl⟩ := hv
  have hop := hx.op
  clear hx
  obtain ⟨op, dst, src, nn, of⟩ := x
  simp only [numM] at *
  by_cases h66 : op = 66
  · subst h66
    go_enter Tryz.func117, Tryz.ntmps117
    go_wp2
    go_ret
    exact ⟨rfl, one_alloc _ _⟩
  · rw [if_neg h66]
    have t : ((op : Int) == 66) = false := by simp; omega
    have hc := fun W => numd_any op hop W
    cases hn : numd op with
    | true =>
      rw [hn] at hc
      have HC := hide hc; clear hc hn h66
      go_enter Tryz.func117, Tryz.ntmps117
      go_wp2_with fail
      refine (unhide HC _).mono ?_
      rintro e w1 ⟨rfl, rfl⟩
      go_wp2
      go_ret
      exact ⟨rfl, one_alloc _ _⟩
    | false =>
      rw [hn] at hc
      have HC := hide hc; clear hc hn h66
      go_enter Tryz.func117, Tryz.ntmps117
      go_wp2_with fail
      refine (unhide HC _).mono ?_
      rintro e w1 ⟨rfl, rfl⟩
      go_wp2
      go_ret
      exact ⟨rfl, one_alloc _ _⟩
end Vc
end Go.Proofs.YtglehoekehiaiaaGreatDoor
