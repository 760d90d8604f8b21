/- Modules in memory: what lies where; what stays of it. -/
import Derived.Test.YtcpknafaocdjdaaGreatDoorGmA
namespace Go.Proofs.YtcpknafaocdjdaaGreatDoor
open Go.RowKit
namespace Gm
open Ex (Ins Lies Lab ItemAt Moves Cel)
set_option linter.unusedVariables false

structure Typ where
  ps : List Int
  re : Int
structure Fnc where
  ty : Int
  ls : List Int
  body : List Ins
structure Lim where
  mn : Int
  has : Bool
  mx : Int
structure Glo where
  kd : Int
  mu : Bool
  ini : Ins
structure Exo where
  nm : ByteArray
  wh : Int
  ix : Int
structure Elm where
  tb : Int
  off : Ins
  fs : List Int
structure Dat where
  tb : Int
  off : Ins
  bs : List Int
structure Mod where
  types : List Typ
  funcs : List Fnc
  tables : List Lim
  mems : List Lim
  globs : List Glo
  exps : List Exo
  elems : List Elm
  datas : List Dat

/-- bytes at a place -/
def Byts (w : World) (zs : List Int) (b o : Nat) : Prop := ∀ j, j < zs.length → w.cell? ⟨b, o + j, none⟩ = some (.int .u8 (zs.getD j 0))
/-- an instruction's eight cells as values -/
def InsC (w : World) (g : Nat → Prop) (i : Ins) (cs : List Value) : Prop := ∃ vb ve vl, cs = [.int .u8 i.op, .int .i64 i.n, .int .u32 i.al, .int .u32 i.of, .int .u8 i.re, vb, ve, vl] ∧ Ex.Code w g i.body vb ∧ Ex.Code w g i.els ve ∧ Lies g i.ls.length (Lab w i.ls) vl
def TypC (w : World) (g : Nat → Prop) (x : Typ) (cs : List Value) : Prop := ∃ v, cs = [v, .int .u8 x.re] ∧ Lies g x.ps.length (Byts w x.ps) v
def FncC (w : World) (g : Nat → Prop) (x : Fnc) (cs : List Value) : Prop := ∃ v v', cs = [.int .u32 x.ty, v, v'] ∧ Lies g x.ls.length (Byts w x.ls) v ∧ Ex.Code w g x.body v'
def LimC (w : World) (g : Nat → Prop) (x : Lim) (cs : List Value) : Prop := cs = [.int .u32 x.mn, .bool x.has, .int .u32 x.mx]
def GloC (w : World) (g : Nat → Prop) (x : Glo) (cs : List Value) : Prop := ∃ ds, cs = .int .u8 x.kd :: .bool x.mu :: ds ∧ InsC w g x.ini ds
def ExoC (w : World) (g : Nat → Prop) (x : Exo) (cs : List Value) : Prop := cs = [.string x.nm, .int .u8 x.wh, .int .u32 x.ix]
def ElmC (w : World) (g : Nat → Prop) (x : Elm) (cs : List Value) : Prop := ∃ ds v, cs = .int .u32 x.tb :: ds ++ [v] ∧ InsC w g x.off ds ∧ Lies g x.fs.length (Lab w x.fs) v
def DatC (w : World) (g : Nat → Prop) (x : Dat) (cs : List Value) : Prop := ∃ ds v, cs = .int .u32 x.tb :: ds ++ [v] ∧ InsC w g x.off ds ∧ Lies g x.bs.length (Byts w x.bs) v

/-- from one world to another: what g lets stays -/
def Mv (w w' : World) (g g' : Nat → Prop) : Prop := ∀ k, k < w.heap.size → g k → g' k ∧ w'.heap[k]? = w.heap[k]?
theorem Mv.moves {w w' : World} {g g' : Nat → Prop} (h : Mv w w' g g') : Moves w w' g g' := fun k hk _ hg => h k hk hg
theorem Mv.below {w w' : World} {g g' : Nat → Prop} (hb : Below w.heap.size w w') (hg : ∀ k, k < w.heap.size → g k → g' k) : Mv w w' g g' := fun k hk h => ⟨hg k hk h, hb.block k hk⟩
theorem Byts.lt {w : World} {zs : List Int} {b o : Nat} (h : Byts w zs b o) (hl : 0 < zs.length) : b < w.heap.size := World.block_lt_of_cell? w _ (h 0 hl)
theorem Byts.moved {w w' : World} {g g' : Nat → Prop} (hm : Mv w w' g g') {zs : List Int} {v : Value} (h : Lies g zs.length (Byts w zs) v) : Lies g' zs.length (Byts w' zs) v :=
  Lies.move h fun hl b o hg hp => have q := hm b (hp.lt hl) hg; ⟨q.1, fun j hj => (World.cell?_of_block (a := ⟨b, o + j, none⟩) q.2).trans (hp j hj)⟩
theorem InsC.moved {w w' : World} {g g' : Nat → Prop} (hm : Mv w w' g g') {i : Ins} {cs : List Value} (h : InsC w g i cs) : InsC w' g' i cs := by
  obtain ⟨vb, ve, vl, e, h1, h2, h3⟩ := h
  exact ⟨vb, ve, vl, e, h1.move hm.moves, h2.move hm.moves, Ex.Labs.move hm.moves h3⟩
theorem TypC.moved {w w' : World} {g g' : Nat → Prop} (hm : Mv w w' g g') {x : Typ} {cs : List Value} (h : TypC w g x cs) : TypC w' g' x cs := by
  obtain ⟨v, e, h1⟩ := h
  exact ⟨v, e, Byts.moved hm h1⟩
theorem FncC.moved {w w' : World} {g g' : Nat → Prop} (hm : Mv w w' g g') {x : Fnc} {cs : List Value} (h : FncC w g x cs) : FncC w' g' x cs := by
  obtain ⟨v, v', e, h1, h2⟩ := h
  exact ⟨v, v', e, Byts.moved hm h1, h2.move hm.moves⟩
theorem LimC.moved {w w' : World} {g g' : Nat → Prop} (hm : Mv w w' g g') {x : Lim} {cs : List Value} (h : LimC w g x cs) : LimC w' g' x cs := h
theorem GloC.moved {w w' : World} {g g' : Nat → Prop} (hm : Mv w w' g g') {x : Glo} {cs : List Value} (h : GloC w g x cs) : GloC w' g' x cs := by
  obtain ⟨ds, e, h1⟩ := h
  exact ⟨ds, e, h1.moved hm⟩
theorem ExoC.moved {w w' : World} {g g' : Nat → Prop} (hm : Mv w w' g g') {x : Exo} {cs : List Value} (h : ExoC w g x cs) : ExoC w' g' x cs := h
theorem ElmC.moved {w w' : World} {g g' : Nat → Prop} (hm : Mv w w' g g') {x : Elm} {cs : List Value} (h : ElmC w g x cs) : ElmC w' g' x cs := by
  obtain ⟨ds, v, e, h1, h2⟩ := h
  exact ⟨ds, v, e, h1.moved hm, Ex.Labs.move hm.moves h2⟩
theorem DatC.moved {w w' : World} {g g' : Nat → Prop} (hm : Mv w w' g g') {x : Dat} {cs : List Value} (h : DatC w g x cs) : DatC w' g' x cs := by
  obtain ⟨ds, v, e, h1, h2⟩ := h
  exact ⟨ds, v, e, h1.moved hm, Byts.moved hm h2⟩

/-- a list whose items have c cells each -/
def LL {α : Type} (It : World → (Nat → Prop) → α → List Value → Prop) (c : Nat) (w : World) (g : Nat → Prop) (l : List α) (v : Value) : Prop :=
  Lies g l.length (fun b o => b < w.heap.size ∧ ∀ i (h : i < l.length), ∃ cs, cs.length = c ∧ It w g l[i] cs ∧ ∀ j u, cs[j]? = some u → w.cell? ⟨b, o + i * c + j, none⟩ = some u) v
theorem LL.moved {α : Type} {It : World → (Nat → Prop) → α → List Value → Prop} {c : Nat} {w w' : World} {g g' : Nat → Prop} (hm : Mv w w' g g') (hs : w.heap.size ≤ w'.heap.size) (hI : ∀ x cs, It w g x cs → It w' g' x cs) {l : List α} {v : Value} (h : LL It c w g l v) : LL It c w' g' l v :=
  Lies.move h fun hl b o hg hp => by
    have q := hm b hp.1 hg
    refine ⟨q.1, Nat.lt_of_lt_of_le hp.1 hs, fun i hi => ?_⟩
    obtain ⟨cs, h1, h2, h3⟩ := hp.2 i hi
    exact ⟨cs, h1, hI _ _ h2, fun j u hu => (World.cell?_of_block (a := ⟨b, o + i * c + j, none⟩) q.2).trans (h3 j u hu)⟩
theorem LL_nil {α : Type} (It : World → (Nat → Prop) → α → List Value → Prop) (c : Nat) (w : World) (g : Nat → Prop) : LL It c w g [] (.slice none 0 0) := ⟨none, 0, rfl, Nat.le_refl _, fun _ => rfl, fun h => absurd h (by simp)⟩

/-- a module value: its eight lists -/
structure ModL (w : World) (g : Nat → Prop) (M : Mod) (v0 v1 v2 v3 v4 v5 v6 v7 : Value) : Prop where
  l0 : LL TypC 2 w g M.types v0
  l1 : LL FncC 3 w g M.funcs v1
  l2 : LL LimC 3 w g M.tables v2
  l3 : LL LimC 3 w g M.mems v3
  l4 : LL GloC 10 w g M.globs v4
  l5 : LL ExoC 3 w g M.exps v5
  l6 : LL ElmC 10 w g M.elems v6
  l7 : LL DatC 10 w g M.datas v7
theorem ModL.moved {w w' : World} {g g' : Nat → Prop} (hm : Mv w w' g g') (hs : w.heap.size ≤ w'.heap.size) {M : Mod} {v0 v1 v2 v3 v4 v5 v6 v7 : Value} (h : ModL w g M v0 v1 v2 v3 v4 v5 v6 v7) : ModL w' g' M v0 v1 v2 v3 v4 v5 v6 v7 :=
  ⟨h.l0.moved hm hs (fun _ _ q => TypC.moved hm q), h.l1.moved hm hs (fun _ _ q => FncC.moved hm q), h.l2.moved hm hs (fun _ _ q => LimC.moved hm q), h.l3.moved hm hs (fun _ _ q => LimC.moved hm q), h.l4.moved hm hs (fun _ _ q => GloC.moved hm q), h.l5.moved hm hs (fun _ _ q => ExoC.moved hm q), h.l6.moved hm hs (fun _ _ q => ElmC.moved hm q), h.l7.moved hm hs (fun _ _ q => DatC.moved hm q)⟩

/-- cells of a list that is being made -/
def Its {α : Type} (It : α → List Value → Prop) (c : Nat) (l : List α) (xs : List Value) : Prop :=
  ∃ css : List (List Value), xs = css.flatten ∧ css.length = l.length ∧ (∀ cs ∈ css, cs.length = c) ∧ ∀ i (h : i < l.length) (h' : i < css.length), It l[i] css[i]
theorem Its.nil {α : Type} (It : α → List Value → Prop) (c : Nat) : Its It c [] [] := ⟨[], rfl, rfl, by simp, fun i h => absurd h (by simp)⟩
theorem Its.snoc {α : Type} {It : α → List Value → Prop} {c : Nat} {l : List α} {xs : List Value} {x : α} {cs : List Value} (h : Its It c l xs) (hx : It x cs) (hc : cs.length = c) : Its It c (l ++ [x]) (xs ++ cs) := by
  obtain ⟨css, rfl, h1, h2, h3⟩ := h
  refine ⟨css ++ [cs], by simp, by simp [h1], fun ds hd => ?_, fun i hi hi' => ?_⟩
  · rcases List.mem_append.1 hd with hd | hd
    · exact h2 ds hd
    · simp at hd; rw [hd]; exact hc
  · by_cases e : i < l.length
    · rw [List.getElem_append_left e, List.getElem_append_left (by omega)]
      exact h3 i e (by omega)
    · have e1 : i = l.length := by simp at hi; omega
      subst e1
      have e2 : l.length = css.length := h1.symm
      rw [List.getElem_append_right (Nat.le_refl _), List.getElem_append_right (by omega)]
      simp only [Nat.sub_self, e2, List.getElem_cons_zero]
      exact hx
theorem Its.mono {α : Type} {It It' : α → List Value → Prop} {c : Nat} {l : List α} {xs : List Value} (hI : ∀ x cs, It x cs → It' x cs) (h : Its It c l xs) : Its It' c l xs := by
  obtain ⟨css, e, h1, h2, h3⟩ := h
  exact ⟨css, e, h1, h2, fun i hi hi' => hI _ _ (h3 i hi hi')⟩
theorem flat_get (c : Nat) : ∀ (css : List (List Value)), (∀ cs ∈ css, cs.length = c) → ∀ (i j : Nat) (hi : i < css.length), j < c → css.flatten[i * c + j]? = css[i][j]?
  | [], _, i, j, hi, _ => by simp at hi
  | d :: r, h, 0, j, hi, hj => by
    have hd := h d (by simp)
    rw [List.flatten_cons, Nat.zero_mul, Nat.zero_add, List.getElem?_append_left (by omega)]; rfl
  | d :: r, h, i + 1, j, hi, hj => by
    have hd := h d (by simp)
    rw [List.flatten_cons, List.getElem?_append_right (by rw [hd, Nat.add_mul]; omega), show (i + 1) * c + j - d.length = i * c + j by rw [hd, Nat.add_mul]; omega]
    exact flat_get c r (fun cs hc => h cs (by simp [hc])) i j (by simpa using hi) hj
/-- made: it can be read -/
theorem LL.made {α : Type} {It : World → (Nat → Prop) → α → List Value → Prop} {c : Nat} {w : World} {g : Nat → Prop} {base : Nat} {T : TypeId} {l : List α} {v : Value} {xs : List Value} (ho : w.ownsRow base T c v l.length xs) (hi : Its (It w g) c l xs) (hg : ∀ k, v.ownBlock = some k → g k) : LL It c w g l v := by
  have hlt := ho.lt
  obtain ⟨css, rfl, h1, h2, h3⟩ := hi
  rcases ho.2 with ⟨rfl, h0⟩ | ⟨gg, cap, cur, rfl, _, _, hc, _⟩
  · obtain rfl : l = [] := List.eq_nil_of_length_eq_zero h0
    exact LL_nil _ _ _ _
  · refine ⟨_, cap, rfl, hc, by simp, fun hl => ⟨gg, 0, rfl, hg gg rfl, (hlt gg rfl).2, fun i hi => ⟨css[i]'(by omega), h2 _ (List.getElem_mem _), h3 i hi (by omega), fun j u hu => ?_⟩⟩⟩
    have hj : j < c := by
      have := (List.getElem?_eq_some_iff.1 hu).1
      rw [h2 _ (List.getElem_mem _)] at this; exact this
    have := Ex.row_cells ho (i * c + j) u (by rw [flat_get c css h2 i j (by omega) hj]; exact hu)
    rw [Nat.zero_add]; exact this
end Gm
end Go.Proofs.YtcpknafaocdjdaaGreatDoor
