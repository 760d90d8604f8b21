/- What VcodeClones writes into a clone. -/
import Derived.Test.YtlihhncloanbhaaDoorVcW
import Derived.Test.YtlihhncloanbhaaDoorVcT
namespace Go.Proofs.YtlihhncloanbhaaDoor
open Go.RowKit
namespace Vc
set_option linter.unusedVariables false

/-- the first item turned -/
theorem first_turned {α : Type} {New : World → Nat → Nat → α → List Value → Prop} {It : World → (Nat → Prop) → α → List Value → Prop} {c : Nat} {T : TypeId} {W W' : World} {b p hi cap : Nat} {g : Nat → Prop} {x x' : α} {r : List α} {cs' : List Value} (hN : Moves New) (hI : ∀ lo' hi' y ds, p ≤ lo' → hi' ≤ hi → New W' lo' hi' y ds → It W' g y ds) (hg : g b) (hcap : r.length + 1 ≤ cap)
    (hit : ∀ i y, (x :: r)[i]? = some y → ∃ cs, cs.length = c ∧ New W (if i = 0 then b + 1 else p) (if i = 0 then p else hi) y cs ∧ ∀ j u, cs[j]? = some u → W.cell? ⟨b, i * c + j, none⟩ = some u)
    (hT : RowT W' b T) (hce : ∀ i, c ≤ i → W'.cell? ⟨b, i, none⟩ = W.cell? ⟨b, i, none⟩) (hm : Mo W W' p hi) (hl : cs'.length = c) (hx : It W' g x' cs') (h0 : ∀ j u, cs'[j]? = some u → W'.cell? ⟨b, j, none⟩ = some u) :
    LL It c W' g (x' :: r) (.slice (some ⟨b, 0, none⟩) (r.length + 1) cap) := by
  refine ⟨_, cap, rfl, by simpa using hcap, by simp, fun _ => ⟨b, 0, rfl, hg, hT.lt, fun i y hy => ?_⟩⟩
  match i, hy with
  | 0, hy =>
    simp at hy; subst hy
    exact ⟨cs', hl, hx, fun j u hu => by simpa using h0 j u hu⟩
  | i + 1, hy =>
    obtain ⟨cs, h1, h2, h3⟩ := hit (i + 1) y (by simpa using hy)
    rw [if_neg (by omega), if_neg (by omega)] at h2
    refine ⟨cs, h1, hI p hi _ _ (Nat.le_refl _) (Nat.le_refl _) (hN _ _ _ _ _ _ _ _ h2 hm (Nat.le_refl _) (Nat.le_refl _)), fun j u hu => ?_⟩
    rw [Nat.zero_add, hce _ (by rw [Nat.add_mul]; omega)]
    exact h3 j u hu
/-- a clone, its first block laid open -/
structure Fst (W : World) (lo hi : Nat) (ins : List In) (next : List Int) (dep : Int) (r : List Bl) (b p q cap : Nat) (vi vn : Value) : Prop where
  hb : lo ≤ b
  bp : b < p
  ph : p ≤ hi
  hcap : r.length + 1 ≤ cap
  t : RowT W b 47
  it : ∀ i y, ((⟨ins, next, dep⟩ : Bl) :: r)[i]? = some y → ∃ cs, cs.length = 3 ∧ BlO W (if i = 0 then b + 1 else p) (if i = 0 then p else hi) y cs ∧ ∀ j u, cs[j]? = some u → W.cell? ⟨b, i * 3 + j, none⟩ = some u
  c0 : W.cell? ⟨b, 0, none⟩ = some vi
  c1 : W.cell? ⟨b, 1, none⟩ = some vn
  c2 : W.cell? ⟨b, 2, none⟩ = some (.int .i64 dep)
  q1 : b + 1 ≤ q
  q2 : q ≤ p
  n : NumO W (b + 1) q next vn
  i : Own InO 5 50 W q p ins vi
theorem CoO.fst {W : World} {lo hi : Nat} {ins : List In} {next : List Int} {dep : Int} {r : List Bl} {v : Value} (h : CoO W lo hi (⟨ins, next, dep⟩ :: r) v) : ∃ b p q cap vi vn, v = .slice (some ⟨b, 0, none⟩) (r.length + 1) cap ∧ Fst W lo hi ins next dep r b p q cap vi vn := by
  obtain ⟨a, cap, rfl, hcap, _, hl⟩ := h
  obtain ⟨b, p, rfl, h1, h2, h3, h4, h5⟩ := hl (by simp)
  obtain ⟨cs, k1, ⟨vi, vn, q, rfl, k2, k3, k4, k5⟩, k6⟩ := h5 0 _ rfl
  simp only [if_true] at k2 k3 k4 k5
  refine ⟨b, p, q, cap, vi, vn, rfl, h1, h2, h3, by simpa using hcap, h4, h5, ?_, ?_, ?_, k2, k3, k4, k5⟩
  · have := k6 0 _ rfl; simpa using this
  · have := k6 1 _ rfl; simpa using this
  · have := k6 2 _ rfl; simpa using this
theorem Fst.dep {W : World} {lo hi : Nat} {ins : List In} {next : List Int} {dep : Int} {r : List Bl} {b p q cap : Nat} {vi vn : Value} (h : Fst W lo hi ins next dep r b p q cap vi vn) (d : Int) : Bls (W.setCell ⟨b, 2, none⟩ (.int .i64 d)) (fun _ => True) (⟨ins, next, d⟩ :: r) (.slice (some ⟨b, 0, none⟩) (r.length + 1) cap) := by
  have hm : ∀ lo' hi', b < lo' → Mo W (W.setCell ⟨b, 2, none⟩ (.int .i64 d)) lo' hi' := fun lo' hi' hl k a _ => heap_setCell_other _ _ _ _ (by show k ≠ b; omega)
  have oth : ∀ i, i ≠ 2 → (W.setCell ⟨b, 2, none⟩ (.int .i64 d)).cell? ⟨b, i, none⟩ = W.cell? ⟨b, i, none⟩ := fun i hi => World.cell?_setCell_other W _ _ _ (by intro e; injection e with _ e2 _; omega)
  refine first_turned (T := 47) (cs' := [vi, vn, .int .i64 d]) BlO.moves (fun lo' hi' y ds _ _ hy => hy.blc fun _ _ _ => trivial) trivial h.hcap h.it h.t.set (fun i hi => oth i (by omega)) (hm _ _ h.bp) rfl ?_ ?_
  · exact BlO.blc (lo := b + 1) (hi := p) ⟨vi, vn, q, rfl, h.q1, h.q2, h.n.move (hm _ _ (by omega)) (Nat.le_refl _) (Nat.le_refl _), Own.move InO.moves h.i (hm _ _ (by have := h.q1; omega)) (Nat.le_refl _) (Nat.le_refl _)⟩ (fun _ _ _ => trivial)
  · intro j u hu
    match j, hu with
    | 0, hu => cases hu; exact (oth 0 (by omega)).trans h.c0
    | 1, hu => cases hu; exact (oth 1 (by omega)).trans h.c1
    | 2, hu => cases hu; exact World.cell?_setCell_same W _ _ h.c2
    | j + 3, hu => simp at hu
/-- its first Next -/
theorem Fst.nxt {W : World} {lo hi : Nat} {ins : List In} {z : Int} {t : List Int} {dep : Int} {r : List Bl} {b p q cap : Nat} {vi vn : Value} (h : Fst W lo hi ins (z :: t) dep r b p q cap vi vn) : ∃ bn cn, vn = .slice (some ⟨bn, 0, none⟩) (t.length + 1) cn ∧ lo ≤ bn ∧ bn < hi ∧ W.cell? ⟨bn, 0, none⟩ = some (.int .i64 z) ∧ (∀ i, W.frozen? ⟨bn, i, none⟩ = false) ∧
    ∀ d : Int, Bls (W.setCell ⟨bn, 0, none⟩ (.int .i64 d)) (fun _ => True) (⟨ins, d :: t, dep⟩ :: r) (.slice (some ⟨b, 0, none⟩) (r.length + 1) cap) := by
  obtain ⟨a, cn, rfl, hcn, hnn, hl⟩ := h.n
  obtain ⟨bn, rfl, h1, h2, h3, h4⟩ := hl (by simp)
  have hq1 := h.q1; have hq2 := h.q2; have hb := h.hb; have hph := h.ph
  refine ⟨bn, cn, rfl, by omega, by omega, by simpa using h4 0 (by simp), h3.frozen, fun d => ?_⟩
  have hm : ∀ lo' hi', bn < lo' → Mo W (W.setCell ⟨bn, 0, none⟩ (.int .i64 d)) lo' hi' := fun lo' hi' hl k a _ => heap_setCell_other _ _ _ _ (by show k ≠ bn; omega)
  have hrow : (W.setCell ⟨bn, 0, none⟩ (.int .i64 d)).heap[b]? = W.heap[b]? := heap_setCell_other _ _ _ _ (by show b ≠ bn; omega)
  have oth : ∀ i, (W.setCell ⟨bn, 0, none⟩ (.int .i64 d)).cell? ⟨b, i, none⟩ = W.cell? ⟨b, i, none⟩ := fun i => World.cell?_of_block (a := ⟨b, i, none⟩) hrow
  refine first_turned (T := 47) (cs' := [vi, .slice (some ⟨bn, 0, none⟩) (t.length + 1) cn, .int .i64 dep]) BlO.moves (fun lo' hi' y ds _ _ hy => hy.blc fun _ _ _ => trivial) trivial h.hcap h.it (h.t.move hrow) (fun i hi => oth i) (hm _ _ (by omega)) rfl ?_ ?_
  · have hno : NumO (W.setCell ⟨bn, 0, none⟩ (.int .i64 d)) (b + 1) q (d :: t) (.slice (some ⟨bn, 0, none⟩) (t.length + 1) cn) := by
      refine ⟨_, cn, rfl, hcn, by simp, fun _ => ⟨bn, rfl, h1, h2, h3.set, fun j hj => ?_⟩⟩
      match j with
      | 0 => exact World.cell?_setCell_same W _ _ (h4 0 (by simp))
      | j + 1 =>
        have := h4 (j + 1) (by simpa using hj)
        rw [World.cell?_setCell_other W _ _ _ (by intro e; injection e with _ e2 _; omega), this]
        simp [List.getD]
    exact BlO.blc (lo := b + 1) (hi := p) ⟨vi, _, q, rfl, h.q1, h.q2, hno, Own.move InO.moves h.i (hm _ _ (by omega)) (Nat.le_refl _) (Nat.le_refl _)⟩ (fun _ _ _ => trivial)
  · intro j u hu
    match j, hu with
    | 0, hu => cases hu; exact (oth 0).trans h.c0
    | 1, hu => cases hu; exact (oth 1).trans h.c1
    | 2, hu => cases hu; exact (oth 2).trans h.c2
    | j + 3, hu => simp at hu
/-- its first instruction laid open -/
structure FstI (W : World) (lo hi : Nat) (y : In) (t : List In) (next : List Int) (dep : Int) (r : List Bl) (b p q cap : Nat) (vn : Value) (bi p2 ci : Nat) (vs : Value) : Prop where
  f : Fst W lo hi (y :: t) next dep r b p q cap (.slice (some ⟨bi, 0, none⟩) (t.length + 1) ci) vn
  l1 : q ≤ bi
  l2 : bi < p2
  l3 : p2 ≤ p
  hci : t.length + 1 ≤ ci
  tt : RowT W bi 50
  it : ∀ i z, (y :: t)[i]? = some z → ∃ cs, cs.length = 5 ∧ InO W (if i = 0 then bi + 1 else p2) (if i = 0 then p2 else p) z cs ∧ ∀ j u, cs[j]? = some u → W.cell? ⟨bi, i * 5 + j, none⟩ = some u
  d0 : W.cell? ⟨bi, 0, none⟩ = some (.int .u8 (y.op : Int))
  d1 : W.cell? ⟨bi, 1, none⟩ = some (.int .i64 y.dst)
  d2 : W.cell? ⟨bi, 2, none⟩ = some vs
  d3 : W.cell? ⟨bi, 3, none⟩ = some (.int .i64 y.n)
  d4 : W.cell? ⟨bi, 4, none⟩ = some (.int .u32 y.of)
  s : NumO W (bi + 1) p2 y.src vs
theorem Fst.ins {W : World} {lo hi : Nat} {y : In} {t : List In} {next : List Int} {dep : Int} {r : List Bl} {b p q cap : Nat} {vi vn : Value} (h : Fst W lo hi (y :: t) next dep r b p q cap vi vn) : ∃ bi p2 ci vs, vi = .slice (some ⟨bi, 0, none⟩) (t.length + 1) ci ∧ FstI W lo hi y t next dep r b p q cap vn bi p2 ci vs := by
  obtain ⟨a, ci, rfl, hci, _, hl⟩ := id h.i
  obtain ⟨bi, p2, rfl, h1, h2, h3, h4, h5⟩ := hl (by simp)
  obtain ⟨cs, k1, ⟨vs, rfl, k2⟩, k6⟩ := h5 0 _ rfl
  simp only [if_true] at k2
  refine ⟨bi, p2, ci, vs, rfl, h, h1, h2, h3, by simpa using hci, h4, h5, ?_, ?_, ?_, ?_, ?_, k2⟩
  · have := k6 0 _ rfl; simpa using this
  · have := k6 1 _ rfl; simpa using this
  · have := k6 2 _ rfl; simpa using this
  · have := k6 3 _ rfl; simpa using this
  · have := k6 4 _ rfl; simpa using this
/-- what is left of a clone when its first block's first instruction is another one -/
theorem FstI.turned {W W' : World} {lo hi : Nat} {y y' : In} {t : List In} {next : List Int} {dep : Int} {r : List Bl} {b p q cap : Nat} {vn : Value} {bi p2 ci : Nat} {vs : Value} (h : FstI W lo hi y t next dep r b p q cap vn bi p2 ci vs) (hm : ∀ k, k ≠ bi → (k < bi ∨ p2 ≤ k) → W'.heap[k]? = W.heap[k]?) (hT : RowT W' bi 50) (hce : ∀ i, 5 ≤ i → W'.cell? ⟨bi, i, none⟩ = W.cell? ⟨bi, i, none⟩)
    {cs' : List Value} (hl : cs'.length = 5) (hx : InC W' (fun _ => True) y' cs') (h0 : ∀ j u, cs'[j]? = some u → W'.cell? ⟨bi, j, none⟩ = some u) : Bls W' (fun _ => True) (⟨y' :: t, next, dep⟩ :: r) (.slice (some ⟨b, 0, none⟩) (r.length + 1) cap) := by
  have hq1 := h.f.q1; have hq2 := h.f.q2; have l1 := h.l1; have l2 := h.l2; have l3 := h.l3
  have hrow : W'.heap[b]? = W.heap[b]? := hm b (by omega) (by omega)
  have oth : ∀ i, W'.cell? ⟨b, i, none⟩ = W.cell? ⟨b, i, none⟩ := fun i => World.cell?_of_block (a := ⟨b, i, none⟩) hrow
  have hins : LL InC 5 W' (fun _ => True) (y' :: t) (.slice (some ⟨bi, 0, none⟩) (t.length + 1) ci) :=
    first_turned (T := 50) InO.moves (fun lo' hi' y ds _ _ hy => hy.inc fun _ _ _ => trivial) trivial h.hci h.it hT hce (fun k a _ => hm k (by omega) (by omega)) hl hx h0
  refine first_turned (T := 47) (cs' := [.slice (some ⟨bi, 0, none⟩) (t.length + 1) ci, vn, .int .i64 dep]) BlO.moves (fun lo' hi' y ds _ _ hy => hy.blc fun _ _ _ => trivial) trivial h.f.hcap h.f.it (h.f.t.move hrow) (fun i hi => oth i) (fun k a _ => hm k (by omega) (by omega)) rfl ?_ ?_
  · exact ⟨_, _, rfl, hins, (h.f.n.move (w' := W') (fun k a c => hm k (by omega) (by omega)) (Nat.le_refl _) (Nat.le_refl _)).lies.wide fun _ _ => trivial⟩
  · intro j u hu
    match j, hu with
    | 0, hu => cases hu; exact (oth 0).trans h.f.c0
    | 1, hu => cases hu; exact (oth 1).trans h.f.c1
    | 2, hu => cases hu; exact (oth 2).trans h.f.c2
    | j + 3, hu => simp at hu
theorem FstI.num {W : World} {lo hi : Nat} {y : In} {t : List In} {next : List Int} {dep : Int} {r : List Bl} {b p q cap : Nat} {vn : Value} {bi p2 ci : Nat} {vs : Value} (h : FstI W lo hi y t next dep r b p q cap vn bi p2 ci vs) (d : Int) : Bls (W.setCell ⟨bi, 3, none⟩ (.int .i64 d)) (fun _ => True) (⟨⟨y.op, y.dst, y.src, d, y.of⟩ :: t, next, dep⟩ :: r) (.slice (some ⟨b, 0, none⟩) (r.length + 1) cap) := by
  have oth : ∀ i, i ≠ 3 → (W.setCell ⟨bi, 3, none⟩ (.int .i64 d)).cell? ⟨bi, i, none⟩ = W.cell? ⟨bi, i, none⟩ := fun i hi => World.cell?_setCell_other W _ _ _ (by intro e; injection e with _ e2 _; omega)
  refine h.turned (cs' := [.int .u8 (y.op : Int), .int .i64 y.dst, vs, .int .i64 d, .int .u32 y.of]) (fun k hk _ => heap_setCell_other _ _ _ _ hk) h.tt.set (fun i hi => oth i (by omega)) rfl
    ⟨vs, rfl, (h.s.move (fun k a _ => heap_setCell_other _ _ _ _ (by show k ≠ bi; omega)) (Nat.le_refl _) (Nat.le_refl _)).lies.wide fun _ _ => trivial⟩ ?_
  intro j u hu
  match j, hu with
  | 0, hu => cases hu; exact (oth 0 (by omega)).trans h.d0
  | 1, hu => cases hu; exact (oth 1 (by omega)).trans h.d1
  | 2, hu => cases hu; exact (oth 2 (by omega)).trans h.d2
  | 3, hu => cases hu; exact World.cell?_setCell_same W _ _ h.d3
  | 4, hu => cases hu; exact (oth 4 (by omega)).trans h.d4
  | j + 5, hu => simp at hu
theorem FstI.reg {W : World} {lo hi : Nat} {op : Nat} {dst : Int} {z : Int} {zs : List Int} {n of : Int} {t : List In} {next : List Int} {dep : Int} {r : List Bl} {b p q cap : Nat} {vn : Value} {bi p2 ci : Nat} {vs : Value} (h : FstI W lo hi ⟨op, dst, z :: zs, n, of⟩ t next dep r b p q cap vn bi p2 ci vs) : ∃ bs cs, vs = .slice (some ⟨bs, 0, none⟩) (zs.length + 1) cs ∧ lo ≤ bs ∧ bs < hi ∧ W.cell? ⟨bs, 0, none⟩ = some (.int .i64 z) ∧ (∀ i, W.frozen? ⟨bs, i, none⟩ = false) ∧
    ∀ d : Int, Bls (W.setCell ⟨bs, 0, none⟩ (.int .i64 d)) (fun _ => True) (⟨⟨op, dst, d :: zs, n, of⟩ :: t, next, dep⟩ :: r) (.slice (some ⟨b, 0, none⟩) (r.length + 1) cap) := by
  obtain ⟨a, cs, rfl, hcs, hnn, hl⟩ := h.s
  obtain ⟨bs, rfl, h1, h2, h3, h4⟩ := hl (by simp)
  have hq1 := h.f.q1; have hq2 := h.f.q2; have hb := h.f.hb; have hph := h.f.ph; have l1 := h.l1; have l2 := h.l2; have l3 := h.l3
  refine ⟨bs, cs, rfl, by omega, by omega, by simpa using h4 0 (by simp), h3.frozen, fun d => ?_⟩
  have hrow : (W.setCell ⟨bs, 0, none⟩ (.int .i64 d)).heap[bi]? = W.heap[bi]? := heap_setCell_other _ _ _ _ (by show bi ≠ bs; omega)
  have oth : ∀ i, (W.setCell ⟨bs, 0, none⟩ (.int .i64 d)).cell? ⟨bi, i, none⟩ = W.cell? ⟨bi, i, none⟩ := fun i => World.cell?_of_block (a := ⟨bi, i, none⟩) hrow
  have hno : NumO (W.setCell ⟨bs, 0, none⟩ (.int .i64 d)) (bi + 1) p2 (d :: zs) (.slice (some ⟨bs, 0, none⟩) (zs.length + 1) cs) := by
    refine ⟨_, cs, rfl, hcs, by simp, fun _ => ⟨bs, rfl, h1, h2, h3.set, fun j hj => ?_⟩⟩
    match j with
    | 0 => exact World.cell?_setCell_same W _ _ (h4 0 (by simp))
    | j + 1 =>
      have := h4 (j + 1) (by simpa using hj)
      rw [World.cell?_setCell_other W _ _ _ (by intro e; injection e with _ e2 _; omega), this]
      simp [List.getD]
  refine h.turned (cs' := [.int .u8 (op : Int), .int .i64 dst, .slice (some ⟨bs, 0, none⟩) (zs.length + 1) cs, .int .i64 n, .int .u32 of]) (fun k hk hk2 => heap_setCell_other _ _ _ _ (by show k ≠ bs; omega)) (h.tt.move hrow) (fun i hi => oth i) rfl
    ⟨_, rfl, hno.lies.wide fun _ _ => trivial⟩ ?_
  intro j u hu
  match j, hu with
  | 0, hu => cases hu; exact (oth 0).trans h.d0
  | 1, hu => cases hu; exact (oth 1).trans h.d1
  | 2, hu => cases hu; exact (oth 2).trans h.d2
  | 3, hu => cases hu; exact (oth 3).trans h.d3
  | 4, hu => cases hu; exact (oth 4).trans h.d4
  | j + 5, hu => simp at hu
/-- one more, in a machine's numbers, is another one -/
theorem wrap_ne (z : Int) (h : i64 z) : wrap64 (z + 1) ≠ z ∧ i64 (wrap64 (z + 1)) := by
  obtain ⟨h1, h2⟩ := h
  unfold wrap64
  unfold i64
  omega
/-- what stands while VcodeClones goes on: the boxes of c, a, b; a's blocks below lo; b's; c' what b holds -/
structure St (w : World) (c c' : Co) (v va vb : Value) (NA NB lo : Nat) (W : World) : Prop where
  b0 : W.heap[w.heap.size]? = some (.cells (cob c.pa c.re c.rs v) 24 (0, 0))
  b5 : W.heap[NA]? = some (.cells (cob c.pa c.re c.rs va) 29 (0, 0))
  b6 : W.heap[NB]? = some (.cells (cob c'.pa c'.re c'.rs vb) 29 (0, 0))
  la : Bls W (fun k => k < NA) c.bl va
  lb : Bls W (fun _ => True) c'.bl vb
  be : Below w.heap.size w W
  n0 : w.heap.size < NA
  n1 : NA < lo
  n2 : lo ≤ NB
theorem St.on {w : World} {c c' : Co} {v va vb : Value} {NA NB lo : Nat} {W W' : World} (h : St w c c' v va vb NA NB lo W) (hb : Below W.heap.size W W') : St w c c' v va vb NA NB lo W' :=
  ⟨(hb.block _ (Array.getElem?_eq_some_iff.1 h.b0).1).trans h.b0, (hb.block _ (Array.getElem?_eq_some_iff.1 h.b5).1).trans h.b5, (hb.block _ (Array.getElem?_eq_some_iff.1 h.b6).1).trans h.b6, h.la.below hb, h.lb.below hb, h.be.trans (hb.mono h.be.size), h.n0, h.n1, h.n2⟩
/-- the cells that are read -/
def Cls (w : World) (c c' : Co) (v va vb : Value) (NA NB : Nat) (W : World) : Prop :=
  (W.cell? ⟨w.heap.size, 0, none⟩ = some (.int .i64 c.pa) ∧ W.cell? ⟨w.heap.size, 1, none⟩ = some (.int .i64 c.re) ∧ W.cell? ⟨w.heap.size, 2, none⟩ = some (.bool c.rs) ∧ W.cell? ⟨w.heap.size, 3, none⟩ = some v) ∧
  (W.cell? ⟨NA, 0, none⟩ = some (.int .i64 c.pa) ∧ W.cell? ⟨NA, 1, none⟩ = some (.int .i64 c.re) ∧ W.cell? ⟨NA, 2, none⟩ = some (.bool c.rs) ∧ W.cell? ⟨NA, 3, none⟩ = some va) ∧
  (W.cell? ⟨NB, 0, none⟩ = some (.int .i64 c'.pa) ∧ W.cell? ⟨NB, 1, none⟩ = some (.int .i64 c'.re) ∧ W.cell? ⟨NB, 2, none⟩ = some (.bool c'.rs) ∧ W.cell? ⟨NB, 3, none⟩ = some vb)
theorem St.cls {w : World} {c c' : Co} {v va vb : Value} {NA NB lo : Nat} {W : World} (h : St w c c' v va vb NA NB lo W) : Cls w c c' v va vb NA NB W := by
  obtain ⟨x0, x1, x2, x3, _, _⟩ := cob_cells h.b0
  obtain ⟨y0, y1, y2, y3, _, _⟩ := cob_cells h.b5
  obtain ⟨z0, z1, z2, z3, _, _⟩ := cob_cells h.b6
  exact ⟨⟨x0, x1, x2, x3⟩, ⟨y0, y1, y2, y3⟩, ⟨z0, z1, z2, z3⟩⟩
/-- behind a write into what is b's alone -/
theorem St.wrote {w : World} {c c' c2 : Co} {v va vb vb2 : Value} {NA NB lo X o : Nat} {W : World} {u : Value} (h : St w c c' v va vb NA NB lo W) (hX : lo ≤ X) (hb6 : (W.setCell ⟨X, o, none⟩ u).heap[NB]? = some (.cells (cob c2.pa c2.re c2.rs vb2) 29 (0, 0))) (hlb : Bls (W.setCell ⟨X, o, none⟩ u) (fun _ => True) c2.bl vb2) : St w c c2 v va vb2 NA NB lo (W.setCell ⟨X, o, none⟩ u) := by
  have n0 := h.n0; have n1 := h.n1; have n2 := h.n2
  refine ⟨(heap_setCell_other _ _ _ _ (by show w.heap.size ≠ X; omega)).trans h.b0, (heap_setCell_other _ _ _ _ (by show NA ≠ X; omega)).trans h.b5, hb6, ?_, hlb, h.be.setCell (p := ⟨X, o, none⟩) (by show w.heap.size ≤ X; omega) u, n0, n1, n2⟩
  exact h.la.moved (fun k _ hk => ⟨hk, heap_setCell_other _ _ _ _ (by show k ≠ X; omega)⟩) (by simp)
theorem St.row {w : World} {c c' : Co} {v va vb : Value} {NA NB lo X o : Nat} {W : World} {u : Value} (h : St w c c' v va vb NA NB lo W) (hX : X ≠ NB) : (W.setCell ⟨X, o, none⟩ u).heap[NB]? = some (.cells (cob c'.pa c'.re c'.rs vb) 29 (0, 0)) := (heap_setCell_other _ _ _ _ (by show NB ≠ X; omega)).trans h.b6
/-- behind an append to no blocks -/
theorem St.app {w : World} {c : Co} {v va : Value} {ab : Option Addr} {cb NA NB lo gg cpn : Nat} {W w5 : World} {O : Obj} (h : St w c c v va (.slice ab 0 cb) NA NB lo W) (hbl : c.bl = []) (ho : W.ownsRow lo 47 3 (.slice ab 0 cb) 0 []) (hown : w5.ownsRow lo 47 3 (.slice (some ⟨gg, 0, none⟩) 1 cpn) 1 (blC 0 (.slice none 0 0) (.slice none 0 0))) (hgrow : (W.alloc O).grownBy w5 (Value.slice ab 0 cb).ownBlock) :
    St w c ⟨c.pa, c.re, c.rs, [⟨[], [], 0⟩]⟩ v va (.slice (some ⟨gg, 0, none⟩) 1 cpn) NA NB lo (w5.setCell ⟨NB, 3, none⟩ (.slice (some ⟨gg, 0, none⟩) 1 cpn)) := by
  have n0 := h.n0; have n1 := h.n1; have n2 := h.n2
  have no : ∀ (q : Nat) (A : Array Value) (t : TypeId), t ≠ 47 → W.heap[q]? = some (Obj.cells A t (0, 0)) → w5.heap[q]? = some (Obj.cells A t (0, 0)) := fun q A t ht hq => by
    have hlt := (Array.getElem?_eq_some_iff.1 hq).1
    refine ((hgrow.block q (by simp; omega) (fun e => ?_)).trans (Below.heap_alloc W _ _ hlt)).trans hq
    rcases ho.2 with ⟨e2, _⟩ | ⟨g, cap, cur, e2, _, hc, _⟩
    · cases e2; cases e
    · cases e2
      simp only [Value.ownBlock, Option.some.injEq] at e
      subst e
      rw [hq] at hc
      simp at hc
      exact ht hc.2
  have h0 := no _ _ _ (by decide) h.b0
  have h5 := no _ _ _ (by decide) h.b5
  have h6 := no _ _ _ (by decide) h.b6
  have hce := row_cells hown
  have hgt : RowT w5 gg 47 := by
    rcases hown.2 with ⟨e2, _⟩ | ⟨g, cap, cur, e2, _, hc, _⟩
    · cases e2
    · cases e2; exact ⟨cur, hc⟩
  have hgn : gg ≠ NB := fun e => by
    obtain ⟨cur, hc⟩ := hgt
    rw [e, h6] at hc
    simp at hc
  have oth : ∀ i, (w5.setCell ⟨NB, 3, none⟩ (.slice (some ⟨gg, 0, none⟩) 1 cpn)).cell? ⟨gg, i, none⟩ = w5.cell? ⟨gg, i, none⟩ := fun i => World.cell?_setCell_other w5 _ _ _ (by intro e; injection e with e1 _ _; omega)
  have hcp : 1 ≤ cpn := by
    rcases hown.2 with ⟨e2, _⟩ | ⟨g, cap, cur, e2, _, hc, hle, _⟩
    · cases e2
    · cases e2; exact hle
  refine ⟨(heap_setCell_other _ _ _ _ (by show w.heap.size ≠ NB; omega)).trans h0, (heap_setCell_other _ _ _ _ (by show NA ≠ NB; omega)).trans h5, (heap_setCell_same w5 _ 3 _ _ _ h6).trans rfl, ?_, ?_, ?_, n0, n1, n2⟩
  · have := h.la
    rw [hbl] at this ⊢
    exact Lies.move this fun hl => by simp at hl
  · refine ⟨_, cpn, rfl, hcp, by simp, fun _ => ⟨gg, 0, rfl, trivial, by have := hgt.lt; simpa using this, fun i x hx => ?_⟩⟩
    match i, hx with
    | 0, hx =>
      simp at hx; subst hx
      refine ⟨_, rfl, ⟨.slice none 0 0, .slice none 0 0, rfl, LL_nil _ _ _ _, none, 0, rfl, Nat.le_refl _, fun _ => rfl, fun h => by simp at h⟩, fun j u hu => ?_⟩
      rw [oth]
      have := hce j u hu
      simpa using this
    | i + 1, hx => simp at hx
  · exact ((h.be.alloc h.be.size O).grown hgrow (by simp; have := h.be.size; omega) (fun k hk => by have := (ho.lt k hk).1; omega)).setCell (p := ⟨NB, 3, none⟩) (by show w.heap.size ≤ NB; omega) _
end Vc
end Go.Proofs.YtlihhncloanbhaaDoor
