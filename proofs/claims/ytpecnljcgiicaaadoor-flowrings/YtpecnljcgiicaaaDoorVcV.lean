/- Code in rows of its own, the first block's and its first instruction's apart. -/
import Derived.Test.YtpecnljcgiicaaaDoorVcU
import Derived.Test.YtpecnljcgiicaaaDoorVcR0
namespace Go.Proofs.YtpecnljcgiicaaaDoor
open Go.RowKit
namespace Vc
set_option linter.unusedVariables false

/-- blocks from lo up to hi stay -/
def Mo (w w' : World) (lo hi : Nat) : Prop := ∀ k, lo ≤ k → k < hi → w'.heap[k]? = w.heap[k]?
theorem Mo.sub {w w' : World} {lo hi lo' hi' : Nat} (h : Mo w w' lo hi) (h1 : lo ≤ lo') (h2 : hi' ≤ hi) : Mo w w' lo' hi' := fun k a b => h k (by omega) (by omega)
theorem Mo.below {w w' : World} {B lo hi : Nat} (h : Below B w w') (h2 : hi ≤ B) : Mo w w' lo hi := fun k a b => h.block k (by omega)
def RowT (w : World) (b : Nat) (T : TypeId) : Prop := ∃ cur, w.heap[b]? = some (.cells cur T (0, 0))
theorem RowT.move {w w' : World} {b : Nat} {T : TypeId} (h : RowT w b T) (hm : w'.heap[b]? = w.heap[b]?) : RowT w' b T := by
  obtain ⟨cur, h⟩ := h; exact ⟨cur, hm.trans h⟩
theorem RowT.set {w : World} {b i : Nat} {T : TypeId} {v : Value} (h : RowT w b T) : RowT (w.setCell ⟨b, i, none⟩ v) b T := by
  obtain ⟨cur, h⟩ := h; exact ⟨_, heap_setCell_same w b i _ _ v h⟩
theorem RowT.frozen {w : World} {b : Nat} {T : TypeId} (h : RowT w b T) (i : Nat) : w.frozen? ⟨b, i, none⟩ = false := by
  obtain ⟨cur, h⟩ := h; simp [World.frozen?, h]
theorem RowT.lt {w : World} {b : Nat} {T : TypeId} (h : RowT w b T) : b < w.heap.size := by
  obtain ⟨cur, h⟩ := h; exact (Array.getElem?_eq_some_iff.1 h).1
/-- numbers in a row of their own -/
def NumO (w : World) (lo hi : Nat) (zs : List Int) (v : Value) : Prop :=
  ∃ a cap, v = .slice a zs.length cap ∧ zs.length ≤ cap ∧ (a = none → cap = 0) ∧ (0 < zs.length → ∃ b, a = some ⟨b, 0, none⟩ ∧ lo ≤ b ∧ b < hi ∧ RowT w b 3 ∧ Nums w zs b 0)
theorem NumO.move {w w' : World} {lo hi lo' hi' : Nat} {zs : List Int} {v : Value} (h : NumO w lo hi zs v) (hm : Mo w w' lo hi) (h1 : lo' ≤ lo) (h2 : hi ≤ hi') : NumO w' lo' hi' zs v := by
  obtain ⟨a, cap, e, hc, hn, hl⟩ := h
  refine ⟨a, cap, e, hc, hn, fun h0 => ?_⟩
  obtain ⟨b, e, h3, h4, h5, h6⟩ := hl h0
  exact ⟨b, e, by omega, by omega, h5.move (hm b h3 h4), fun j hj => (World.cell?_of_block (a := ⟨b, 0 + j, none⟩) (hm b h3 h4)).trans (h6 j hj)⟩
theorem NumO.lies {w : World} {lo hi : Nat} {zs : List Int} {v : Value} (h : NumO w lo hi zs v) : NumsL w (fun k => lo ≤ k ∧ k < hi) zs v := by
  obtain ⟨a, cap, e, hc, hn, hl⟩ := h
  refine ⟨a, cap, e, hc, hn, fun h0 => ?_⟩
  obtain ⟨b, e, h3, h4, h5, h6⟩ := hl h0
  exact ⟨b, 0, e, ⟨h3, h4⟩, h6⟩
/-- a list in a row of its own, the first item's rows apart -/
def Own {α : Type} (New : World → Nat → Nat → α → List Value → Prop) (c : Nat) (T : TypeId) (w : World) (lo hi : Nat) (l : List α) (v : Value) : Prop :=
  ∃ a cap, v = .slice a l.length cap ∧ l.length ≤ cap ∧ (a = none → cap = 0) ∧ (0 < l.length → ∃ b p, a = some ⟨b, 0, none⟩ ∧ lo ≤ b ∧ b < p ∧ p ≤ hi ∧ RowT w b T ∧
    ∀ i x, l[i]? = some x → ∃ cs, cs.length = c ∧ New w (if i = 0 then b + 1 else p) (if i = 0 then p else hi) x cs ∧ ∀ j u, cs[j]? = some u → w.cell? ⟨b, i * c + j, none⟩ = some u)
def InO (w : World) (lo hi : Nat) (x : In) (cs : List Value) : Prop := ∃ v, cs = [.int .u8 (x.op : Int), .int .i64 x.dst, v, .int .i64 x.n, .int .u32 x.of] ∧ NumO w lo hi x.src v
def BlO (w : World) (lo hi : Nat) (x : Bl) (cs : List Value) : Prop := ∃ v v' q, cs = [v, v', .int .i64 x.dep] ∧ lo ≤ q ∧ q ≤ hi ∧ NumO w lo q x.next v' ∧ Own InO 5 29 w q hi x.ins v
def CoO (w : World) (lo hi : Nat) (l : List Bl) (v : Value) : Prop := Own BlO 3 32 w lo hi l v
def Moves {α : Type} (New : World → Nat → Nat → α → List Value → Prop) : Prop := ∀ (w w' : World) (lo hi lo' hi' : Nat) (x : α) (cs : List Value), New w lo hi x cs → Mo w w' lo hi → lo' ≤ lo → hi ≤ hi' → New w' lo' hi' x cs
theorem InO.moves : Moves InO := fun w w' lo hi lo' hi' x cs ⟨v, e, h⟩ hm h1 h2 => ⟨v, e, h.move hm h1 h2⟩
theorem Own.move {α : Type} {New : World → Nat → Nat → α → List Value → Prop} {c : Nat} {T : TypeId} {w w' : World} {lo hi lo' hi' : Nat} {l : List α} {v : Value} (hN : Moves New) (h : Own New c T w lo hi l v) (hm : Mo w w' lo hi) (h1 : lo' ≤ lo) (h2 : hi ≤ hi') : Own New c T w' lo' hi' l v := by
  obtain ⟨a, cap, e, hc, hn, hl⟩ := h
  refine ⟨a, cap, e, hc, hn, fun h0 => ?_⟩
  obtain ⟨b, p, e, h3, h4, h5, h6, h7⟩ := hl h0
  have hb := hm b h3 (by omega)
  refine ⟨b, p, e, by omega, h4, by omega, h6.move hb, fun i x hx => ?_⟩
  obtain ⟨cs, k1, k2, k3⟩ := h7 i x hx
  refine ⟨cs, k1, ?_, fun j u hu => (World.cell?_of_block (a := ⟨b, i * c + j, none⟩) hb).trans (k3 j u hu)⟩
  by_cases hi0 : i = 0
  · rw [if_pos hi0, if_pos hi0] at k2 ⊢
    exact hN _ _ _ _ _ _ _ _ k2 (hm.sub (by omega) (by omega)) (by omega) (by omega)
  · rw [if_neg hi0, if_neg hi0] at k2 ⊢
    exact hN _ _ _ _ _ _ _ _ k2 (hm.sub (by omega) (by omega)) (by omega) (by omega)
theorem BlO.moves : Moves BlO := fun w w' lo hi lo' hi' x cs ⟨v, v', q, e, k1, k2, h, h'⟩ hm h1 h2 =>
  ⟨v, v', q, e, by omega, by omega, h.move (hm.sub (by omega) (by omega)) (by omega) (by omega), Own.move InO.moves h' (hm.sub (by omega) (by omega)) (by omega) (by omega)⟩
theorem Own.lies {α : Type} {New : World → Nat → Nat → α → List Value → Prop} {It : World → (Nat → Prop) → α → List Value → Prop} {c : Nat} {T : TypeId} {w : World} {lo hi : Nat} {l : List α} {v : Value} (h : Own New c T w lo hi l v) {g : Nat → Prop} (hg : ∀ k, lo ≤ k → k < hi → g k) (hI : ∀ lo' hi' x cs, lo ≤ lo' → hi' ≤ hi → New w lo' hi' x cs → It w g x cs) : LL It c w g l v := by
  obtain ⟨a, cap, e, hc, hn, hl⟩ := h
  refine ⟨a, cap, e, hc, hn, fun h0 => ?_⟩
  obtain ⟨b, p, e, h3, h4, h5, h6, h7⟩ := hl h0
  refine ⟨b, 0, e, hg b h3 (by omega), h6.lt, fun i x hx => ?_⟩
  obtain ⟨cs, k1, k2, k3⟩ := h7 i x hx
  refine ⟨cs, k1, ?_, fun j u hu => by rw [Nat.zero_add]; exact k3 j u hu⟩
  by_cases hi0 : i = 0
  · rw [if_pos hi0, if_pos hi0] at k2
    exact hI _ _ _ _ (by omega) (by omega) k2
  · rw [if_neg hi0, if_neg hi0] at k2
    exact hI _ _ _ _ (by omega) (by omega) k2
theorem NumsL.wide {w : World} {g g' : Nat → Prop} {zs : List Int} {v : Value} (h : NumsL w g zs v) (hg : ∀ k, g k → g' k) : NumsL w g' zs v := h.moved fun k _ hk => ⟨hg k hk, rfl⟩
theorem InO.inc {w : World} {lo hi : Nat} {g : Nat → Prop} {x : In} {cs : List Value} (h : InO w lo hi x cs) (hg : ∀ k, lo ≤ k → k < hi → g k) : InC w g x cs := by
  obtain ⟨v, e, h⟩ := h
  exact ⟨v, e, h.lies.wide fun k hk => hg k hk.1 hk.2⟩
theorem BlO.blc {w : World} {lo hi : Nat} {g : Nat → Prop} {x : Bl} {cs : List Value} (h : BlO w lo hi x cs) (hg : ∀ k, lo ≤ k → k < hi → g k) : BlC w g x cs := by
  obtain ⟨v, v', q, e, k1, k2, h, h'⟩ := h
  exact ⟨v, v', e, h'.lies (fun k a b => hg k (by omega) b) (fun lo' hi' y ds a b hy => hy.inc fun k a b => hg k (by omega) (by omega)), h.lies.wide fun k hk => hg k hk.1 (by omega)⟩
theorem CoO.bls {w : World} {lo hi : Nat} {g : Nat → Prop} {l : List Bl} {v : Value} (h : CoO w lo hi l v) (hg : ∀ k, lo ≤ k → k < hi → g k) : Bls w g l v :=
  Own.lies h hg fun lo' hi' y ds a b hy => hy.blc fun k a b => hg k (by omega) (by omega)

/-- while a row is gone over: the items up to k in rows of their own, the others as they came -/
structure Row {α : Type} (New : World → Nat → Nat → α → List Value → Prop) (Old : α → List Value → Prop) (c : Nat) (T : TypeId) (l : List α) (k B p : Nat) (w : World) : Prop where
  t : RowT w B T
  lp : B < p
  ph : p ≤ w.heap.size
  it : ∀ i x, l[i]? = some x → ∃ cs, cs.length = c ∧ (i < k → New w (if i = 0 then B + 1 else p) (if i = 0 then p else w.heap.size) x cs) ∧ (k ≤ i → Old x cs) ∧ ∀ j u, cs[j]? = some u → w.cell? ⟨B, i * c + j, none⟩ = some u
/-- what stays while an item of a row is turned -/
structure Turn (c B k : Nat) (w w' : World) : Prop where
  sz : w.heap.size ≤ w'.heap.size
  ot : ∀ q, q < w.heap.size → q ≠ B → w'.heap[q]? = w.heap[q]?
  ce : ∀ i, i < k * c ∨ (k + 1) * c ≤ i → w'.cell? ⟨B, i, none⟩ = w.cell? ⟨B, i, none⟩
theorem Turn.refl (c B k : Nat) (w : World) : Turn c B k w w := ⟨Nat.le_refl _, fun _ _ _ => rfl, fun _ _ => rfl⟩
theorem Turn.below {c B k : Nat} {w w1 w2 : World} (h : Turn c B k w w1) (hB : B < w1.heap.size) (hb : Below w1.heap.size w1 w2) : Turn c B k w w2 :=
  ⟨Nat.le_trans h.sz hb.size, fun q hq hn => (hb.block q (Nat.lt_of_lt_of_le hq h.sz)).trans (h.ot q hq hn), fun i hi => (hb.cell (p := ⟨B, i, none⟩) hB).trans (h.ce i hi)⟩
theorem Turn.set {c B k : Nat} {w w1 : World} (h : Turn c B k w w1) (j : Nat) (hj : j < c) (v : Value) : Turn c B k w (w1.setCell ⟨B, k * c + j, none⟩ v) := by
  refine ⟨by simpa using h.sz, fun q hq hn => (heap_setCell_other _ _ _ _ hn).trans (h.ot q hq hn), fun i hi => ?_⟩
  have hne : (⟨B, k * c + j, none⟩ : Addr) ≠ ⟨B, i, none⟩ := by
    intro e; injection e with _ e2 _
    rw [Nat.add_mul] at hi; omega
  exact (World.cell?_setCell_other w1 _ _ v hne).trans (h.ce i hi)
/-- behind what leaves all but a later row -/
theorem Turn.other {c B k : Nat} {w w1 w2 : World} (h : Turn c B k w w1) (hB : B < w1.heap.size) (hs : w1.heap.size ≤ w2.heap.size) (hb : ∀ q, q < w1.heap.size → q < w.heap.size → w2.heap[q]? = w1.heap[q]?) (hBw : B < w.heap.size) : Turn c B k w w2 :=
  ⟨Nat.le_trans h.sz hs, fun q hq hn => (hb q (Nat.lt_of_lt_of_le hq h.sz) hq).trans (h.ot q hq hn), fun i hi => (World.cell?_of_block (a := ⟨B, i, none⟩) (hb B hB hBw)).trans (h.ce i hi)⟩
theorem Row.step {α : Type} {New : World → Nat → Nat → α → List Value → Prop} {Old : α → List Value → Prop} {c : Nat} {T : TypeId} {l : List α} {k B p : Nat} {w w' : World} {x : α} {cs : List Value} (hN : Moves New) (h : Row New Old c T l k B p w) (ht : Turn c B k w w') (hT : RowT w' B T)
    (hk : l[k]? = some x) (hc : cs.length = c) (hx : New w' w.heap.size w'.heap.size x cs) (hce : ∀ j u, cs[j]? = some u → w'.cell? ⟨B, k * c + j, none⟩ = some u) : ∃ p', Row New Old c T l (k + 1) B p' w' := by
  have hBl := h.t.lt
  refine ⟨if k = 0 then w'.heap.size else p, hT, ?_, ?_, fun i y hy => ?_⟩
  · have := h.lp; have := ht.sz; split <;> omega
  · have := h.ph; have := ht.sz; split <;> omega
  · by_cases hik : i = k
    · subst hik
      obtain rfl : x = y := by rw [hk] at hy; exact Option.some.inj hy
      refine ⟨cs, hc, fun _ => ?_, fun h2 => absurd h2 (by omega), hce⟩
      by_cases h0 : i = 0
      · simp only [h0, if_true]
        exact hN _ _ _ _ _ _ _ _ hx (fun _ _ _ => rfl) (by omega) (Nat.le_refl _)
      · simp only [h0, if_false]
        exact hN _ _ _ _ _ _ _ _ hx (fun _ _ _ => rfl) h.ph (Nat.le_refl _)
    · obtain ⟨ds, k1, k2, k3, k4⟩ := h.it i y hy
      refine ⟨ds, k1, fun hlt => ?_, fun h2 => k3 (by omega), fun j u hu => ?_⟩
      · have hk0 : ¬ k = 0 := by omega
        have h5 := k2 (by omega)
        rw [if_neg hk0]
        by_cases h0 : i = 0
        · rw [if_pos h0, if_pos h0] at h5 ⊢
          exact hN _ _ _ _ _ _ _ _ h5 (fun q a b => ht.ot q (by have := h.ph; omega) (by omega)) (Nat.le_refl _) (Nat.le_refl _)
        · rw [if_neg h0, if_neg h0] at h5 ⊢
          exact hN _ _ _ _ _ _ _ _ h5 (fun q a b => ht.ot q b (by have := h.lp; omega)) (Nat.le_refl _) ht.sz
      · have hj : j < c := by have := (List.getElem?_eq_some_iff.1 hu).1; omega
        rw [ht.ce (i * c + j) (by
          rcases Nat.lt_or_gt_of_ne hik with h6 | h6
          · left; have : (i + 1) * c ≤ k * c := Nat.mul_le_mul_right _ h6; rw [Nat.add_mul] at this; omega
          · right; have : (k + 1) * c ≤ i * c := Nat.mul_le_mul_right _ h6; omega)]
        exact k4 j u hu
theorem Row.done {α : Type} {New : World → Nat → Nat → α → List Value → Prop} {Old : α → List Value → Prop} {c : Nat} {T : TypeId} {l : List α} {B p lo cap : Nat} {w : World} (h : Row New Old c T l l.length B p w) (hlo : lo ≤ B) (hcap : l.length ≤ cap) : Own New c T w lo w.heap.size l (.slice (some ⟨B, 0, none⟩) l.length cap) := by
  refine ⟨_, cap, rfl, hcap, by simp, fun _ => ⟨B, p, rfl, hlo, h.lp, h.ph, h.t, fun i x hx => ?_⟩⟩
  obtain ⟨cs, k1, k2, _, k4⟩ := h.it i x hx
  exact ⟨cs, k1, k2 (List.getElem?_eq_some_iff.1 hx).1, k4⟩

/-- items as they came, in a row -/
def LLf {α : Type} (It : α → List Value → Prop) (c : Nat) (w : World) (l : List α) (v : Value) : Prop := LL (fun _ _ => It) c w (fun _ => True) l v
theorem LLf.of {α : Type} {It : World → (Nat → Prop) → α → List Value → Prop} {c : Nat} {w w' : World} {g : Nat → Prop} {l : List α} {v : Value} (h : LL It c w g l v) (hb : ∀ k, g k → k < w.heap.size → w'.heap[k]? = w.heap[k]?) (hs : w.heap.size ≤ w'.heap.size) : LLf (It w g) c w' l v :=
  Lies.move h fun hl b o hg hp => by
    refine ⟨trivial, Nat.lt_of_lt_of_le hp.1 hs, fun i x hx => ?_⟩
    obtain ⟨cs, h1, h2, h3⟩ := hp.2 i x hx
    exact ⟨cs, h1, h2, fun j u hu => (World.cell?_of_block (a := ⟨b, o + i * c + j, none⟩) (hb b hg hp.1)).trans (h3 j u hu)⟩
/-- the cells of such a list -/
theorem LLf.cells {α : Type} {It : α → List Value → Prop} {c : Nat} {w : World} {l : List α} {a : Option Addr} {n cp : Nat} (hc : 0 < c) (hone : ∀ x cs, It x cs → ∀ u ∈ cs, u.oneCell' = true) (h : LLf It c w l (.slice a n cp)) :
    ∃ xs : List Value, n = l.length ∧ (a = none → n = 0 ∧ cp = 0) ∧ xs.length = n * c ∧ Its It c l xs ∧ (∀ ad, a = some ad → ∀ j u, xs[j]? = some u → w.cell? (ad.add j) = some u) ∧ ∀ u ∈ xs, u.oneCell' = true := by
  obtain ⟨a', cap', e, hle, hn, hl⟩ := h
  cases e
  by_cases h0 : 0 < l.length
  · obtain ⟨b, o, rfl, _, hlt, hit⟩ := hl h0
    have hcell : ∀ q, q < l.length * c → ∃ i r x cs, q = i * c + r ∧ r < c ∧ l[i]? = some x ∧ cs.length = c ∧ It x cs ∧ cs[r]? = w.cell? ⟨b, o + q, none⟩ ∧ (w.cell? ⟨b, o + q, none⟩).isSome = true := by
      intro q hq
      have hi : q / c < l.length := (Nat.div_lt_iff_lt_mul hc).2 hq
      have hr : q % c < c := Nat.mod_lt _ hc
      have hqe : q = q / c * c + q % c := by rw [Nat.mul_comm]; exact (Nat.div_add_mod q c).symm
      obtain ⟨cs, h1, h2, h3⟩ := hit (q / c) _ (List.getElem?_eq_getElem hi)
      have hg := List.getElem?_eq_getElem (l := cs) (i := q % c) (by omega)
      have h4 := h3 (q % c) _ hg
      rw [show o + q / c * c + q % c = o + q by omega] at h4
      exact ⟨q / c, q % c, _, cs, hqe, hr, List.getElem?_eq_getElem hi, h1, h2, by rw [h4, hg], by rw [h4]; rfl⟩
    have hlen : ((List.range (l.length * c)).map fun j => (w.cell? ⟨b, o + j, none⟩).getD .nilIface).length = l.length * c := by simp
    have hat : ∀ q, q < l.length * c → ((List.range (l.length * c)).map fun j => (w.cell? ⟨b, o + j, none⟩).getD .nilIface)[q]? = w.cell? ⟨b, o + q, none⟩ := by
      intro q hq
      obtain ⟨_, _, _, _, _, _, _, _, _, _, hs⟩ := hcell q hq
      obtain ⟨u, hu⟩ := Option.isSome_iff_exists.1 hs
      simp [List.getElem?_map, List.getElem?_range hq, hu]
    refine ⟨_, rfl, by simp, hlen, ⟨hlen, fun i x hx => ?_⟩, fun ad e j u hu => ?_, fun u hu => ?_⟩
    · obtain ⟨cs, h1, h2, h3⟩ := hit i x hx
      refine ⟨cs, h1, h2, fun j hj => ?_⟩
      have hi := (List.getElem?_eq_some_iff.1 hx).1
      have hq : i * c + j < l.length * c := by
        have : (i + 1) * c ≤ l.length * c := Nat.mul_le_mul_right _ hi
        rw [Nat.add_mul] at this; omega
      rw [hat _ hq]
      have hg := List.getElem?_eq_getElem (l := cs) (i := j) (by omega)
      rw [hg, ← h3 j _ hg, Nat.add_assoc]
    · cases e
      have hq : j < l.length * c := by have := (List.getElem?_eq_some_iff.1 hu).1; rwa [hlen] at this
      rw [hat _ hq] at hu
      rw [Addr.add_lit]
      exact hu
    · obtain ⟨q, hq, rfl⟩ := List.getElem_of_mem hu
      have hq2 : q < l.length * c := by rwa [hlen] at hq
      obtain ⟨i, r, x, cs, _, _, _, _, h2, h3, _⟩ := hcell q hq2
      have h4 := hat q hq2
      rw [List.getElem?_eq_getElem hq, ← h3] at h4
      exact hone x cs h2 _ (List.mem_of_getElem? h4.symm)
  · obtain rfl : l = [] := List.eq_nil_of_length_eq_zero (by omega)
    exact ⟨[], rfl, fun e => ⟨rfl, hn e⟩, by simp, Its.nil _ _, fun _ _ j u hu => by simp at hu, fun u hu => by simp at hu⟩

/-- a row that was just made -/
theorem row_new {α : Type} {New : World → Nat → Nat → α → List Value → Prop} {It : α → List Value → Prop} {c : Nat} {T : TypeId} {l : List α} {g cap N : Nat} {w : World} {xs : List Value} (hi : Its It c l xs) (ho : w.ownsRow N T c (.slice (some ⟨g, 0, none⟩) l.length cap) l.length xs) : Row New It c T l 0 g w.heap.size w ∧ N ≤ g ∧ l.length ≤ cap := by
  have hc := row_cells ho
  rcases ho.2 with ⟨h, _⟩ | ⟨g', cap', cur, h, hg, hh, hcap, _⟩
  · cases h
  · cases h
    have ht : RowT w g T := ⟨cur, hh⟩
    refine ⟨⟨ht, ht.lt, Nat.le_refl _, fun i x hx => ?_⟩, hg, hcap⟩
    obtain ⟨cs, h1, h2, h3⟩ := hi.2 i x hx
    refine ⟨cs, h1, fun h => absurd h (by omega), fun _ => h2, fun j u hu => hc _ u ?_⟩
    rw [h3 j (by have := (List.getElem?_eq_some_iff.1 hu).1; omega)]; exact hu
theorem inC_ones {w : World} {g : Nat → Prop} : ∀ x cs, InC w g x cs → ∀ u ∈ cs, u.oneCell' = true := by
  rintro x cs ⟨v, rfl, a, cap, rfl, _⟩
  exact inC_one x _ ⟨_, _, _, rfl⟩
theorem blC_ones {w : World} {g : Nat → Prop} : ∀ x cs, BlC w g x cs → ∀ u ∈ cs, u.oneCell' = true := by
  rintro x cs ⟨v, v', rfl, ⟨a, cap, rfl, _⟩, ⟨a', cap', rfl, _⟩⟩
  exact blC_one x.dep _ _ ⟨_, _, _, rfl⟩ ⟨_, _, _, rfl⟩

/-- slices.Clone of numbers -/
theorem clNums (zs : List Int) (g : Nat → Prop) (v : Value) (w : World) (h : NumsL w g zs v) (hn : zs.length ≤ 1099511627776) :
    Calls Tryd.prog 32 #[v] w fun e w' => ∃ v', e = .returned v' ∧ NumO w' w.heap.size w'.heap.size zs v' ∧ Below w.heap.size w w' := by
  obtain ⟨a, cp, rfl, hle, hno, hl⟩ := h
  refine (clN_any zs.length (zs.map (Value.int .i64)) a cp w (fun e => ⟨?_, hno e⟩) (by simp) (fun ad e j u hu => ?_) (fun u hu => ?_) hn).mono ?_
  · have := hno e; omega
  · have hj : j < zs.length := by have := (List.getElem?_eq_some_iff.1 hu).1; simpa using this
    obtain ⟨b, o, e2, _, hc⟩ := hl (by omega)
    rw [e] at e2; cases e2
    rw [Addr.add_lit, hc j hj]
    rw [List.getElem?_map, List.getElem?_eq_getElem hj] at hu
    simp only [Option.map_some, Option.some.injEq] at hu
    rw [← hu]; simp [List.getD, List.getElem?_eq_getElem hj]
  · simp only [List.mem_map] at hu
    obtain ⟨z, _, rfl⟩ := hu; rfl
  · rintro e w' ⟨v', rfl, hc, hb⟩
    refine ⟨v', rfl, ?_, hb⟩
    rcases hc with ⟨h0, ho⟩ | ⟨h0, b, cap, rfl, ho⟩
    · obtain ⟨a', cap, rfl, hn'⟩ := own0 ho
      exact ⟨a', cap, by rw [h0], by omega, hn', fun h => by omega⟩
    · have hce := row_cells ho
      rcases ho.2 with ⟨h, _⟩ | ⟨g', cap', cur, h, hg, hh, hcap, _⟩
      · cases h
      · cases h
        have ht : RowT w' b 3 := ⟨cur, hh⟩
        refine ⟨_, cap, rfl, hcap, by simp, fun _ => ⟨b, rfl, hg, ht.lt, ht, fun j hj => ?_⟩⟩
        rw [Nat.zero_add]
        refine hce j _ ?_
        rw [List.getElem?_map, List.getElem?_eq_getElem hj]
        simp [List.getD, List.getElem?_eq_getElem hj]
/-- what Clone of a list leaves -/
def RawO {α : Type} (New : World → Nat → Nat → α → List Value → Prop) (It : α → List Value → Prop) (c : Nat) (T : TypeId) (N : Nat) (w' : World) (l : List α) (v : Value) : Prop :=
  (l = [] ∧ w'.ownsRow N T c v 0 []) ∨ (0 < l.length ∧ ∃ B cap, v = .slice (some ⟨B, 0, none⟩) l.length cap ∧ Row New It c T l 0 B w'.heap.size w' ∧ N ≤ B ∧ l.length ≤ cap)
theorem clIns (New : World → Nat → Nat → In → List Value → Prop) (It : In → List Value → Prop) (hone : ∀ x cs, It x cs → ∀ u ∈ cs, u.oneCell' = true) (l : List In) (v : Value) (w : World) (h : LLf It 5 w l v) (hn : l.length ≤ 1099511627776) :
    Calls Tryd.prog 54 #[v] w fun e w' => ∃ v', e = .returned v' ∧ RawO New It 5 29 w.heap.size w' l v' ∧ Below w.heap.size w w' := by
  obtain ⟨a, cp, rfl, _⟩ := id h
  obtain ⟨xs, e1, h2, h3, h4, h5, h6⟩ := h.cells (by omega) hone
  refine (clI_any l.length xs a cp w h2 h3 h5 h6 hn).mono ?_
  rintro e w' ⟨v', rfl, hc, hb⟩
  refine ⟨v', rfl, ?_, hb⟩
  rcases hc with ⟨h0, h7⟩ | ⟨h0, b, cap, rfl, ho⟩
  · exact .inl ⟨List.eq_nil_of_length_eq_zero h0, h7⟩
  · exact .inr ⟨h0, b, cap, rfl, row_new h4 ho⟩
theorem clBls (New : World → Nat → Nat → Bl → List Value → Prop) (It : Bl → List Value → Prop) (hone : ∀ x cs, It x cs → ∀ u ∈ cs, u.oneCell' = true) (l : List Bl) (v : Value) (w : World) (h : LLf It 3 w l v) (hn : l.length ≤ 1099511627776) :
    Calls Tryd.prog 37 #[v] w fun e w' => ∃ v', e = .returned v' ∧ RawO New It 3 32 w.heap.size w' l v' ∧ Below w.heap.size w w' := by
  obtain ⟨a, cp, rfl, _⟩ := id h
  obtain ⟨xs, e1, h2, h3, h4, h5, h6⟩ := h.cells (by omega) hone
  refine (clB_any l.length xs a cp w h2 h3 h5 h6 hn).mono ?_
  rintro e w' ⟨v', rfl, hc, hb⟩
  refine ⟨v', rfl, ?_, hb⟩
  rcases hc with ⟨h0, h7⟩ | ⟨h0, b, cap, rfl, ho⟩
  · exact .inl ⟨List.eq_nil_of_length_eq_zero h0, h7⟩
  · exact .inr ⟨h0, b, cap, rfl, row_new h4 ho⟩
end Vc
end Go.Proofs.YtpecnljcgiicaaaDoor
