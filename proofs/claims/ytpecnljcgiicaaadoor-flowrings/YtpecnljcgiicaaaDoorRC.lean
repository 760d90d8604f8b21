/- flow: joined. -/
import Derived.Test.YtpecnljcgiicaaaDoorRB
import Derived.Deep.RegionHeld3

/- flow: chained. -/
namespace Go.Proofs.YtpecnljcgiicaaaDoor
open Go.RowKit
namespace Fw
set_option linter.unusedVariables false
set_option linter.unusedSimpArgs false
open Vc (NumsL Nums Lies LL Bls BlC InC Bl Co infoN infoBl own_base RowT Its)

/-- how far a chain goes -/
def far (tk : List Int) : Nat → Nat → Nat
  | 0, _ => 0
  | f + 1, t => if tk.getD t 0 = -1 then 0 else far tk f (tk.getD t 0).toNat + 1
theorem far_eq (tk : List Int) : ∀ f t, ends tk f t = true → ∀ k, f ≤ k → far tk k t = far tk f t := by
  intro f
  induction f with
  | zero =>
    intro t h k _
    have h0 := ends_0 tk t h
    cases k with
    | zero => rfl
    | succ k => conv => lhs; unfold far
                rw [if_pos h0]; rfl
  | succ f ih =>
    intro t h k hk
    obtain ⟨k, rfl⟩ : ∃ j, k = j + 1 := ⟨k - 1, by omega⟩
    by_cases h0 : tk.getD t 0 = -1
    · conv => lhs; unfold far
      conv => rhs; unfold far
      rw [if_pos h0, if_pos h0]
    · conv => lhs; unfold far
      conv => rhs; unfold far
      rw [if_neg h0, if_neg h0, ih _ (ends_yes tk f t h0 h) k (by omega)]
theorem far_less (tk : List Int) (f t n : Nat) (h0 : tk.getD t 0 ≠ -1) (h : ends tk (f + 1) t = true) (hn : f + 1 ≤ n) : far tk n (tk.getD t 0).toNat < far tk n t := by
  have h1 := ends_yes tk f t h0 h
  rw [far_eq tk _ _ h n hn, far_eq tk _ _ h1 n (by omega)]
  conv => rhs; unfold far
  rw [if_neg h0]; omega

theorem set3c (w : World) (b : Nat) (c0 c1 c2 : Value) (t : TypeId) (u0 u1 u2 : Value) (h : w.heap[b]? = some (.cells #[c0, c1, c2] t (0, 0))) :
    (((w.setCell ⟨b, 0, none⟩ u0).setCell ⟨b, 1, none⟩ u1).setCell ⟨b, 2, none⟩ u2).heap[b]? = some (.cells #[u0, u1, u2] t (0, 0)) := by
  have h0 := (heap_setCell_same w b 0 _ _ u0 h).trans rfl
  have h1 := (heap_setCell_same _ b 1 _ _ u1 h0).trans rfl
  exact (heap_setCell_same _ b 2 _ _ u2 h1).trans rfl
theorem bls_at {w w' : World} {N : Nat} {g : Nat → Prop} {l : List Bl} {v : Value} (h : Bls w g l v) (hg : ∀ k, g k → k < N) (hb : Below N w w') : Bls w' g l v := h.moved (fun k _ hk => ⟨hk, hb.block k (hg k hk)⟩) hb.size
set_option maxRecDepth 100000 in
set_option maxHeartbeats 6400000 in
theorem chained_any (l : List Bl) (hc : Cok l) (hf : Few l) (tk : List Int) (htl : tk.length = l.length) (htk : tkOk l.length tk) (i : Nat) (hi : i < l.length) (he : ends tk l.length i = true) (N : Nat) (g : Nat → Prop) (hgN : ∀ k, g k → k < N) (vb vt : Value) (w : World) (hB : Bls w g l vb) (hN : N ≤ w.heap.size) (hT : NumsL w (fun k => k < w.heap.size) tk vt) :
    Calls Tryd.prog 44 #[vb, .int .i64 (i : Int), vt] w fun e w' => ∃ vi vn, e = .returned (.agg #[vi, vn, .int .i64 (chnB l tk i).dep]) ∧ LL InC 5 w' (fun k => g k ∨ w.heap.size ≤ k) (chnB l tk i).ins vi ∧ NumsL w' g (chnB l tk i).next vn ∧ Below w.heap.size w w' := by
  obtain ⟨va, vc, rfl, -, -, -⟩ := id hB
  obtain ⟨ta, tc, rfl, -, -, -⟩ := id hT
  obtain ⟨n, hn⟩ : ∃ n, n = l.length := ⟨_, rfl⟩
  obtain ⟨Bt, ot, hta, hBt, -⟩ := nums_at hT (k := i) (by omega)
  subst hta
  have hTc : ∀ W, Below w.heap.size w W → ∀ k, k < n → W.cell? ⟨Bt, ot + k, none⟩ = some (.int .i64 (tk.getD k 0)) := fun W hW k hk => by
    obtain ⟨B', o', e, -, h⟩ := nums_at hT (k := k) (by omega)
    cases e
    exact (hW.cell (p := ⟨Bt, ot + k, none⟩) hBt).trans (h k (by omega))
  have hlen := hc.nok.len
  have hf4 := hf.len
  have hni : (n : Int) ≤ 1048576 := by omega
  obtain ⟨R, hR⟩ : ∃ R, R = chn l tk n i (sta (l.getD i dB)) := ⟨_, rfl⟩
  have hRc : chnB l tk i = ⟨R.1 ++ [endI (l.getD R.2 dB)], (l.getD R.2 dB).next, (l.getD i dB).dep⟩ := by unfold chnB; rw [hR, hn]
  rw [hRc, htl, ← hn]
  rw [← hn] at he hi htk htl
  obtain ⟨x, hx⟩ : ∃ x, x = l.getD i dB := ⟨_, rfl⟩
  rw [← hx] at hR ⊢
  have hxl : l[i]? = some x := by rw [hx]; exact get?_getD _ _ _ (by omega)
  have hm := List.mem_of_getElem? hxl
  obtain ⟨hi0, hi1⟩ := hc.ins x hm
  obtain ⟨X, hX⟩ : ∃ X, X = w.alloc (.cells #[.slice none 0 0, .slice none 0 0, .int .i64 0] 32) := ⟨_, rfl⟩
  have hXb : Below w.heap.size w X := by rw [hX]; exact Vc.one_alloc w _
  have hXz : X.heap.size = w.heap.size + 1 := by rw [hX]; simp
  have r0 : X.heap[w.heap.size]? = some (.cells #[.slice none 0 0, .slice none 0 0, .int .i64 0] 32 (0, 0)) := by rw [hX]; exact heap_alloc_new _ _
  rw [← hn] at hB
  have hBX := bls_at hB hgN (hXb.mono hN)
  obtain ⟨Bb, ob, vi, vn, hva, hBN, hBl, -, d0, d1, d2, hin, hnn⟩ := blk_next hBX hxl
  subst hva
  obtain ⟨ia, ic, rfl, -, -, -⟩ := id hin
  obtain ⟨na, nc, rfl, -, -, -⟩ := id hnn
  have hst := straight_any x hi0 hi1 _ _ (.slice na x.next.length nc) X hin ⟨_, _, _, rfl⟩
  have hin_ : (i : Int) < (n : Int) := by omega
  have HC := hide hc; have HF := hide hf; have HTk := hide htk; have HN := hide hn; have HE := hide he; have HB := hide hB; have HNw := hide hN; have HTc := hide hTc; have HR := hide hR; have HX := hide hx; have HXl := hide hxl; have HXb := hide hXb; have HXz := hide hXz; have HR0 := hide r0; have HSt := hide hst; have HHi := hide hi; have HF4 := hide hf4; have HD2 := hide d2
  have HI0 := hide hi0; have HGN := hide hgN
  have HDd := hide (show ∀ W, Below X.heap.size X W → W.cell? ⟨Bb, ob + i * 3 + 2, none⟩ = some (.int .i64 x.dep) from fun W hW => (hW.cell (p := ⟨Bb, ob + i * 3 + 2, none⟩) hBl).trans d2)
  clear hgN hc hf htk hn he hB hN hT hTc hR hRc hx hxl hXb hXz r0 hst hi htl hm hi0 hi1 hBX hin hnn hlen hf4 hBt hBN hBl
  go_enter Tryd.func44, Tryd.ntmps44
  go_upto_region 1 with fail
  rw [show w.alloc (.cells #[.slice none 0 0, .slice none 0 0, .int .i64 0] 32) = X from hX.symm]
  clear hX
  go_upto_region 3 with (go_at_call 40; refine (unhide HSt).mono ?_; rintro e w2 ⟨B1, o1, rfl, hl2, hb2⟩; have HL2 := hide hl2; have HB2 := hide hb2; clear hl2 hb2)
  clear d0 d1 d2
  go_loopw [7, 8] (fun v t wr => ∃ (fu p : Nat) (acc : List Vc.In) (b : Option Addr) (c : Nat), fu ≤ n ∧ p < n ∧ t = .int .i64 (p : Int) ∧ v = .slice b acc.length c ∧ ends tk fu p = true ∧ acc.length ≤ (n - fu + 1) * 16384 ∧ Lst wr X.heap.size g (.slice b acc.length c) acc ∧ chn l tk fu p acc = R ∧ Below X.heap.size X wr) (fun _ t _ => far tk n (intOf t).toNat)
  case atStart =>
    have hsl : (sta x).length = x.ins.length - 1 := by unfold sta; rw [List.length_take]; omega
    have hxi := (unhide HF).ins x (List.mem_of_getElem? (unhide HXl))
    refine ⟨n, i, sta x, some ⟨B1, o1, none⟩, x.ins.length - 1, Nat.le_refl _, unhide HHi, rfl, by rw [hsl], unhide HE, by omega, ?_, (unhide HR).symm, unhide HB2⟩
    refine Lst.below (w := X) (.inr ⟨B1, o1, by rw [hsl], ?_⟩) (unhide HB2)
    have h := unhide HL2
    rw [hsl]
    exact h
  case round =>
    obtain ⟨fu, p, acc, b, c, hfu, hp, rfl, rfl, hen, hal, hl, hch, hbe⟩ := hrel
    have hbw := (unhide HXb).trans (hbe.mono (by have := unhide HXz; omega))
    have hXw := unhide HXz
    have hNw := unhide HNw
    have hsz := hbe.size
    have t1 := unhide HTc wr hbw p hp
    obtain ⟨z, hz⟩ : ∃ z, z = tk.getD p 0 := ⟨_, rfl⟩
    have hzr := unhide HTk p hp
    rw [← hz] at t1 hzr
    have hpn : (p : Int) < (n : Int) := by omega
    have hBw := bls_at (unhide HB) (unhide HGN) (hbw.mono hNw)
    by_cases hz1 : z = -1
    · subst hz1
      rw [chn_no _ _ _ _ _ hz.symm] at hch
      obtain ⟨y, hy⟩ : ∃ y, y = l.getD p dB := ⟨_, rfl⟩
      have hyl : l[p]? = some y := by rw [hy]; exact get?_getD _ _ _ (by have := unhide HN; omega)
      obtain ⟨hi0, hi1⟩ := (unhide HC).ins y (List.mem_of_getElem? hyl)
      obtain ⟨Bc, oc, vi, vn, hva, hBN, hBl, -, d0, d1, d2, hin, hnn⟩ := blk_next hBw hyl
      cases hva
      obtain ⟨ja, jc, rfl, -, -, -⟩ := id hin
      obtain ⟨ma, mc, rfl, -, -, -⟩ := id hnn
      have hend : ∀ W, Below wr.heap.size wr W → Calls Tryd.prog 39 #[.agg #[.slice ja y.ins.length jc, .slice ma y.next.length mc, .int .i64 y.dep]] W fun e w' => ∃ sa sn sc, e = .returned (.agg #[.int .u8 ((endI y).op : Int), .int .i64 (endI y).dst, .slice sa sn sc, .int .i64 (endI y).n, .int .u32 (endI y).of]) ∧ NumsL w' g (endI y).src (.slice sa sn sc) ∧ Below wr.heap.size wr w' := fun W hW => by
        refine (end_any y hi0 hi1 _ _ _ W (Vc.Inss.below hW hin) ⟨_, _, _, rfl⟩).mono ?_
        rintro e w' ⟨vs, rfl, hs, hb⟩
        obtain ⟨sa, sc, rfl, -, -, -⟩ := id hs
        exact ⟨sa, _, sc, rfl, Vc.NumsL.below hb hs, hW.trans (hb.mono hW.size)⟩
      have e2 := unhide HDd wr hbe
      have hpost : ∀ W, Below X.heap.size wr W → W.cell? ⟨Bb, ob + p * 3 + 1, none⟩ = some (.slice ma y.next.length mc) ∧ W.cell? ⟨Bb, ob + i * 3 + 2, none⟩ = some (.int .i64 x.dep) := fun W hW => ⟨(hW.cell (p := ⟨Bb, ob + p * 3 + 1, none⟩) (by have := unhide HGN _ hBN; show Bb < _; omega)).trans d1, unhide HDd W (hbe.trans hW)⟩
      -- BYHAND
      have hlow : ∀ W : World, (∀ k, k < w.heap.size → W.heap[k]? = wr.heap[k]?) → (W.cell? ⟨Bb, ob + p * 3, none⟩ = some (.slice ja y.ins.length jc) ∧ W.cell? ⟨Bb, ob + p * 3 + 1, none⟩ = some (.slice ma y.next.length mc) ∧ W.cell? ⟨Bb, ob + p * 3 + 2, none⟩ = some (.int .i64 y.dep) ∧ W.cell? ⟨Bb, ob + i * 3 + 2, none⟩ = some (.int .i64 x.dep)) := fun W hW => by
        have hBb : Bb < w.heap.size := Nat.lt_of_lt_of_le (unhide HGN _ hBN) hNw
        have c : ∀ o v, wr.cell? ⟨Bb, o, none⟩ = some v → W.cell? ⟨Bb, o, none⟩ = some v := fun o v e => (World.cell?_of_block (a := ⟨Bb, o, none⟩) (hW Bb hBb)).trans e
        exact ⟨c _ _ d0, c _ _ d1, c _ _ d2, c _ _ e2⟩
      have hbl : ∀ W, Below wr.heap.size wr W → (∀ k, k < w.heap.size → W.heap[k]? = wr.heap[k]?) := fun W hW k hk => hW.block k (by omega)
      have HLow := hide hlow; have HBl := hide hbl
      have HKd := hide (hlow wr.drew (fun k hk => rfl))
      have HEnd := hide hend; have HL := hide hl; have HBe := hide hbe; have HNn := hide hnn; have HIn := hide hin; have HY := hide hy
      have HR2 := hide hch
      have hr0 := (hbe.block w.heap.size (by omega)).trans (unhide HR0)
      have HRw := hide hr0
      have hab : acc.length + 1 ≤ 1099511627776 := by
        have := unhide HF4; have := unhide HN
        omega
      have HAb := hide hab
      have hBbw : Bb < w.heap.size := Nat.lt_of_lt_of_le (unhide HGN _ hBN) hNw
      clear hlow hbl hend hl hbe hnn hin hy hch hr0 hab d0 d1 d2 e2 hpost
      go_upto_region 6 with fail
      clear t1
      refine wp_region_held_drew (S := fun wx => wx.cell? ⟨Bb, ob + p * 3, none⟩ = some (.slice ja y.ins.length jc) ∧ wx.cell? ⟨Bb, ob + p * 3 + 1, none⟩ = some (.slice ma y.next.length mc) ∧ wx.cell? ⟨Bb, ob + p * 3 + 2, none⟩ = some (.int .i64 y.dep) ∧ wx.cell? ⟨Bb, ob + i * 3 + 2, none⟩ = some (.int .i64 x.dep)) (by kernel_rfl) (unhide HKd) (fun _ => ?_)
      refine wpAnyH_take (i := 0) (oi := _) (v := ?vt0) rfl (by kernel_rfl) (by kernel_rfl) (by kernel_rfl) (fun _ _ _ h => h) (Or.inl ⟨by kernel_rfl, ?yt0⟩) (unhide HKd) ?_
      case yt0 => intro w hSw; obtain ⟨s0, s1, s2, s3⟩ := hSw; go_simp; first | done | rfl
      simp only [List.getElem_toArray, List.getElem_cons_succ, List.getElem_cons_zero, Act.put, List.setIfInBounds_toArray, List.set_cons_zero, List.set_cons_succ]
      refine wpAnyH_take (i := 1) (oi := _) (v := ?vt1) rfl (by kernel_rfl) (by kernel_rfl) (by kernel_rfl) (fun _ _ _ h => h) (Or.inl ⟨by kernel_rfl, ?yt1⟩) (unhide HKd) ?_
      case yt1 => intro w hSw; obtain ⟨s0, s1, s2, s3⟩ := hSw; go_simp; first | done | rfl
      simp only [List.getElem_toArray, List.getElem_cons_succ, List.getElem_cons_zero, Act.put, List.setIfInBounds_toArray, List.set_cons_zero, List.set_cons_succ]
      refine wpAnyH_take (i := 2) (oi := _) (v := ?vt2) rfl (by kernel_rfl) (by kernel_rfl) (by kernel_rfl) (fun _ _ _ h => h) (Or.inl ⟨by kernel_rfl, ?yt2⟩) (unhide HKd) ?_
      case yt2 => intro w hSw; obtain ⟨s0, s1, s2, s3⟩ := hSw; go_simp; first | done | rfl
      simp only [List.getElem_toArray, List.getElem_cons_succ, List.getElem_cons_zero, Act.put, List.setIfInBounds_toArray, List.set_cons_zero, List.set_cons_succ]
      refine wpAnyH_take (i := 3) (oi := _) (v := ?vt3) rfl (by kernel_rfl) (by kernel_rfl) (by kernel_rfl) (fun _ _ _ h => h) (Or.inl ⟨by kernel_rfl, ?yt3⟩) (unhide HKd) ?_
      case yt3 => intro w hSw; obtain ⟨s0, s1, s2, s3⟩ := hSw; go_simp; first | done | rfl
      simp only [List.getElem_toArray, List.getElem_cons_succ, List.getElem_cons_zero, Act.put, List.setIfInBounds_toArray, List.set_cons_zero, List.set_cons_succ]
      refine wpAnyH_take (i := 4) (oi := _) (v := ?vt4) rfl (by kernel_rfl) (by kernel_rfl) (by kernel_rfl) (fun _ _ _ h => h) (Or.inl ⟨by kernel_rfl, ?yt4⟩) (unhide HKd) ?_
      case yt4 => intro w hSw; obtain ⟨s0, s1, s2, s3⟩ := hSw; go_simp; first | done | rfl
      simp only [List.getElem_toArray, List.getElem_cons_succ, List.getElem_cons_zero, Act.put, List.setIfInBounds_toArray, List.set_cons_zero, List.set_cons_succ]
      refine wpAnyH_take (i := 8) (oi := _) (v := ?vt8) rfl (by kernel_rfl) (by kernel_rfl) (by kernel_rfl) (fun _ _ _ h => h) (Or.inl ⟨by kernel_rfl, ?yt8⟩) (unhide HKd) ?_
      case yt8 => intro w hSw; obtain ⟨s0, s1, s2, s3⟩ := hSw; go_simp; first | done | rfl
      simp only [List.getElem_toArray, List.getElem_cons_succ, List.getElem_cons_zero, Act.put, List.setIfInBounds_toArray, List.set_cons_zero, List.set_cons_succ]
      refine wpAnyH_take (i := 9) (oi := _) (v := ?vt9) rfl (by kernel_rfl) (by kernel_rfl) (by kernel_rfl) (fun _ _ _ h => h) (Or.inl ⟨by kernel_rfl, ?yt9⟩) (unhide HKd) ?_
      case yt9 => intro w hSw; obtain ⟨s0, s1, s2, s3⟩ := hSw; go_simp; first | done | rfl
      simp only [List.getElem_toArray, List.getElem_cons_succ, List.getElem_cons_zero, Act.put, List.setIfInBounds_toArray, List.set_cons_zero, List.set_cons_succ]
      refine wpAnyH_take (i := 10) (oi := _) (v := ?vt10) rfl (by kernel_rfl) (by kernel_rfl) (by kernel_rfl) (fun _ _ _ h => h) (Or.inl ⟨by kernel_rfl, ?yt10⟩) (unhide HKd) ?_
      case yt10 => intro w hSw; obtain ⟨s0, s1, s2, s3⟩ := hSw; go_simp; first | done | rfl
      simp only [List.getElem_toArray, List.getElem_cons_succ, List.getElem_cons_zero, Act.put, List.setIfInBounds_toArray, List.set_cons_zero, List.set_cons_succ]
      refine wpAnyH_take (i := 11) (oi := _) (v := ?vt11) rfl (by kernel_rfl) (by kernel_rfl) (by kernel_rfl) (fun _ _ _ h => h) (Or.inl ⟨by kernel_rfl, ?yt11⟩) (unhide HKd) ?_
      case yt11 => intro w hSw; obtain ⟨s0, s1, s2, s3⟩ := hSw; go_simp; first | done | rfl
      simp only [List.getElem_toArray, List.getElem_cons_succ, List.getElem_cons_zero, Act.put, List.setIfInBounds_toArray, List.set_cons_zero, List.set_cons_succ]
      refine wpAnyH_take (i := 12) (oi := _) (v := ?vt12) rfl (by kernel_rfl) (by kernel_rfl) (by kernel_rfl) (fun _ _ _ h => h) (Or.inl ⟨by kernel_rfl, ?yt12⟩) (unhide HKd) ?_
      case yt12 => intro w hSw; obtain ⟨s0, s1, s2, s3⟩ := hSw; go_simp; first | done | rfl
      simp only [List.getElem_toArray, List.getElem_cons_succ, List.getElem_cons_zero, Act.put, List.setIfInBounds_toArray, List.set_cons_zero, List.set_cons_succ]
      refine wpAnyH_take (i := 13) (oi := _) (v := ?vt13) rfl (by kernel_rfl) (by kernel_rfl) (by kernel_rfl) (fun _ _ _ h => h) (Or.inl ⟨by kernel_rfl, ?yt13⟩) (unhide HKd) ?_
      case yt13 => intro w hSw; obtain ⟨s0, s1, s2, s3⟩ := hSw; go_simp; first | done | rfl
      simp only [List.getElem_toArray, List.getElem_cons_succ, List.getElem_cons_zero, Act.put, List.setIfInBounds_toArray, List.set_cons_zero, List.set_cons_succ]
      refine wpAnyH_take (i := 14) (oi := _) (v := ?vt14) rfl (by kernel_rfl) (by kernel_rfl) (by kernel_rfl) (fun _ _ _ h => h) (Or.inl ⟨by kernel_rfl, ?yt14⟩) (unhide HKd) ?_
      case yt14 => intro w hSw; obtain ⟨s0, s1, s2, s3⟩ := hSw; go_simp; first | done | rfl
      simp only [List.getElem_toArray, List.getElem_cons_succ, List.getElem_cons_zero, Act.put, List.setIfInBounds_toArray, List.set_cons_zero, List.set_cons_succ]
      refine wpAnyH_take (i := 15) (oi := _) (v := ?vt15) rfl (by kernel_rfl) (by kernel_rfl) (by kernel_rfl) (fun _ _ _ h => h) (Or.inl ⟨by kernel_rfl, ?yt15⟩) (unhide HKd) ?_
      case yt15 => intro w hSw; obtain ⟨s0, s1, s2, s3⟩ := hSw; go_simp; first | done | rfl
      simp only [List.getElem_toArray, List.getElem_cons_succ, List.getElem_cons_zero, Act.put, List.setIfInBounds_toArray, List.set_cons_zero, List.set_cons_succ]
      refine wpAnyH_take (i := 16) (oi := _) (v := ?vt16) rfl (by kernel_rfl) (by kernel_rfl) (by kernel_rfl) (fun _ _ _ h => h) (Or.inl ⟨by kernel_rfl, ?yt16⟩) (unhide HKd) ?_
      case yt16 => intro w hSw; obtain ⟨s0, s1, s2, s3⟩ := hSw; go_simp; first | done | rfl
      simp only [List.getElem_toArray, List.getElem_cons_succ, List.getElem_cons_zero, Act.put, List.setIfInBounds_toArray, List.set_cons_zero, List.set_cons_succ]
      refine wpAnyH_take (i := 17) (oi := _) (v := ?vt17) rfl (by kernel_rfl) (by kernel_rfl) (by kernel_rfl) (fun _ _ _ h => h) (Or.inl ⟨by kernel_rfl, ?yt17⟩) (unhide HKd) ?_
      case yt17 => intro w hSw; obtain ⟨s0, s1, s2, s3⟩ := hSw; go_simp; first | done | rfl
      simp only [List.getElem_toArray, List.getElem_cons_succ, List.getElem_cons_zero, Act.put, List.setIfInBounds_toArray, List.set_cons_zero, List.set_cons_succ]
      refine wpAnyH_ready (rs := [5]) (by kernel_rfl) (by simp) ?_
      refine AllReadyH.cons rfl (fun K hK => ?_) AllReadyH.nil
      go_simp
      go_at_call 39
      refine (unhide HEnd _ (bdrew (Below.refl _ _))).mono ?_
      rintro e w5 ⟨sa, sn, sc, rfl, hs5, hb5⟩
      have HK5 := hide (unhide HLow w5 (unhide HBl w5 hb5))
      have HS5 := hide hs5; have HB5 := hide hb5
      clear hs5 hb5
      go_wp2_with fail
      refine hK.out _ _ (unhide HK5) (fun _ => ?_)
      clear hK
      try simp only [List.getElem_toArray, List.getElem_cons_succ, List.getElem_cons_zero, Act.put, List.setIfInBounds_toArray, List.set_cons_zero, List.set_cons_succ]
      refine wpAnyH_ready (rs := [6]) (by kernel_rfl) (by simp) ?_
      refine AllReadyH.cons rfl (fun K hK => ?_) AllReadyH.nil
      go_simp
      have hal := Vc.one_alloc w5 (.cells #[.int .u8 ((endI y).op : Int), .int .i64 (endI y).dst, .slice sa sn sc, .int .i64 (endI y).n, .int .u32 (endI y).of] 29)
      have hb6 := (unhide HB5).trans (hal.mono (unhide HB5).size)
      have HK6 := hide (unhide HLow _ (unhide HBl _ hb6))
      have hits : Its (InC (w5.alloc (.cells #[.int .u8 ((endI y).op : Int), .int .i64 (endI y).dst, .slice sa sn sc, .int .i64 (endI y).n, .int .u32 (endI y).of] 29)) g) 5 [endI y] (Vc.inC (endI y) (.slice sa sn sc)) := one_news (w5 := w5) (Vc.NumsL.below hal (unhide HS5))
      have hnews := Vc.new_row w5 (Vc.inC (endI y) (.slice sa sn sc)) 29
      have hlst := (unhide HL).below hb6
      have hs6 : X.heap.size ≤ (w5.alloc (.cells #[.int .u8 ((endI y).op : Int), .int .i64 (endI y).dst, .slice sa sn sc, .int .i64 (endI y).n, .int .u32 (endI y).of] 29)).heap.size := Nat.le_trans hsz hb6.size
      refine hK.out _ _ (unhide HK6) (fun _ => ?_)
      clear hK
      try simp only [List.getElem_toArray, List.getElem_cons_succ, List.getElem_cons_zero, Act.put, List.setIfInBounds_toArray, List.set_cons_zero, List.set_cons_succ]
      refine wpAnyH_ready (rs := [7]) (by kernel_rfl) (by simp) ?_
      refine AllReadyH.cons rfl (fun K hK => ?_) AllReadyH.nil
      refine step_lst rfl (.tmp 31) (.tmp 37) rfl rfl hlst (fun k hk => by have := unhide HGN k hk; omega) hs6 (ad := ⟨w5.heap.size, 0, none⟩) (m := 1) (c := 1) rfl rfl hits hnews (Vc.inC_one _ _ ⟨_, _, _, rfl⟩) (unhide HAb) ?_
      rintro b2 n2 c2 w8 hn2 hl8 hb8
      have hb9 : Below X.heap.size wr w8 := (hb6.mono hsz).trans hb8
      have HK8 := hide (unhide HLow w8 fun k hk => hb9.block k (by omega))
      have HL8 := hide hl8; have HB8 := hide ((unhide HBe).trans hb9)
      have HB9 := hide hb9
      have hr8 := (hb9.block w.heap.size (by omega)).trans (unhide HRw)
      clear hn2 hl8 hb8 hb9 hlst hits hnews hs6 hal hb6
      refine hK.out _ _ (unhide HK8) (fun _ => ?_)
      clear hK
      try simp only [List.getElem_toArray, List.getElem_cons_succ, List.getElem_cons_zero, Act.put, List.setIfInBounds_toArray, List.set_cons_zero, List.set_cons_succ]
      refine wpAnyH_take (i := 18) (oi := _) (v := ?vt18) rfl (by kernel_rfl) (by kernel_rfl) (by kernel_rfl) (fun _ _ _ h => h) (Or.inl ⟨by kernel_rfl, ?yt18⟩) (unhide HK8) ?_
      case yt18 => intro w hSw; go_simp; first | done | rfl
      simp only [List.getElem_toArray, List.getElem_cons_succ, List.getElem_cons_zero, Act.put, List.setIfInBounds_toArray, List.set_cons_zero, List.set_cons_succ]
      have y0 : w8.cell? ⟨w.heap.size, 0, none⟩ = some (.slice none 0 0) := by rw [cell_of_row w8 _ 0 _ _ _ hr8]; rfl
      have y1 : w8.cell? ⟨w.heap.size, 1, none⟩ = some (.slice none 0 0) := by rw [cell_of_row w8 _ 1 _ _ _ hr8]; rfl
      have y2 : w8.cell? ⟨w.heap.size, 2, none⟩ = some (.int .i64 0) := by rw [cell_of_row w8 _ 2 _ _ _ hr8]; rfl
      have yf : ∀ j, w8.frozen? ⟨w.heap.size, j, none⟩ = false := fun j => frozen_of_row w8 _ j _ _ hr8
      have hr9 := set3c w8 w.heap.size _ _ _ _ (.slice b2 n2 c2) (.slice ma y.next.length mc) (.int .i64 x.dep) hr8
      have hot : ∀ k, k ≠ w.heap.size → (((w8.setCell ⟨w.heap.size, 0, none⟩ (.slice b2 n2 c2)).setCell ⟨w.heap.size, 1, none⟩ (.slice ma y.next.length mc)).setCell ⟨w.heap.size, 2, none⟩ (.int .i64 x.dep)).heap[k]? = w8.heap[k]? := fun k hk => by
        rw [heap_setCell_other _ _ _ _ (by exact hk), heap_setCell_other _ _ _ _ (by exact hk), heap_setCell_other _ _ _ _ (by exact hk)]
      have hz9 : w8.heap.size ≤ (((w8.setCell ⟨w.heap.size, 0, none⟩ (.slice b2 n2 c2)).setCell ⟨w.heap.size, 1, none⟩ (.slice ma y.next.length mc)).setCell ⟨w.heap.size, 2, none⟩ (.int .i64 x.dep)).heap.size := by simp
      have hbe9 : Below w.heap.size w (((w8.setCell ⟨w.heap.size, 0, none⟩ (.slice b2 n2 c2)).setCell ⟨w.heap.size, 1, none⟩ (.slice ma y.next.length mc)).setCell ⟨w.heap.size, 2, none⟩ (.int .i64 x.dep)) := ((((unhide HXb).trans ((unhide HB8).mono (by omega))).setCell (p := ⟨w.heap.size, 0, none⟩) (Nat.le_refl _) _).setCell (p := ⟨w.heap.size, 1, none⟩) (Nat.le_refl _) _).setCell (p := ⟨w.heap.size, 2, none⟩) (Nat.le_refl _) _
      refine wpAnyH_ready (rs := [19]) (by kernel_rfl) (by simp) ?_
      refine AllReadyH.cons rfl (fun K hK => ?_) AllReadyH.nil
      go_simp
      generalize ((w8.setCell ⟨w.heap.size, 0, none⟩ (.slice b2 n2 c2)).setCell ⟨w.heap.size, 1, none⟩ (.slice ma y.next.length mc)).setCell ⟨w.heap.size, 2, none⟩ (.int .i64 x.dep) = W9 at *
      have hgw : ∀ k, g k → k < w.heap.size := fun k hk => Nat.lt_of_lt_of_le (unhide HGN k hk) hNw
      have hk9 : ∀ k, k < w.heap.size → W9.heap[k]? = wr.heap[k]? := fun k hk => (hot k (by omega)).trans ((unhide HB9).block k (by omega))
      refine hK.out _ _ (unhide HLow W9 hk9) (fun _ => ?_)
      clear hK
      refine wpAnyH_done (by kernel_rfl) ?_ _
      have hmv : Vc.Mv w8 W9 (fun k => k ≠ w.heap.size ∧ (g k ∨ w.heap.size ≤ k)) (fun k => g k ∨ w.heap.size ≤ k) := fun k _ hk => ⟨hk.2, hot k hk.1⟩
      have hfin := Vc.LL.moved hmv hz9 (fun _ _ q => q.moved hmv) ((unhide HL8).ll (G := fun k => k ≠ w.heap.size ∧ (g k ∨ w.heap.size ≤ k)) (fun k hk => ⟨by have := hgw k hk; omega, .inl hk⟩) (fun k h1 _ => ⟨by omega, .inr (by omega)⟩))
      have hnx : NumsL W9 g y.next (.slice ma y.next.length mc) := (unhide HNn).moved fun k _ hk => ⟨hk, hk9 k (hgw k hk)⟩
      have hfin2 : LL InC 5 W9 (fun k => g k ∨ w.heap.size ≤ k) (R.1 ++ [endI (l.getD R.2 dB)]) (.slice b2 n2 c2) := by
        have h := unhide HR2
        rw [← h, ← unhide HY]; exact hfin
      have hnx2 : NumsL W9 g (l.getD R.2 dB).next (.slice ma y.next.length mc) := by
        have h := unhide HR2
        rw [← h, ← unhide HY]; exact hnx
      have HFin := hide hfin2; have HNx := hide hnx2; have HBe9 := hide hbe9
      clear hmv hfin hnx hfin2 hnx2 hk9 hot hbe9 y0 y1 y2 yf
      go_wp2_with fail
      have u0 := cell_of_row W9 w.heap.size 0 _ _ _ hr9; have u1 := cell_of_row W9 w.heap.size 1 _ _ _ hr9; have u2 := cell_of_row W9 w.heap.size 2 _ _ _ hr9
      simp only [List.getElem?_toArray, List.getElem?_cons_zero, List.getElem?_cons_succ] at u0 u1 u2
      exact bodyPost_ret (v := .agg #[.slice b2 n2 c2, .slice ma y.next.length mc, .int .i64 x.dep]) (by simp [results, Tryd.results44, go_sem, u0, u1, u2]) rfl ⟨_, _, rfl, unhide HFin, unhide HNx, unhide HBe9⟩
      -- HANDEND
    · obtain ⟨t, ht⟩ : ∃ t : Nat, z = (t : Int) := ⟨z.toNat, by omega⟩
      subst ht
      have htn : t < n := by omega
      obtain ⟨fu, rfl⟩ : ∃ f, fu = f + 1 := ⟨fu - 1, by
        rcases Nat.eq_zero_or_pos fu with h | h
        · subst h; exact absurd (ends_0 tk p hen) (by rw [← hz]; exact hz1)
        · omega⟩
      have hz2 : tk.getD p 0 ≠ -1 := by rw [← hz]; exact hz1
      have hfar := far_less tk fu p n hz2 hen hfu
      have hen2 := ends_yes tk fu p hz2 hen
      rw [chn_yes _ _ _ _ _ hz2] at hch
      rw [← hz, Int.toNat_natCast] at hch hen2 hfar
      obtain ⟨y, hy⟩ : ∃ y, y = l.getD t dB := ⟨_, rfl⟩
      rw [← hy] at hch
      have hyl : l[t]? = some y := by rw [hy]; exact get?_getD _ _ _ (by have := unhide HN; omega)
      have hym := List.mem_of_getElem? hyl
      obtain ⟨hi0, hi1⟩ := (unhide HC).ins y hym
      have hi2 := (unhide HF).ins y hym
      obtain ⟨Bc, oc, vi, vn, hva, hBN, hBl, -, d0, d1, d2, hin, hnn⟩ := blk_next hBw hyl
      cases hva
      obtain ⟨ja, jc, rfl, -, -, -⟩ := id hin
      obtain ⟨ma, mc, rfl, -, -, -⟩ := id hnn
      have hst := straight_any y hi0 hi1 _ _ (.slice ma y.next.length mc) wr hin ⟨_, _, _, rfl⟩
      have hsl : (sta y).length = y.ins.length - 1 := by unfold sta; rw [List.length_take]; omega
      have htni : (t : Int) < (n : Int) := by omega
      have hzb : ((t : Int) != -1) = true := by simp
      have hbd : acc.length + (sta y).length ≤ (n - fu + 1) * 16384 := by
        have : (n - fu + 1) * 16384 = (n - (fu + 1) + 1) * 16384 + 16384 := by omega
        omega
      have hbd2 : (n - fu + 1) * 16384 ≤ 1099511627776 := by have := unhide HF4; have := unhide HN; omega
      have HSt := hide hst; have HL := hide hl; have HCh := hide hch; have HBe := hide hbe; have HFar := hide hfar; have HEn := hide hen2; have HBd := hide hbd; have HBd2 := hide hbd2; have HSl := hide hsl; have HFu := hide hfu; have HTn := hide htn; have HXw := hide hXw; have HNw2 := hide hNw; have HSz := hide hsz
      clear hst hl hch hbe hfar hen2 hen hbd hbd2 hsl hfu htn hz hzr hz1 hz2 hal hi2 hi0 hi1 hym hyl hy hin hnn hBN hBl hBw hbw hXw hNw hsz hp
      go_wp2_with (first
        | (go_at_call 40; refine (unhide HSt).mono ?_; rintro e w5 ⟨B5, o5, rfl, hl5, hb5⟩; have HL5 := hide hl5; have HB5 := hide hb5; clear hl5 hb5)
        | (at_builtin
           have hl5 : LL InC 5 wr g (sta y) (.slice (some ⟨B5, o5, none⟩) (y.ins.length - 1) (y.ins.length - 1)) := unhide HL5
           have hb5 := unhide HB5
           obtain ⟨news, k1, k2, k3, k4⟩ := ll_news (Vc.Inss.below hb5 hl5)
           refine wpList_lst rfl (.tmp 24) (.tmp 29) rfl rfl ((unhide HL).below hb5) (fun k hk => by have := unhide HGN k hk; have := unhide HXw; have := unhide HNw2; omega) (Nat.le_trans (unhide HSz) hb5.size) rfl k1 k2 k3 k4 (Nat.le_trans (unhide HBd) (unhide HBd2)) ?_
           rintro b2 n2 c2 w8 rfl hl8 hb8
           have HL8 := hide hl8; have HB8 := hide (((unhide HBe).trans (hb5.mono (unhide HSz))).trans hb8)
           clear hl8 hb8 hl5 hb5 k1 k2 k3 k4))
      go_roundw
      case rel => exact ⟨fu, t, acc ++ sta y, b2, c2, by have := unhide HFu; omega, unhide HTn, rfl, by rw [List.length_append], unhide HEn, by rw [List.length_append]; exact unhide HBd, unhide HL8, unhide HCh, unhide HB8⟩
      case measure => have := unhide HFar; simpa [intOf] using this
end Fw
end Go.Proofs.YtpecnljcgiicaaaDoor

/- flow: joined. -/
namespace Go.Proofs.YtpecnljcgiicaaaDoor
open Go.RowKit
namespace Fw
set_option linter.unusedVariables false
set_option linter.unusedSimpArgs false
open Vc (NumsL Nums Lies LL Bls BlC InC Bl Co infoN infoBl own_base RowT cob cob_cells)

theorem jnk_no (l : List Bl) (tk : List Int) (k : Nat) (hk : k < l.length) (h : jn? tk k = false) : jnk l tk (k + 1) = jnk l tk k := by
  rw [jnk_succ]
  have h1 : jn1 l tk k = l.getD k dB := by unfold jn1; rw [h]; rfl
  rw [h1]
  refine List.ext_getElem? fun i => ?_
  rw [List.getElem?_set]
  split
  · rename_i e
    subst e
    rw [if_pos (by rw [jnk_len]; exact hk), jnk_at _ _ _ _ (Nat.le_refl _), get?_getD _ _ dB hk]
  · rfl
theorem contains_ro {w : World} {N : Nat} {v : Value} {l : List Int} (h : Ro w N v l) (h0 : 0 < l.length) (hl : l.length ≤ 1048576) (x : Int) :
    Calls Tryd.prog 43 #[v, .int .i64 x] w fun e w' => e = .returned (.bool (l.contains x)) ∧ w' = w := by
  obtain ⟨g, cap, rfl, hN, hgl, hc, -, -⟩ := h.at_ h0
  have := Tryd.slices_Contains_int g 0 l.length cap l x w (Nat.le_refl _) (by omega) (fun j hj => by rw [Nat.zero_add]; exact hc j hj)
  rw [List.take_length] at this
  exact this

set_option maxRecDepth 100000 in
set_option maxHeartbeats 6400000 in
theorem joined_any (l : List Bl) (hc : Cok l) (hf : Few l) (hE : EndsAll l) (pa re : Int) (rs : Bool) (g F : Nat → Prop) (vb : Value) (w : World) (hB : Bls w g l vb) (hg : ∀ k, g k → k < w.heap.size ∧ ¬ F k) (hF : ∀ k, F k → k < w.heap.size) :
    Calls Tryd.prog 22 #[.agg #[.int .i64 pa, .int .i64 re, .bool rs, vb]] w fun e w' => ∃ v', e = .returned (.agg #[.int .i64 pa, .int .i64 re, .bool rs, v']) ∧ Bls w' (fun k => k < w'.heap.size ∧ ¬ F k) (joinA l) v' ∧ Below w.heap.size w w' := by
  obtain ⟨va, vc, rfl, -, -, -⟩ := id hB
  have hlen := hc.nok.len
  have hone := hc.one
  obtain ⟨n, hn⟩ : ∃ n, n = l.length := ⟨_, rfl⟩
  obtain ⟨tk, htk⟩ : ∃ tk, tk = takes l := ⟨_, rfl⟩
  have hto := takes_ok hc
  have htl := takes_len l
  rw [← htk] at hto htl
  obtain ⟨X, hX⟩ : ∃ X, X = (w.alloc (.cells (cob pa re rs (.slice va n vc)) 25)).alloc (.cells (cob 0 0 false (.slice none 0 0)) 25) := ⟨_, rfl⟩
  have hXb : Below w.heap.size w X := by rw [hX]; exact Vc.two_allocs w _ _
  have hXz : X.heap.size = w.heap.size + 2 := by rw [hX]; simp
  have r0 : X.heap[w.heap.size]? = some (.cells (cob pa re rs (.slice va n vc)) 25 (0, 0)) := by rw [hX, Below.heap_alloc _ _ _ (by simp)]; exact heap_alloc_new _ _
  have r1 : X.heap[w.heap.size + 1]? = some (.cells (cob 0 0 false (.slice none 0 0)) 25 (0, 0)) := by
    have := heap_alloc_new (w.alloc (.cells (cob pa re rs (.slice va n vc)) 25)) (.cells (cob 0 0 false (.slice none 0 0)) 25)
    rw [show (w.alloc (.cells (cob pa re rs (.slice va n vc)) 25)).heap.size = w.heap.size + 1 by simp, ← hX] at this; exact this
  rw [← hn] at hB ⊢
  have hBw : Bls w (fun k => k < w.heap.size ∧ ¬ F k) l (.slice va n vc) := hB.moved (fun k _ h => ⟨hg k h, rfl⟩) (Nat.le_refl _)
  have hBw0 : Bls w (fun k => k < w.heap.size) l (.slice va n vc) := hB.moved (fun k _ h => ⟨(hg k h).1, rfl⟩) (Nat.le_refl _)
  have htc := takesOf_any l hc w.heap.size (.slice va n vc) X (bls_on hBw0 hXb) hXb.size
  rw [← htk] at htc
  have hclo := fun (W : World) (hW : Below X.heap.size X W) => clone_bo l (by omega) (by omega) (fun q => q < w.heap.size ∧ ¬ F q) (fun q => q = w.heap.size ∨ q = w.heap.size + 1 ∨ F q) (.slice va n vc) W (bls_at hBw (fun k h => h.1) (hXb.trans (hW.mono (by omega)))) (fun q hq => by have := hW.size; exact ⟨by omega, fun h => by rcases h with h | h | h <;> first | omega | exact hq.2 h⟩)
  obtain ⟨c0, c1, c2, c3, cf, cl⟩ := cob_cells r0
  have HC := hide hc; have HFw := hide hf; have HE := hide hE; have HN := hide hn; have HTk := hide htk; have HTo := hide hto; have HTl := hide htl; have HXb := hide hXb; have HXz := hide hXz; have HR0 := hide r0; have HR1 := hide r1; have HBw := hide hBw; have HTc := hide htc; have HCl := hide hclo; have HLn := hide hlen; have HOn := hide hone; have HFF := hide hF
  have hni : (n : Int) ≤ 1048576 := by omega
  clear hc hf hE hn htk hto htl hXb hXz r0 r1 hBw hBw0 htc hclo hlen hone hB hg hF
  go_enter Tryd.func22, Tryd.ntmps22
  go_upto_region 1 with fail
  rw [show (w.alloc (.cells #[.int .i64 pa, .int .i64 re, .bool rs, .slice va n vc] 25)).alloc (.cells #[.int .i64 0, .int .i64 0, .bool false, .slice none 0 0] 25) = X from hX.symm]
  clear hX
  go_upto_region 3 with (first
    | (go_at_call 42; refine (unhide HTc).mono ?_; rintro e w2 ⟨v2, rfl, ht2, hb2⟩; obtain ⟨gt, ct, e2, -⟩ := ht2.at_ (by rw [unhide HTl]; exact unhide HOn); subst e2; have c3b := (hb2.cell (p := ⟨w.heap.size, 3, none⟩) cl).trans c3; have HT2 := hide ht2; have HB2 := hide hb2; clear ht2 hb2)
    | (go_at_call 37; refine (unhide HCl _ (unhide HB2)).mono ?_; rintro e w5 ⟨B, cap, rfl, hBo, hb5⟩; have HBo := hide hBo; have HB5 := hide hb5; clear hBo hb5))
  have hb2 := unhide HB2
  have hb5 := unhide HB5
  have hXz := unhide HXz
  have hbX5 := hb2.trans (hb5.mono hb2.size)
  have hbw5 := (unhide HXb).trans (hbX5.mono (by omega))
  have q0 := (hbX5.block w.heap.size cl).trans (unhide HR0)
  have q1 := (hbX5.block (w.heap.size + 1) (by omega)).trans (unhide HR1)
  have ht5 := (unhide HT2).below hb5
  have hnb := (unhide HBo).nb
  obtain ⟨hgt1, hgt2⟩ := (unhide HT2).lt gt rfl
  have hs2 := hb2.size
  have hs5 := hb5.size
  have HQ0 := hide q0; have HQ1 := hide q1; have HT5 := hide ht5; have HBw5 := hide hbw5
  have HGt := hide (show gt < B by omega)
  have HNB := hide (show w.heap.size + 1 < B by omega)
  have HNB2 := hide hnb
  have HBlt := hide (unhide HBo).lt
  have HSw := hide (show w.heap.size + 2 ≤ w5.heap.size by omega)
  have hA9 : ∀ q, (q = w.heap.size ∨ q = w.heap.size + 1 ∨ F q) → q < w2.heap.size := fun q hq => by
    rcases hq with h | h | h
    · omega
    · omega
    · have := unhide HFF q h; omega
  have HA9 := hide hA9
  rw [unhide HTl, ← unhide HN]
  clear hb2 hb5 hXz hbX5 hbw5 q0 q1 ht5 hnb hgt1 hgt2 hs2 hs5 hA9 c0 c1 c2 c3 c3b cf HB2 HB5 HT2 HTc HCl HR0 HR1 HXb
  go_wp2_with fail
  go_loopw [14] (fun c wr => ∃ k : Nat, k ≤ n ∧ c = .int .i64 (k : Int) ∧ Bo wr w2.heap.size B (fun q => q = w.heap.size ∨ q = w.heap.size + 1 ∨ F q) cap (jnk l tk k) ∧ Fo B w5 wr) (fun c _ => n - (intOf c).toNat)
  case atStart => exact ⟨0, Nat.zero_le _, rfl, unhide HBo, Fo.refl _ _⟩
  case round =>
    obtain ⟨k, hk, rfl, hBo, hFo⟩ := hrel
    have hsw := unhide HSw
    have hnB := unhide HNB
    have hgtB := unhide HGt
    have hBl5 := unhide HBlt
    have q0 := (hFo.keep w.heap.size (by omega) (by omega)).trans (unhide HQ0)
    have q1 := (hFo.keep (w.heap.size + 1) (by omega) (by omega)).trans (unhide HQ1)
    have hbw := (unhide HBw5).trans (hFo.below (by omega : w.heap.size ≤ B) (by omega))
    by_cases hlt : k < n
    · have hkl : k < l.length := by rw [← unhide HN]; exact hlt
      have hTr : Ro wr X.heap.size (.slice (some ⟨gt, 0, none⟩) tk.length ct) tk := (unhide HT5).keep fun q hq => by
        have h9 : gt = q := Option.some.inj hq
        exact hFo.keep q (by omega) (by omega)
      obtain ⟨c0, c1, c2, c3, cf, -⟩ := cob_cells q0
      obtain ⟨t1, -⟩ := hTr.cells (i := k) (by rw [unhide HTl]; exact hkl)
      obtain ⟨z, hz⟩ : ∃ z, z = tk.getD k 0 := ⟨_, rfl⟩
      rw [← hz] at t1
      have hki : (k : Int) < (n : Int) := by omega
      have hjn : jn? tk k = (decide (z ≠ -1) && !(tk.contains (k : Int))) := by unfold jn?; rw [hz]
      have hcon := contains_ro hTr (by rw [unhide HTl]; exact unhide HOn) (by rw [unhide HTl]; exact unhide HLn) (k : Int)
      rw [unhide HTl, ← unhide HN] at hTr hcon
      obtain ⟨cb, hcb⟩ : ∃ cb, cb = tk.contains (k : Int) := ⟨_, rfl⟩
      rw [← hcb] at hjn hcon
      have hno := jnk_no l tk k hkl
      have HBo := hide hBo; have HFo := hide hFo; have HCon := hide hcon; have HJn := hide hjn; have HNo := hide hno; have HLt := hide hlt; have HTr := hide hTr; have HKl := hide hkl; have HBwr := hide hbw
      have HS9 := hide (And.intro hsw (And.intro hnB hBl5))
      clear hBo hFo hcon hjn hno hlt hTr hkl hk hcb hz q0 q1 hbw hsw hnB hgtB hBl5 c0 c1 c2
      by_cases hz1 : z = -1
      · subst hz1
        have hst := unhide HNo (by rw [unhide HJn]; rfl)
        have HSt := hide hst
        clear hst
        go_wp2_with fail
        go_roundw
        case rel => exact ⟨k + 1, by have := unhide HLt; omega, by go_num, by rw [unhide HSt]; exact unhide HBo, unhide HFo⟩
        case measure => have := unhide HLt; simp [intOf]; omega
      · have hzb : (z != -1) = true := by simpa using hz1
        cases cb with
        | true =>
          have hst := unhide HNo (by rw [unhide HJn]; simp)
          have HSt := hide hst
          clear hst
          go_wp2_with (go_at_call 43; refine (unhide HCon).mono ?_; rintro e w6 ⟨rfl, rfl⟩)
          go_roundw
          case rel => exact ⟨k + 1, by have := unhide HLt; omega, by go_num, by rw [unhide HSt]; exact unhide HBo, unhide HFo⟩
          case measure => have := unhide HLt; simp [intOf]; omega
        | false =>
          have hj1 : jn? tk k = true := by rw [unhide HJn]; simpa using hz1
          have hen : ends tk l.length k = true := by
            have h := unhide HE k (unhide HKl)
            rw [← unhide HTk] at h
            exact h hj1
          have hst := jnk_succ l tk k
          have hj2 : jn1 l tk k = chnB l tk k := by unfold jn1; rw [hj1]; rfl
          rw [hj2] at hst
          have hsb := (unhide HBwr).size
          have hca := chained_any l (unhide HC) (unhide HFw) tk (unhide HTl) (unhide HTo) k (unhide HKl) hen w.heap.size (fun q => q < w.heap.size ∧ ¬ F q) (fun q h => h.1) (.slice va n vc) (.slice (some ⟨gt, 0, none⟩) n ct) wr (bls_at (unhide HBw) (fun q h => h.1) (unhide HBwr)) hsb ((unhide HTr).nums.moved fun q _ hq => ⟨hq.2, rfl⟩)
          obtain ⟨y, hy⟩ : ∃ y, y = chnB l tk k := ⟨_, rfl⟩
          rw [← hy] at hst hca
          have hpx : (jnk l tk k)[k]? = some (l.getD k dB) := by rw [jnk_at _ _ _ _ (Nat.le_refl _)]; exact get?_getD _ _ _ (unhide HKl)
          have hwr : w5.heap.size ≤ wr.heap.size := (unhide HFo).size
          have hpost : ∀ w6 vi vn, LL InC 5 w6 (fun q => (q < w.heap.size ∧ ¬ F q) ∨ wr.heap.size ≤ q) y.ins vi → NumsL w6 (fun q => q < w.heap.size ∧ ¬ F q) y.next vn → Below wr.heap.size wr w6 → (∃ x0 x1 x2, w6.cell? ⟨B, k * 3, none⟩ = some x0 ∧ w6.cell? ⟨B, k * 3 + 1, none⟩ = some x1 ∧ w6.cell? ⟨B, k * 3 + 2, none⟩ = some x2) ∧ (∀ j, w6.frozen? ⟨B, j, none⟩ = false) ∧ Bo (((w6.setCell ⟨B, k * 3, none⟩ vi).setCell ⟨B, k * 3 + 1, none⟩ vn).setCell ⟨B, k * 3 + 2, none⟩ (.int .i64 y.dep)) w2.heap.size B (fun q => q = w.heap.size ∨ q = w.heap.size + 1 ∨ F q) cap (jnk l tk (k + 1)) ∧ Fo B w5 (((w6.setCell ⟨B, k * 3, none⟩ vi).setCell ⟨B, k * 3 + 1, none⟩ vn).setCell ⟨B, k * 3 + 2, none⟩ (.int .i64 y.dep)) := fun w6 vi vn hvi hvn h6 => by
            obtain ⟨s1, s2, s3⟩ := unhide HS9
            have h7 := (unhide HBo).below h6
            obtain ⟨xi, xn, e0, e1, e2, -, -⟩ := h7.it k _ hpx
            have hg : ∀ q, (q < w.heap.size ∧ ¬ F q) ∨ wr.heap.size ≤ q → q ≠ B ∧ ¬ (q = w.heap.size ∨ q = w.heap.size + 1 ∨ F q) := fun q hq => by
              rcases hq with h | h
              · exact ⟨by omega, fun h2 => by rcases h2 with h2 | h2 | h2 <;> first | omega | exact h.2 h2⟩
              · exact ⟨by omega, fun h2 => by rcases h2 with h2 | h2 | h2 <;> first | omega | (have := unhide HFF q h2; omega)⟩
            have hm : Vc.Mv w6 w6 (fun q => (q < w.heap.size ∧ ¬ F q) ∨ wr.heap.size ≤ q) (fun q => q ≠ B ∧ ¬ (q = w.heap.size ∨ q = w.heap.size + 1 ∨ F q)) := fun q _ hq => ⟨hg q hq, rfl⟩
            have h8 := h7.setAll (y := y) hpx (Vc.LL.moved hm (Nat.le_refl _) (fun _ _ q => q.moved hm) hvi) (hvn.moved fun q _ hq => ⟨hg q (.inl hq), rfl⟩)
            rw [← hst] at h8
            exact ⟨⟨_, _, _, e0, e1, e2⟩, h7.bt.frozen, h8, ((((unhide HFo).trans (Fo.of h6)).set _ _).set _ _).set _ _⟩
          have HCa := hide hca; have HPo := hide hpost; have HY := hide hy
          clear hca hpost hst hj2 hj1 hen hy hpx hsb hwr
          go_wp2_with (first
            | (go_at_call 43; refine (unhide HCon).mono ?_; rintro e w6 ⟨rfl, rfl⟩)
            | (go_at_call 44; refine (unhide HCa).mono ?_; rintro e w6 ⟨vi, vn, rfl, h1, h2, h3⟩; obtain ⟨⟨x0, x1, x2, e0, e1, e2⟩, ef, h4, h5⟩ := unhide HPo w6 vi vn h1 h2 h3; obtain ⟨ia, ic, rfl, -, -, -⟩ := h1; obtain ⟨na, nc, rfl, -, -, -⟩ := h2; have H4 := hide h4; have H5 := hide h5; clear h3 h4 h5))
          go_roundw
          case rel => exact ⟨k + 1, by have := unhide HLt; omega, by go_num, unhide H4, unhide H5⟩
          case measure => have := unhide HLt; simp [intOf]; omega
    · obtain rfl : k = n := by omega
      have hjo : jnk l tk k = joinA l := by unfold joinA; rw [unhide HN, unhide HTk]
      rw [hjo] at hBo
      have hjl : (joinA l).length = k := by rw [← hjo, jnk_len, unhide HN]
      have hBo6 := hBo.setA (i := 3) (.inl rfl) (by omega) (.slice (some ⟨B, 0, none⟩) k cap)
      have q6 : (wr.setCell ⟨w.heap.size, 3, none⟩ (.slice (some ⟨B, 0, none⟩) k cap)).heap[w.heap.size]? = some (.cells (cob pa re rs (.slice (some ⟨B, 0, none⟩) k cap)) 25 (0, 0)) := (heap_setCell_same wr w.heap.size 3 _ _ _ q0).trans rfl
      have q7 : (wr.setCell ⟨w.heap.size, 3, none⟩ (.slice (some ⟨B, 0, none⟩) k cap)).heap[w.heap.size + 1]? = some (.cells (cob 0 0 false (.slice none 0 0)) 25 (0, 0)) := (heap_setCell_other wr ⟨w.heap.size, 3, none⟩ _ _ (by show w.heap.size + 1 ≠ w.heap.size; omega)).trans q1
      have hbw6 := hbw.setCell (p := ⟨w.heap.size, 3, none⟩) (Nat.le_refl _) (.slice (some ⟨B, 0, none⟩) k cap)
      obtain ⟨c0, c1, c2, c3, cf, cl2⟩ := cob_cells q0
      have HBo6 := hide hBo6; have HQ6 := hide q6; have HQ7 := hide q7; have HBw6 := hide hbw6; have HJl := hide hjl; have HNB3 := hide hnB
      clear hBo6 q6 q7 hbw6 hBo hFo q0 q1 hbw hlt hk hjo hjl hsw hnB hgtB hBl5 c0 c1 c2
      go_upto_region 10 with fail
      generalize wr.setCell ⟨w.heap.size, 3, none⟩ (.slice (some ⟨B, 0, none⟩) k cap) = W6 at *
      clear c3 cf cl2
      have hnB := unhide HNB3
      obtain ⟨c0, c1, c2, c3, cf, cl3⟩ := cob_cells (unhide HQ6)
      obtain ⟨y0, y1, y2, y3, yf, yl⟩ := cob_cells (unhide HQ7)
      have hb := ((((unhide HBo6).setA (a := w.heap.size + 1) (i := 0) (.inr (.inl rfl)) (by omega) (.int .i64 pa)).setA (a := w.heap.size + 1) (i := 1) (.inr (.inl rfl)) (by omega) (.int .i64 re)).setA (a := w.heap.size + 1) (i := 2) (.inr (.inl rfl)) (by omega) (.bool rs)).setA (a := w.heap.size + 1) (i := 3) (.inr (.inl rfl)) (by omega) (.slice (some ⟨B, 0, none⟩) k cap)
      have hfin := hb.blsA (unhide HJl).symm (fun q => q < ((((W6.setCell ⟨w.heap.size + 1, 0, none⟩ (.int .i64 pa)).setCell ⟨w.heap.size + 1, 1, none⟩ (.int .i64 re)).setCell ⟨w.heap.size + 1, 2, none⟩ (.bool rs)).setCell ⟨w.heap.size + 1, 3, none⟩ (.slice (some ⟨B, 0, none⟩) k cap)).heap.size ∧ ¬ F q) (fun q hq h => ⟨hq, fun hf => by
        rcases h with h | h
        · have := unhide HFF q hf; omega
        · exact h (.inr (.inr hf))⟩)
      have hr8 := set4c W6 (w.heap.size + 1) _ _ _ _ _ (.int .i64 pa) (.int .i64 re) (.bool rs) (.slice (some ⟨B, 0, none⟩) k cap) (unhide HQ7)
      have hb8 := Vc.bel4 (unhide HBw6) (w.heap.size + 1) (Nat.le_succ _) (.int .i64 pa) (.int .i64 re) (.bool rs) (.slice (some ⟨B, 0, none⟩) k cap)
      have HFn := hide hfin; have HR8 := hide hr8; have HB8 := hide hb8
      clear hfin hr8 hb8 hb hnB
      go_wp2_with fail
      generalize (((W6.setCell ⟨w.heap.size + 1, 0, none⟩ (.int .i64 pa)).setCell ⟨w.heap.size + 1, 1, none⟩ (.int .i64 re)).setCell ⟨w.heap.size + 1, 2, none⟩ (.bool rs)).setCell ⟨w.heap.size + 1, 3, none⟩ (.slice (some ⟨B, 0, none⟩) k cap) = W8 at *
      have u0 := cell_of_row W8 (w.heap.size + 1) 0 _ _ _ (unhide HR8); have u1 := cell_of_row W8 (w.heap.size + 1) 1 _ _ _ (unhide HR8); have u2 := cell_of_row W8 (w.heap.size + 1) 2 _ _ _ (unhide HR8); have u3 := cell_of_row W8 (w.heap.size + 1) 3 _ _ _ (unhide HR8)
      simp only [List.getElem?_toArray, List.getElem?_cons_zero, List.getElem?_cons_succ] at u0 u1 u2 u3
      exact bodyPost_ret (v := .agg #[.int .i64 pa, .int .i64 re, .bool rs, .slice (some ⟨B, 0, none⟩) k cap]) (by simp [results, Tryd.results22, go_sem, u0, u1, u2, u3]) rfl ⟨_, rfl, unhide HFn, unhide HB8⟩
end Fw
end Go.Proofs.YtpecnljcgiicaaaDoor
