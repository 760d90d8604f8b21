/- flow: what is taken by each block. -/
import Derived.Test.YtpecnljcgiicaaaDoorR1

/- flow: trimmed. -/
namespace Go.Proofs.YtpecnljcgiicaaaDoor
open Go.RowKit
namespace Fw
set_option linter.unusedVariables false
set_option linter.unusedSimpArgs false
open Vc (NumsL Nums Lies LL Bls BlC InC Bl Co infoN infoBl own_base RowT cob cob_cells)

theorem srt_mem (l : List Int) (x : Int) : x ∈ srt l ↔ x ∈ l := List.mem_mergeSort
theorem srt_len (l : List Int) : (srt l).length = l.length := List.length_mergeSort _
theorem go_ent (nx : List (List Nat)) (f b : Nat) (p : Int) (s : St) : s.ent.length + 1 ≤ (go nx (f + 1) b p s).ent.length := by
  rw [go_succ]
  have key : ∀ f, (∀ b p s, s.ent.length ≤ (go nx f b p s).ent.length) := by
    intro f
    induction f with
    | zero => intro b p s; exact Nat.le_refl _
    | succ f ih =>
      intro b p s
      rw [go_succ]
      have k2 : ∀ (l : List Nat) (t : Int) (q : St), q.ent.length ≤ (l.foldl (way nx f t) q).ent.length := by
        intro l t
        induction l with
        | nil => intro q; exact Nat.le_refl _
        | cons x r ihl =>
          intro q
          refine Nat.le_trans ?_ (ihl _)
          unfold way; split
          · exact ih _ _ _
          · exact Nat.le_refl _
      have := k2 (nx.getD b []) (s.ent.length : Int) (mark s b p)
      simp only [mark, List.length_append, List.length_cons, List.length_nil] at this ⊢
      omega
  have k2 : ∀ (l : List Nat) (t : Int) (q : St), q.ent.length ≤ (l.foldl (way nx f t) q).ent.length := by
    intro l t
    induction l with
    | nil => intro q; exact Nat.le_refl _
    | cons x r ihl =>
      intro q
      refine Nat.le_trans ?_ (ihl _)
      unfold way; split
      · exact key f _ _ _
      · exact Nat.le_refl _
  have := k2 (nx.getD b []) (s.ent.length : Int) (mark s b p)
  simp only [mark, List.length_append, List.length_cons, List.length_nil] at this ⊢
  omega
theorem walk_inv {l : List Bl} (h : Cok l) : Inv l.length (walk (nxs l)) ∧ 1 ≤ (walk (nxs l)).ent.length := by
  have h1 := h.one
  obtain ⟨n, hn⟩ : ∃ n, l.length = n + 1 := ⟨l.length - 1, by omega⟩
  unfold walk
  rw [nxs_len]
  refine ⟨?_, ?_⟩
  · have := (go_inv (nxs l) h.nok.inn l.length 0 (-1) (start l.length) (by rw [nxs_len]; exact Inv.start _) (by rw [nxs_len]; omega) (by rw [getD_get _ _ _ (by simp [start]; omega)]; simp [start]) (by omega) (by simp [start])).1
    rw [nxs_len] at this; exact this
  · rw [hn]
    have := go_ent (nxs l) n 0 (-1) (start (n + 1))
    simp only [start, List.length_nil] at this
    exact this
theorem rch_ok {l : List Bl} (h : Cok l) : 1 ≤ (rch l).length ∧ (rch l).length ≤ l.length ∧ ∀ z ∈ rch l, 0 ≤ z ∧ z < (l.length : Int) := by
  obtain ⟨h1, h2⟩ := walk_inv h
  unfold rch
  rw [srt_len, nz_len]
  refine ⟨h2, by have := h1.ec; omega, fun z hz => ?_⟩
  rw [srt_mem] at hz
  unfold nz at hz
  obtain ⟨x, hx, rfl⟩ := List.mem_map.1 hz
  have := h1.eb x hx
  omega
theorem pick_mem {l : List Bl} (h : Cok l) {r : List Int} (hr : ∀ z ∈ r, 0 ≤ z ∧ z < (l.length : Int)) : ∀ b ∈ pick l r, b ∈ l := by
  intro b hb
  unfold pick at hb
  obtain ⟨z, hz, rfl⟩ := List.mem_map.1 hb
  have := hr z hz
  exact getD_mem _ _ _ (by omega)
theorem Ro.nums2 {w : World} {N g n c : Nat} {l : List Int} (h : Ro w N (.slice (some ⟨g, 0, none⟩) n c) l) (G : Nat → Prop) (hG : G g) : NumsL w G l (.slice (some ⟨g, 0, none⟩) n c) := by
  obtain ⟨a, c', e, hle⟩ := h.sl
  simp only [Value.slice.injEq] at e
  obtain ⟨rfl, rfl, rfl⟩ := e
  refine ⟨_, _, rfl, hle, (by intro h; cases h), fun h0 => ⟨g, 0, rfl, hG, fun j hj => ?_⟩⟩
  rw [Nat.zero_add]; exact (h.cells hj).1
theorem set4c (w : World) (b : Nat) (c0 c1 c2 c3 : Value) (t : TypeId) (u0 u1 u2 u3 : Value) (h : w.heap[b]? = some (.cells #[c0, c1, c2, c3] t (0, 0))) :
    ((((w.setCell ⟨b, 0, none⟩ u0).setCell ⟨b, 1, none⟩ u1).setCell ⟨b, 2, none⟩ u2).setCell ⟨b, 3, none⟩ u3).heap[b]? = some (.cells #[u0, u1, u2, u3] t (0, 0)) := by
  have h0 := (heap_setCell_same w b 0 _ _ u0 h).trans rfl
  have h1 := (heap_setCell_same _ b 1 _ _ u1 h0).trans rfl
  have h2 := (heap_setCell_same _ b 2 _ _ u2 h1).trans rfl
  exact (heap_setCell_same _ b 3 _ _ u3 h2).trans rfl
theorem field1 (a b c d e : Value) (W : World) : (Instr.field 49 (.agg #[a, b, c, d, e]) 1).run Tryd.prog W = .ok b W := by
  have hu := Tryd.underlying49
  simp [Instr.field, run_underlying hu, asAgg, go_sem]

theorem Bo.blsA {w : World} {A : Nat → Prop} {N B cap n : Nat} {l : List Bl} (h : Bo w N B A cap l) (hn : n = l.length) (g : Nat → Prop) (hg : ∀ k, k < w.heap.size → k = B ∨ ¬ A k → g k) : Bls w g l (.slice (some ⟨B, 0, none⟩) n cap) := by
  subst hn
  refine ⟨_, _, rfl, h.cap, (by intro h; cases h), fun _ => ⟨B, 0, rfl, hg B h.lt (.inl rfl), h.lt, fun i x hx => ?_⟩⟩
  obtain ⟨vi, vn, k0, k1, k2, k3, k4⟩ := h.it i x hx
  have hm : Vc.Mv w w (fun k => k ≠ B ∧ ¬ A k) g := fun k hlt hk => ⟨hg k hlt (.inr hk.2), rfl⟩
  refine ⟨[vi, vn, .int .i64 x.dep], rfl, ⟨vi, vn, rfl, k3.moved hm (Nat.le_refl _) (fun _ _ q => q.moved hm), k4.moved hm⟩, fun j u hu => ?_⟩
  rw [Nat.zero_add]
  match j, hu with
  | 0, hu => cases hu; exact k0
  | 1, hu => cases hu; exact k1
  | 2, hu => cases hu; exact k2
  | j + 3, hu => simp at hu

set_option maxRecDepth 100000 in
set_option maxHeartbeats 6400000 in
theorem trimmed_F (l : List Bl) (hc : Cok l) (pa re : Int) (rs : Bool) (g F : Nat → Prop) (vb : Value) (w : World) (hB : Bls w g l vb) (hg : ∀ k, g k → k < w.heap.size ∧ ¬ F k) (hF : ∀ k, F k → k < w.heap.size) :
    Calls Tryd.prog 21 #[.agg #[.int .i64 pa, .int .i64 re, .bool rs, vb]] w fun e w' => ∃ v', e = .returned (.agg #[.int .i64 pa, .int .i64 re, .bool rs, v']) ∧ Bls w' (fun k => k < w'.heap.size ∧ ¬ F k) (trimB l) v' ∧ Below w.heap.size w w' := by
  obtain ⟨va, vc, rfl, -, -, -⟩ := id hB
  obtain ⟨i0, hi, hz0, hz1, hz2⟩ := info_parts infoN
  obtain ⟨ib, hib, hb0, hb1, hb2⟩ := info_parts infoBl
  obtain ⟨hr1, hr2, hr3⟩ := rch_ok hc
  have hlen := hc.nok.len
  obtain ⟨n, hn⟩ : ∃ n, n = l.length := ⟨_, rfl⟩
  obtain ⟨R, hR⟩ : ∃ R, R = (rch l).length := ⟨_, rfl⟩
  have hmkI := fun wx => run_make (P := Tryd.prog) wx 26 3 i0 (.int .i64 0) Tryd.underlying26 hi hz0 .i64 .i64 (n : Int) (n : Int) (by omega) (by omega) (by rw [hz2]; omega) (by omega)
  have hmkB := fun wx => run_make (P := Tryd.prog) wx 23 32 ib (.agg #[.slice none 0 0, .slice none 0 0, .int .i64 0]) Tryd.underlying23 hib hb0 .i64 .i64 (R : Int) (R : Int) (by omega) (by omega) (by rw [hb2]; omega) (by omega)
  rw [hz1] at hmkI
  rw [hb1] at hmkB
  simp only [Int.toNat_natCast, Nat.mul_one] at hmkI hmkB
  obtain ⟨X, hX⟩ : ∃ X, X = (w.alloc (.cells (cob pa re rs (.slice va n vc)) 25)).alloc (.cells (cob 0 0 false (.slice none 0 0)) 25) := ⟨_, rfl⟩
  have hXb : Below w.heap.size w X := by rw [hX]; exact Vc.two_allocs w _ _
  have hXz : X.heap.size = w.heap.size + 2 := by rw [hX]; simp
  have r0 : X.heap[w.heap.size]? = some (.cells (cob pa re rs (.slice va n vc)) 25 (0, 0)) := by rw [hX, Below.heap_alloc _ _ _ (by simp)]; exact heap_alloc_new _ _
  have r1 : X.heap[w.heap.size + 1]? = some (.cells (cob 0 0 false (.slice none 0 0)) 25 (0, 0)) := by
    have := heap_alloc_new (w.alloc (.cells (cob pa re rs (.slice va n vc)) 25)) (.cells (cob 0 0 false (.slice none 0 0)) 25)
    rw [show (w.alloc (.cells (cob pa re rs (.slice va n vc)) 25)).heap.size = w.heap.size + 1 by simp, ← hX] at this; exact this
  have hBX : Bls X g l (.slice va l.length vc) := hB.moved (fun k _ h => ⟨h, hXb.block k (hg k h).1⟩) hXb.size
  have hwk := walkOf_any l hc.nok hc.one g (.slice va l.length vc) X hBX (fun k h => by have := (hg k h).1; omega)
  rw [← hn] at hwk hB ⊢
  have hBw : Bls w (fun k => k < w.heap.size ∧ ¬ F k) l (.slice va n vc) := hB.moved (fun k _ h => ⟨hg k h, rfl⟩) (Nat.le_refl _)
  obtain ⟨c0, c1, c2, c3, cf, cl⟩ := cob_cells r0
  have HC := hide hc; have HN := hide hn; have HR := hide hR; have HXb := hide hXb; have HXz := hide hXz; have HR0 := hide r0; have HR1 := hide r1; have HW := hide hwk; have HBw := hide hBw; have H1 := hide hr1; have H2 := hide hr2; have H3 := hide hr3
  have HLn := hide hlen
  have hni : (n : Int) ≤ 1048576 := by omega
  have hRi : (R : Int) ≤ 1048576 := by omega
  have HFF := hide hF
  clear hF hc hn hR hXb hXz r0 r1 hwk hBw hr1 hr2 hr3 hB hBX hg hlen
  go_enter Tryd.func21, Tryd.ntmps21
  go_upto_region 1 with fail
  rw [show (w.alloc (.cells #[.int .i64 pa, .int .i64 re, .bool rs, .slice va n vc] 25)).alloc (.cells #[.int .i64 0, .int .i64 0, .bool false, .slice none 0 0] 25) = X from hX.symm]
  clear hX
  have hfd := field1
  go_upto_region 2 with (go_at_call 11; refine (unhide HW).mono ?_; rintro e w1 ⟨ve, vf, vt, vl, rfl, k1, k2, k3, k4, hb1⟩; obtain ⟨ea, ec, rfl, -⟩ := k1.sl; obtain ⟨fa, fc, rfl, -⟩ := k2.sl; obtain ⟨ta, tc, rfl, -⟩ := k3.sl; obtain ⟨la, lc, rfl, -⟩ := k4.sl; have K1 := hide k1; have HB1 := hide hb1; clear k1 k2 k3 k4 hb1)
  have hso := sort_ro (unhide K1) (by rw [nz_len]; have := unhide H1; unfold rch at this; rw [srt_len, nz_len] at this; omega) (by rw [nz_len]; have := (walk_inv (unhide HC)).1.ec; have := unhide HLn; omega)
  have hb3 : Below w.heap.size w w1 := (unhide HXb).trans ((unhide HB1).mono (by have := unhide HXz; omega))
  have q1 := ((unhide HB1).block _ (by have := unhide HXz; omega)).trans (unhide HR0)
  have q2 := ((unhide HB1).block _ (by have := unhide HXz; omega)).trans (unhide HR1)
  have hpost : ∀ w2, Below X.heap.size w1 w2 → w2.heap[w.heap.size]? = some (.cells (cob pa re rs (.slice va n vc)) 25 (0, 0)) ∧ w2.heap[w.heap.size + 1]? = some (.cells (cob 0 0 false (.slice none 0 0)) 25 (0, 0)) ∧ Below w.heap.size w w2 := fun w2 h2 =>
    ⟨(h2.block _ (by have := unhide HXz; omega)).trans q1, (h2.block _ (by have := unhide HXz; omega)).trans q2, hb3.trans (h2.mono (by have := unhide HXz; omega))⟩
  have HSo := hide hso; have HPo := hide hpost
  clear hso hpost hb3 q1 q2 c0 c1 c2 c3 cf cl hfd
  go_upto_region 3 with (go_at_call 41; refine (unhide HSo).mono ?_; rintro e w2 ⟨rfl, k1, hb2⟩; have KS := hide k1; have HB2 := hide hb2; clear k1 hb2)
  have hks : Ro w2 X.heap.size (.slice ea (nz (walk (nxs l)).ent).length ec) (rch l) := unhide KS
  have hlR : (nz (walk (nxs l)).ent).length = R := by rw [unhide HR]; unfold rch; rw [srt_len]
  rw [hlR] at hks ⊢
  obtain ⟨q1, q2, hb3⟩ := unhide HPo w2 (unhide HB2)
  obtain ⟨g1, c1', e, hg1, hg1l, hrc, -, -⟩ := hks.at_ (by have := unhide H1; omega)
  rw [← unhide HR] at e
  simp only [Value.slice.injEq] at e
  obtain ⟨rfl, -, rfl⟩ := e
  obtain ⟨c0, c1, c2, c3, cf, cl⟩ := cob_cells q1
  obtain ⟨W4, hW4⟩ : ∃ W4, W4 = (w2.alloc (.cells (madeCells (Value.int .i64 0).cells n) 3)).alloc (.cells (madeCells (Value.agg #[.slice none 0 0, .slice none 0 0, .int .i64 0]).cells (R * 3)) 32) := ⟨_, rfl⟩
  have ha1 := Vc.one_alloc w2 (.cells (madeCells (Value.int .i64 0).cells n) 3)
  have hz1' : (w2.alloc (.cells (madeCells (Value.int .i64 0).cells n) 3)).heap.size = w2.heap.size + 1 := by simp
  have ha2 := Vc.one_alloc (w2.alloc (.cells (madeCells (Value.int .i64 0).cells n) 3)) (.cells (madeCells (Value.agg #[.slice none 0 0, .slice none 0 0, .int .i64 0]).cells (R * 3)) 32)
  have hbo := Bo.made (w2.alloc (.cells (madeCells (Value.int .i64 0).cells n) 3)) (fun k => k = w2.heap.size ∨ k = w.heap.size ∨ k = w.heap.size + 1 ∨ F k) l (rch l) (by have := unhide H2; have := unhide HLn; omega)
  rw [← unhide HR, hz1', ← hW4] at hbo
  rw [hz1', ← hW4] at ha2
  have hro := ((Ro.made w2 n (by have := unhide HLn; have := unhide HN; omega)).below (w' := W4) (by rw [hz1']; exact ha2))
  have hb24 : Below w2.heap.size w2 W4 := ha1.trans (ha2.mono (by omega))
  have HHro := hide hro; have HHbo := hide hbo; have HB24 := hide hb24; have HRc := hide hrc; have HQ1 := hide q1; have HQ2 := hide q2; have HB3 := hide hb3; have HG1 := hide hg1l
  have HG0 := hide hg1
  have t3 : (w2.alloc (.cells (madeCells (Value.int .i64 0).cells n) 3)).cell? ⟨w.heap.size, 3, none⟩ = some (.slice va n vc) := (ha1.cell (p := ⟨w.heap.size, 3, none⟩) cl).trans c3
  clear ha1 ha2 hbo hro hb24 hrc q1 q2 hb3 hg1l hg1 hks hz1' KS HPo HSo
  go_upto_region 5 with fail
  rw [show (w2.alloc (.cells (madeCells #[.int .i64 0] n) 3)).alloc (.cells (madeCells #[.slice none 0 0, .slice none 0 0, .int .i64 0] (R * 3)) 32) = W4 from hW4.symm]
  clear hW4 c0 c1 c2 c3 cf t3 hmkI hmkB
  have hz4 : w2.heap.size + 2 ≤ W4.heap.size := by have := (unhide HHbo).lt; omega
  have hne : w2.heap.size ≠ w2.heap.size + 1 := by omega
  have hkeep : ∀ wr, Fk w2.heap.size (w2.heap.size + 1) W4 wr → ∀ k, k < w2.heap.size → wr.heap[k]? = w2.heap[k]? := fun wr hf k hk => (hf.keep k (by omega) (by omega)).trans ((unhide HB24).block k hk)
  have HKeep := hide hkeep; have HZ4 := hide hz4
  clear hkeep hz4
  go_wp2_with fail
  go_loopw [23] (fun c wr => ∃ k : Nat, k ≤ R ∧ c = .int .i64 (k : Int) ∧ Ro wr w2.heap.size (.slice (some ⟨w2.heap.size, 0, none⟩) n n) (anw (rch l) n k) ∧ Bo wr (w2.heap.size + 1) (w2.heap.size + 1) (fun k => k = w2.heap.size ∨ k = w.heap.size ∨ k = w.heap.size + 1 ∨ F k) R (part l (rch l) k) ∧ Fk w2.heap.size (w2.heap.size + 1) W4 wr) (fun c _ => R - (intOf c).toNat)
  case atStart => exact ⟨0, Nat.zero_le _, rfl, unhide HHro, unhide HHbo, Fk.refl _ _ _⟩
  case round =>
    obtain ⟨k, hk, rfl, hRo, hBo, hFk⟩ := hrel
    by_cases hlt : k < R
    · have hkr : k < (rch l).length := by rw [← unhide HR]; exact hlt
      have hkp := unhide HKeep wr hFk
      have x1 := (World.cell?_of_block (a := ⟨g1, k, none⟩) (hkp g1 (unhide HG1))).trans (unhide HRc k hkr)
      obtain ⟨z, hz⟩ : ∃ z, z = (rch l).getD k 0 := ⟨_, rfl⟩
      have hzr := unhide H3 z (by rw [hz]; exact getD_mem _ _ _ hkr)
      obtain ⟨b, hb⟩ : ∃ b : Nat, z = (b : Int) := ⟨z.toNat, by omega⟩
      rw [← hz, hb] at x1
      have hbl : b < l.length := by omega
      have hbn : (b : Int) < (n : Int) := by rw [unhide HN]; omega
      have c3 : wr.cell? ⟨w.heap.size, 3, none⟩ = some (.slice va n vc) := (World.cell?_of_block (a := ⟨w.heap.size, 3, none⟩) (hkp _ cl)).trans (cob_cells (unhide HQ1)).2.2.2.1
      have hbw : Below w.heap.size w wr := ⟨hFk.os.trans ((unhide HB24).os.trans (unhide HB3).os), hFk.tape.trans ((unhide HB24).tape.trans (unhide HB3).tape), hFk.output.trans ((unhide HB24).output.trans (unhide HB3).output), by have := hFk.size; have := (unhide HB24).size; have := (unhide HB3).size; omega, fun k hk => (hkp k (by omega)).trans ((unhide HB3).block k hk)⟩
      have hBl := (unhide HBw).moved (w' := wr) (g' := fun k => k < w.heap.size ∧ ¬ F k) (fun k _ h => ⟨h, hbw.block k h.1⟩) hbw.size
      obtain ⟨x, hx⟩ : ∃ x, l[b]? = some x := ⟨_, List.getElem?_eq_getElem hbl⟩
      obtain ⟨Bb, ob, vi, vn, hva, hBN, hBbl, -, d0, d1, d2, hin, hnn⟩ := blk_next hBl hx
      subst hva
      obtain ⟨ia, ic, rfl, -, -, -⟩ := id hin
      obtain ⟨na, nc, rfl, -, -, -⟩ := id hnn
      have ha := (hRo.cells (i := b) (by rw [anw_len, unhide HN]; exact hbl))
      obtain ⟨a1, a1f⟩ := ha
      have hpx := part_at l (rch l) k hkr
      obtain ⟨pi, pn, e0, e1, e2, -, -⟩ := hBo.it k dB hpx
      have ef := hBo.bt.frozen
      have hnA : ∀ j, (⟨w2.heap.size, b, none⟩ : Addr) ≠ ⟨w2.heap.size + 1, j, none⟩ := fun j e => by injection e with e3; omega
      have hxd : x = l.getD ((rch l).getD k 0).toNat dB := by rw [← hz, hb, Int.toNat_natCast, List.getD_eq_getElem?_getD, hx]; rfl
      have hmv : Vc.Mv wr (wr.setCell ⟨w2.heap.size, b, none⟩ (.int .i64 (k : Int))) (fun k => k < w.heap.size ∧ ¬ F k) (fun k => k ≠ w2.heap.size + 1 ∧ ¬ (k = w2.heap.size ∨ k = w.heap.size ∨ k = w.heap.size + 1 ∨ F k)) := fun q _ hq => by
        have h9 : q < w.heap.size := hq.1
        exact ⟨⟨by omega, fun h => by rcases h with h | h | h | h <;> first | omega | exact hq.2 h⟩, heap_setCell_other wr ⟨w2.heap.size, b, none⟩ q _ (by show q ≠ w2.heap.size; omega)⟩
      have hin2 := LL.moved hmv (by simp) (fun _ _ q => q.moved hmv) hin
      have hnn2 := hnn.moved hmv
      have hBo2 := hBo.setA (i := b) (.inl rfl) (by omega) (.int .i64 (k : Int))
      have hset := hBo2.setAll (y := x) hpx hin2 hnn2
      rw [hxd, part_step l (rch l) k hkr, ← hxd] at hset
      have hRo2 := hRo.set (i := b) (by rw [anw_len, unhide HN]; exact hbl) (k : Int)
      have has := anw_succ (rch l) n k
      rw [← hz, hb, Int.toNat_natCast] at has
      rw [← has] at hRo2
      have hRo3 : Ro ((((wr.setCell ⟨w2.heap.size, b, none⟩ (.int .i64 (k : Int))).setCell ⟨w2.heap.size + 1, k * 3, none⟩ (.slice ia x.ins.length ic)).setCell ⟨w2.heap.size + 1, k * 3 + 1, none⟩ (.slice na x.next.length nc)).setCell ⟨w2.heap.size + 1, k * 3 + 2, none⟩ (.int .i64 x.dep)) w2.heap.size (.slice (some ⟨w2.heap.size, 0, none⟩) n n) (anw (rch l) n (k + 1)) := hRo2.keep fun q hq => by
        have h9 : w2.heap.size = q := Option.some.inj hq
        have hne' : q ≠ w2.heap.size + 1 := by omega
        rw [heap_setCell_other _ _ _ _ (by exact hne'), heap_setCell_other _ _ _ _ (by exact hne'), heap_setCell_other _ _ _ _ (by exact hne')]
      have hF3 := (hFk.set1 b (.int .i64 (k : Int))).three (k * 3) (k * 3 + 1) (k * 3 + 2) (.slice ia x.ins.length ic) (.slice na x.next.length nc) (.int .i64 x.dep)
      have hki : (k : Int) < (R : Int) := by omega
      have HSet := hide hset; have HRo3 := hide hRo3; have HF3 := hide hF3; have HLt := hide hlt
      clear hset hRo3 hF3 hRo2 has hBo2 hin2 hnn2 hmv hin hnn hRo hBo hFk hBl hbw hkp hz hb hzr hxd hx hpx hkr hbl hlt hk
      go_upto_region 9 with fail
      have ot : ∀ q o v, q ≠ w2.heap.size → wr.cell? ⟨q, o, none⟩ = some v → (wr.setCell ⟨w2.heap.size, b, none⟩ (.int .i64 (k : Int))).cell? ⟨q, o, none⟩ = some v := fun q o v hq e => by
        rw [World.cell?_setCell_other _ _ _ _ (by intro e2; injection e2 with e3; exact hq e3.symm)]; exact e
      have c3' := ot _ _ _ (by omega) c3
      have d0' := ot _ _ _ (by omega) d0; have d1' := ot _ _ _ (by omega) d1; have d2' := ot _ _ _ (by omega) d2
      have e0' := ot _ _ _ (by omega) e0; have e1' := ot _ _ _ (by omega) e1; have e2' := ot _ _ _ (by omega) e2
      have ef' : ∀ o, (wr.setCell ⟨w2.heap.size, b, none⟩ (.int .i64 (k : Int))).frozen? ⟨w2.heap.size + 1, o, none⟩ = false := fun o => by
        rw [World.frozen?_of_block (w := wr) (heap_setCell_other wr ⟨w2.heap.size, b, none⟩ _ _ (by show w2.heap.size + 1 ≠ w2.heap.size; omega))]; exact ef o
      clear ot c3 d0 d1 d2 e0 e1 e2 ef a1 a1f x1
      generalize wr.setCell ⟨w2.heap.size, b, none⟩ (.int .i64 (k : Int)) = W5 at *
      go_wp2_with fail
      go_roundw
      case rel => exact ⟨k + 1, by have := unhide HLt; omega, by go_num, unhide HRo3, unhide HSet, unhide HF3⟩
      case measure => have := unhide HLt; simp [intOf]; omega
    · obtain rfl : k = R := by omega
      rw [show part l (rch l) k = pick l (rch l) by rw [unhide HR, part_all]] at hBo
      have hkp := unhide HKeep wr hFk
      have hbw : Below w.heap.size w wr := ⟨hFk.os.trans ((unhide HB24).os.trans (unhide HB3).os), hFk.tape.trans ((unhide HB24).tape.trans (unhide HB3).tape), hFk.output.trans ((unhide HB24).output.trans (unhide HB3).output), by have := hFk.size; have := (unhide HB24).size; have := (unhide HB3).size; omega, fun k hk => (hkp k (by omega)).trans ((unhide HB3).block k hk)⟩
      have q0 := (hkp w.heap.size cl).trans (unhide HQ1)
      have q2 := (hkp (w.heap.size + 1) (by have := (Array.getElem?_eq_some_iff.1 (unhide HQ2)).1; omega)).trans (unhide HQ2)
      have hBlt := hBo.lt
      have hBo6 := hBo.setA (i := 3) (.inr (.inl rfl)) (by omega) (.slice (some ⟨w2.heap.size + 1, 0, none⟩) k k)
      have hRo6 : Ro (wr.setCell ⟨w.heap.size, 3, none⟩ (.slice (some ⟨w2.heap.size + 1, 0, none⟩) k k)) w2.heap.size (.slice (some ⟨w2.heap.size, 0, none⟩) n n) (anw (rch l) n k) := hRo.keep fun q hq => by
        have h9 : w2.heap.size = q := Option.some.inj hq
        exact heap_setCell_other wr ⟨w.heap.size, 3, none⟩ q _ (by show q ≠ w.heap.size; omega)
      have hq6 : (wr.setCell ⟨w.heap.size, 3, none⟩ (.slice (some ⟨w2.heap.size + 1, 0, none⟩) k k)).heap[w.heap.size]? = some (.cells (cob pa re rs (.slice (some ⟨w2.heap.size + 1, 0, none⟩) k k)) 25 (0, 0)) := (heap_setCell_same wr w.heap.size 3 _ _ _ q0).trans rfl
      have hq7 : (wr.setCell ⟨w.heap.size, 3, none⟩ (.slice (some ⟨w2.heap.size + 1, 0, none⟩) k k)).heap[w.heap.size + 1]? = some (.cells (cob 0 0 false (.slice none 0 0)) 25 (0, 0)) := (heap_setCell_other wr ⟨w.heap.size, 3, none⟩ _ _ (by show w.heap.size + 1 ≠ w.heap.size; omega)).trans q2
      have hbw6 := hbw.setCell (p := ⟨w.heap.size, 3, none⟩) (Nat.le_refl _) (.slice (some ⟨w2.heap.size + 1, 0, none⟩) k k)
      have hs6 : (wr.setCell ⟨w.heap.size, 3, none⟩ (.slice (some ⟨w2.heap.size + 1, 0, none⟩) k k)).heap.size = wr.heap.size := by simp
      obtain ⟨c0, c1, c2, c3, cf, cl2⟩ := cob_cells q0
      have HBo6 := hide hBo6; have HRo6 := hide hRo6; have HQ6 := hide hq6; have HQ7 := hide hq7; have HBw6 := hide hbw6; have HS6 := hide hs6; have HBlt := hide hBlt
      clear hBo6 hRo6 hq6 hq7 hbw6 hs6 hBlt hBo hRo hFk hkp hbw q0 q2 hlt hk
      go_upto_region 12 with fail
      generalize wr.setCell ⟨w.heap.size, 3, none⟩ (.slice (some ⟨w2.heap.size + 1, 0, none⟩) k k) = W6 at *
      clear c0 c1 c2 c3 cf cl2
      have hpl : (pick l (rch l)).length = k := by rw [unhide HR]; unfold pick; rw [List.length_map]
      have hpm := pick_mem (unhide HC) (unhide H3)
      have hcall := tellNext_any (pick l (rch l)) (by rw [hpl]; have := unhide H2; have := unhide HLn; have := unhide HR; omega) (fun b hb => (unhide HC).nok.nlen b (hpm b hb)) (anw (rch l) n k) (fun b hb z hz => by rw [anw_len, unhide HN]; exact (unhide HC).nok.rng b (hpm b hb) z hz) (w2.heap.size + 1) (w2.heap.size + 1) (fun k => k = w2.heap.size ∨ k = w.heap.size ∨ k = w.heap.size + 1 ∨ F k) k (.slice (some ⟨w2.heap.size, 0, none⟩) n n) W6 (unhide HBo6) ((unhide HRo6).nums2 _ ⟨by have := unhide HS6; have := unhide HBlt; omega, by omega⟩) (by rw [anw_len]; have := unhide HLn; have := unhide HN; omega) (fun q hq => by have := unhide HS6; have := unhide HBlt; rcases hq with h | h | h | h <;> first | omega | (have := unhide HFF q h; omega))
      rw [hpl] at hcall
      have hfin : (pick l (rch l)).map (tellB (anw (rch l) n k)) = trimB l := by unfold trimB; rw [← unhide HN, ← unhide HR]
      rw [hfin] at hcall
      have hpost : ∀ w7, Bo w7 (w2.heap.size + 1) (w2.heap.size + 1) (fun k => k = w2.heap.size ∨ k = w.heap.size ∨ k = w.heap.size + 1 ∨ F k) k (trimB l) → Fo (w2.heap.size + 1) W6 w7 → w7.heap[w.heap.size]? = some (.cells (cob pa re rs (.slice (some ⟨w2.heap.size + 1, 0, none⟩) k k)) 25 (0, 0)) ∧ w7.heap[w.heap.size + 1]? = some (.cells (cob 0 0 false (.slice none 0 0)) 25 (0, 0)) ∧ Below w.heap.size w w7 ∧ Bls ((((w7.setCell ⟨w.heap.size + 1, 0, none⟩ (.int .i64 pa)).setCell ⟨w.heap.size + 1, 1, none⟩ (.int .i64 re)).setCell ⟨w.heap.size + 1, 2, none⟩ (.bool rs)).setCell ⟨w.heap.size + 1, 3, none⟩ (.slice (some ⟨w2.heap.size + 1, 0, none⟩) k k)) (fun q => q < ((((w7.setCell ⟨w.heap.size + 1, 0, none⟩ (.int .i64 pa)).setCell ⟨w.heap.size + 1, 1, none⟩ (.int .i64 re)).setCell ⟨w.heap.size + 1, 2, none⟩ (.bool rs)).setCell ⟨w.heap.size + 1, 3, none⟩ (.slice (some ⟨w2.heap.size + 1, 0, none⟩) k k)).heap.size ∧ ¬ F q) (trimB l) (.slice (some ⟨w2.heap.size + 1, 0, none⟩) k k) := fun w7 h1 h2 => by
        have h6 := unhide HS6
        have h8 := unhide HBlt
        refine ⟨(h2.keep _ (by omega) (by omega)).trans (unhide HQ6), (h2.keep _ (by omega) (by omega)).trans (unhide HQ7), (unhide HBw6).trans (h2.below (by omega) (by omega)), ?_⟩
        have hb := (((h1.setA (a := w.heap.size + 1) (i := 0) (.inr (.inr (.inl rfl))) (by omega) (.int .i64 pa)).setA (a := w.heap.size + 1) (i := 1) (.inr (.inr (.inl rfl))) (by omega) (.int .i64 re)).setA (a := w.heap.size + 1) (i := 2) (.inr (.inr (.inl rfl))) (by omega) (.bool rs)).setA (a := w.heap.size + 1) (i := 3) (.inr (.inr (.inl rfl))) (by omega) (.slice (some ⟨w2.heap.size + 1, 0, none⟩) k k)
        refine hb.blsA ?_ _ (fun q hq h => ⟨hq, fun hf => by rcases h with h | h; (have := unhide HFF q hf; omega); exact h (.inr (.inr (.inr hf)))⟩)
        unfold trimB; rw [List.length_map, hpl]
      have HCall := hide hcall; have HPost := hide hpost
      clear hcall hpost hpl hpm hfin HKeep HHro HHbo
      go_wp2_with (go_at_call 38; refine (unhide HCall).mono ?_; rintro e w7 ⟨rfl, h1, h2⟩; obtain ⟨j1, j2, j3, j4⟩ := unhide HPost w7 h1 h2; obtain ⟨c0, c1, c2, c3, cf, cl3⟩ := cob_cells j1; obtain ⟨y0, y1, y2, y3, yf, yl⟩ := cob_cells j2; have HJ2 := hide j2; have HJ3 := hide j3; have HJ4 := hide j4; clear h1 h2 j1 j2 j3 j4)
      have hr8 := set4c w7 (w.heap.size + 1) _ _ _ _ _ (.int .i64 pa) (.int .i64 re) (.bool rs) (.slice (some ⟨w2.heap.size + 1, 0, none⟩) k k) (unhide HJ2)
      have hb8 := Vc.bel4 (unhide HJ3) (w.heap.size + 1) (Nat.le_succ _) (.int .i64 pa) (.int .i64 re) (.bool rs) (.slice (some ⟨w2.heap.size + 1, 0, none⟩) k k)
      generalize (((w7.setCell ⟨w.heap.size + 1, 0, none⟩ (.int .i64 pa)).setCell ⟨w.heap.size + 1, 1, none⟩ (.int .i64 re)).setCell ⟨w.heap.size + 1, 2, none⟩ (.bool rs)).setCell ⟨w.heap.size + 1, 3, none⟩ (.slice (some ⟨w2.heap.size + 1, 0, none⟩) k k) = W8 at *
      have u0 := cell_of_row W8 (w.heap.size + 1) 0 _ _ _ hr8; have u1 := cell_of_row W8 (w.heap.size + 1) 1 _ _ _ hr8; have u2 := cell_of_row W8 (w.heap.size + 1) 2 _ _ _ hr8; have u3 := cell_of_row W8 (w.heap.size + 1) 3 _ _ _ hr8
      simp only [List.getElem?_toArray, List.getElem?_cons_zero, List.getElem?_cons_succ] at u0 u1 u2 u3
      exact bodyPost_ret (v := .agg #[.int .i64 pa, .int .i64 re, .bool rs, .slice (some ⟨w2.heap.size + 1, 0, none⟩) k k]) (by simp [results, Tryd.results21, go_sem, u0, u1, u2, u3]) rfl ⟨_, rfl, unhide HJ4, hb8⟩
theorem trimmed_any (l : List Bl) (hc : Cok l) (pa re : Int) (rs : Bool) (g : Nat → Prop) (vb : Value) (w : World) (hB : Bls w g l vb) (hg : ∀ k, g k → k < w.heap.size) :
    Calls Tryd.prog 21 #[.agg #[.int .i64 pa, .int .i64 re, .bool rs, vb]] w fun e w' => ∃ v', e = .returned (.agg #[.int .i64 pa, .int .i64 re, .bool rs, v']) ∧ Bls w' (fun k => k < w'.heap.size) (trimB l) v' ∧ Below w.heap.size w w' := by
  refine (trimmed_F l hc pa re rs g (fun _ => False) vb w hB (fun k h => ⟨hg k h, fun h => h⟩) (fun k h => h.elim)).mono ?_
  rintro e w' ⟨v', rfl, h, hb⟩
  exact ⟨v', rfl, h.moved (fun k hk _ => ⟨hk, rfl⟩) (Nat.le_refl _), hb⟩
end Fw
end Go.Proofs.YtpecnljcgiicaaaDoor

/- flow: what is taken by each block. -/
namespace Go.Proofs.YtpecnljcgiicaaaDoor
open Go.RowKit
namespace Fw
set_option linter.unusedVariables false
set_option linter.unusedSimpArgs false
open Vc (NumsL Nums Lies LL Bls BlC InC Bl Co infoN infoBl own_base RowT)

def wy1 (o : List Int) (n : Nat) : List Int := o.set n (o.getD n 0 + 1)
def wys (nx : List (List Nat)) (k : Nat) : List Int := (List.range k).foldl (fun o b => (nx.getD b []).foldl wy1 o) (List.replicate nx.length 0)
theorem wys_succ (nx : List (List Nat)) (k : Nat) : wys nx (k + 1) = (nx.getD k []).foldl wy1 (wys nx k) := by unfold wys; rw [List.range_succ, List.foldl_append]; rfl
structure WyI (n c : Nat) (o : List Int) : Prop where
  len : o.length = n
  row : ∀ i, i < n → 0 ≤ o.getD i 0 ∧ o.getD i 0 ≤ (c : Int)
theorem WyI.step {n c : Nat} {o : List Int} (h : WyI n c o) {x : Nat} (hx : x < n) : WyI n (c + 1) (wy1 o x) := by
  refine ⟨by simp [wy1, h.len], fun i hi => ?_⟩
  unfold wy1
  rw [getD_set _ _ _ _ (by rw [h.len]; exact hx)]
  have h1 := h.row x hx
  have h2 := h.row i hi
  split <;> omega
theorem WyI.steps {n : Nat} : ∀ (r : List Nat) {c : Nat} {o : List Int} (h : WyI n c o) (hx : ∀ x ∈ r, x < n), WyI n (c + r.length) (r.foldl wy1 o) := by
  intro r
  induction r with
  | nil => intro c o h _; exact h
  | cons x r ih =>
    intro c o h hx
    have := ih (h.step (hx x (List.mem_cons_self ..))) fun y hy => hx y (List.mem_cons_of_mem _ hy)
    simpa [Nat.add_assoc, Nat.add_comm 1] using this
theorem WyI.mono {n c d : Nat} {o : List Int} (h : WyI n c o) (hc : c ≤ d) : WyI n d o := ⟨h.len, fun i hi => by have := h.row i hi; omega⟩
theorem wys_inv {nx : List (List Nat)} (hn : In nx) (hl : ∀ b, (nx.getD b []).length ≤ 1048576) : ∀ k, WyI nx.length (k * 1048576) (wys nx k) := by
  intro k
  induction k with
  | zero => exact ⟨by simp [wys], fun i hi => by rw [show wys nx 0 = List.replicate nx.length 0 from rfl, getD_get _ _ _ (by simpa using hi)]; simp⟩
  | succ k ih => rw [wys_succ]; exact (WyI.steps _ ih (hn k)).mono (by have := hl k; omega)
def wyj (l : List Int) (o : List Int) (j : Nat) : List Int := ((l.map Int.toNat).take j).foldl wy1 o
theorem wyj_succ (l : List Int) (o : List Int) {j x : Nat} (h : (l.map Int.toNat)[j]? = some x) : wyj l o (j + 1) = wy1 (wyj l o j) x := by unfold wyj; rw [fold_take _ _ _ _ h]
theorem wyj_all (l : List Int) (o : List Int) : wyj l o l.length = (l.map Int.toNat).foldl wy1 o := by unfold wyj; rw [List.take_of_length_le (by simp)]
def takes1 (x : Bl) (ways : List Int) : Bool := decide ((endI x).op = 193) && (decide (x.next.getD 0 0 ≠ 0) && decide (ways.getD (x.next.getD 0 0).toNat 0 = 1))
def tks (l : List Bl) (ways : List Int) (k : Nat) : List Int := (List.range k).foldl (fun o i => if takes1 (l.getD i dB) ways = true then o.set i ((l.getD i dB).next.getD 0 0) else o) (List.replicate l.length (-1))
def takes (l : List Bl) : List Int := tks l (wys (nxs l) l.length) l.length
theorem tks_succ (l : List Bl) (ways : List Int) (k : Nat) : tks l ways (k + 1) = if takes1 (l.getD k dB) ways = true then (tks l ways k).set k ((l.getD k dB).next.getD 0 0) else tks l ways k := by unfold tks; rw [List.range_succ, List.foldl_append]; rfl
theorem tks_len (l : List Bl) (ways : List Int) (k : Nat) : (tks l ways k).length = l.length := by
  induction k with
  | zero => simp [tks]
  | succ k ih => rw [tks_succ]; split <;> simp [ih]

set_option maxRecDepth 100000 in
set_option maxHeartbeats 6400000 in
theorem takesOf_any (l : List Bl) (hc : Cok l) (N : Nat) (vb : Value) (w : World) (hB : Bls w (fun k => k < N) l vb) (hN : N ≤ w.heap.size) :
    Calls Tryd.prog 42 #[vb] w fun e w' => ∃ v, e = .returned v ∧ Ro w' w.heap.size v (takes l) ∧ Below w.heap.size w w' := by
  obtain ⟨va, vc, rfl, -, -, -⟩ := id hB
  obtain ⟨i0, hi, hz0, hz1, hz2⟩ := info_parts infoN
  have hlen := hc.nok.len
  obtain ⟨n, hn⟩ : ∃ n, n = l.length := ⟨_, rfl⟩
  have hmk := fun wx => run_make (P := Tryd.prog) wx 26 3 i0 (.int .i64 0) Tryd.underlying26 hi hz0 .i64 .i64 (n : Int) (n : Int) (by omega) (by omega) (by rw [hz2]; omega) (by omega)
  rw [hz1] at hmk
  simp only [Int.toNat_natCast, Nat.mul_one] at hmk
  rw [show (Value.int IntKind.i64 0).cells = #[Value.int IntKind.i64 0] from rfl] at hmk
  have hro := Ro.made w n (by omega)
  have hb1 := Vc.one_alloc w (.cells (madeCells (Value.int .i64 0).cells n) 3)
  rw [show (Value.int IntKind.i64 0).cells = #[Value.int IntKind.i64 0] from rfl] at hro hb1
  rw [← hn] at hlen ⊢
  have hn1 : 1 ≤ n := by rw [hn]; exact hc.one
  have HB := hide hB; have HC := hide hc; have HN := hide hn; have HNw := hide hN; have HRo := hide hro; have HB1 := hide hb1; have HLn := hide hlen; have HN1 := hide hn1
  have hni : (n : Int) ≤ 1048576 := by omega
  clear hB hc hn hN hro hb1 hlen hn1
  go_enter Tryd.func42, Tryd.ntmps42
  go_wp2_with fail
  generalize w.alloc (.cells (madeCells #[.int .i64 0] n) 3) = W1 at *
  go_loopw [17] (fun c wr => ∃ k : Nat, k ≤ n ∧ c = .int .i64 (k : Int) ∧ Ro wr w.heap.size (.slice (some ⟨w.heap.size, 0, none⟩) n n) (wys (nxs l) k) ∧ Below w.heap.size w wr) (fun c _ => n - (intOf c).toNat)
  case atStart => exact ⟨0, Nat.zero_le _, rfl, by rw [show wys (nxs l) 0 = List.replicate n 0 by rw [unhide HN]; simp [wys, nxs_len]]; exact unhide HRo, unhide HB1⟩
  case round =>
    obtain ⟨k, hk, rfl, hR, hb⟩ := hrel
    by_cases hlt : k < n
    · obtain ⟨x, hx⟩ : ∃ x, l[k]? = some x := ⟨_, List.getElem?_eq_getElem (by rw [← unhide HN]; exact hlt)⟩
      have hBw := bls_on (unhide HB) (hb.mono (unhide HNw))
      obtain ⟨Bb, ob, vi, vn, hva, hBN, hBl, -, d0, d1, d2, hin, hnn⟩ := blk_next hBw hx
      subst hva
      obtain ⟨ia, ic, rfl, -, -, -⟩ := id hin
      obtain ⟨na, nc, rfl, -, -, -⟩ := id hnn
      have hxl : x.next.length ≤ 1048576 := (unhide HC).nok.nlen x (List.mem_of_getElem? hx)
      have hwi := wys_inv (nx := nxs l) (unhide HC).nok.inn (nxs_rows (unhide HC).nok) k
      rw [nxs_len] at hwi
      obtain ⟨m, hm⟩ : ∃ m, m = x.next.length := ⟨_, rfl⟩
      rw [← hm] at d1 hxl
      have hmi : (m : Int) ≤ 1048576 := by omega
      have hbx := Vc.one_alloc wr (.cells #[.slice ia x.ins.length ic, .slice na m nc, .int .i64 x.dep] 32)
      have hR1 := hR.below hbx
      have hkn : (k : Int) < (n : Int) := by omega
      have HX := hide hx; have HNn := hide hnn; have HM := hide hm; have HWi := hide hwi; have HR1 := hide hR1; have HB := hide hb; have HBx := hide (hb.trans (hbx.mono hb.size)); have HLt := hide hlt
      clear hx hnn hin hm hwi hbx hR1 hR hb hBw hlt hk hxl HRo HB1
      go_wp2_with fail
      generalize wr.alloc (.cells #[.slice ia x.ins.length ic, .slice na m nc, .int .i64 x.dep] 32) = WX at *
      clear d0 d1 d2
      go_loopw [24] (fun c wq => ∃ j : Nat, j ≤ m ∧ c = .int .i64 (j : Int) ∧ Ro wq w.heap.size (.slice (some ⟨w.heap.size, 0, none⟩) n n) (wyj x.next (wys (nxs l) k) j) ∧ Below w.heap.size w wq) (fun c _ => m - (intOf c).toNat)
      case atStart => exact ⟨0, Nat.zero_le _, rfl, unhide HR1, unhide HBx⟩
      case round =>
        generalize wr = wq at *
        obtain ⟨j, hj, rfl, hRj, hbj⟩ := hrel
        by_cases hjm : j < m
        · obtain ⟨t, hz, htl, hgt⟩ := (unhide HC).nok.at_ (unhide HX) (k := j) (by rw [← unhide HM]; exact hjm)
          obtain ⟨Bn, on, hna, -, hnc⟩ := nums_at (nums_via (unhide HNn) ((unhide HB).mono (unhide HNw)) (hbj.mono (unhide HNw))) (k := j) (by rw [← unhide HM]; exact hjm)
          subst hna
          have x1 := hnc j (by rw [← unhide HM]; exact hjm)
          rw [hz] at x1
          have hwj : WyI l.length (k * 1048576 + j) (wyj x.next (wys (nxs l) k) j) := by
            have h5 := WyI.steps ((x.next.map Int.toNat).take j) (unhide HWi) (fun y hy => by have h6 := List.mem_of_mem_take hy; rw [← nxs_at (unhide HX)] at h6; have := (unhide HC).nok.inn k y h6; rw [nxs_len] at this; exact this)
            exact h5.mono (by rw [List.length_take]; omega)
          have hst := wyj_succ x.next (wys (nxs l) k) hgt
          obtain ⟨x2, x2f⟩ := hRj.cells (i := t) (by rw [hwj.len]; exact htl)
          have hyr := hwj.row t htl
          have hR9 := hRj.set (i := t) (by rw [hwj.len]; exact htl) ((wyj x.next (wys (nxs l) k) j).getD t 0 + 1)
          rw [show (wyj x.next (wys (nxs l) k) j).set t ((wyj x.next (wys (nxs l) k) j).getD t 0 + 1) = wyj x.next (wys (nxs l) k) (j + 1) by rw [hst]; rfl] at hR9
          obtain ⟨y, hy⟩ : ∃ y, y = (wyj x.next (wys (nxs l) k) j).getD t 0 := ⟨_, rfl⟩
          rw [← hy] at x2 hyr hR9
          have hB9 := hbj.setCell (p := ⟨w.heap.size, t, none⟩) (Nat.le_refl _) (.int .i64 (y + 1))
          have hy1 : y ≤ 2199023255552 := by have := unhide HLt; have := unhide HLn; omega
          have hy0 := hyr.1
          have htn : (t : Int) < (n : Int) := by rw [unhide HN]; omega
          have hji : (j : Int) < (m : Int) := by omega
          have HR9 := hide hR9; have HB9 := hide hB9
          clear hR9 hB9 hst hy hRj hbj hnc hwj hgt hz htl hyr
          go_wp2_with fail
          go_roundw
          case rel => exact ⟨j + 1, by omega, by go_num, unhide HR9, unhide HB9⟩
          case measure => simp [intOf]; omega
        · obtain rfl : j = m := by omega
          have hfin : wyj x.next (wys (nxs l) k) j = wys (nxs l) (k + 1) := by rw [unhide HM, wyj_all, wys_succ, nxs_at (unhide HX)]
          rw [hfin] at hRj
          have HRj := hide hRj; have HBj := hide hbj
          clear hRj hbj hfin hjm hj
          go_wp2_with fail
          go_roundw
          case rel => exact ⟨k + 1, unhide HLt, by go_num, unhide HRj, unhide HBj⟩
          case measure => have := unhide HLt; simp [intOf]; omega
    · obtain rfl : k = n := by omega
      obtain ⟨ways, hways⟩ : ∃ ways, ways = wys (nxs l) k := ⟨_, rfl⟩
      have hwi := wys_inv (nx := nxs l) (unhide HC).nok.inn (nxs_rows (unhide HC).nok) k
      rw [nxs_len, ← hways] at hwi
      rw [← hways] at hR
      have hrep := fun W h => repeat_any k (unhide HN1) (unhide HLn) wr.heap.size 0 W h
      have HR := hide hR; have HBq := hide hb; have HWi := hide hwi; have HWays := hide hways; have HRep := hide hrep
      have hal := Vc.one_alloc wr (.cells #[.int .i64 (-1)] 3)
      have HAl := hide hal
      have hx0 : (wr.alloc (.cells #[.int .i64 (-1)] 3)).cell? ⟨wr.heap.size, 0, none⟩ = some (.int .i64 (-1)) := by
        have := heap_alloc_new wr (.cells #[.int .i64 (-1)] 3)
        rw [cell_of_row _ _ _ _ _ _ this]; rfl
      have HX0 := hide hx0
      clear hR hb hwi hways hrep hal hx0 hlt hk HRo HB1
      go_wp2_with (go_at_call 30; refine (unhide HRep _ (unhide HX0)).mono ?_; rintro e w3 ⟨v3, rfl, ho3, hb3⟩; obtain ⟨go, co, rfl, hgo, -, -, -, -⟩ := ho3.at_ (by rw [List.length_replicate]; exact unhide HN1))
      rw [List.length_replicate] at ho3
      have hs3 : wr.heap.size < w3.heap.size := by have := hb3.size; simp at this; omega
      have hbe : Below w.heap.size w w3 := (unhide HBq).trans (((unhide HAl).trans (hb3.mono (unhide HAl).size)).mono (unhide HBq).size)
      have hR3 := ((unhide HR).below (unhide HAl)).below hb3
      have h9 : (wr.alloc (.cells #[.int .i64 (-1)] 3)).heap.size = wr.heap.size + 1 := by simp
      have hgo2 : w.heap.size < go := by have := (unhide HBq).size; omega
      have hro3 := ho3.base (M := w.heap.size) (by have := (unhide HBq).size; omega)
      have HO := hide hro3; have HBe := hide hbe; have HR3 := hide hR3; have HGo := hide hgo2
      clear ho3 hb3 hs3 hbe hR3 hgo2 h9 hro3 hgo
      go_loopw [42] (fun c wq => ∃ i : Nat, i ≤ k ∧ c = .int .i64 (i : Int) ∧ Ro wq w.heap.size (.slice (some ⟨go, 0, none⟩) k co) (tks l ways i) ∧ Ro wq w.heap.size (.slice (some ⟨w.heap.size, 0, none⟩) k k) ways ∧ Below w.heap.size w wq) (fun c _ => k - (intOf c).toNat)
      case atStart => exact ⟨0, Nat.zero_le _, rfl, by rw [show tks l ways 0 = List.replicate k (-1) by rw [unhide HN]; rfl]; exact unhide HO, unhide HR3, unhide HBe⟩
      case round =>
        generalize wr = wq at *
        obtain ⟨i, hi9, rfl, hO, hW, hb⟩ := hrel
        by_cases hlt : i < k
        · have hil : i < l.length := by rw [← unhide HN]; exact hlt
          obtain ⟨x, hx⟩ : ∃ x, x = l.getD i dB := ⟨_, rfl⟩
          have hxl : l[i]? = some x := by rw [hx]; exact get?_getD _ _ _ hil
          have hm := List.mem_of_getElem? hxl
          obtain ⟨hi0, hi1⟩ := (unhide HC).ins x hm
          have hBw := bls_on (unhide HB) (hb.mono (unhide HNw))
          obtain ⟨Bb, ob, vi, vn, hva, hBN, hBl, -, d0, d1, d2, hin, hnn⟩ := blk_next hBw hxl
          subst hva
          obtain ⟨ia, ic, rfl, -, -, -⟩ := id hin
          obtain ⟨na, nc, rfl, -, -, -⟩ := id hnn
          have hb1 := Vc.one_alloc wq (.cells #[.slice ia x.ins.length ic, .slice na x.next.length nc, .int .i64 x.dep] 32)
          have hst := tks_succ l ways i
          rw [← hx] at hst
          have hcall := end_any x hi0 hi1 _ (.slice ia x.ins.length ic) (.slice na x.next.length nc) (wq.alloc (.cells #[.slice ia x.ins.length ic, .slice na x.next.length nc, .int .i64 x.dep] 32)) (Vc.Inss.below hb1 hin) ⟨_, _, _, rfl⟩
          have hpost : ∀ w6, Below (wq.alloc (.cells #[.slice ia x.ins.length ic, .slice na x.next.length nc, .int .i64 x.dep] 32)).heap.size (wq.alloc (.cells #[.slice ia x.ins.length ic, .slice na x.next.length nc, .int .i64 x.dep] 32)) w6 → Ro w6 w.heap.size (.slice (some ⟨go, 0, none⟩) k co) (tks l ways i) ∧ Ro w6 w.heap.size (.slice (some ⟨w.heap.size, 0, none⟩) k k) ways ∧ Below w.heap.size w w6 ∧ w6.cell? ⟨wq.heap.size, 1, none⟩ = some (.slice na x.next.length nc) ∧ NumsL w6 (fun k => k < N) x.next (.slice na x.next.length nc) := fun w6 h6 => by
            have h7 := hb1.trans (h6.mono hb1.size)
            refine ⟨(hO.below hb1).below h6, (hW.below hb1).below h6, hb.trans (h7.mono hb.size), ?_, Vc.NumsL.below h7 hnn⟩
            rw [h6.cell (p := ⟨wq.heap.size, 1, none⟩) (by simp)]
            have := heap_alloc_new wq (.cells #[.slice ia x.ins.length ic, .slice na x.next.length nc, .int .i64 x.dep] 32)
            rw [cell_of_row _ _ _ _ _ _ this]; rfl
          obtain ⟨op, hop⟩ : ∃ op, op = (endI x).op := ⟨_, rfl⟩
          rw [← hop] at hcall
          have hiki : (i : Int) < (k : Int) := by omega
          have HCall := hide hcall; have HPost := hide hpost; have HSt := hide hst; have HOp := hide hop; have HLt := hide hlt; have HXl := hide hxl
          clear hcall hpost hst hop hlt hxl hx hm hi0 hi1 hBw hin hnn hb1 hO hW hb hil hi9
          by_cases ho : op = 193
          · subst ho
            have hM1 : x.next.length = 1 := (unhide HC).jmp x (List.mem_of_getElem? (unhide HXl)) (unhide HOp).symm
            obtain ⟨t, hz, htl, -⟩ := (unhide HC).nok.at_ (unhide HXl) (k := 0) (by omega)
            obtain ⟨y, hy⟩ : ∃ y, y = ways.getD t 0 := ⟨_, rfl⟩
            have hst := unhide HSt
            have htk : takes1 x ways = (decide ((t : Int) ≠ 0) && decide (y = 1)) := by unfold takes1; rw [← unhide HOp, hz, Int.toNat_natCast, ← hy]; simp
            rw [htk, hz] at hst
            have hpost2 : ∀ w6, Below (wq.alloc (.cells #[.slice ia x.ins.length ic, .slice na x.next.length nc, .int .i64 x.dep] 32)).heap.size (wq.alloc (.cells #[.slice ia x.ins.length ic, .slice na x.next.length nc, .int .i64 x.dep] 32)) w6 → w6.cell? ⟨wq.heap.size, 1, none⟩ = some (.slice na 1 nc) ∧ (∃ Bn on, na = some ⟨Bn, on, none⟩ ∧ w6.cell? ⟨Bn, on, none⟩ = some (.int .i64 (t : Int))) ∧ w6.cell? ⟨w.heap.size, t, none⟩ = some (.int .i64 y) ∧ (w6.cell? ⟨go, i, none⟩ = some (.int .i64 ((tks l ways i).getD i 0)) ∧ w6.frozen? ⟨go, i, none⟩ = false) := fun w6 h6 => by
              obtain ⟨j1, j2, j3, j4, j5⟩ := unhide HPost w6 h6
              rw [hM1] at j4
              refine ⟨j4, ?_, ?_, j1.cells (by rw [tks_len, ← unhide HN]; exact unhide HLt)⟩
              · obtain ⟨Bn, on, e1, -, e3⟩ := nums_at j5 (k := 0) (by omega)
                have e4 := e3 0 (by omega)
                rw [hz, Nat.add_zero] at e4
                exact ⟨Bn, on, e1, e4⟩
              · rw [hy]; exact (j2.cells (by rw [(unhide HWi).len]; exact htl)).1
            obtain ⟨-, ⟨Bn, on, hna, -⟩, -⟩ := hpost2 _ (Below.refl _ _)
            subst hna
            have hpost3 : ∀ w6, Below (wq.alloc (.cells #[.slice ia x.ins.length ic, .slice (some ⟨Bn, on, none⟩) x.next.length nc, .int .i64 x.dep] 32)).heap.size (wq.alloc (.cells #[.slice ia x.ins.length ic, .slice (some ⟨Bn, on, none⟩) x.next.length nc, .int .i64 x.dep] 32)) w6 → w6.cell? ⟨wq.heap.size, 1, none⟩ = some (.slice (some ⟨Bn, on, none⟩) 1 nc) ∧ w6.cell? ⟨Bn, on, none⟩ = some (.int .i64 (t : Int)) ∧ w6.cell? ⟨w.heap.size, t, none⟩ = some (.int .i64 y) ∧ (w6.cell? ⟨go, i, none⟩ = some (.int .i64 ((tks l ways i).getD i 0)) ∧ w6.frozen? ⟨go, i, none⟩ = false) := fun w6 h6 => by
              obtain ⟨j4, ⟨B9, o9, k2, k3⟩, j6, j7⟩ := hpost2 w6 h6
              cases k2
              exact ⟨j4, k3, j6, j7⟩
            obtain ⟨u, hu⟩ : ∃ u, u = (tks l ways i).getD i 0 := ⟨_, rfl⟩
            rw [← hu] at hpost3
            have htk2 : (t : Int) < (k : Int) := by rw [unhide HN]; omega
            have HPost3 := hide hpost3
            clear hpost2 hpost3 htk hy hM1 hu htl hz
            have hgoset : ∀ w6, Below (wq.alloc (.cells #[.slice ia x.ins.length ic, .slice (some ⟨Bn, on, none⟩) x.next.length nc, .int .i64 x.dep] 32)).heap.size (wq.alloc (.cells #[.slice ia x.ins.length ic, .slice (some ⟨Bn, on, none⟩) x.next.length nc, .int .i64 x.dep] 32)) w6 → Ro (w6.setCell ⟨go, i, none⟩ (.int .i64 (t : Int))) w.heap.size (.slice (some ⟨go, 0, none⟩) k co) ((tks l ways i).set i (t : Int)) ∧ Ro (w6.setCell ⟨go, i, none⟩ (.int .i64 (t : Int))) w.heap.size (.slice (some ⟨w.heap.size, 0, none⟩) k k) ways ∧ Below w.heap.size w (w6.setCell ⟨go, i, none⟩ (.int .i64 (t : Int))) := fun w6 h6 => by
              obtain ⟨j1, j2, j3, -, -⟩ := unhide HPost w6 h6
              refine ⟨j1.set (by rw [tks_len, ← unhide HN]; exact unhide HLt) _, j2.keep fun q hq => ?_, j3.setCell (p := ⟨go, i, none⟩) (Nat.le_of_lt (unhide HGo)) _⟩
              have h9 : w.heap.size = q := Option.some.inj hq
              exact heap_setCell_other w6 ⟨go, i, none⟩ q _ (by show q ≠ go; have := unhide HGo; omega)
            have HGs := hide hgoset
            clear hgoset
            by_cases ht0 : t = 0
            · subst ht0
              have hst' : tks l ways (i + 1) = tks l ways i := by rw [hst]; simp
              have HSt2 := hide hst'
              clear hst hst'
              go_wp2_with (go_at_call 39; refine (unhide HCall).mono ?_; rintro e w6 ⟨vs, rfl, -, hb6⟩; obtain ⟨j1, j2, j3, -, -⟩ := unhide HPost w6 hb6; obtain ⟨p1, p2, p3, p4, p5⟩ := unhide HPost3 w6 hb6; have J1 := hide j1; have J2 := hide j2; have J3 := hide j3; clear hb6 j1 j2 j3)
              rename_i hK
              refine hK _ _ ?_
              go_simp
              go_wp2_with fail
              go_roundw
              case rel => exact ⟨i + 1, unhide HLt, by go_num, by rw [unhide HSt2]; exact unhide J1, unhide J2, unhide J3⟩
              case measure => have := unhide HLt; simp [intOf]; omega
            · have ht1 : ((t : Int) != 0) = true := by simp; omega
              by_cases hy1 : y = 1
              · subst hy1
                have hst' : tks l ways (i + 1) = (tks l ways i).set i (t : Int) := by rw [hst]; simp; omega
                have HSt2 := hide hst'
                clear hst hst' ht0
                go_wp2_with (go_at_call 39; refine (unhide HCall).mono ?_; rintro e w6 ⟨vs, rfl, -, hb6⟩; obtain ⟨j1, j2, j3⟩ := unhide HGs w6 hb6; obtain ⟨p1, p2, p3, p4, p5⟩ := unhide HPost3 w6 hb6; have J1 := hide j1; have J2 := hide j2; have J3 := hide j3; clear hb6 j1 j2 j3)
                rename_i hK
                refine hK _ _ ?_
                go_simp
                go_wp2_with fail
                go_roundw
                case rel => exact ⟨i + 1, unhide HLt, by go_num, by rw [unhide HSt2]; exact unhide J1, unhide J2, unhide J3⟩
                case measure => have := unhide HLt; simp [intOf]; omega
              · have hst' : tks l ways (i + 1) = tks l ways i := by rw [hst]; simp [hy1]
                have hyb : (y == 1) = false := by simpa using hy1
                have HSt2 := hide hst'
                clear hst hst' ht0 hy1
                go_wp2_with (go_at_call 39; refine (unhide HCall).mono ?_; rintro e w6 ⟨vs, rfl, -, hb6⟩; obtain ⟨j1, j2, j3, -, -⟩ := unhide HPost w6 hb6; obtain ⟨p1, p2, p3, p4, p5⟩ := unhide HPost3 w6 hb6; have J1 := hide j1; have J2 := hide j2; have J3 := hide j3; clear hb6 j1 j2 j3)
                rename_i hK
                refine hK _ _ ?_
                go_simp
                go_wp2_with fail
                go_roundw
                case rel => exact ⟨i + 1, unhide HLt, by go_num, by rw [unhide HSt2]; exact unhide J1, unhide J2, unhide J3⟩
                case measure => have := unhide HLt; simp [intOf]; omega
          · have hno : takes1 x ways = false := by unfold takes1; rw [← unhide HOp]; simp [ho]
            have hst := unhide HSt
            rw [hno] at hst
            have hst' : tks l ways (i + 1) = tks l ways i := hst
            have hob : ((op : Int) != 193) = true := by simp; omega
            have HSt := hide hst'
            clear hst hst' hno ho
            go_wp2_with (go_at_call 39; refine (unhide HCall).mono ?_; rintro e w6 ⟨vs, rfl, -, hb6⟩; obtain ⟨j1, j2, j3, -, -⟩ := unhide HPost w6 hb6; have J1 := hide j1; have J2 := hide j2; have J3 := hide j3; clear hb6 j1 j2 j3)
            rename_i hK
            refine hK _ _ ?_
            go_simp
            go_wp2_with fail
            go_roundw
            case rel => exact ⟨i + 1, unhide HLt, by go_num, by rw [unhide HSt]; exact unhide J1, unhide J2, unhide J3⟩
            case measure => have := unhide HLt; simp [intOf]; omega
        · obtain rfl : i = k := by omega
          have hfin : tks l ways i = takes l := by unfold takes; rw [unhide HWays, unhide HN]
          rw [hfin] at hO
          have HO9 := hide hO; have HB9 := hide hb
          clear hO hb hW hfin hlt hi9
          go_wp2_with fail
          go_ret
          exact ⟨_, rfl, unhide HO9, unhide HB9⟩
end Fw
end Go.Proofs.YtpecnljcgiicaaaDoor
