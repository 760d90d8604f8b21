/- The document's list and Decode. -/
import Derived.Test.YtjhmglefejclpaaDoorE5
import Derived.Test.YtjhmglefejclpaaDoorE6
import Derived.Test.YtjhmglefejclpaaDoorE4
import Derived.Deep.LoopGhost
import Derived.Deep.RegionHeld3
import Derived.Deep.AppendLies
import Derived.Deep.Cut

/- The document's list and Decode. -/
namespace Go.Proofs.YtjhmglefejclpaaDoor
open Go.RowKit
namespace Ex
set_option linter.unusedVariables false
set_option linter.unusedSimpArgs false

theorem rest_any {m : Nat} (ih : ListR m) (a : Option Addr) (len cap p k nest : Nat) (op f : Int) (zs : List Int) (w : World) (hrow : Row w a len zs) (hl : len ≤ 3000) (hp : p ≤ len) (hc : len ≤ cap) (hf : fr op = f)
    (ho : f = 0 ∨ f = 1 ∨ f = 2 ∨ f = 3 ∨ f = 4 ∨ f = 5 ∨ f = 6 ∨ f = 7 ∨ f = 8 ∨ f = 9) (hn : blk f = true → nest < 64) (hk : k ≤ 16384) (hm : len - p < m) :
    Calls Tryd.prog 51 #[RV a len cap p k 0, .agg #[.int .u8 op, .int .i64 0, .int .u32 0, .int .u32 0, .int .u8 0, .slice none 0 0, .slice none 0 0, .slice none 0 0], .int .i64 f, .int .i64 nest] w (RestPost w a len cap (pI (D zs) zs p k nest op)) := by
  rcases ho with rfl | rfl | rfl | rfl | rfl | rfl | rfl | rfl | rfl | rfl
  · exact rest_0 a len cap p k nest op zs w hrow hl hp hc hf
  · exact rest_1 a len cap p k nest op zs w hrow hl hp hc hf
  · exact rest_2 a len cap p k nest op zs w hrow hl hp hc hf
  · exact rest_3 a len cap p k nest op zs w hrow hl hp hc hf
  · by_cases hP : (pU zs p 4294967295).e = 0
    · exact rest_4_ok a len cap p k nest op zs w hrow hl hp hc hf hP
    · exact rest_4_no a len cap p k nest op zs w hrow hl hp hc hf hP
  · exact rest_5 a len cap p k nest op zs w hrow hl hp hc hf
  · have hn2 := hn rfl
    by_cases hK : (pB zs p jK).e = 0
    · by_cases hA : (D zs (pB zs p jK).at_ k (nest + 1) false).e = 0
      · by_cases h5 : (D zs (pB zs p jK).at_ k (nest + 1) false).v.2 = 5
        · exact rest_6_two a len cap p k nest op zs w hrow hl hp hc hf ih hn2 hk hm hK hA h5
        · exact rest_6_one a len cap p k nest op zs w hrow hl hp hc hf ih hn2 hk hm hK hA h5
      · exact rest_6_lno a len cap p k nest op zs w hrow hl hp hc hf ih hn2 hk hm hK hA
    · exact rest_6_kno a len cap p k nest op zs w hrow hl hp hc hf ih hn2 hk hm hK
  · have hn2 := hn rfl
    by_cases hK : (pB zs p jK).e = 0
    · by_cases hA : (D zs (pB zs p jK).at_ k (nest + 1) true).e = 0
      · by_cases h5 : (D zs (pB zs p jK).at_ k (nest + 1) true).v.2 = 5
        · exact rest_7_two a len cap p k nest op zs w hrow hl hp hc hf ih hn2 hk hm hK hA h5
        · exact rest_7_one a len cap p k nest op zs w hrow hl hp hc hf ih hn2 hk hm hK hA h5
      · exact rest_7_lno a len cap p k nest op zs w hrow hl hp hc hf ih hn2 hk hm hK hA
    · exact rest_7_kno a len cap p k nest op zs w hrow hl hp hc hf ih hn2 hk hm hK
  · exact rest_8 a len cap p k nest op zs w hrow hl hp hc hf
  · by_cases hP : (pU zs p 4294967295).e = 0
    · exact rest_9_ok a len cap p k nest op zs w hrow hl hp hc hf hP
    · exact rest_9_no a len cap p k nest op zs w hrow hl hp hc hf hP

/-- where list's loop stands -/
structure LR (w : World) (N : Nat) (a : Option Addr) (len cap p k : Nat) (s : Value) (acc : List Ins) (wr : World) : Prop where
  b0 : wr.heap[N]? = some (.cells #[.slice a len cap, .int .i64 p, .int .i64 k, .int .i64 0] 80 (0, 0))
  b1 : wr.heap[N + 1]? = some (.cells #[.slice none 0 0, .int .i64 0, .int .i64 0, .int .i64 0] 80 (0, 0))
  bel : Below N w wr
  own : OwnR wr (N + 2) (N + 2 ≤ ·) s acc
namespace LR
variable {w wr : World} {N : Nat} {a : Option Addr} {len cap p k : Nat} {s : Value} {acc : List Ins}
theorem cs (h : LR w N a len cap p k s acc wr) : wr.cell? ⟨N, 0, none⟩ = some (.slice a len cap) ∧ wr.cell? ⟨N, 1, none⟩ = some (.int .i64 p) ∧ wr.cell? ⟨N, 2, none⟩ = some (.int .i64 k) ∧ wr.cell? ⟨N, 3, none⟩ = some (.int .i64 0) := by
  have hc := fun j => cell_of_row wr N j _ _ _ h.b0
  exact ⟨hc 0, hc 1, hc 2, hc 3⟩
theorem ds (h : LR w N a len cap p k s acc wr) : wr.cell? ⟨N + 1, 0, none⟩ = some (.slice none 0 0) ∧ wr.cell? ⟨N + 1, 1, none⟩ = some (.int .i64 0) ∧ wr.cell? ⟨N + 1, 2, none⟩ = some (.int .i64 0) ∧ wr.cell? ⟨N + 1, 3, none⟩ = some (.int .i64 0) := by
  have hc := fun j => cell_of_row wr (N + 1) j _ _ _ h.b1
  exact ⟨hc 0, hc 1, hc 2, hc 3⟩
theorem f0 (h : LR w N a len cap p k s acc wr) (i : Nat) : wr.frozen? ⟨N, i, none⟩ = false := by simp [World.frozen?, h.b0]
theorem f1 (h : LR w N a len cap p k s acc wr) (i : Nat) : wr.frozen? ⟨N + 1, i, none⟩ = false := by simp [World.frozen?, h.b1]
theorem lt (h : LR w N a len cap p k s acc wr) : N + 1 < wr.heap.size := (Array.getElem?_eq_some_iff.1 h.b1).1
theorem below (h : LR w N a len cap p k s acc wr) {w' : World} (hb : Below wr.heap.size wr w') : LR w N a len cap p k s acc w' :=
  have l := h.lt
  ⟨(hb.block N (by omega)).trans h.b0, (hb.block (N + 1) (by omega)).trans h.b1, h.bel.trans (hb.mono (by omega)), h.own.below hb⟩
/-- the reader's box is written -/
theorem turn (h : LR w N a len cap p k s acc wr) {w' : World} {p' k' : Nat} (h0 : w'.heap[N]? = some (.cells #[.slice a len cap, .int .i64 p', .int .i64 k', .int .i64 0] 80 (0, 0))) (hk : ∀ q, q ≠ N → w'.heap[q]? = wr.heap[q]?) (hb : Below N w w') : LR w N a len cap p' k' s acc w' :=
  ⟨h0, (hk (N + 1) (by omega)).trans h.b1, hb, h.own.move (fun q hq => hk q (by have := (h.own.lt q hq).1; omega)) (fun q hq _ hg => ⟨hg, hk q (by have : N + 2 ≤ q := hg.2; omega)⟩)⟩
end LR
theorem lr_new (w : World) (a : Option Addr) (len cap p k : Nat) : LR w w.heap.size a len cap p k (.slice none 0 0) [] ((w.alloc (.cells #[.slice a len cap, .int .i64 p, .int .i64 k, .int .i64 0] 80)).alloc (.cells #[.slice none 0 0, .int .i64 0, .int .i64 0, .int .i64 0] 80)) := by
  refine ⟨?_, ?_, two_allocs _ _ _, OwnR_nil _ _ _⟩
  · exact ((one_alloc _ _).block w.heap.size (by simp)).trans (heap_alloc_new w _)
  · have := heap_alloc_new (w.alloc (.cells #[.slice a len cap, .int .i64 p, .int .i64 k, .int .i64 0] 80)) (.cells #[.slice none 0 0, .int .i64 0, .int .i64 0, .int .i64 0] 80)
    simpa using this
/-- what is left tells the whole -/
def TE (zs : List Int) (nest : Nat) (me : Bool) (T : Out (List Ins × Int)) (acc : List Ins) (p k : Nat) : Prop :=
  T.e = (D zs p k nest me).e ∧ T.at_ = (D zs p k nest me).at_ ∧ ((D zs p k nest me).e = 0 → T.k = (D zs p k nest me).k ∧ T.v = (acc ++ (D zs p k nest me).v.1, (D zs p k nest me).v.2))
theorem D_at (zs : List Int) (p k nest : Nat) (me : Bool) (h : p ≤ zs.length) :
    (zs.length ≤ p → (D zs p k nest me).e = 4 ∧ (D zs p k nest me).at_ = p) ∧
    (p < zs.length → ¬ jO k nest me (zs.getD p 0) = 0 → (D zs p k nest me).e = jO k nest me (zs.getD p 0) ∧ (D zs p k nest me).at_ = p) ∧
    (p < zs.length → jO k nest me (zs.getD p 0) = 0 → (zs.getD p 0 = 11 ∨ zs.getD p 0 = 5) → D zs p k nest me = ⟨0, p + 1, k, ([], zs.getD p 0)⟩) ∧
    (p < zs.length → jO k nest me (zs.getD p 0) = 0 → ¬ (zs.getD p 0 = 11 ∨ zs.getD p 0 = 5) → ∀ Y, Y = pI (D zs) zs (p + 1) (k + 1) nest (zs.getD p 0) →
      (¬ Y.e = 0 → (D zs p k nest me).e = Y.e ∧ (D zs p k nest me).at_ = Y.at_) ∧
      (Y.e = 0 → (D zs p k nest me).e = (D zs Y.at_ Y.k nest me).e ∧ (D zs p k nest me).at_ = (D zs Y.at_ Y.k nest me).at_ ∧ (D zs p k nest me).k = (D zs Y.at_ Y.k nest me).k ∧ ((D zs Y.at_ Y.k nest me).e = 0 → (D zs p k nest me).v = (Y.v :: (D zs Y.at_ Y.k nest me).v.1, (D zs Y.at_ Y.k nest me).v.2)))) := by
  obtain ⟨d1, d2, d3⟩ := D_step zs p k nest me h
  have e0 : p < zs.length → jO k nest me (zs.getD p 0) = 0 → pB zs p (jO k nest me) = ⟨0, p + 1, zs.getD p 0⟩ := fun h1 h2 => by unfold pB; rw [if_neg (by omega), if_pos h2]
  refine ⟨fun h1 => ?_, fun h1 h2 => ?_, fun h1 h2 h3 => ?_, fun h1 h2 h3 Y hY => ?_⟩
  · have e : pB zs p (jO k nest me) = ⟨4, p, 0⟩ := by unfold pB; rw [if_pos h1]
    rw [e] at d1
    have := d1 (show ¬ (4 : Int) = 0 by decide)
    exact ⟨this.1, this.2.1⟩
  · have e : pB zs p (jO k nest me) = ⟨jO k nest me (zs.getD p 0), p, 0⟩ := by unfold pB; rw [if_neg (by omega), if_neg h2]
    rw [e] at d1
    have := d1 h2
    exact ⟨this.1, this.2.1⟩
  · rw [e0 h1 h2] at d2
    exact d2 rfl h3
  · rw [e0 h1 h2] at d3
    have := d3 rfl h3 Y hY
    exact ⟨fun hy => ⟨(this.1 hy).1, (this.1 hy).2.1⟩, this.2⟩

set_option maxRecDepth 100000 in
set_option maxHeartbeats 6400000 in
theorem listr_step {m : Nat} (ih : ListR m) : ListR (m + 1) := by
  intro a len cap p k nest me zs w hrow hl hp hc hk hn hm
  obtain ⟨i0, hi, hz0, hz1, hz2⟩ := info_parts infoR
  have hlr := lr_new w a len cap p k
  have hzl : zs.length = len := hrow.1
  have HRow := hide hrow; have HIh := hide ih; have HLR := hide hlr; have HZl := hide hzl
  clear hrow ih hlr hzl
  go_enter Tryd.func36, Tryd.ntmps36
  go_wp2_with fail
  generalize (w.alloc (.cells #[.slice a len cap, .int .i64 p, .int .i64 k, .int .i64 0] 80)).alloc (.cells #[.slice none 0 0, .int .i64 0, .int .i64 0, .int .i64 0] 80) = w2 at *
  obtain ⟨N, hN⟩ : ∃ N, w.heap.size = N := ⟨_, rfl⟩
  rw [hN] at HLR ⊢
  have HN := hide hN; clear hN
  go_loopg [9] (len - p + 1) (fun gk s wr => ∃ (acc : List Ins) (p' k' : Nat), Hid (LR w N a len cap p' k' s acc wr) ∧ p + acc.length ≤ p' ∧ p' ≤ len ∧ k' ≤ 16384 ∧ len - p' < gk ∧ Hid (TE zs nest me (D zs p k nest me) acc p' k'))
  case atStart => exact ⟨[], p, k, HLR, by simp, hp, hk, by omega, hide ⟨rfl, rfl, fun _ => ⟨rfl, by simp⟩⟩⟩
  case round =>
    clear HLR
    obtain ⟨acc, p', k', HR, hpl, hpa, hka, hgk, HTE⟩ := hrel
    have hD := D_at zs p' k' nest me (by rw [unhide HZl]; exact hpa)
    rw [unhide HZl] at hD
    have HD := hide hD; clear hD
    have hRw : Row wr a len zs := (unhide HRow).below (Nat.le_of_eq (unhide HN)) (unhide HR).bel
    obtain ⟨c0, c1, c2, c3⟩ := (unhide HR).cs
    obtain ⟨d0, d1, d2, d3⟩ := (unhide HR).ds
    have f0 := (unhide HR).f0; have f1 := (unhide HR).f1; have hlt1 := (unhide HR).lt
    have hOw := (unhide HR).own
    obtain ⟨sa, sc, rfl, _⟩ := hOw.shape
    have HRw := hide hRw
    clear hRw hOw
    by_cases hend : len ≤ p'
    · have hpz : (len : Int) ≤ (p' : Int) := by omega
      have hD1 := (unhide HD).1 hend
      have HD1 := hide hD1
      clear hD1 hgk hpl hend
      go_wp2
      have hb := (unhide HR).bel
      refine bodyPost_ret (v := .tuple #[RV a len cap p' k' 4, .slice none 0 0, .int .u8 0]) (by simp [results, Tryd.results36, go_sem, c0, c1, c2, c3, d0, d1, d2, d3, f0, f1]) rfl ?_
      obtain ⟨t1, t2, t3⟩ := unhide HTE
      obtain ⟨g1, g2⟩ := unhide HD1
      refine ⟨k', .slice none 0 0, 0, by rw [t1, t2, g1, g2], ⟨_, _, _, rfl⟩, ?_, fun e => absurd (t1.symm.trans e) (by rw [g1]; decide)⟩
      rw [unhide HN]
      repeat' (with_reducible refine Below.setCell ?_ ?_ _)
      all_goals first | with_reducible assumption | (dsimp only; omega)
    have hpz : (p' : Int) < (len : Int) := by omega
    obtain ⟨b, o, rfl, hb0, hz0'⟩ := row_byte (unhide HRow) (p := p') (by omega)
    have hbN : b < N := by rw [← unhide HN]; exact hb0
    have hz : wr.cell? ⟨b, o + p', none⟩ = some (.int .u8 (zs.getD p' 0)) := ((unhide HR).bel.cell (p := ⟨b, o + p', none⟩) hbN).trans hz0'
    have nb0 : ¬ b = N := by omega
    have nb1 : ¬ b = N + 1 := by omega
    clear hb0 hz0'
    have hzb : 0 ≤ zs.getD p' 0 ∧ zs.getD p' 0 ≤ 255 := by
      have h1 : p' < zs.length := by rw [unhide HZl]; omega
      rw [List.getD, List.getElem?_eq_getElem h1]
      exact (unhide HRw).2.1 _ (List.getElem_mem h1)
    obtain ⟨d1', d2', d3', d4'⟩ := unhide HD
    have hlt : p' < len := by omega
    replace d2' := d2' hlt; replace d3' := d3' hlt; replace d4' := d4' hlt
    generalize zs.getD p' 0 = cc at *
    obtain ⟨c, rfl⟩ := Int.eq_ofNat_of_zero_le hzb.1
    have hc256 : c < 256 := by omega
    have hform := formr_all c hc256
    have hfl := flr_any c hc256
    have HD2 := hide d2'; have HD3 := hide d3'; have HD4 := hide d4'
    clear d1' d2' d3' d4' HD hend hlt hzb
    by_cases hstop : c = 11 ∨ (c = 5 ∧ me = true)
    · have hj : jO k' nest me (c : Int) = 0 := by unfold jO; rw [if_pos (by rcases hstop with rfl | ⟨rfl, h⟩; exact .inl rfl; exact .inr ⟨rfl, h⟩)]
      have hD3 := unhide HD3 hj (by rcases hstop with rfl | ⟨rfl, h⟩; exact .inl rfl; exact .inr rfl)
      have HD3' := hide hD3; have HSt := hide hstop
      have w1 : IntKind.i64.wrap ((p' : Int) + 1) = (p' : Int) + 1 := by rw [wr64 _ (by omega)]
      clear hj hD3 HD2 HD4 HD3 hform hfl
      have fin : ∀ w9 : World, (∀ q, q ≠ N → q ≠ N + 1 → w9.heap[q]? = wr.heap[q]?) → Below N w w9 → LrP w (some ⟨b, o, none⟩) len cap (D zs p k nest me) (.returned (.tuple #[RV (some ⟨b, o, none⟩) len cap (p' + 1) k' 0, .slice sa acc.length sc, .int .u8 c])) w9 := by
        intro w9 h9 hb9
        obtain ⟨t1, t2, t3⟩ := unhide HTE
        rw [unhide HD3'] at t1 t2 t3
        refine ⟨k', .slice sa acc.length sc, c, by rw [t1, t2], ⟨_, _, _, rfl⟩, by rw [unhide HN]; exact hb9, fun _ => ?_⟩
        obtain ⟨t4, t5⟩ := t3 rfl
        rw [t4, t5]
        refine ⟨rfl, rfl, ?_⟩
        simp only [List.append_nil]
        have hO : OwnR w9 (N + 2) (N + 2 ≤ ·) (.slice sa acc.length sc) acc := (unhide HR).own.move (fun q hq => h9 q (by have := ((unhide HR).own.lt q hq).1; omega) (by have := ((unhide HR).own.lt q hq).1; omega)) (fun q hq _ hg => ⟨hg, h9 q (by have : N + 2 ≤ q := hg.2; omega) (by have : N + 2 ≤ q := hg.2; omega)⟩)
        exact hO.code fun q _ hq => by have := unhide HN; show w.heap.size ≤ q; rcases hq with hq | hq <;> omega
      have HF := hide fin; clear fin
      rcases hstop with rfl | ⟨rfl, rfl⟩
      all_goals
        go_wp2
        have hb := (unhide HR).bel
        refine bodyPost_ret (v := .tuple #[RV (some ⟨b, o, none⟩) len cap (p' + 1) k' 0, .slice sa acc.length sc, _]) (by simp [results, Tryd.results36, go_sem, c0, c1, c2, c3, d0, d1, d2, d3, f0, f1]; rfl) rfl ?_
        refine unhide HF _ (fun q h1 h2 => ?_) ?_
        · repeat' (refine (heap_setCell_other _ _ q _ ?_).trans ?_)
          all_goals first | rfl | (dsimp only; omega)
        · repeat' (with_reducible refine Below.setCell ?_ ?_ _)
          all_goals first | with_reducible assumption | (dsimp only; omega)
    · have hc11 : ¬ c = 11 := fun e => hstop (.inl e)
      have h11 : ((c : Int) == 11) = false := by simp; omega
      have w1 : IntKind.i64.wrap ((k' : Int) + 1) = (k' : Int) + 1 := by rw [wr64 _ (by omega)]
      have hjg := jO_gen (k := k') (nest := nest) (me := me) (c := (c : Int)) (by rintro (e | ⟨e, h⟩); exact hc11 (by omega); exact hstop (.inr ⟨by omega, h⟩))
      have ferr : ∀ (er : Int) (w9 : World), ¬ er = 0 → ((D zs p' k' nest me).e = er ∧ (D zs p' k' nest me).at_ = p') → Below N w w9 → LrP w (some ⟨b, o, none⟩) len cap (D zs p k nest me) (.returned (.tuple #[RV (some ⟨b, o, none⟩) len cap p' (k' + 1) er, .slice none 0 0, .int .u8 0])) w9 := by
        intro er w9 her hde hb9
        obtain ⟨t1, t2, t3⟩ := unhide HTE
        exact ⟨k' + 1, .slice none 0 0, 0, by rw [t1, t2, hde.1, hde.2], ⟨_, _, _, rfl⟩, by rw [unhide HN]; exact hb9, fun e => absurd ((hde.1.symm.trans t1.symm).trans e) her⟩
      have HFe := hide ferr; have HSp := hide hstop
      clear ferr hstop HD3
      cases hflt : flt (c : Int) with
      | true =>
        have hc5 : ¬ c = 5 := by rintro rfl; rw [flt5.1] at hflt; exact absurd hflt (by decide)
        have h5 : ((c : Int) == 5) = false := by simp; omega
        rw [hflt] at hfl
        rw [hflt, if_pos rfl] at hjg
        have hDe := unhide HD2 (by rw [hjg]; decide)
        rw [hjg] at hDe
        generalize ((fam (c : Int)).map (·.o)).getD 0 = fo at hform
        generalize (fam (c : Int)).isSome = fs at hform
        have HFm := hide hform; have HFl := hide hfl; have HDe := hide hDe
        clear hform hfl hDe hjg hflt HD2 HD4 hc5 hc11 hgk hpl
        go_wp2_with fail
        refine (unhide HFm _).mono ?_
        rintro e w3 ⟨rfl, hb3⟩
        have hr3 := (unhide HR).below hb3
        obtain ⟨c0, c1, c2, c3⟩ := hr3.cs
        obtain ⟨d0, d1, d2, d3⟩ := hr3.ds
        have f0 := hr3.f0; have f1 := hr3.f1; have hlt3 := hr3.lt
        have HR3 := hide hr3
        clear hr3 hb3
        go_wp2_with fail
        refine (unhide HFl _).mono ?_
        rintro e w4 ⟨rfl, rfl⟩
        go_wp2
        refine bodyPost_ret (v := .tuple #[RV (some ⟨b, o, none⟩) len cap p' (k' + 1) 8, .slice none 0 0, .int .u8 0]) (by simp [results, Tryd.results36, go_sem, c0, c1, c2, c3, d0, d1, d2, d3, f0, f1]) rfl ?_
        refine unhide HFe _ _ (show ¬ (8 : Int) = 0 by decide) (unhide HDe) ?_
        have hb := (unhide HR3).bel
        repeat' (with_reducible refine Below.setCell ?_ ?_ _)
        all_goals first | with_reducible assumption | (dsimp only; omega)
      | false =>
        rw [hflt] at hfl
        rw [hflt, if_neg (by decide)] at hjg
        cases hfm : fam (c : Int) with
        | none =>
          rw [hfm] at hform
          simp only [Option.map_none, Option.getD_none, Option.isSome_none] at hform
          have hfr : frm (c : Int) = none := by unfold frm; rw [hfm]; rfl
          rw [hfr] at hjg
          simp only at hjg
          have hDe := unhide HD2 (by rw [hjg]; decide)
          rw [hjg] at hDe
          have HFm := hide hform; have HFl := hide hfl; have HDe := hide hDe
          by_cases hc5 : c = 5
          · subst hc5
            obtain rfl : me = false := by cases me; rfl; exact absurd (Or.inr ⟨rfl, rfl⟩) (unhide HSp)
            clear hform hfl hDe hjg hflt HD2 HD4 hc11 hgk hpl hfm hfr HSp
            go_wp2_with fail
            refine (unhide HFm _).mono ?_
            rintro e w3 ⟨rfl, hb3⟩
            have hr3 := (unhide HR).below hb3
            obtain ⟨c0, c1, c2, c3⟩ := hr3.cs
            obtain ⟨d0, d1, d2, d3⟩ := hr3.ds
            have f0 := hr3.f0; have f1 := hr3.f1; have hlt3 := hr3.lt
            have HR3 := hide hr3
            clear hr3 hb3
            go_wp2_with fail
            refine (unhide HFl _).mono ?_
            rintro e w4 ⟨rfl, rfl⟩
            go_wp2
            refine bodyPost_ret (v := .tuple #[RV (some ⟨b, o, none⟩) len cap p' (k' + 1) 6, .slice none 0 0, .int .u8 0]) (by simp [results, Tryd.results36, go_sem, c0, c1, c2, c3, d0, d1, d2, d3, f0, f1]) rfl ?_
            refine unhide HFe _ _ (show ¬ (6 : Int) = 0 by decide) (unhide HDe) ?_
            have hb := (unhide HR3).bel
            repeat' (with_reducible refine Below.setCell ?_ ?_ _)
            all_goals first | with_reducible assumption | (dsimp only; omega)
          · have h5 : ((c : Int) == 5) = false := by simp; omega
            clear hform hfl hDe hjg hflt HD2 HD4 hc11 hgk hpl hfm hfr HSp hc5
            go_wp2_with fail
            refine (unhide HFm _).mono ?_
            rintro e w3 ⟨rfl, hb3⟩
            have hr3 := (unhide HR).below hb3
            obtain ⟨c0, c1, c2, c3⟩ := hr3.cs
            obtain ⟨d0, d1, d2, d3⟩ := hr3.ds
            have f0 := hr3.f0; have f1 := hr3.f1; have hlt3 := hr3.lt
            have HR3 := hide hr3
            clear hr3 hb3
            go_wp2_with fail
            refine (unhide HFl _).mono ?_
            rintro e w4 ⟨rfl, rfl⟩
            go_wp2
            refine bodyPost_ret (v := .tuple #[RV (some ⟨b, o, none⟩) len cap p' (k' + 1) 6, .slice none 0 0, .int .u8 0]) (by simp [results, Tryd.results36, go_sem, c0, c1, c2, c3, d0, d1, d2, d3, f0, f1]) rfl ?_
            refine unhide HFe _ _ (show ¬ (6 : Int) = 0 by decide) (unhide HDe) ?_
            have hb := (unhide HR3).bel
            repeat' (with_reducible refine Below.setCell ?_ ?_ _)
            all_goals first | with_reducible assumption | (dsimp only; omega)
        | some x =>
          obtain ⟨x1, x2, fo, x4, x5, x6⟩ := x
          rw [hfm] at hform
          simp only [Option.map_some, Option.getD_some, Option.isSome_some] at hform
          have hfr : frm (c : Int) = some fo := by unfold frm; rw [hfm]; rfl
          have hfo := fam_o hfm
          have hfrc := fr_of hfm
          simp only at hfo
          rw [hfr] at hjg
          simp only at hjg
          have hc5 : ¬ c = 5 := by rintro rfl; rw [flt5.2] at hfm; cases hfm
          have h5 : ((c : Int) == 5) = false := by simp; omega
          have HFm := hide hform; have HFl := hide hfl
          clear hform hfl hfm hflt HSp
          by_cases hk16 : k' = 16384
          · have hkt : (16384 : Int) < (k' : Int) + 1 := by omega
            rw [if_pos (.inl hk16)] at hjg
            have hDe := unhide HD2 (by rw [hjg]; decide)
            rw [hjg] at hDe
            have HDe := hide hDe
            clear hDe hjg HD2 HD4 hc11 hgk hpl hfo hfrc hfr hk16 hc5
            go_wp2_with fail
            refine (unhide HFm _).mono ?_
            rintro e w3 ⟨rfl, hb3⟩
            have hr3 := (unhide HR).below hb3
            obtain ⟨c0, c1, c2, c3⟩ := hr3.cs
            obtain ⟨d0, d1, d2, d3⟩ := hr3.ds
            have f0 := hr3.f0; have f1 := hr3.f1; have hlt3 := hr3.lt
            have HR3 := hide hr3
            clear hr3 hb3
            go_wp2_with fail
            refine (unhide HFl _).mono ?_
            rintro e w4 ⟨rfl, rfl⟩
            go_wp2
            refine bodyPost_ret (v := .tuple #[RV (some ⟨b, o, none⟩) len cap p' (k' + 1) 9, .slice none 0 0, .int .u8 0]) (by simp [results, Tryd.results36, go_sem, c0, c1, c2, c3, d0, d1, d2, d3, f0, f1]) rfl ?_
            refine unhide HFe _ _ (show ¬ (9 : Int) = 0 by decide) (unhide HDe) ?_
            have hb := (unhide HR3).bel
            repeat' (with_reducible refine Below.setCell ?_ ?_ _)
            all_goals first | with_reducible assumption | (dsimp only; omega)
          by_cases hnb : blk fo = true ∧ nest = 64
          · obtain ⟨hbl, rfl⟩ := hnb
            rw [if_pos (.inr ⟨hbl, rfl⟩)] at hjg
            have hDe := unhide HD2 (by rw [hjg]; decide)
            rw [hjg] at hDe
            have HDe := hide hDe
            have hkz : ((k' : Int) + 1) ≤ 16384 := by omega
            have hf67 : fo = 6 ∨ fo = 7 := by simpa [blk] using hbl
            clear hDe hjg HD2 HD4 hc11 hgk hpl hfo hfrc hfr hk16 hbl hc5
            rcases hf67 with rfl | rfl
            · skip
              go_wp2_with fail
              refine (unhide HFm _).mono ?_
              rintro e w3 ⟨rfl, hb3⟩
              have hr3 := (unhide HR).below hb3
              obtain ⟨c0, c1, c2, c3⟩ := hr3.cs
              obtain ⟨d0, d1, d2, d3⟩ := hr3.ds
              have f0 := hr3.f0; have f1 := hr3.f1; have hlt3 := hr3.lt
              have HR3 := hide hr3
              clear hr3 hb3
              go_wp2_with fail
              refine (unhide HFl _).mono ?_
              rintro e w4 ⟨rfl, rfl⟩
              go_wp2
              refine bodyPost_ret (v := .tuple #[RV (some ⟨b, o, none⟩) len cap p' (k' + 1) 9, .slice none 0 0, .int .u8 0]) (by simp [results, Tryd.results36, go_sem, c0, c1, c2, c3, d0, d1, d2, d3, f0, f1]) rfl ?_
              refine unhide HFe _ _ (show ¬ (9 : Int) = 0 by decide) (unhide HDe) ?_
              have hb := (unhide HR3).bel
              repeat' (with_reducible refine Below.setCell ?_ ?_ _)
              all_goals first | with_reducible assumption | (dsimp only; omega)
            · skip
              go_wp2_with fail
              refine (unhide HFm _).mono ?_
              rintro e w3 ⟨rfl, hb3⟩
              have hr3 := (unhide HR).below hb3
              obtain ⟨c0, c1, c2, c3⟩ := hr3.cs
              obtain ⟨d0, d1, d2, d3⟩ := hr3.ds
              have f0 := hr3.f0; have f1 := hr3.f1; have hlt3 := hr3.lt
              have HR3 := hide hr3
              clear hr3 hb3
              go_wp2_with fail
              refine (unhide HFl _).mono ?_
              rintro e w4 ⟨rfl, rfl⟩
              go_wp2
              refine bodyPost_ret (v := .tuple #[RV (some ⟨b, o, none⟩) len cap p' (k' + 1) 9, .slice none 0 0, .int .u8 0]) (by simp [results, Tryd.results36, go_sem, c0, c1, c2, c3, d0, d1, d2, d3, f0, f1]) rfl ?_
              refine unhide HFe _ _ (show ¬ (9 : Int) = 0 by decide) (unhide HDe) ?_
              have hb := (unhide HR3).bel
              repeat' (with_reducible refine Below.setCell ?_ ?_ _)
              all_goals first | with_reducible assumption | (dsimp only; omega)
          rw [if_neg (by rintro (e | e); exact hk16 e; exact hnb e)] at hjg
          have hbl : blk fo = true → nest < 64 := fun e => Nat.lt_of_le_of_ne hn (fun h => hnb ⟨e, h⟩)
          obtain ⟨hy1, hy2⟩ := unhide HD4 hjg (by omega) _ rfl
          have hgood : GoodI nest (p' + 1) (k' + 1) (c : Int) (pI (D zs) zs (p' + 1) (k' + 1) nest (c : Int)) := pI_good (rc := D zs) (unhide HRw).2.1 (fun a k nest me h1 h2 => dec_good (unhide HRw).2.1 (zs.length + 1) a k nest me h1 h2) (p' + 1) (k' + 1) nest (c : Int) (by omega) (by omega) (by rw [hfr]; rfl) hn (by rw [hfrc]; exact hbl) (by omega)
          have hfw := pI_bd zs (D zs) (fun a k n m h => D_bd zs a k n m h) (p' + 1) (k' + 1) nest (c : Int) (by rw [unhide HZl]; omega)
          rw [Fwd, unhide HZl] at hfw
          have hrs := fun (wx : World) (hb : Below w.heap.size w wx) => rest_any (unhide HIh) (some ⟨b, o, none⟩) len cap (p' + 1) (k' + 1) nest (c : Int) fo zs wx ((unhide HRow).below (Nat.le_refl _) hb) hl (by omega) hc hfrc hfo hbl (by omega) (by omega)
          simp only [RV] at hrs
          rw [show (((p' + 1 : Nat)) : Int) = (p' : Int) + 1 by omega, show (((k' + 1 : Nat)) : Int) = (k' : Int) + 1 by omega] at hrs
          generalize pI (D zs) zs (p' + 1) (k' + 1) nest (c : Int) = Y at *
          have HRs := hide hrs; have HY1 := hide hy1; have HY2 := hide hy2; have HGd := hide hgood; have HFw := hide hfw
          have hkz : ((k' : Int) + 1) ≤ 16384 := by omega
          have wp1 : IntKind.i64.wrap ((p' : Int) + 1) = (p' : Int) + 1 := by rw [wr64 _ (by omega)]
          clear hrs hy1 hy2 hgood hfw hjg HD2 HD4 hc11 hfo hfrc hfr hk16 hc5
          have tst : Hid (nest < 64 ∨ (nest = 64 ∧ (fo == 6) = false ∧ (fo == 7) = false)) := by
            by_cases h : nest = 64
            · have hb0 : blk fo = false := by
                cases hh : blk fo
                · rfl
                · exact absurd ⟨hh, h⟩ hnb
              have : ¬ fo = 6 ∧ ¬ fo = 7 := by simpa [blk] using hb0
              exact .inr ⟨h, by simpa using this.1, by simpa using this.2⟩
            · exact .inl (by omega)
          clear hnb hbl
          rcases unhide tst with hns | ⟨hn64, t6, t7⟩
          · have hnz : ¬ (64 ≤ (nest : Int)) := by omega
            clear tst
            go_wp2_with fail
            refine (unhide HFm _).mono ?_
            rintro e w3 ⟨rfl, hb3⟩
            have hr3 := (unhide HR).below hb3
            have hz3 := hb3.size
            obtain ⟨c0, c1, c2, c3⟩ := hr3.cs
            have f0 := hr3.f0; have hlt3 := hr3.lt
            have HR3 := hide hr3
            clear hr3 hb3 d0 d1 d2 d3 f1
            go_wp2_with fail
            refine (unhide HFl _).mono ?_
            rintro e w4 ⟨rfl, rfl⟩
            have s2 := heap_setCell_same w3 N 2 _ _ (.int .i64 ((k' + 1 : Nat) : Int)) (unhide HR3).b0
            have s1 := heap_setCell_same _ N 1 _ _ (.int .i64 ((p' + 1 : Nat) : Int)) s2
            have hr4 : LR w N (some ⟨b, o, none⟩) len cap (p' + 1) (k' + 1) (.slice sa acc.length sc) acc ((w3.setCell ⟨N, 2, none⟩ (.int .i64 ((k' + 1 : Nat) : Int))).setCell ⟨N, 1, none⟩ (.int .i64 ((p' + 1 : Nat) : Int))) := (unhide HR3).turn s1 (fun q hq => by rw [heap_setCell_other _ ⟨N, 1, none⟩ q _ hq, heap_setCell_other _ ⟨N, 2, none⟩ q _ hq]) (((unhide HR3).bel.setCell (p := ⟨N, 2, none⟩) (Nat.le_refl _) _).setCell (p := ⟨N, 1, none⟩) (Nat.le_refl _) _)
            rw [show (((p' + 1 : Nat)) : Int) = (p' : Int) + 1 by omega, show (((k' + 1 : Nat)) : Int) = (k' : Int) + 1 by omega] at hr4
            have HR4 := hide hr4
            have hz4 : w3.heap.size ≤ ((w3.setCell ⟨N, 2, none⟩ (.int .i64 ((k' : Int) + 1))).setCell ⟨N, 1, none⟩ (.int .i64 ((p' : Int) + 1))).heap.size := (((Below.refl 0 w3).setCell (p := ⟨N, 2, none⟩) (Nat.zero_le _) _).setCell (p := ⟨N, 1, none⟩) (Nat.zero_le _) _).size
            have HZw := hide (show wr.heap.size ≤ ((w3.setCell ⟨N, 2, none⟩ (.int .i64 ((k' : Int) + 1))).setCell ⟨N, 1, none⟩ (.int .i64 ((p' : Int) + 1))).heap.size ∧ N + 1 < wr.heap.size from ⟨Nat.le_trans hz3 hz4, hlt1⟩)
            clear hr4 s1 s2 hz3 hz4
            go_wp2_with fail
            generalize (w3.setCell ⟨N, 2, none⟩ (.int .i64 ((k' : Int) + 1))).setCell ⟨N, 1, none⟩ (.int .i64 ((p' : Int) + 1)) = w4 at *
            clear c0 c1 c2 c3 f0 HR3 hlt3
            refine (unhide HRs _ (by rw [unhide HN]; exact (unhide HR4).bel)).mono ?_
            rintro e w5 ⟨k2, i, vb, ve, vl, rfl, hb5, ⟨⟨ba, bl, bc, rfl⟩, ⟨ea, el, ec, rfl⟩, ⟨la, ll, lc, rfl⟩⟩, hok⟩
            have HOk := hide hok; have HR5 := hide ((unhide HR4).below hb5); have hz5 := hb5.size
            have HZ5 := hide hz5
            have HA6 := hide (two_allocs w5 (.cells #[.slice (some ⟨b, o, none⟩) len cap, .int .i64 Y.at_, .int .i64 k2, .int .i64 Y.e] 80) (.cells #[.int .u8 i.op, .int .i64 i.n, .int .u32 i.al, .int .u32 i.of, .int .u8 i.re, .slice ba bl bc, .slice ea el ec, .slice la ll lc] 55))
            clear hok hb5 hz5
            go_upto_region 21 with fail
            generalize hw6 : (w5.alloc (.cells #[.slice (some ⟨b, o, none⟩) len cap, .int .i64 Y.at_, .int .i64 k2, .int .i64 Y.e] 80)).alloc (.cells #[.int .u8 i.op, .int .i64 i.n, .int .u32 i.al, .int .u32 i.of, .int .u8 i.re, .slice ba bl bc, .slice ea el ec, .slice la ll lc] 55) = w6 at *
            have e0 : w6.cell? ⟨w5.heap.size, 0, none⟩ = some (.slice (some ⟨b, o, none⟩) len cap) := by rw [← hw6]; simp
            have e1 : w6.cell? ⟨w5.heap.size, 1, none⟩ = some (.int .i64 Y.at_) := by rw [← hw6]; simp
            have e2 : w6.cell? ⟨w5.heap.size, 2, none⟩ = some (.int .i64 k2) := by rw [← hw6]; simp
            have e3 : w6.cell? ⟨w5.heap.size, 3, none⟩ = some (.int .i64 Y.e) := by rw [← hw6]; simp
            have g0 : w6.cell? ⟨w5.heap.size + 1, 0, none⟩ = some (.int .u8 i.op) := by rw [← hw6]; simp
            have g1 : w6.cell? ⟨w5.heap.size + 1, 1, none⟩ = some (.int .i64 i.n) := by rw [← hw6]; simp
            have g2 : w6.cell? ⟨w5.heap.size + 1, 2, none⟩ = some (.int .u32 i.al) := by rw [← hw6]; simp
            have g3 : w6.cell? ⟨w5.heap.size + 1, 3, none⟩ = some (.int .u32 i.of) := by rw [← hw6]; simp
            have g4 : w6.cell? ⟨w5.heap.size + 1, 4, none⟩ = some (.int .u8 i.re) := by rw [← hw6]; simp
            have g5 : w6.cell? ⟨w5.heap.size + 1, 5, none⟩ = some (.slice ba bl bc) := by rw [← hw6]; simp
            have g6 : w6.cell? ⟨w5.heap.size + 1, 6, none⟩ = some (.slice ea el ec) := by rw [← hw6]; simp
            have g7 : w6.cell? ⟨w5.heap.size + 1, 7, none⟩ = some (.slice la ll lc) := by rw [← hw6]; simp
            have hz6 : w6.heap.size = w5.heap.size + 2 := by rw [← hw6]; simp
            have HZ6 := hide hz6
            clear hw6 hz6
            have HR6 := hide ((unhide HR5).below (unhide HA6))
            by_cases hY : Y.e = 0
            · rw [hY] at e3
              rw [hY]
              obtain ⟨rfl, hiv, cb, ce, cl⟩ := unhide HOk hY
              have hal2 := (Below.refl w6.heap.size w6).drew.alloc (Nat.le_refl _) (.cells (cel i (.slice ba bl bc) (.slice ea el ec) (.slice la ll lc)).toArray 55)
              have HA2 := hide hal2
              have HB5W := hide (Below.on (unhide HA6) hal2)
              have HCb := hide cb; have HCe := hide ce; have HCl := hide cl; have HIv := hide hiv; have HYe := hide hY
              obtain ⟨xs, hx, hit⟩ := (unhide HR5).own
              have HX := hide hx; have HIt := hide hit
              have hMlt : N + 1 < w5.heap.size := (unhide HR5).lt
              clear hal2 cb ce cl hiv hY hx hit
              generalize hM : w5.heap.size = M at *
              have HM := hide hM; clear hM
              have hMN : ¬ M = N := by omega
              have hNM : ¬ N = M := by omega
              have hMN1 : ¬ M + 1 = N := by omega
              have hNM1 : ¬ N = M + 1 := by omega
              go_wp2_with fail
              go_region_held3 (fun w' => w'.cell? ⟨M, 0, none⟩ = some (.slice (some ⟨b, o, none⟩) len cap) ∧ w'.cell? ⟨M, 1, none⟩ = some (.int .i64 Y.at_) ∧ w'.cell? ⟨M, 2, none⟩ = some (.int .i64 Y.k) ∧ w'.cell? ⟨M, 3, none⟩ = some (.int .i64 0) ∧ w'.cell? ⟨M + 1, 0, none⟩ = some (.int .u8 i.op) ∧ w'.cell? ⟨M + 1, 1, none⟩ = some (.int .i64 i.n) ∧ w'.cell? ⟨M + 1, 2, none⟩ = some (.int .u32 i.al) ∧ w'.cell? ⟨M + 1, 3, none⟩ = some (.int .u32 i.of) ∧ w'.cell? ⟨M + 1, 4, none⟩ = some (.int .u8 i.re) ∧ w'.cell? ⟨M + 1, 5, none⟩ = some (.slice ba bl bc) ∧ w'.cell? ⟨M + 1, 6, none⟩ = some (.slice ea el ec) ∧ w'.cell? ⟨M + 1, 7, none⟩ = some (.slice la ll lc))
                (first | go_keep | exact ⟨(hk1 0).trans e0, (hk1 1).trans e1, (hk1 2).trans e2, (hk1 3).trans e3, (hk2 0).trans g0, (hk2 1).trans g1, (hk2 2).trans g2, (hk2 3).trans g3, (hk2 4).trans g4, (hk2 5).trans g5, (hk2 6).trans g6, (hk2 7).trans g7⟩)
                (first | (refine step_append_lies _ (by rfl) _ _ _ (by rfl) (N + 2) 55 i0 (.agg #[.int .u8 0, .int .i64 0, .int .u32 0, .int .u32 0, .int .u8 0, .slice none 0 0, .slice none 0 0, .slice none 0 0]) 8 104 Tryd.underlying22 hi hz0 hz1 hz2 rfl (by decide) (.slice sa acc.length sc) acc.length xs (by rfl) (own_turn (unhide HX) (fun q hq => (unhide HB5W).block q (by have := ((unhide HX).lt q hq).2; have := unhide HM; omega))) ⟨w6.heap.size, 0, none⟩ 1 1 (cel i (.slice ba bl bc) (.slice ea el ec) (.slice la ll lc)) (by rfl) (by rfl) (new_cel w6.drew i _ _ _ _) (cel_one i ⟨_, _, _, rfl⟩ ⟨_, _, _, rfl⟩ ⟨_, _, _, rfl⟩) (by omega) (by unfold maxLen; omega) (by omega) (by have := unhide HZ6; have := unhide HM; simp; omega) (w6.heap.size + 1) (by simp) ?_
                          intro gg capn w7 hown7 hgrow hat7 hlt7
                          have hk1 : ∀ o', w7.cell? ⟨M, o', none⟩ = w6.cell? ⟨M, o', none⟩ := fun o' => (World.cell?_of_block (a := ⟨M, o', none⟩) (hgrow.block M (by have := unhide HZ6; simp; omega) (fun e => by have := ((unhide HX).lt M e.symm).2; have := unhide HM; omega))).trans ((unhide HA2).cell (p := ⟨M, o', none⟩) (by have := unhide HZ6; simp; omega))
                          have hk2 : ∀ o', w7.cell? ⟨M + 1, o', none⟩ = w6.cell? ⟨M + 1, o', none⟩ := fun o' => (World.cell?_of_block (a := ⟨M + 1, o', none⟩) (hgrow.block (M + 1) (by have := unhide HZ6; simp; omega) (fun e => by have := ((unhide HX).lt (M + 1) e.symm).2; have := unhide HM; omega))).trans ((unhide HA2).cell (p := ⟨M + 1, o', none⟩) (by have := unhide HZ6; simp; omega))
                          have hN7 : w7.heap[N]? = some (.cells #[.slice (some ⟨b, o, none⟩) len cap, .int .i64 ((p' + 1 : Nat) : Int), .int .i64 ((k' + 1 : Nat) : Int), .int .i64 0] 80 (0, 0)) := (hgrow.block N (by have := unhide HZ6; simp; omega) (fun e => by have := ((unhide HX).lt N e.symm).1; omega)).trans (((unhide HB5W).block N (by have := unhide HM; omega)).trans (unhide HR5).b0)
                          have hc7 := fun j => cell_of_row w7 N j _ _ _ hN7
                          have n0 : w7.cell? ⟨N, 0, none⟩ = some (.slice (some ⟨b, o, none⟩) len cap) := hc7 0
                          have n1 : w7.cell? ⟨N, 1, none⟩ = some (.int .i64 ((p' + 1 : Nat) : Int)) := hc7 1
                          have n2 : w7.cell? ⟨N, 2, none⟩ = some (.int .i64 ((k' + 1 : Nat) : Int)) := hc7 2
                          have n3 : w7.cell? ⟨N, 3, none⟩ = some (.int .i64 0) := hc7 3
                          have nf : ∀ i, w7.frozen? ⟨N, i, none⟩ = false := fun i => by simp [World.frozen?, hN7]
                          have HN7 := hide hN7
                          clear hN7 hc7))
              have hb1 : w7.heap[N + 1]? = some (.cells #[.slice none 0 0, .int .i64 0, .int .i64 0, .int .i64 0] 80 (0, 0)) := (hgrow.block (N + 1) (by have := unhide HZ6; simp; omega) (fun e => by have := ((unhide HX).lt (N + 1) e.symm).1; omega)).trans (((unhide HB5W).block (N + 1) (by have := unhide HM; omega)).trans (unhide HR5).b1)
              have hb7 : Below N w w7 := ((unhide HR5).bel.trans ((unhide HB5W).mono (by have := unhide HM; omega))).grown hgrow (by have := unhide HZ6; simp; omega) (fun q hq => by have := ((unhide HX).lt q hq).1; omega)
              have hsl := (unhide HX).lt
              have gown : ∀ q, w4.heap.size ≤ q → own (N + 2 ≤ ·) (.slice sa acc.length sc) q := fun q hq => ⟨fun e => by have := ((unhide HR).own.lt q e).2; have := unhide HZw; omega, by have := unhide HZw; show N + 2 ≤ q; omega⟩
              have hB5W : Below w5.heap.size w5 (w6.drew.alloc (.cells (cel i (.slice ba bl bc) (.slice ea el ec) (.slice la ll lc)).toArray 55)) := by rw [unhide HM]; exact unhide HB5W
              have hoc : OwnR w7 (N + 2) (N + 2 ≤ ·) (.slice (some ⟨gg, 0, none⟩) (acc.length + 1) capn) (acc ++ [i]) := OwnR.snoc (w := w6.drew.alloc (.cells (cel i (.slice ba bl bc) (.slice ea el ec) (.slice la ll lc)).toArray 55)) (H := w6.heap.size + 1) (own_turn (unhide HX) (fun q hq => (unhide HB5W).block q (by have := (hsl q hq).2; have := unhide HM; omega))) (Its.move (moves_below hB5W fun _ _ h => h) (unhide HIt)) (((unhide HCb).below hB5W).any fun q _ hq => gown q hq) (((unhide HCe).below hB5W).any fun q _ hq => gown q hq) (Labs.any (Labs.below (unhide HCl) hB5W) fun q _ hq => gown q hq) hown7 hgrow hat7 (by simp)
              obtain ⟨y0, y1, y2⟩ := put4r (unhide HN7) (.slice (some ⟨b, o, none⟩) len cap) (.int .i64 Y.at_) (.int .i64 Y.k) (.int .i64 0)
              have hlr8 : LR w N (some ⟨b, o, none⟩) len cap Y.at_ Y.k (.slice (some ⟨gg, 0, none⟩) (acc.length + 1) capn) (acc ++ [i]) ((((w7.setCell ⟨N, 0, none⟩ (.slice (some ⟨b, o, none⟩) len cap)).setCell ⟨N, 1, none⟩ (.int .i64 Y.at_)).setCell ⟨N, 2, none⟩ (.int .i64 Y.k)).setCell ⟨N, 3, none⟩ (.int .i64 0)) :=
                ⟨y0, (y1 (N + 1) (by omega)).trans hb1, y2 N w hb7 (Nat.le_refl _), hoc.move (fun q hq => y1 q (by have := (hoc.lt q hq).1; omega)) (fun q hq _ hg => ⟨hg, y1 q (by have : N + 2 ≤ q := hg.2; omega)⟩)⟩
              have HLR8 := hide hlr8
              have hfw := unhide HFw
              have hgd := (unhide HGd (unhide HYe)).2.2.2.2.1
              have hTE : TE zs nest me (D zs p k nest me) (acc ++ [i]) Y.at_ Y.k := by
                obtain ⟨t1, t2, t3⟩ := unhide HTE
                obtain ⟨z1, z2, z3, z4⟩ := unhide HY2 (unhide HYe)
                refine ⟨t1.trans z1, t2.trans z2, fun h0 => ?_⟩
                obtain ⟨t4, t5⟩ := t3 (z1.trans h0)
                refine ⟨t4.trans z3, ?_⟩
                rw [t5, z4 h0, ← unhide HIv]; simp
              have HTE8 := hide hTE
              clear hlr8 hTE y0 y1 y2 hb1 hb7 hsl gown hoc hown7 hgrow hat7 hlt7 hk1 hk2 n0 n1 n2 n3 nf e0 e1 e2 e3 g0 g1 g2 g3 g4 g5 g6 g7 hMN hNM hMN1 hNM1
              generalize ((((w7.setCell ⟨N, 0, none⟩ (.slice (some ⟨b, o, none⟩) len cap)).setCell ⟨N, 1, none⟩ (.int .i64 Y.at_)).setCell ⟨N, 2, none⟩ (.int .i64 Y.k)).setCell ⟨N, 3, none⟩ (.int .i64 0)) = w8 at *
              go_wp2
              go_roundg (gk - 1)
              case measure => omega
              case rel => exact ⟨acc ++ [i], Y.at_, Y.k, HLR8, by simp; omega, hfw.2, hgd, by omega, HTE8⟩
            · have tY : (Y.e != 0) = true := by simpa using hY
              obtain ⟨d0, d1, d2, d3⟩ := (unhide HR6).ds
              have f1 := (unhide HR6).f1; have hl6 := (unhide HR6).lt
              have HYe := hide hY
              clear hY g0 g1 g2 g3 g4 g5 g6 g7
              generalize w5.heap.size = M at *
              go_wp2
              refine bodyPost_ret (v := .tuple #[RV (some ⟨b, o, none⟩) len cap Y.at_ k2 Y.e, .slice none 0 0, .int .u8 0]) (by simp [results, Tryd.results36, go_sem, d0, d1, d2, d3, e0, e1, e2, e3, f1]) rfl ?_
              obtain ⟨t1, t2, t3⟩ := unhide HTE
              obtain ⟨z1, z2⟩ := unhide HY1 (unhide HYe)
              refine ⟨k2, .slice none 0 0, 0, by rw [t1, t2, z1, z2], ⟨_, _, _, rfl⟩, ?_, fun e => absurd ((t1.trans z1).symm.trans e) (unhide HYe)⟩
              rw [unhide HN]
              have hb := (unhide HR6).bel
              repeat' (with_reducible refine Below.setCell ?_ ?_ _)
              all_goals first | with_reducible assumption | (dsimp only; omega)
          · have hnz : (64 : Int) ≤ (nest : Int) := by omega
            clear tst hn64
            go_wp2_with fail
            refine (unhide HFm _).mono ?_
            rintro e w3 ⟨rfl, hb3⟩
            have hr3 := (unhide HR).below hb3
            have hz3 := hb3.size
            obtain ⟨c0, c1, c2, c3⟩ := hr3.cs
            have f0 := hr3.f0; have hlt3 := hr3.lt
            have HR3 := hide hr3
            clear hr3 hb3 d0 d1 d2 d3 f1
            go_wp2_with fail
            refine (unhide HFl _).mono ?_
            rintro e w4 ⟨rfl, rfl⟩
            have s2 := heap_setCell_same w3 N 2 _ _ (.int .i64 ((k' + 1 : Nat) : Int)) (unhide HR3).b0
            have s1 := heap_setCell_same _ N 1 _ _ (.int .i64 ((p' + 1 : Nat) : Int)) s2
            have hr4 : LR w N (some ⟨b, o, none⟩) len cap (p' + 1) (k' + 1) (.slice sa acc.length sc) acc ((w3.setCell ⟨N, 2, none⟩ (.int .i64 ((k' + 1 : Nat) : Int))).setCell ⟨N, 1, none⟩ (.int .i64 ((p' + 1 : Nat) : Int))) := (unhide HR3).turn s1 (fun q hq => by rw [heap_setCell_other _ ⟨N, 1, none⟩ q _ hq, heap_setCell_other _ ⟨N, 2, none⟩ q _ hq]) (((unhide HR3).bel.setCell (p := ⟨N, 2, none⟩) (Nat.le_refl _) _).setCell (p := ⟨N, 1, none⟩) (Nat.le_refl _) _)
            rw [show (((p' + 1 : Nat)) : Int) = (p' : Int) + 1 by omega, show (((k' + 1 : Nat)) : Int) = (k' : Int) + 1 by omega] at hr4
            have HR4 := hide hr4
            have hz4 : w3.heap.size ≤ ((w3.setCell ⟨N, 2, none⟩ (.int .i64 ((k' : Int) + 1))).setCell ⟨N, 1, none⟩ (.int .i64 ((p' : Int) + 1))).heap.size := (((Below.refl 0 w3).setCell (p := ⟨N, 2, none⟩) (Nat.zero_le _) _).setCell (p := ⟨N, 1, none⟩) (Nat.zero_le _) _).size
            have HZw := hide (show wr.heap.size ≤ ((w3.setCell ⟨N, 2, none⟩ (.int .i64 ((k' : Int) + 1))).setCell ⟨N, 1, none⟩ (.int .i64 ((p' : Int) + 1))).heap.size ∧ N + 1 < wr.heap.size from ⟨Nat.le_trans hz3 hz4, hlt1⟩)
            clear hr4 s1 s2 hz3 hz4
            go_wp2_with fail
            generalize (w3.setCell ⟨N, 2, none⟩ (.int .i64 ((k' : Int) + 1))).setCell ⟨N, 1, none⟩ (.int .i64 ((p' : Int) + 1)) = w4 at *
            clear c0 c1 c2 c3 f0 HR3 hlt3
            refine (unhide HRs _ (by rw [unhide HN]; exact (unhide HR4).bel)).mono ?_
            rintro e w5 ⟨k2, i, vb, ve, vl, rfl, hb5, ⟨⟨ba, bl, bc, rfl⟩, ⟨ea, el, ec, rfl⟩, ⟨la, ll, lc, rfl⟩⟩, hok⟩
            have HOk := hide hok; have HR5 := hide ((unhide HR4).below hb5); have hz5 := hb5.size
            have HZ5 := hide hz5
            have HA6 := hide (two_allocs w5 (.cells #[.slice (some ⟨b, o, none⟩) len cap, .int .i64 Y.at_, .int .i64 k2, .int .i64 Y.e] 80) (.cells #[.int .u8 i.op, .int .i64 i.n, .int .u32 i.al, .int .u32 i.of, .int .u8 i.re, .slice ba bl bc, .slice ea el ec, .slice la ll lc] 55))
            clear hok hb5 hz5
            go_upto_region 21 with fail
            generalize hw6 : (w5.alloc (.cells #[.slice (some ⟨b, o, none⟩) len cap, .int .i64 Y.at_, .int .i64 k2, .int .i64 Y.e] 80)).alloc (.cells #[.int .u8 i.op, .int .i64 i.n, .int .u32 i.al, .int .u32 i.of, .int .u8 i.re, .slice ba bl bc, .slice ea el ec, .slice la ll lc] 55) = w6 at *
            have e0 : w6.cell? ⟨w5.heap.size, 0, none⟩ = some (.slice (some ⟨b, o, none⟩) len cap) := by rw [← hw6]; simp
            have e1 : w6.cell? ⟨w5.heap.size, 1, none⟩ = some (.int .i64 Y.at_) := by rw [← hw6]; simp
            have e2 : w6.cell? ⟨w5.heap.size, 2, none⟩ = some (.int .i64 k2) := by rw [← hw6]; simp
            have e3 : w6.cell? ⟨w5.heap.size, 3, none⟩ = some (.int .i64 Y.e) := by rw [← hw6]; simp
            have g0 : w6.cell? ⟨w5.heap.size + 1, 0, none⟩ = some (.int .u8 i.op) := by rw [← hw6]; simp
            have g1 : w6.cell? ⟨w5.heap.size + 1, 1, none⟩ = some (.int .i64 i.n) := by rw [← hw6]; simp
            have g2 : w6.cell? ⟨w5.heap.size + 1, 2, none⟩ = some (.int .u32 i.al) := by rw [← hw6]; simp
            have g3 : w6.cell? ⟨w5.heap.size + 1, 3, none⟩ = some (.int .u32 i.of) := by rw [← hw6]; simp
            have g4 : w6.cell? ⟨w5.heap.size + 1, 4, none⟩ = some (.int .u8 i.re) := by rw [← hw6]; simp
            have g5 : w6.cell? ⟨w5.heap.size + 1, 5, none⟩ = some (.slice ba bl bc) := by rw [← hw6]; simp
            have g6 : w6.cell? ⟨w5.heap.size + 1, 6, none⟩ = some (.slice ea el ec) := by rw [← hw6]; simp
            have g7 : w6.cell? ⟨w5.heap.size + 1, 7, none⟩ = some (.slice la ll lc) := by rw [← hw6]; simp
            have hz6 : w6.heap.size = w5.heap.size + 2 := by rw [← hw6]; simp
            have HZ6 := hide hz6
            clear hw6 hz6
            have HR6 := hide ((unhide HR5).below (unhide HA6))
            by_cases hY : Y.e = 0
            · rw [hY] at e3
              rw [hY]
              obtain ⟨rfl, hiv, cb, ce, cl⟩ := unhide HOk hY
              have hal2 := (Below.refl w6.heap.size w6).drew.alloc (Nat.le_refl _) (.cells (cel i (.slice ba bl bc) (.slice ea el ec) (.slice la ll lc)).toArray 55)
              have HA2 := hide hal2
              have HB5W := hide (Below.on (unhide HA6) hal2)
              have HCb := hide cb; have HCe := hide ce; have HCl := hide cl; have HIv := hide hiv; have HYe := hide hY
              obtain ⟨xs, hx, hit⟩ := (unhide HR5).own
              have HX := hide hx; have HIt := hide hit
              have hMlt : N + 1 < w5.heap.size := (unhide HR5).lt
              clear hal2 cb ce cl hiv hY hx hit
              generalize hM : w5.heap.size = M at *
              have HM := hide hM; clear hM
              have hMN : ¬ M = N := by omega
              have hNM : ¬ N = M := by omega
              have hMN1 : ¬ M + 1 = N := by omega
              have hNM1 : ¬ N = M + 1 := by omega
              go_wp2_with fail
              go_region_held3 (fun w' => w'.cell? ⟨M, 0, none⟩ = some (.slice (some ⟨b, o, none⟩) len cap) ∧ w'.cell? ⟨M, 1, none⟩ = some (.int .i64 Y.at_) ∧ w'.cell? ⟨M, 2, none⟩ = some (.int .i64 Y.k) ∧ w'.cell? ⟨M, 3, none⟩ = some (.int .i64 0) ∧ w'.cell? ⟨M + 1, 0, none⟩ = some (.int .u8 i.op) ∧ w'.cell? ⟨M + 1, 1, none⟩ = some (.int .i64 i.n) ∧ w'.cell? ⟨M + 1, 2, none⟩ = some (.int .u32 i.al) ∧ w'.cell? ⟨M + 1, 3, none⟩ = some (.int .u32 i.of) ∧ w'.cell? ⟨M + 1, 4, none⟩ = some (.int .u8 i.re) ∧ w'.cell? ⟨M + 1, 5, none⟩ = some (.slice ba bl bc) ∧ w'.cell? ⟨M + 1, 6, none⟩ = some (.slice ea el ec) ∧ w'.cell? ⟨M + 1, 7, none⟩ = some (.slice la ll lc))
                (first | go_keep | exact ⟨(hk1 0).trans e0, (hk1 1).trans e1, (hk1 2).trans e2, (hk1 3).trans e3, (hk2 0).trans g0, (hk2 1).trans g1, (hk2 2).trans g2, (hk2 3).trans g3, (hk2 4).trans g4, (hk2 5).trans g5, (hk2 6).trans g6, (hk2 7).trans g7⟩)
                (first | (refine step_append_lies _ (by rfl) _ _ _ (by rfl) (N + 2) 55 i0 (.agg #[.int .u8 0, .int .i64 0, .int .u32 0, .int .u32 0, .int .u8 0, .slice none 0 0, .slice none 0 0, .slice none 0 0]) 8 104 Tryd.underlying22 hi hz0 hz1 hz2 rfl (by decide) (.slice sa acc.length sc) acc.length xs (by rfl) (own_turn (unhide HX) (fun q hq => (unhide HB5W).block q (by have := ((unhide HX).lt q hq).2; have := unhide HM; omega))) ⟨w6.heap.size, 0, none⟩ 1 1 (cel i (.slice ba bl bc) (.slice ea el ec) (.slice la ll lc)) (by rfl) (by rfl) (new_cel w6.drew i _ _ _ _) (cel_one i ⟨_, _, _, rfl⟩ ⟨_, _, _, rfl⟩ ⟨_, _, _, rfl⟩) (by omega) (by unfold maxLen; omega) (by omega) (by have := unhide HZ6; have := unhide HM; simp; omega) (w6.heap.size + 1) (by simp) ?_
                          intro gg capn w7 hown7 hgrow hat7 hlt7
                          have hk1 : ∀ o', w7.cell? ⟨M, o', none⟩ = w6.cell? ⟨M, o', none⟩ := fun o' => (World.cell?_of_block (a := ⟨M, o', none⟩) (hgrow.block M (by have := unhide HZ6; simp; omega) (fun e => by have := ((unhide HX).lt M e.symm).2; have := unhide HM; omega))).trans ((unhide HA2).cell (p := ⟨M, o', none⟩) (by have := unhide HZ6; simp; omega))
                          have hk2 : ∀ o', w7.cell? ⟨M + 1, o', none⟩ = w6.cell? ⟨M + 1, o', none⟩ := fun o' => (World.cell?_of_block (a := ⟨M + 1, o', none⟩) (hgrow.block (M + 1) (by have := unhide HZ6; simp; omega) (fun e => by have := ((unhide HX).lt (M + 1) e.symm).2; have := unhide HM; omega))).trans ((unhide HA2).cell (p := ⟨M + 1, o', none⟩) (by have := unhide HZ6; simp; omega))
                          have hN7 : w7.heap[N]? = some (.cells #[.slice (some ⟨b, o, none⟩) len cap, .int .i64 ((p' + 1 : Nat) : Int), .int .i64 ((k' + 1 : Nat) : Int), .int .i64 0] 80 (0, 0)) := (hgrow.block N (by have := unhide HZ6; simp; omega) (fun e => by have := ((unhide HX).lt N e.symm).1; omega)).trans (((unhide HB5W).block N (by have := unhide HM; omega)).trans (unhide HR5).b0)
                          have hc7 := fun j => cell_of_row w7 N j _ _ _ hN7
                          have n0 : w7.cell? ⟨N, 0, none⟩ = some (.slice (some ⟨b, o, none⟩) len cap) := hc7 0
                          have n1 : w7.cell? ⟨N, 1, none⟩ = some (.int .i64 ((p' + 1 : Nat) : Int)) := hc7 1
                          have n2 : w7.cell? ⟨N, 2, none⟩ = some (.int .i64 ((k' + 1 : Nat) : Int)) := hc7 2
                          have n3 : w7.cell? ⟨N, 3, none⟩ = some (.int .i64 0) := hc7 3
                          have nf : ∀ i, w7.frozen? ⟨N, i, none⟩ = false := fun i => by simp [World.frozen?, hN7]
                          have HN7 := hide hN7
                          clear hN7 hc7))
              have hb1 : w7.heap[N + 1]? = some (.cells #[.slice none 0 0, .int .i64 0, .int .i64 0, .int .i64 0] 80 (0, 0)) := (hgrow.block (N + 1) (by have := unhide HZ6; simp; omega) (fun e => by have := ((unhide HX).lt (N + 1) e.symm).1; omega)).trans (((unhide HB5W).block (N + 1) (by have := unhide HM; omega)).trans (unhide HR5).b1)
              have hb7 : Below N w w7 := ((unhide HR5).bel.trans ((unhide HB5W).mono (by have := unhide HM; omega))).grown hgrow (by have := unhide HZ6; simp; omega) (fun q hq => by have := ((unhide HX).lt q hq).1; omega)
              have hsl := (unhide HX).lt
              have gown : ∀ q, w4.heap.size ≤ q → own (N + 2 ≤ ·) (.slice sa acc.length sc) q := fun q hq => ⟨fun e => by have := ((unhide HR).own.lt q e).2; have := unhide HZw; omega, by have := unhide HZw; show N + 2 ≤ q; omega⟩
              have hB5W : Below w5.heap.size w5 (w6.drew.alloc (.cells (cel i (.slice ba bl bc) (.slice ea el ec) (.slice la ll lc)).toArray 55)) := by rw [unhide HM]; exact unhide HB5W
              have hoc : OwnR w7 (N + 2) (N + 2 ≤ ·) (.slice (some ⟨gg, 0, none⟩) (acc.length + 1) capn) (acc ++ [i]) := OwnR.snoc (w := w6.drew.alloc (.cells (cel i (.slice ba bl bc) (.slice ea el ec) (.slice la ll lc)).toArray 55)) (H := w6.heap.size + 1) (own_turn (unhide HX) (fun q hq => (unhide HB5W).block q (by have := (hsl q hq).2; have := unhide HM; omega))) (Its.move (moves_below hB5W fun _ _ h => h) (unhide HIt)) (((unhide HCb).below hB5W).any fun q _ hq => gown q hq) (((unhide HCe).below hB5W).any fun q _ hq => gown q hq) (Labs.any (Labs.below (unhide HCl) hB5W) fun q _ hq => gown q hq) hown7 hgrow hat7 (by simp)
              obtain ⟨y0, y1, y2⟩ := put4r (unhide HN7) (.slice (some ⟨b, o, none⟩) len cap) (.int .i64 Y.at_) (.int .i64 Y.k) (.int .i64 0)
              have hlr8 : LR w N (some ⟨b, o, none⟩) len cap Y.at_ Y.k (.slice (some ⟨gg, 0, none⟩) (acc.length + 1) capn) (acc ++ [i]) ((((w7.setCell ⟨N, 0, none⟩ (.slice (some ⟨b, o, none⟩) len cap)).setCell ⟨N, 1, none⟩ (.int .i64 Y.at_)).setCell ⟨N, 2, none⟩ (.int .i64 Y.k)).setCell ⟨N, 3, none⟩ (.int .i64 0)) :=
                ⟨y0, (y1 (N + 1) (by omega)).trans hb1, y2 N w hb7 (Nat.le_refl _), hoc.move (fun q hq => y1 q (by have := (hoc.lt q hq).1; omega)) (fun q hq _ hg => ⟨hg, y1 q (by have : N + 2 ≤ q := hg.2; omega)⟩)⟩
              have HLR8 := hide hlr8
              have hfw := unhide HFw
              have hgd := (unhide HGd (unhide HYe)).2.2.2.2.1
              have hTE : TE zs nest me (D zs p k nest me) (acc ++ [i]) Y.at_ Y.k := by
                obtain ⟨t1, t2, t3⟩ := unhide HTE
                obtain ⟨z1, z2, z3, z4⟩ := unhide HY2 (unhide HYe)
                refine ⟨t1.trans z1, t2.trans z2, fun h0 => ?_⟩
                obtain ⟨t4, t5⟩ := t3 (z1.trans h0)
                refine ⟨t4.trans z3, ?_⟩
                rw [t5, z4 h0, ← unhide HIv]; simp
              have HTE8 := hide hTE
              clear hlr8 hTE y0 y1 y2 hb1 hb7 hsl gown hoc hown7 hgrow hat7 hlt7 hk1 hk2 n0 n1 n2 n3 nf e0 e1 e2 e3 g0 g1 g2 g3 g4 g5 g6 g7 hMN hNM hMN1 hNM1
              generalize ((((w7.setCell ⟨N, 0, none⟩ (.slice (some ⟨b, o, none⟩) len cap)).setCell ⟨N, 1, none⟩ (.int .i64 Y.at_)).setCell ⟨N, 2, none⟩ (.int .i64 Y.k)).setCell ⟨N, 3, none⟩ (.int .i64 0)) = w8 at *
              go_wp2
              go_roundg (gk - 1)
              case measure => omega
              case rel => exact ⟨acc ++ [i], Y.at_, Y.k, HLR8, by simp; omega, hfw.2, hgd, by omega, HTE8⟩
            · have tY : (Y.e != 0) = true := by simpa using hY
              obtain ⟨d0, d1, d2, d3⟩ := (unhide HR6).ds
              have f1 := (unhide HR6).f1; have hl6 := (unhide HR6).lt
              have HYe := hide hY
              clear hY g0 g1 g2 g3 g4 g5 g6 g7
              generalize w5.heap.size = M at *
              go_wp2
              refine bodyPost_ret (v := .tuple #[RV (some ⟨b, o, none⟩) len cap Y.at_ k2 Y.e, .slice none 0 0, .int .u8 0]) (by simp [results, Tryd.results36, go_sem, d0, d1, d2, d3, e0, e1, e2, e3, f1]) rfl ?_
              obtain ⟨t1, t2, t3⟩ := unhide HTE
              obtain ⟨z1, z2⟩ := unhide HY1 (unhide HYe)
              refine ⟨k2, .slice none 0 0, 0, by rw [t1, t2, z1, z2], ⟨_, _, _, rfl⟩, ?_, fun e => absurd ((t1.trans z1).symm.trans e) (unhide HYe)⟩
              rw [unhide HN]
              have hb := (unhide HR6).bel
              repeat' (with_reducible refine Below.setCell ?_ ?_ _)
              all_goals first | with_reducible assumption | (dsimp only; omega)
theorem listr_any : ∀ m, ListR m
  | 0 => fun a len cap p k nest me zs w hrow hl hp hc hk hn hm => by omega
  | m + 1 => listr_step (listr_any m)
end Ex
end Go.Proofs.YtjhmglefejclpaaDoor
