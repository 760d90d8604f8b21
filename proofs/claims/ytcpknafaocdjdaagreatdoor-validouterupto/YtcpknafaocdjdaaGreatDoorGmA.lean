/- The statements' kinds and one: bytes as kinds, an instruction as the program's. -/
import Derived.Test.YtcpknafaocdjdaaGreatDoorEzA
import Derived.Test.YtcpknafaocdjdaaGreatDoorOpF
namespace Go.Proofs.YtcpknafaocdjdaaGreatDoor
open Go.RowKit
namespace Ex
set_option linter.unusedVariables false

set_option maxRecDepth 100000 in
set_option maxHeartbeats 1600000 in
theorem kinds_any (a : Option Addr) (n cp : Nat) (zs : List Int) (w : World) (hr : Row w a n zs) (hn : n ≤ 1099511627776) :
    Calls Tryz.prog 20 #[.slice a n cp] w fun e w' => ∃ v, e = .returned v ∧ w'.ownsRow w.heap.size 60 1 v n (zs.map (Value.int .u8)) ∧ Below w.heap.size w w' := by
  obtain ⟨i0, hi, hz0, hz1, hz2⟩ := info_parts infoK
  obtain ⟨hl, hbd, hc⟩ := hr
  have HL := hide hl; have HC := hide hc; have HBd := hide hbd
  clear hl hbd hc
  generalize hB : w.heap.size = B at *
  have HB := hide hB; clear hB
  have n0 : (n : Int) ≤ 1099511627776 := by omega
  go_enter Tryz.func20, Tryz.ntmps20
  go_wp2_with fail
  go_loopw [3, 4] (fun s k wr => ∃ (j : Nat), k = .int .i64 (j : Int) ∧ j ≤ n ∧ wr.ownsRow B 60 1 s j ((zs.take j).map (Value.int .u8)) ∧ Below B w wr ∧ B ≤ wr.heap.size) (fun _ k _ => n - (intOf k).toNat)
  case atStart => exact ⟨0, rfl, by omega, by simpa using World.ownsRow_nil _ _ _ _, Below.refl _ _, by rw [unhide HB]; exact Nat.le_refl _⟩
  case round =>
    obtain ⟨j, rfl, hj, hown, hbel, hlt⟩ := hrel
    have HO := hide hown; have HBe := hide hbel; have HLt := hide hlt
    clear hown hlt
    by_cases hl2 : j < n
    · obtain ⟨b, o, rfl, hb, hcs⟩ := unhide HC (by omega)
      have cj : wr.cell? ⟨b, o + j, none⟩ = some (.int .u8 (zs.getD j 0)) := (hbel.cell (p := ⟨b, o + j, none⟩) hb).trans (hcs j hl2)
      have htk : zs.take (j + 1) = zs.take j ++ [zs.getD j 0] := by
        have hjl : j < zs.length := by rw [unhide HL]; exact hl2
        rw [List.take_succ_eq_append_getElem hjl]; simp [List.getD, hjl]
      have hj2 : (j : Int) < n := by omega
      have hbr : b < wr.heap.size := Nat.lt_of_lt_of_le hb (unhide HLt)
      have HTk := hide htk; have HJ := hide hj
      clear hcs hbel htk hj hl2 hb
      generalize zs.getD j 0 = c at *
      go_wp2_with (at_builtin; refine wpList_append_own _ rfl (.tmp 11) (.tmp 16) 64 rfl B 60 i0 (.int .u8 0) 1 1 Tryz.underlying64 hi hz0 hz1 hz2 rfl (by decide) u3 j ((zs.take j).map (Value.int .u8)) rfl ((unhide HO).alloc _) ⟨wr.heap.size, 0, none⟩ 1 1 [.int .u8 c] rfl rfl ?c1 ?c2 ?c3 ?c4 ?c5 ?_)
      case c1 => exact cell_one_new _ _ _
      case c2 => first | rfl | (intro u hu; simp at hu; subst hu; rfl)
      case c3 => unfold maxLen; omega
      case c4 => omega
      case c5 => have := unhide HLt; simp; omega
      intro v' w2 hown3 hgrow _
      have h1 : Below B w w2 := ((unhide HBe).alloc (unhide HLt) _).grown hgrow (by have := unhide HLt; have := unhide HB; simp; omega) (fun k hk => ((unhide HO).lt k hk).1)
      have h2 : w2.ownsRow B 60 1 v' (j + 1) ((zs.take (j + 1)).map (Value.int .u8)) := by
        rw [unhide HTk]; simpa using hown3
      have H1 := hide h1; have H2 := hide h2
      clear hown3 hgrow h1 h2 HO
      go_wp2
      go_roundw
      case rel => exact ⟨j + 1, by go_num, by omega, unhide H2, unhide H1, by have := (unhide H1).size; have := unhide HB; omega⟩
      case measure => simp [intOf]; omega
    · obtain rfl : j = n := by omega
      have htk : zs.take j = zs := List.take_of_length_le (by rw [unhide HL]; exact Nat.le_refl _)
      have HTk := hide htk
      clear hj hl2 hbel htk
      go_wp2
      go_ret
      exact ⟨_, rfl, by rw [← unhide HTk]; exact unhide HO, unhide HBe⟩
theorem cel8 {w : World} {B : Nat} {t : TypeId} {x0 x1 x2 x3 x4 x5 x6 x7 : Value} (h : w.heap[B]? = some (.cells #[x0, x1, x2, x3, x4, x5, x6, x7] t (0, 0))) :
    w.cell? ⟨B, 0, none⟩ = some x0 ∧ w.cell? ⟨B, 1, none⟩ = some x1 ∧ w.cell? ⟨B, 2, none⟩ = some x2 ∧ w.cell? ⟨B, 3, none⟩ = some x3 ∧ w.cell? ⟨B, 4, none⟩ = some x4 ∧ w.cell? ⟨B, 5, none⟩ = some x5 ∧ w.cell? ⟨B, 6, none⟩ = some x6 ∧ w.cell? ⟨B, 7, none⟩ = some x7 := by
  refine ⟨?_, ?_, ?_, ?_, ?_, ?_, ?_, ?_⟩ <;> (rw [cell_of_row w B _ _ _ _ h]; rfl)
theorem set8 {w : World} {B : Nat} {t : TypeId} {x0 x1 x2 x3 x4 x5 x6 x7 : Value} (h : w.heap[B]? = some (.cells #[x0, x1, x2, x3, x4, x5, x6, x7] t (0, 0))) (y0 y1 y2 y3 y4 y5 y6 y7 : Value) :
    ((((((((w.setCell ⟨B, 0, none⟩ y0).setCell ⟨B, 1, none⟩ y1).setCell ⟨B, 2, none⟩ y2).setCell ⟨B, 3, none⟩ y3).setCell ⟨B, 4, none⟩ y4).setCell ⟨B, 5, none⟩ y5).setCell ⟨B, 6, none⟩ y6).setCell ⟨B, 7, none⟩ y7).heap[B]? = some (.cells #[y0, y1, y2, y3, y4, y5, y6, y7] t (0, 0)) ∧
    (∀ k, k ≠ B → ((((((((w.setCell ⟨B, 0, none⟩ y0).setCell ⟨B, 1, none⟩ y1).setCell ⟨B, 2, none⟩ y2).setCell ⟨B, 3, none⟩ y3).setCell ⟨B, 4, none⟩ y4).setCell ⟨B, 5, none⟩ y5).setCell ⟨B, 6, none⟩ y6).setCell ⟨B, 7, none⟩ y7).heap[k]? = w.heap[k]?) := by
  have h0 : (w.setCell ⟨B, 0, none⟩ y0).heap[B]? = some (.cells #[y0, x1, x2, x3, x4, x5, x6, x7] t (0, 0)) := (heap_setCell_same _ B 0 _ _ y0 h).trans rfl
  have h1 : ((w.setCell ⟨B, 0, none⟩ y0).setCell ⟨B, 1, none⟩ y1).heap[B]? = some (.cells #[y0, y1, x2, x3, x4, x5, x6, x7] t (0, 0)) := (heap_setCell_same _ B 1 _ _ y1 h0).trans rfl
  have h2 : (((w.setCell ⟨B, 0, none⟩ y0).setCell ⟨B, 1, none⟩ y1).setCell ⟨B, 2, none⟩ y2).heap[B]? = some (.cells #[y0, y1, y2, x3, x4, x5, x6, x7] t (0, 0)) := (heap_setCell_same _ B 2 _ _ y2 h1).trans rfl
  have h3 : ((((w.setCell ⟨B, 0, none⟩ y0).setCell ⟨B, 1, none⟩ y1).setCell ⟨B, 2, none⟩ y2).setCell ⟨B, 3, none⟩ y3).heap[B]? = some (.cells #[y0, y1, y2, y3, x4, x5, x6, x7] t (0, 0)) := (heap_setCell_same _ B 3 _ _ y3 h2).trans rfl
  have h4 : (((((w.setCell ⟨B, 0, none⟩ y0).setCell ⟨B, 1, none⟩ y1).setCell ⟨B, 2, none⟩ y2).setCell ⟨B, 3, none⟩ y3).setCell ⟨B, 4, none⟩ y4).heap[B]? = some (.cells #[y0, y1, y2, y3, y4, x5, x6, x7] t (0, 0)) := (heap_setCell_same _ B 4 _ _ y4 h3).trans rfl
  have h5 : ((((((w.setCell ⟨B, 0, none⟩ y0).setCell ⟨B, 1, none⟩ y1).setCell ⟨B, 2, none⟩ y2).setCell ⟨B, 3, none⟩ y3).setCell ⟨B, 4, none⟩ y4).setCell ⟨B, 5, none⟩ y5).heap[B]? = some (.cells #[y0, y1, y2, y3, y4, y5, x6, x7] t (0, 0)) := (heap_setCell_same _ B 5 _ _ y5 h4).trans rfl
  have h6 : (((((((w.setCell ⟨B, 0, none⟩ y0).setCell ⟨B, 1, none⟩ y1).setCell ⟨B, 2, none⟩ y2).setCell ⟨B, 3, none⟩ y3).setCell ⟨B, 4, none⟩ y4).setCell ⟨B, 5, none⟩ y5).setCell ⟨B, 6, none⟩ y6).heap[B]? = some (.cells #[y0, y1, y2, y3, y4, y5, y6, x7] t (0, 0)) := (heap_setCell_same _ B 6 _ _ y6 h5).trans rfl
  have h7 : ((((((((w.setCell ⟨B, 0, none⟩ y0).setCell ⟨B, 1, none⟩ y1).setCell ⟨B, 2, none⟩ y2).setCell ⟨B, 3, none⟩ y3).setCell ⟨B, 4, none⟩ y4).setCell ⟨B, 5, none⟩ y5).setCell ⟨B, 6, none⟩ y6).setCell ⟨B, 7, none⟩ y7).heap[B]? = some (.cells #[y0, y1, y2, y3, y4, y5, y6, y7] t (0, 0)) := (heap_setCell_same _ B 7 _ _ y7 h6).trans rfl
  refine ⟨h7, fun k hk => ?_⟩
  rw [heap_setCell_other _ _ _ _ hk, heap_setCell_other _ _ _ _ hk, heap_setCell_other _ _ _ _ hk, heap_setCell_other _ _ _ _ hk, heap_setCell_other _ _ _ _ hk, heap_setCell_other _ _ _ _ hk, heap_setCell_other _ _ _ _ hk, heap_setCell_other _ _ _ _ hk]

theorem bel8 {B0 B : Nat} {w0 w : World} (h : Below B0 w0 w) (hB : B0 ≤ B) (y0 y1 y2 y3 y4 y5 y6 y7 : Value) : Below B0 w0 ((((((((w.setCell ⟨B, 0, none⟩ y0).setCell ⟨B, 1, none⟩ y1).setCell ⟨B, 2, none⟩ y2).setCell ⟨B, 3, none⟩ y3).setCell ⟨B, 4, none⟩ y4).setCell ⟨B, 5, none⟩ y5).setCell ⟨B, 6, none⟩ y6).setCell ⟨B, 7, none⟩ y7) :=
  ((((((((h.setCell (p := ⟨B, 0, none⟩) hB y0).setCell (p := ⟨B, 1, none⟩) hB y1).setCell (p := ⟨B, 2, none⟩) hB y2).setCell (p := ⟨B, 3, none⟩) hB y3).setCell (p := ⟨B, 4, none⟩) hB y4).setCell (p := ⟨B, 5, none⟩) hB y5).setCell (p := ⟨B, 6, none⟩) hB y6).setCell (p := ⟨B, 7, none⟩) hB y7)

set_option maxRecDepth 100000 in
set_option maxHeartbeats 3200000 in
theorem one_any (x : Ins) (g : Nat → Prop) (vb ve vl : Value) (w : World) (hg : ∀ k, g k → k < w.heap.size) (h1 : Code w g x.body vb) (h2 : Code w g x.els ve) (h3 : Lies g x.ls.length (Lab w x.ls) vl) (hs : SzI 1099511627776 x) :
    Calls Tryz.prog 22 #[.agg #[.int .u8 x.op, .int .i64 x.n, .int .u32 x.al, .int .u32 x.of, .int .u8 x.re, vb, ve, vl]] w fun e w' => ∃ vb' ve' vl', e = .returned (.agg #[.int .u8 x.op, .int .i64 x.n, .int .u32 x.al, .int .u32 x.of, .int .u8 x.re, vb', ve', vl']) ∧
      Code w' (gor g w.heap.size) x.body vb' ∧ Code w' (gor g w.heap.size) x.els ve' ∧ Lies (gor g w.heap.size) x.ls.length (Lab w' x.ls) vl' ∧ Below w.heap.size w w' := by
  have H1 := hide h1; have H2 := hide h2; have H3 := hide h3
  obtain ⟨c1, d1, rfl, _⟩ := h1
  obtain ⟨c2, d2, rfl, _⟩ := h2
  obtain ⟨c3, d3, rfl, _⟩ := h3
  obtain ⟨W, hW⟩ : ∃ W, ((w.alloc (.cells #[.int .u8 x.op, .int .i64 x.n, .int .u32 x.al, .int .u32 x.of, .int .u8 x.re, .slice c1 x.body.length d1, .slice c2 x.els.length d2, .slice c3 x.ls.length d3] 69)).alloc (.cells #[.int .u8 0, .int .i64 0, .int .u32 0, .int .u32 0, .int .u8 0, .slice none 0 0, .slice none 0 0, .slice none 0 0] 63)).alloc (.cells #[.int .u8 x.op, .int .i64 x.n, .int .u32 x.al, .int .u32 x.of, .int .u8 x.re, .slice c1 x.body.length d1, .slice c2 x.els.length d2, .slice c3 x.ls.length d3] 69) = W := ⟨_, rfl⟩
  have bW : Below w.heap.size w W := by rw [← hW]; exact (((Below.refl _ _).alloc (Nat.le_refl _) _).alloc (by simp) _).alloc (by simp; omega) _
  have sW : W.heap.size = w.heap.size + 3 := by rw [← hW]; simp
  have zW : W.heap[w.heap.size + 1]? = some (.cells #[.int .u8 0, .int .i64 0, .int .u32 0, .int .u32 0, .int .u8 0, .slice none 0 0, .slice none 0 0, .slice none 0 0] 63 (0, 0)) := by
    rw [← hW, Below.heap_alloc _ _ _ (by simp)]
    have := heap_alloc_new (w.alloc (.cells #[.int .u8 x.op, .int .i64 x.n, .int .u32 x.al, .int .u32 x.of, .int .u8 x.re, .slice c1 x.body.length d1, .slice c2 x.els.length d2, .slice c3 x.ls.length d3] 69)) (.cells #[.int .u8 0, .int .i64 0, .int .u32 0, .int .u32 0, .int .u8 0, .slice none 0 0, .slice none 0 0, .slice none 0 0] 63); simpa using this
  have rW : W.heap[w.heap.size + 2]? = some (.cells #[.int .u8 x.op, .int .i64 x.n, .int .u32 x.al, .int .u32 x.of, .int .u8 x.re, .slice c1 x.body.length d1, .slice c2 x.els.length d2, .slice c3 x.ls.length d3] 69 (0, 0)) := by
    rw [← hW]; have := heap_alloc_new ((w.alloc (.cells #[.int .u8 x.op, .int .i64 x.n, .int .u32 x.al, .int .u32 x.of, .int .u8 x.re, .slice c1 x.body.length d1, .slice c2 x.els.length d2, .slice c3 x.ls.length d3] 69)).alloc (.cells #[.int .u8 0, .int .i64 0, .int .u32 0, .int .u32 0, .int .u8 0, .slice none 0 0, .slice none 0 0, .slice none 0 0] 63)) (.cells #[.int .u8 x.op, .int .i64 x.n, .int .u32 x.al, .int .u32 x.of, .int .u8 x.re, .slice c1 x.body.length d1, .slice c2 x.els.length d2, .slice c3 x.ls.length d3] 69); simpa using this
  have hC : Code W (fun k => g k ∨ k = w.heap.size + 2) [x] (.slice (some ⟨w.heap.size + 2, 0, none⟩) 1 1) := by
    refine ⟨_, _, rfl, by simp, by simp, fun _ => ⟨_, _, rfl, .inr rfl, ?_⟩⟩
    rw [Items_cons]
    refine ⟨⟨_, _, _, cel8 rW, ?_, ?_, ?_⟩, Items_nil _ _ _ _⟩
    · exact ((unhide H1).below bW).any fun k _ h => .inl h
    · exact ((unhide H2).below bW).any fun k _ h => .inl h
    · exact Labs.any (Labs.below (unhide H3) bW) fun k _ h => .inl h
  have hG := give_any [x] (fun k => g k ∨ k = w.heap.size + 2) _ W (fun k hk => by rcases hk with h | h; have := hg k h; omega; omega) hC (by simp) (by rw [Sz_cons]; exact ⟨hs, Sz_nil _⟩)
  have HW := hide hW; have HBW := hide bW; have HSW := hide sW; have HZW := hide zW; have HG := hide hG
  clear hW bW sW zW rW hC hG hs H1 H2 H3
  go_enter Tryz.func22, Tryz.ntmps22
  go_wp2_with fail
  rw [unhide HW]
  refine (unhide HG).mono ?_
  rintro e w1 ⟨v1, rfl, hb1, ho1⟩
  have hc1 := ho1.code (g' := fun k => (g k ∨ k = w.heap.size + 2) ∨ w.heap.size + 3 ≤ k) fun k _ h => by
    rw [unhide HSW] at h
    rcases h with (h | h) | h
    · exact .inl h
    · exact .inr h
    · exact .inr h
  obtain ⟨a1, e1, rfl, hca1, _, hI⟩ := hc1
  obtain ⟨b1, o1, rfl, hgb, hit⟩ := hI (by simp)
  have hI0 := Items_get hit 0 (by simp)
  simp only [List.getElem_cons_zero, Nat.zero_mul, Nat.add_zero] at hI0
  obtain ⟨vb', ve', vl', hcel, k1, k2, k3⟩ := hI0
  have K1 := hide k1; have K2 := hide k2; have K3 := hide k3
  obtain ⟨f1, m1, rfl, _⟩ := k1
  obtain ⟨f2, m2, rfl, _⟩ := k2
  obtain ⟨f3, m3, rfl, _⟩ := k3
  obtain ⟨q0, q1, q2, q3, q4, q5, q6, q7⟩ := hcel
  have hlt1 := Items_lt hit (by simp)
  have hz1 := (hb1.block (w.heap.size + 1) (by rw [unhide HSW]; omega)).trans (unhide HZW)
  have hzl := (Array.getElem?_eq_some_iff.1 hz1).1
  have hne : ¬ b1 = w.heap.size + 1 := by
    rcases hgb with (h | h) | h
    · have := hg b1 h; omega
    · omega
    · omega
  obtain ⟨z0, z1, z2, z3, z4, z5, z6, z7⟩ := cel8 hz1
  have fz : ∀ j, w1.frozen? ⟨w.heap.size + 1, j, none⟩ = false := fun j => frozen_of_row w1 _ j _ _ hz1
  have hB1 := Below.on (unhide HBW) hb1
  have HB1 := hide hB1; have HZ1 := hide hz1; have HGg := hide hg
  simp only [List.length_cons, List.length_nil, Nat.zero_add] at hca1 ⊢
  clear hb1 ho1 hI hgb hit hz1 hB1 HG HBW HZW HW hg
  go_wp2
  obtain ⟨s1, s2⟩ := set8 (unhide HZ1) (.int .u8 x.op) (.int .i64 x.n) (.int .u32 x.al) (.int .u32 x.of) (.int .u8 x.re) (.slice f1 x.body.length m1) (.slice f2 x.els.length m2) (.slice f3 x.ls.length m3)
  have hB2 := bel8 (B := w.heap.size + 1) (unhide HB1) (by omega) (.int .u8 x.op) (.int .i64 x.n) (.int .u32 x.al) (.int .u32 x.of) (.int .u8 x.re) (.slice f1 x.body.length m1) (.slice f2 x.els.length m2) (.slice f3 x.ls.length m3)
  have hm : Moves w1 ((((((((w1.setCell ⟨w.heap.size + 1, 0, none⟩ (.int .u8 x.op)).setCell ⟨w.heap.size + 1, 1, none⟩ (.int .i64 x.n)).setCell ⟨w.heap.size + 1, 2, none⟩ (.int .u32 x.al)).setCell ⟨w.heap.size + 1, 3, none⟩ (.int .u32 x.of)).setCell ⟨w.heap.size + 1, 4, none⟩ (.int .u8 x.re)).setCell ⟨w.heap.size + 1, 5, none⟩ (.slice f1 x.body.length m1)).setCell ⟨w.heap.size + 1, 6, none⟩ (.slice f2 x.els.length m2)).setCell ⟨w.heap.size + 1, 7, none⟩ (.slice f3 x.ls.length m3)) (fun k => (g k ∨ k = w.heap.size + 2) ∨ w.heap.size + 3 ≤ k) (gor g w.heap.size) := by
    intro k hk _ hgk
    refine ⟨?_, s2 k ?_⟩
    · rcases hgk with (h | h) | h
      · exact .inl h
      · exact .inr (by omega)
      · exact .inr (by omega)
    · rcases hgk with (h | h) | h
      · have := unhide HGg k h; omega
      · omega
      · omega
  generalize ((((((((w1.setCell ⟨w.heap.size + 1, 0, none⟩ (.int .u8 x.op)).setCell ⟨w.heap.size + 1, 1, none⟩ (.int .i64 x.n)).setCell ⟨w.heap.size + 1, 2, none⟩ (.int .u32 x.al)).setCell ⟨w.heap.size + 1, 3, none⟩ (.int .u32 x.of)).setCell ⟨w.heap.size + 1, 4, none⟩ (.int .u8 x.re)).setCell ⟨w.heap.size + 1, 5, none⟩ (.slice f1 x.body.length m1)).setCell ⟨w.heap.size + 1, 6, none⟩ (.slice f2 x.els.length m2)).setCell ⟨w.heap.size + 1, 7, none⟩ (.slice f3 x.ls.length m3)) = W2 at *
  obtain ⟨r0, r1, r2, r3, r4, r5, r6, r7⟩ := cel8 s1
  refine bodyPost_ret (v := .agg #[.int .u8 x.op, .int .i64 x.n, .int .u32 x.al, .int .u32 x.of, .int .u8 x.re, .slice f1 x.body.length m1, .slice f2 x.els.length m2, .slice f3 x.ls.length m3]) (by simp [results, Tryz.results22, go_sem, r0, r1, r2, r3, r4, r5, r6, r7]) rfl ⟨_, _, _, rfl, (unhide K1).move hm, (unhide K2).move hm, Labs.move hm (unhide K3), hB2⟩
end Ex
end Go.Proofs.YtcpknafaocdjdaaGreatDoor
