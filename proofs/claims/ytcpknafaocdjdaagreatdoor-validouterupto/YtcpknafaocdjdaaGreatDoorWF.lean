/- valid: list, by what instr says of each of its instructions. -/
import Derived.Test.YtcpknafaocdjdaaGreatDoorWD
import Derived.Test.YtcpknafaocdjdaaGreatDoorWE

/- valid: apply. -/
namespace Go.Proofs.YtcpknafaocdjdaaGreatDoor
open Go.RowKit Go.Shelf
namespace Vw
set_option linter.unusedVariables false
set_option linter.unusedSimpArgs false
open Ex (Ins Lies)
open Gm (Mod Typ Byts)
attribute [local go_sem] Oper.semAt_some

theorem Wk.setOther {w : World} {N : Nat} {m : M8} {vl va vt : Value} {lo : List Int} {s : St} (h : Wk w N m vl lo va vt s) {q : Nat} {b0 : Bool} (hq : w.heap[q]? = some (.cells #[.bool b0] 4 (0, 0))) (v : Value) : Wk (w.setCell ⟨q, 0, none⟩ v) N m vl lo va vt s := by
  have keep : ∀ k, k ≠ q → (w.setCell ⟨q, 0, none⟩ v).heap[k]? = w.heap[k]? := fun k hk => heap_setCell_other w ⟨q, 0, none⟩ k v hk
  have own : ∀ {u : Value} {n : Nat} {xs : List Value}, w.ownsRow N 60 1 u n xs → (w.setCell ⟨q, 0, none⟩ v).ownsRow N 60 1 u n xs := fun {u n xs} ho => own_keep ho fun k hk => by
    rcases ho.2 with ⟨rfl, _⟩ | ⟨g, cap, cur, rfl, _, e3, _⟩
    · cases hk
    · cases hk; exact keep _ (fun e => by subst e; have := hq.symm.trans e3; simp at this)
  refine ⟨(keep N (fun e => by subst e; have := hq.symm.trans h.box; simp at this)).trans h.box, own h.la, own h.st, h.ap, ?_, h.hb⟩
  have hsz : w.heap.size ≤ (w.setCell ⟨q, 0, none⟩ v).heap.size := ((Below.refl 0 w).setCell (p := ⟨q, 0, none⟩) (Nat.zero_le _) v).size
  refine Ex.Lies.move h.lo fun hl b o hgd hp => ⟨⟨Nat.lt_of_lt_of_le hgd.1 hsz, hgd.2⟩, fun j hj => ?_⟩
  have hb : b ≠ q := by
    rintro rfl
    have h0 := hp 0 hl
    rw [cell_of_row w b _ _ _ _ hq] at h0
    rcases Nat.eq_zero_or_pos (o + 0) with e | e
    · rw [e] at h0; simp at h0
    · rw [Array.getElem?_eq_none (by simp; omega)] at h0; cases h0
  exact (World.cell?_of_block (a := ⟨b, o + j, none⟩) (keep b hb)).trans (hp j hj)
theorem Kq.fw {N : Nat} {w W : World} (h : Kq N w.heap.size w W) : Fw N w W := ⟨h.1, fun k hk hn _ => h.2.1 k hk hn, h.2.2⟩
theorem Kq.low {N : Nat} {w W0 W : World} (hB : Below w.heap.size w W0) (hN : N ≤ w.heap.size) (h : Kq N W0.heap.size W0 W) : Kq N w.heap.size w W :=
  ⟨(hB.mono hN).trans h.1, fun k hk hn => (h.2.1 k (Nat.lt_of_lt_of_le hk hB.size) hn).trans (hB.block k hk), fun c t e => h.2.2 c t ((hB.block N (Array.getElem?_eq_some_iff.1 e).1).trans e)⟩
theorem Fw.tail {N : Nat} {w W X : World} (h : Fw N w W) (hN : N ≤ w.heap.size) (hb : Below w.heap.size W X) : Fw N w X := ⟨h.lo.trans (hb.mono hN), fun k hk hn hu => (hb.block k hk).trans (h.hi k hk hn hu), fun c t e => let ⟨c1, e1, s1⟩ := h.sz c t e; ⟨c1, (hb.block N (Array.getElem?_eq_some_iff.1 e).1).trans e1, s1⟩⟩
theorem back_stops (F : Fence) (n : Nat) (h7 : F.fn 143) (hro : F.round = none) (hn : 1 ≤ n) (Bs N cap : Nat) (zs : List Int) (hs : zs.length ≤ 1048577) (ad : Option Addr) (w : World) (hBs : Bs < w.heap.size ∧ Bs ≠ N)
    (hL : Lies (fun b => b < w.heap.size ∧ b ≠ N) zs.length (Byts w zs) (.slice ad zs.length cap)) (hc0 : w.cell? ⟨Bs, 0, none⟩ = some (.slice ad zs.length cap)) :
    SeqStopsK F n Tryz.prog 143 #[.pointer (some ⟨Bs, 0, none⟩)] (fun x : Nat × Int => #[Value.int .i64 (x.1 : Int), Value.int .u8 x.2]) (Kq N w.heap.size) (fun ys => ys = kb zs zs.length zs.length)
      (fun pre => ∃ k, k ≤ zs.length ∧ pre = kb zs zs.length k) zs.length w := fun l J Jx W hW _ _ hY h0 =>
  back1_in F n h7 hro hn l Bs N w.heap.size cap zs hs ad hBs J Jx hY W (Ex.Lies.move hL fun hl b o hg hp => ⟨hg, fun j hj => (hW.cell (p := ⟨b, o + j, none⟩) hg.1).trans (hp j hj)⟩) ((hW.cell (p := ⟨Bs, 0, none⟩) hBs.1).trans hc0) h0

def ApI (N : Nat) (m : M8) (vl : Value) (lo : List Int) (va : Value) (s : St) (w0 : World) (pre : List (Nat × Int)) (W : World) : Prop :=
  (∃ s', tks (pre.map (·.2)) s = some s' ∧ s'.st.length ≤ s.st.length ∧ ∃ vt, Wk W N m vl lo va vt s') ∧ Kq N w0.heap.size w0 W
theorem ApI.own (N : Nat) (m : M8) (vl : Value) (lo : List Int) (va : Value) (s : St) (w0 : World) (hN : N < w0.heap.size) : OwnFrom w0.heap.size (ApI N m vl lo va s w0) := by
  intro pre W W' row h hg hr
  obtain ⟨⟨s', h1, h2, vt, h3⟩, h4⟩ := h
  exact ⟨⟨s', h1, h2, vt, h3.kept hg (fun r e => (hr r e).2)⟩, Kq_g h4 hN h4.1.size hg (fun r e => (hr r e).1)⟩

set_option maxRecDepth 100000 in
set_option maxHeartbeats 2000000 in
theorem apply_any {w : World} {N : Nat} {m : M8} {vl va vt : Value} {lo : List Int} {s : St} (h : Wk w N m vl lo va vt s) (hl : s.st.length ≤ 1099511627776) {t : Typ} {ad : Option Addr} {cap : Nat} (hp : Lies (fun b => b ≠ N) t.ps.length (Byts w t.ps) (.slice ad t.ps.length cap)) (hpl : t.ps.length ≤ 1048577) :
    Calls Tryz.prog 122 #[.pointer (some ⟨N, 0, none⟩), .agg #[.slice ad t.ps.length cap, .int .u8 t.re]] w fun e w' => Res N m vl lo w (app t s) e w' := by
  have hlt := h.lt
  obtain ⟨W0, hW0⟩ : ∃ W0, (((w.alloc (.cells #[.pointer (some ⟨N, 0, none⟩)] 169)).alloc (.cells #[.slice ad t.ps.length cap, .int .u8 t.re] 96)).alloc (.cells #[.bool false] 4)).alloc (.cells #[.slice ad t.ps.length cap] 64) = W0 := ⟨_, rfl⟩
  have z1 : (w.alloc (.cells #[.pointer (some ⟨N, 0, none⟩)] 169)).heap.size = w.heap.size + 1 := by simp
  have z2 : ((w.alloc (.cells #[.pointer (some ⟨N, 0, none⟩)] 169)).alloc (.cells #[.slice ad t.ps.length cap, .int .u8 t.re] 96)).heap.size = w.heap.size + 1 + 1 := by simp
  have z3 : (((w.alloc (.cells #[.pointer (some ⟨N, 0, none⟩)] 169)).alloc (.cells #[.slice ad t.ps.length cap, .int .u8 t.re] 96)).alloc (.cells #[.bool false] 4)).heap.size = w.heap.size + 1 + 1 + 1 := by simp
  have z4 : W0.heap.size = w.heap.size + 4 := by rw [← hW0]; simp
  have r0 : W0.heap[w.heap.size]? = some (.cells #[.pointer (some ⟨N, 0, none⟩)] 169 (0, 0)) := by
    rw [← hW0]
    exact (Below.heap_alloc _ _ _ (by omega)).trans ((Below.heap_alloc _ _ _ (by omega)).trans ((Below.heap_alloc _ _ _ (by omega)).trans (heap_alloc_new w _)))
  have r1 : W0.heap[w.heap.size + 1]? = some (.cells #[.slice ad t.ps.length cap, .int .u8 t.re] 96 (0, 0)) := by
    rw [← hW0]
    refine (Below.heap_alloc _ _ _ (by omega)).trans ((Below.heap_alloc _ _ _ (by omega)).trans ?_)
    rw [← z1]; exact heap_alloc_new _ _
  have r2 : W0.heap[w.heap.size + 1 + 1]? = some (.cells #[.bool false] 4 (0, 0)) := by
    rw [← hW0]
    refine (Below.heap_alloc _ _ _ (by omega)).trans ?_
    rw [← z2]; exact heap_alloc_new _ _
  have r3 : W0.heap[w.heap.size + 1 + 1 + 1]? = some (.cells #[.slice ad t.ps.length cap] 64 (0, 0)) := by
    rw [← hW0, ← z3]; exact heap_alloc_new _ _
  have hB0 : Below w.heap.size w W0 := by rw [← hW0]; exact ((((Below.refl _ w).alloc (Nat.le_refl _) _).alloc (by simp) _).alloc (by simp; omega) _).alloc (by simp; omega) _
  have hWk0 := h.below hB0
  have hp0 : Lies (fun b => b < W0.heap.size ∧ b ≠ N) t.ps.length (Byts W0 t.ps) (.slice ad t.ps.length cap) := Ex.Lies.move hp fun hl b o hg hp => ⟨⟨Nat.lt_of_lt_of_le (World.block_lt_of_cell? w _ (hp 0 hl)) hB0.size, hg⟩, fun j hj => (hB0.cell (p := ⟨b, o + j, none⟩) (World.block_lt_of_cell? w _ (hp j hj))).trans (hp j hj)⟩
  have c3 : W0.cell? ⟨w.heap.size + 1 + 1 + 1, 0, none⟩ = some (.slice ad t.ps.length cap) := by rw [cell_of_row W0 _ 0 _ _ _ r3]; rfl
  have n0 : w.heap.size ≠ N := by omega
  have n1 : w.heap.size + 1 ≠ N := by omega
  have n2 : w.heap.size + 1 + 1 ≠ N := by omega
  have n3 : w.heap.size + 1 + 1 + 1 ≠ N := by omega
  have hst := back_stops Fence.wide (9 - 1) trivial rfl (by omega) (w.heap.size + 1 + 1 + 1) N cap t.ps hpl ad W0 ⟨by omega, n3⟩ hp0 c3
  have cells : ∀ W, Kq N W0.heap.size W0 W → W.cell? ⟨w.heap.size, 0, none⟩ = some (.pointer (some ⟨N, 0, none⟩)) ∧ W.cell? ⟨w.heap.size + 1, 1, none⟩ = some (.int .u8 t.re) ∧ W.heap[w.heap.size + 1 + 1]? = some (.cells #[.bool false] 4 (0, 0)) := fun W hW => by
    refine ⟨?_, ?_, (hW.2.1 _ (by omega) n2).trans r2⟩
    · rw [cell_of_row W _ 0 _ _ _ ((hW.2.1 _ (by omega) n0).trans r0)]; rfl
    · rw [cell_of_row W _ 1 _ _ _ ((hW.2.1 _ (by omega) n1).trans r1)]; rfl
  have HSt := hide hst; have HC := hide cells; have HW := hide hW0; have HWk := hide hWk0; have HB0 := hide hB0; have HL := hide hl
  have Z4 := hide z4
  have hfin : app t s = (tks t.ps.reverse s).map fun s => ly s t.re := rfl
  have HFin := hide hfin
  clear h hp hp0 c3 hst cells hW0 hWk0 hB0 hl r0 r1 r2 r3 z1 z2 z3 z4 hpl hfin
  refine (callsIn_wide (n := 9)).1 ?_
  refine callsIn_of_wp_marks Tryz.func122 rfl trivial ?_ rfl
  simp only [Tryz.ntmps122, List.size_toArray, List.length_cons, List.length_nil, Nat.reduceAdd, Nat.reduceSub, Array.replicate_succ, Array.replicate_zero, List.push_toArray, List.append_toArray, List.nil_append, List.cons_append]
  gi_wp2_with (first | (refine ⟨trivial, ?_⟩; gi_at_call 138; refine (back_in Fence.wide _ trivial rfl _ _ _ _).mono ?_; rintro e w' ⟨rfl, rfl⟩))
  rw [unhide HW]
  refine wpIn_rangeFunc_ownG rfl (by omega) (gf := 143) (lb := #[.pointer (some ⟨w.heap.size + 1 + 1 + 1, 0, none⟩)]) rfl trivial (enters_of Tryz.func143 (by kernel_rfl) rfl)
    (unhide HSt) Kq_t (fun W l o o' hl ho _ _ => Kq_b (by have := unhide Z4; omega) W l o o' hl ho) (Below.refl _ _) (fun _ => rfl)
    (ApI N m vl lo va s W0)
    (fun c pre W => c = .ret ∧ tks (pre.map (·.2)) s = none ∧ Kq N w.heap.size w W ∧ W.cell? ⟨w.heap.size + 1 + 1, 0, none⟩ = some (.bool false))
    (ApI.own N m vl lo va s W0 (by have := unhide Z4; omega))
    (fun c pre X Y row hs hg hr => ⟨hs.1, hs.2.1, Kq_g hs.2.2.1 hlt hs.2.2.1.1.size hg (fun r e => by have := (hr r e).1; have := unhide Z4; omega), cell_kept hs.2.2.2 hg (fun r e => (hr r e).2)⟩)
    ⟨⟨s, rfl, Nat.le_refl _, _, unhide HWk⟩, Kq_r _ _ _⟩
    (fun x => { tmps := #[Value.pointer (some { block := N, off := 0 }), Value.agg #[Value.slice ad t.ps.length cap, Value.int IntKind.u8 t.re], Value.pointer (some { block := w.heap.size, off := 0 }),
          Value.pointer (some { block := w.heap.size + 1, off := 0 }), Value.pointer (some { block := w.heap.size + 1 + 1, off := 0 }), undef, Value.int .u8 x.2,
          Value.pointer (some { block := w.heap.size + 1, off := 0 }), Value.slice ad t.ps.length cap,
          Value.func (Fn.func 143) #[] #[Value.pointer (some { block := w.heap.size + 1 + 1 + 1, off := 0 })], Value.int .i64 (x.1 : Int), Value.int .u8 x.2,
          undef, undef, undef, undef, undef, undef, undef, undef], defers := [] }) ?assign ?body ?done ?stop
  case assign =>
    intro l x W K hK
    gi_wp2
    exact hK
  case body =>
    rintro l pre x W ⟨⟨s', h1, h2, vt', h3⟩, h4⟩ _
    obtain ⟨q0, q1, q2⟩ := unhide HC W h4
    have hT := take_any h3 (Nat.le_trans h2 (unhide HL)) x.2
    have htk : tks ((pre ++ [x]).map (·.2)) s = tk s' x.2 := by rw [List.map_append]; exact (tks_snoc _ _ _).trans (by rw [h1]; rfl)
    have hbx := h3.box
    have HT := hide hT; have HK := hide htk; have H4 := hide h4; have HX := hide hbx; have H2 := hide h2
    clear hT htk h4 h3 hbx q1 h2 h1
    cases ho : tk s' x.2 with
    | none =>
      rw [ho] at HT HK
      gi_wp2_with (first | (refine ⟨trivial, ?_⟩; gi_at_call 95; refine (callsIn_wide.2 (unhide HT)).mono ?_; rintro e W1 ⟨rfl, -, hf⟩; have HF := hide hf; have qq : W1.cell? ⟨w.heap.size + 1 + 1, 0, none⟩ = some (.bool false) := (by rw [cell_of_row W1 _ 0 _ _ _ ((hf.hi _ (Array.getElem?_eq_some_iff.1 q2).1 n2).trans q2)]; rfl); have qf : W1.frozen? ⟨w.heap.size + 1 + 1, 0, none⟩ = false := frozen_of_row W1 _ 0 _ _ ((hf.hi _ (Array.getElem?_eq_some_iff.1 q2).1 n2).trans q2); clear hf))
      refine ⟨(((unhide HF).others (unhide HX)).trans (KeepsOthers.setCell _ _ _)).from _, rfl, unhide HK, Kq_t (Kq_t (Kq.low (unhide HB0) (Nat.le_of_lt hlt) (unhide H4)) ((unhide HF).kq ?_)) ?_, World.cell?_setCell_same' _ _ _ (by rw [qq]; rfl)⟩
      · exact Nat.le_trans (unhide HB0).size (unhide H4).1.size
      · exact ⟨(Below.refl _ _).setCell (p := ⟨w.heap.size + 1 + 1, 0, none⟩) (by simp; omega) _, fun k hk hn => heap_setCell_other _ ⟨w.heap.size + 1 + 1, 0, none⟩ k _ (by simp; omega), fun c t e => ⟨c, (heap_setCell_other _ ⟨w.heap.size + 1 + 1, 0, none⟩ N _ (by simp; omega)).trans e, rfl⟩⟩
    | some s2 =>
      rw [ho] at HT HK
      have hlen := tk_len ho
      gi_wp2_with (first | (refine ⟨trivial, ?_⟩; gi_at_call 95; refine (callsIn_wide.2 (unhide HT)).mono ?_; rintro e W1 ⟨rfl, hw1, hf⟩; have HF := hide hf; have HW1 := hide (hw1 s2 rfl); clear hf hw1))
      obtain ⟨vt2, hw2⟩ := unhide HW1
      have hkq := (unhide HF).kq (n₀ := W0.heap.size) (unhide H4).1.size
      exact ⟨((unhide HF).others (unhide HX)).from _, hkq, ⟨s2, unhide HK, Nat.le_trans hlen (unhide H2), vt2, hw2⟩, Kq_t (unhide H4) hkq⟩
  case done =>
    rintro D ys W hD rfl ⟨⟨s', h1, h2, vt', h3⟩, h4⟩ hK
    obtain ⟨q0, q1, q2⟩ := unhide HC W h4
    have hrev : (kb t.ps t.ps.length t.ps.length).map (·.2) = t.ps.reverse := by rw [kb_rev _ _ (Nat.le_refl _)]; exact List.take_of_length_le (by simp)
    rw [hrev] at h1
    have happ : app t s = some (ly s' t.re) := by rw [unhide HFin, h1]; rfl
    have hY := lay_any h3 (Nat.le_trans h2 (unhide HL)) t.re
    have hl2 := (Array.getElem?_eq_some_iff.1 q2).1
    have HY := hide hY; have H4 := hide h4; have HBx := hide h3.box; have HA := hide happ; have HKD := hide hK; have HD := hide hD; have HQ2 := hide q2
    clear hY h4 h3 h1 h2 happ hrev hK hD q2
    gi_wp2_with (first | (refine ⟨trivial, ?_⟩; gi_at_call 131; refine (callsIn_wide.2 (unhide HY)).mono ?_; rintro e W4 ⟨rfl, hx4, hf4⟩; have HX4 := hide hx4; have HF4 := hide hf4; have q4 : W4.heap[w.heap.size + 1 + 1]? = some (.cells #[.bool false] 4 (0, 0)) := (hf4.hi _ hl2 n2 (fun c fr e => by have := (unhide HQ2).symm.trans e; simp at this)).trans (unhide HQ2); have HQ4 := hide q4; have qc : W4.cell? ⟨w.heap.size + 1 + 1, 0, none⟩ = some (.bool false) := (by rw [cell_of_row W4 _ 0 _ _ _ q4]; rfl); have qf : W4.frozen? ⟨w.heap.size + 1 + 1, 0, none⟩ = false := frozen_of_row W4 _ 0 _ _ q4; clear hx4 hf4 q4))
    have hK4 : W4.heap[D]? = some (.deferred (some [])) := ((unhide HF4).others (unhide HBx)).same D _ (unhide HKD) rfl
    have hK' := (KeepsOthers.setCell W4 ⟨w.heap.size + 1 + 1, 0, none⟩ (.bool true)).same D _ hK4 rfl
    refine ⟨by simp, .inl ⟨_, _, rfl, run_takeDeferred hK', ?_⟩⟩
    have hc5 := cell_kept (World.cell?_setCell_same' W4 ⟨w.heap.size + 1 + 1, 0, none⟩ (.bool true) (by rw [qc]; rfl)) (grownBy_putObj' _ D (.deferred none)) (fun r e => by cases e; exact ⟨_, hK', rfl⟩)
    refine ⟨.bool true, by simp [results, Tryz.results122, go_sem, hc5], ?_⟩
    have hkw : Kq N w.heap.size w W := Kq.low (unhide HB0) (Nat.le_of_lt hlt) (unhide H4)
    refine ⟨by rw [unhide HA]; rfl, fun s'' e => ?_, ?_⟩
    · rw [unhide HA] at e
      cases e
      obtain ⟨va4, vt4, hw4⟩ := unhide HX4
      exact ⟨va4, vt4, (hw4.setOther (unhide HQ4) (.bool true)).kept (grownBy_putObj' _ D (.deferred none)) (fun r e => by cases e; exact ⟨_, hK', rfl⟩)⟩
    · refine (Fw.on hkw.fw (unhide HF4)).tail (Nat.le_of_lt hlt) ?_
      refine Below.trans ((Below.refl w.heap.size W4).setCell (p := ⟨w.heap.size + 1 + 1, 0, none⟩) (by simp; omega) (.bool true)) ?_
      exact belowK_b (w := w) (Nat.le_refl _) _ D _ _ (by have := unhide HD; have := unhide Z4; omega) hK' rfl rfl
  case stop =>
    rintro D c pre W hD ⟨k, hk, rfl⟩ ⟨rfl, htn, hkq, hcr⟩ hK
    have happ : app t s = none := by
      rw [unhide HFin]
      rw [kb_rev _ _ hk] at htn
      rw [← List.take_append_drop k t.ps.reverse, tks_none htn]; rfl
    have HA := hide happ
    gi_wp2
    refine ⟨by simp, .inl ⟨_, _, rfl, run_takeDeferred hK, ?_⟩⟩
    have hc5 := cell_kept hcr (grownBy_putObj' _ D (.deferred none)) (fun r e => by cases e; exact ⟨_, hK, rfl⟩)
    refine ⟨.bool false, by simp [results, Tryz.results122, go_sem, hc5], ?_, ?_, ?_⟩
    · rw [unhide HA]; rfl
    · intro s'' e; rw [unhide HA] at e; cases e
    exact (Kq_t hkq (Kq_b hlt W D _ _ (by have := unhide Z4; omega) hK)).fw
end Vw
end Go.Proofs.YtcpknafaocdjdaaGreatDoor

/- valid: one instruction that opens no block, by what sign says of it. -/
namespace Go.Proofs.YtcpknafaocdjdaaGreatDoor
open Go.RowKit Go.Shelf
namespace Vw
set_option linter.unusedVariables false
set_option linter.unusedSimpArgs false
open Ex (Ins Lies Lab)
open Gm (Mod Typ Byts ModL WfM)
theorem tks_len : ∀ (l : List Int) (s s' : St), tks l s = some s' → s'.st.length ≤ s.st.length ∧ s'.ben = s.ben ∧ s'.la = s.la
  | [], s, s', h => by cases h; exact ⟨Nat.le_refl _, rfl, rfl⟩
  | k :: r, s, s', h => by
    have h' : (tk s k).bind (tks r) = some s' := h
    obtain ⟨s1, h1, h2⟩ := Option.bind_eq_some_iff.1 h'
    have a := tk_len h1
    have b := tks_len r s1 s' h2
    have c : s1.ben = s.ben ∧ s1.la = s.la := by
      unfold tk at h1; split at h1
      · cases h1; exact ⟨rfl, rfl⟩
      · split at h1
        · cases h1; unfold tkA; split <;> exact ⟨rfl, rfl⟩
        · cases h1
    exact ⟨Nat.le_trans b.1 a, b.2.1.trans c.1, b.2.2.trans c.2⟩
theorem ly_len (s : St) (k : Int) : (ly s k).st.length ≤ s.st.length + 1 ∧ (ly s k).ben = s.ben ∧ (ly s k).la = s.la := by
  unfold ly; split
  · exact ⟨Nat.le_succ _, rfl, rfl⟩
  · exact ⟨by simp, rfl, rfl⟩
theorem app_len {t : Typ} {s s' : St} (h : app t s = some s') : s'.st.length ≤ s.st.length + 1 ∧ s'.ben = s.ben ∧ s'.la = s.la := by
  unfold app at h
  obtain ⟨s1, h1, rfl⟩ := Option.map_eq_some_iff.1 h
  have a := tks_len _ _ _ h1
  have b := ly_len s1 t.re
  exact ⟨by omega, b.2.1.trans a.2.1, b.2.2.trans a.2.2⟩
/-- an instruction's box of eight cells -/
def i8 (i : Ins) (vb ve vx : Value) : Array Value := #[.int .u8 i.op, .int .i64 i.n, .int .u32 i.al, .int .u32 i.of, .int .u8 i.re, vb, ve, vx]
/-- behind: what goes off -/
theorem Wk.off {w : World} {N : Nat} {m : M8} {vl va : Value} {a : Option Addr} {c n : Nat} {lo : List Int} {s : St} (h : Wk w N m vl lo va (.slice a n c) s) :
    Wk ((w.setCell ⟨N, 12, none⟩ (.bool true)).setCell ⟨N, 10, none⟩ (.slice a s.ben c)) N m vl lo va (.slice a s.ben c) { s with beh := true, st := s.st.take s.ben } := by
  have h1 : Wk (w.setCell ⟨N, 12, none⟩ (.bool true)) N m vl lo va (.slice a n c) { s with beh := true } :=
    h.rebox (Fb.set 12 _) ((heap_setCell_same w N 12 _ _ _ h.box).trans rfl) h.la h.st rfl rfl h.hb
  exact h1.cut s.ben h.hb (Nat.le_refl _)
theorem Fb.set2 {N : Nat} {w : World} (j k : Nat) (v u : Value) : Fb N w ((w.setCell ⟨N, j, none⟩ v).setCell ⟨N, k, none⟩ u) := (Fb.set j v).on (Fb.set k u)
/-- what sign says of an instruction, in every world where the walk stands at s -/
def SgnOk (w0 : World) (N : Nat) (M : Mod) (m : M8) (vl : Value) (lo : List Int) (s : St) (i : Ins) (vb ve vx : Value) : Prop :=
  ∀ W va vt, Below N w0 W → Wk W N m vl lo va vt s → Calls Tryz.prog 121 #[.pointer (some ⟨N, 0, none⟩), .agg #[.int .u8 i.op, .int .i64 i.n, .int .u32 i.al, .int .u32 i.of, .int .u8 i.re, vb, ve, vx]] W fun e w' => SgP N (sig M lo s.la i) e w' ∧ Below W.heap.size W w'

set_option maxRecDepth 100000 in
set_option maxHeartbeats 3200000 in
theorem flat_any {w0 w : World} {N : Nat} {M : Mod} {m : M8} {vl va vt : Value} {lo : List Int} {s : St} (hw : Below N w0 w) (h : Wk w N m vl lo va vt s) (hl : s.st.length < 1099511627776) (i : Ins) (ba : Option Addr) (bl bc : Nat) (ea : Option Addr) (el ec : Nat) (xa : Option Addr) (xl xc : Nat) (hop : 0 ≤ i.op ∧ i.op ≤ 255)
    (hS : SgnOk w0 N M m vl lo s i (.slice ba bl bc) (.slice ea el ec) (.slice xa xl xc)) (hps : ∀ t, sig M lo s.la i = some t → t.ps.length ≤ 1048577) (hno : i.op ≠ 26 ∧ i.op ≠ 27 ∧ i.op ≠ 2 ∧ i.op ≠ 3 ∧ i.op ≠ 4) :
    Calls Tryz.prog 94 #[.pointer (some ⟨N, 0, none⟩), .agg #[.int .u8 i.op, .int .i64 i.n, .int .u32 i.al, .int .u32 i.of, .int .u8 i.re, .slice ba bl bc, .slice ea el ec, .slice xa xl xc]] w fun e w' => Res N m vl lo w (flat M lo i s) e w' := by
  have hlt := h.lt
  obtain ⟨W0, hW0⟩ : ∃ W0, w.alloc (.cells #[.int .u8 i.op, .int .i64 i.n, .int .u32 i.al, .int .u32 i.of, .int .u8 i.re, .slice ba bl bc, .slice ea el ec, .slice xa xl xc] 63) = W0 := ⟨_, rfl⟩
  have hB0 : Below w.heap.size w W0 := by rw [← hW0]; exact one_al _ _
  have hr0 : W0.heap[w.heap.size]? = some (.cells #[.int .u8 i.op, .int .i64 i.n, .int .u32 i.al, .int .u32 i.of, .int .u8 i.re, .slice ba bl bc, .slice ea el ec, .slice xa xl xc] 63 (0, 0)) := by rw [← hW0]; exact heap_alloc_new _ _
  obtain ⟨c0, c1, c2, c3, c4, c5, c6, c7⟩ := Ex.cel8 hr0
  have h0 := h.below hB0
  have hsg := hS W0 va vt (hw.trans (hB0.mono (Nat.le_of_lt hlt))) h0
  have o1 : (i.op == 26) = false := by simpa using hno.1
  have o2 : (i.op == 27) = false := by simpa using hno.2.1
  have o3 : (i.op == 2) = false := by simpa using hno.2.2.1
  have o4 : (i.op == 3) = false := by simpa using hno.2.2.2.1
  have o5 : (i.op == 4) = false := by simpa using hno.2.2.2.2
  have hl0 : w.heap.size < W0.heap.size := (Array.getElem?_eq_some_iff.1 hr0).1
  have hgo := fun W => goes_any i.op W hop.1
  have HS := hide hsg; have HW := hide hW0; have HB0 := hide hB0; have H0 := hide h0; have HI := hide hr0; have HGo := hide hgo; have HPs := hide hps
  have HL := hide hl
  clear h h0 hS hsg hW0 hB0 hr0 hw hno hgo hps hl
  cases hs : sig M lo s.la i with
  | none =>
    have hf : flat M lo i s = none := by unfold flat; rw [hs]; rfl
    rw [hf]
    rw [hs] at HS
    clear hs hf HPs
    go_enter Tryz.func94, Tryz.ntmps94
    go_wp2_with fail
    rw [unhide HW]
    refine (unhide HS).mono ?_
    rintro e w1 ⟨⟨pa, pl, pc, r, rfl, -⟩, hb1⟩
    have HB1 := hide (Below.on0 (unhide HB0) hb1 (unhide HB0).size)
    clear hb1 HS HW c0 c1 c2 c3 c4 c5 c6 c7
    go_wp2
    go_ret
    exact ⟨rfl, nofun, Fw.of ((unhide HB1).alloc (unhide HB1).size _) (Nat.le_of_lt hlt)⟩
  | some t =>
    have hf : flat M lo i s = (app t s).map fun s => if goes i.op then { s with beh := true, st := s.st.take s.ben } else s := by unfold flat; rw [hs]; rfl
    rw [hs] at HS
    have hpl := unhide HPs t hs
    clear hs HPs
    have HF := hide hf
    clear hf
    go_enter Tryz.func94, Tryz.ntmps94
    go_wp2_with fail
    rw [unhide HW]
    refine (unhide HS).mono ?_
    rintro e w1 ⟨⟨pa, pl, pc, r, rfl, hTP⟩, hb1⟩
    obtain ⟨pa', pc', e', hps⟩ := hTP t rfl
    simp at e'
    obtain ⟨⟨rfl, rfl, rfl⟩, rfl⟩ := e'
    have h1 := (unhide H0).below hb1
    obtain ⟨W2, hW2⟩ : ∃ W2, w1.alloc (.cells #[.slice pa t.ps.length pc, .int .u8 t.re] 96) = W2 := ⟨_, rfl⟩
    have hb2 : Below w1.heap.size w1 W2 := by rw [← hW2]; exact one_al _ _
    have hr2 : W2.heap[w1.heap.size]? = some (.cells #[.slice pa t.ps.length pc, .int .u8 t.re] 96 (0, 0)) := by rw [← hW2]; exact heap_alloc_new _ _
    obtain ⟨t0, t1⟩ := Gm.cel2 hr2
    have h2 := h1.below hb2
    have hap := apply_any h2 (Nat.le_of_lt (unhide HL)) (t := t) (Ex.Lies.move hps fun _ b o hg hp => ⟨hg, fun j hj => (hb2.cell (p := ⟨b, o + j, none⟩) (World.block_lt_of_cell? w1 _ (hp j hj))).trans (hp j hj)⟩) hpl
    have hi2 := (hb2.block w.heap.size (by have := hb1.size; omega)).trans ((hb1.block w.heap.size hl0).trans (unhide HI))
    have hF2 : Fw N w W2 := Fw.of (Below.on0 (Below.on0 (unhide HB0) hb1 (unhide HB0).size) hb2 (Below.on0 (unhide HB0) hb1 (unhide HB0).size).size) (Nat.le_of_lt hlt)
    have HAp := hide hap; have HW2 := hide hW2; have HI2 := hide hi2; have HF2 := hide hF2
    have hl2 : w.heap.size < W2.heap.size := (Array.getElem?_eq_some_iff.1 hi2).1
    clear hb1 hb2 hps h1 h2 hap hW2 hr2 hi2 hF2 HS HW HB0 H0 HI c0 c1 c2 c3 c4 c5 c6 c7
    go_upto_region 14 with fail
    rw [unhide HW2]
    cases hA : app t s with
    | none =>
      have hf : flat M lo i s = none := by rw [unhide HF, hA]; rfl
      rw [hA] at HAp
      have HFn := hide hf
      clear hA hf HF
      go_wp2_with fail
      refine (unhide HAp).mono ?_
      rintro e w3 ⟨rfl, -, hf3⟩
      have HF3 := hide (Fw.on (unhide HF2) hf3)
      clear hf3 HAp HF2
      go_wp2
      go_ret
      rw [unhide HFn]
      exact ⟨rfl, nofun, unhide HF3⟩
    | some s1 =>
      rw [hA] at HAp
      have hf : flat M lo i s = some (if goes i.op then { s1 with beh := true, st := s1.st.take s1.ben } else s1) := by rw [unhide HF, hA]; rfl
      have HFn := hide hf
      clear hA hf HF
      go_wp2_with fail
      refine (unhide HAp).mono ?_
      rintro e w3 ⟨rfl, hx3, hf3⟩
      obtain ⟨va3, vt3, hw3⟩ := hx3 s1 rfl
      have hi3 := (hf3.hi w.heap.size hl2 (by omega) (fun c fr e => by have := (unhide HI2).symm.trans e; simp at this)).trans (unhide HI2)
      have d0 := (Ex.cel8 hi3).1
      have HF3 := hide (Fw.on (unhide HF2) hf3)
      have HW3 := hide hw3
      clear hf3 HAp HF2 hx3 hi3 hw3 HI2
      go_wp2_with fail
      refine (unhide HGo _).mono ?_
      rintro e w4 ⟨rfl, rfl⟩
      clear HGo d0
      cases hg : goes i.op with
      | false =>
        have HG := hide hg; clear hg
        go_wp2
        go_ret
        rw [unhide HFn, unhide HG]
        exact ⟨rfl, fun s' e => by cases e; exact ⟨_, _, unhide HW3⟩, unhide HF3⟩
      | true =>
        have HG := hide hg; clear hg
        have hw3 := unhide HW3
        obtain ⟨ta, tc, rfl, htc⟩ := slice_of hw3.st
        obtain ⟨b8, b9, b10, b11, b12, b13, b14⟩ := hw3.box.cells
        have fr := hw3.box.fr
        have hoff := hw3.off
        have hw5 : Wk (w4.setCell ⟨N, 12, none⟩ (.bool true)) N m vl lo va3 (.slice ta s1.st.length tc) { s1 with beh := true } :=
          hw3.rebox (Fb.set 12 _) ((heap_setCell_same w4 N 12 _ _ _ hw3.box).trans rfl) hw3.la hw3.st rfl rfl hw3.hb
        have hbn : (s1.ben : Int) ≤ (tc : Int) := by have := hw3.hb; omega
        have hbn0 : (0 : Int) ≤ (s1.ben : Int) := by omega
        have HOff := hide hoff; have HW5 := hide hw5
        clear hw3 hoff b8 b9 b10 b11 b13 b14 htc hw5 HW3
        go_upto_region 18 with fail
        obtain ⟨W5, hW5⟩ : ∃ W5, w4.setCell ⟨N, 12, none⟩ (.bool true) = W5 := ⟨_, rfl⟩
        rw [hW5]
        have hw5 := unhide HW5
        have hoff := unhide HOff
        rw [hW5] at hw5 hoff
        have hF5 : Fw N w W5 := Fw.on (unhide HF3) (by rw [← hW5]; exact (Fb.set 12 _).fw)
        obtain ⟨p8, p9, p10, p11, p12, p13, p14⟩ := hw5.box.cells
        have fr5 := hw5.box.fr
        have p11' : W5.cell? ⟨N, 11, none⟩ = some (.int .i64 (s1.ben : Int)) := p11
        have HOff5 := hide hoff; have HF5 := hide hF5
        clear p8 p9 p11 p12 p13 p14 hw5 hoff hF5 hW5 HW5 HOff b12 fr HF3
        generalize s1.st.length = SL at *
        go_region
        go_wp2
        go_ret
        rw [unhide HFn, unhide HG]
        refine ⟨rfl, fun s' e => ?_, (Fw.on (unhide HF5) (Fb.set 10 _).fw).tail (Nat.le_of_lt hlt) ((drew_b _).mono ?_)⟩
        · cases e
          exact ⟨_, _, (unhide HOff5).below (drew_b _)⟩
        · exact Nat.le_trans (unhide HF5).lo.size (Fb.set (N := N) 10 _).lo.size
end Vw
end Go.Proofs.YtcpknafaocdjdaaGreatDoor

/- valid: list, by what instr says of each of its instructions. -/
namespace Go.Proofs.YtcpknafaocdjdaaGreatDoor
open Go.RowKit Go.Shelf
namespace Vw
set_option linter.unusedVariables false
set_option linter.unusedSimpArgs false
open Ex (Ins Lies Lab cnt ItemAt Items)
open Gm (Mod Typ Byts ModL WfM)
theorem ins_app (M : Mod) (lo : List Int) (a b : List Ins) : ∀ s, ins M lo (a ++ b) s = (ins M lo a s).bind (ins M lo b) := by
  induction a with
  | nil => intro s; rw [ins_nil]; rfl
  | cons i r ih =>
    intro s
    rw [List.cons_append, ins_cons, ins_cons]
    cases ins1 M lo i s with
    | none => rfl
    | some s1 => exact ih s1
theorem ins_take {M : Mod} {lo : List Int} {l : List Ins} {k : Nat} (hk : k < l.length) (s : St) : ins M lo (l.take (k + 1)) s = (ins M lo (l.take k) s).bind (ins1 M lo l[k]) := by
  rw [List.take_succ_eq_append_getElem hk, ins_app]
  cases ins M lo (l.take k) s with
  | none => rfl
  | some s1 => show ins M lo [l[k]] s1 = ins1 M lo l[k] s1; rw [ins_cons]; cases ins1 M lo l[k] s1 with
    | none => rfl
    | some s2 => exact ins_nil M lo s2
theorem ins_stop {M : Mod} {lo : List Int} {l : List Ins} {k : Nat} (s : St) (h : ins M lo (l.take k) s = none) : ins M lo l s = none := by
  rw [← List.take_append_drop k l, ins_app, h]; rfl
theorem cnt_take (l : List Ins) (k : Nat) : cnt (l.take k) + cnt (l.drop k) = cnt l := by rw [← Ex.cnt_app, List.take_append_drop]
theorem cnt_at {l : List Ins} {k : Nat} (hk : k < l.length) : cnt (l.drop k) = 1 + cnt l[k].body + cnt l[k].els + cnt (l.drop (k + 1)) := by
  rw [List.drop_eq_getElem_cons hk, Ex.cnt_cons]
/-- the three cells of the scope written -/
theorem Wk.scope {w : World} {N : Nat} {m : M8} {vl va vt : Value} {lo : List Int} {s : St} (h : Wk w N m vl lo va vt s) (bn : Nat) (bh wt : Bool) (hb : bn ≤ s.st.length) :
    Wk (((w.setCell ⟨N, 11, none⟩ (.int .i64 (bn : Int))).setCell ⟨N, 12, none⟩ (.bool bh)).setCell ⟨N, 13, none⟩ (.bool wt)) N m vl lo va vt { s with ben := bn, beh := bh, wit := wt } := by
  have h1 : Wk (w.setCell ⟨N, 11, none⟩ (.int .i64 (bn : Int))) N m vl lo va vt { s with ben := bn } := h.rebox (Fb.set 11 _) ((heap_setCell_same w N 11 _ _ _ h.box).trans rfl) h.la h.st rfl rfl hb
  have h2 : Wk ((w.setCell ⟨N, 11, none⟩ (.int .i64 (bn : Int))).setCell ⟨N, 12, none⟩ (.bool bh)) N m vl lo va vt { s with ben := bn, beh := bh } := h1.rebox (Fb.set 12 _) ((heap_setCell_same _ N 12 _ _ _ h1.box).trans rfl) h1.la h1.st rfl rfl h1.hb
  exact h2.rebox (Fb.set 13 _) ((heap_setCell_same _ N 13 _ _ _ h2.box).trans rfl) h2.la h2.st rfl rfl h2.hb
theorem Fb.set3 {N : Nat} {w : World} (i j k : Nat) (v u x : Value) : Fb N w (((w.setCell ⟨N, i, none⟩ v).setCell ⟨N, j, none⟩ u).setCell ⟨N, k, none⟩ x) := ((Fb.set i v).on (Fb.set j u)).on (Fb.set k x)
theorem moves_low {w0 W : World} {N : Nat} (h : Below N w0 W) : Ex.Moves w0 W (fun b => b < N) (fun b => b < N) := fun k _ _ hg => ⟨hg, h.block k hg⟩
theorem tk_keep {s s' : St} {k : Int} (h : tk s k = some s') : s'.la = s.la ∧ s'.ben = s.ben := by
  unfold tk at h; split at h
  · cases h; exact ⟨rfl, rfl⟩
  · split at h
    · cases h; unfold tkA; split <;> exact ⟨rfl, rfl⟩
    · cases h
/-- what instr says of an instruction -/
def InOk (w0 : World) (N : Nat) (M : Mod) (m : M8) (vl : Value) (lo : List Int) (i : Ins) : Prop :=
  ∀ W va vt s ba bc ea ec xa xc, Below N w0 W → Wk W N m vl lo va vt s → s.la ≠ [] → s.st.length + (1 + cnt i.body + cnt i.els) < 1099511627776 → s.la.length + (1 + cnt i.body + cnt i.els) < 1099511627776 →
    Ex.Code w0 (fun b => b < N) i.body (.slice ba i.body.length bc) → Ex.Code w0 (fun b => b < N) i.els (.slice ea i.els.length ec) → Lies (fun b => b < N) i.ls.length (Lab w0 i.ls) (.slice xa i.ls.length xc) →
    Calls Tryz.prog 94 #[.pointer (some ⟨N, 0, none⟩), .agg #[.int .u8 i.op, .int .i64 i.n, .int .u32 i.al, .int .u32 i.of, .int .u8 i.re, .slice ba i.body.length bc, .slice ea i.els.length ec, .slice xa i.ls.length xc]] W fun e w' => Res N m vl lo W (ins1 M lo i s) e w'
/-- what an instruction does to heights -/
def Keeps (M : Mod) (lo : List Int) (i : Ins) : Prop := ∀ s s', s.ben ≤ s.st.length → ins1 M lo i s = some s' → s'.st.length ≤ s.st.length + 1 ∧ s'.la = s.la ∧ s'.ben = s.ben

set_option maxRecDepth 100000 in
set_option maxHeartbeats 3200000 in
theorem list_any {w0 w : World} {N : Nat} {M : Mod} {m : M8} {vl va vt : Value} {lo : List Int} {s : St} {l : List Ins} {a : Option Addr} {c : Nat} (hw : Below N w0 w) (h : Wk w N m vl lo va vt s) (hl : s.st.length + cnt l + 1 < 1099511627776) (hla : s.la.length + cnt l + 1 < 1099511627776)
    (hC : Ex.Code w0 (fun b => b < N) l (.slice a l.length c)) (hI : ∀ i ∈ l, InOk w0 N M m vl lo i ∧ Keeps M lo i) (hNw : N < w0.heap.size) (label result : Int) :
    Calls Tryz.prog 58 #[.pointer (some ⟨N, 0, none⟩), .slice a l.length c, .int .u8 label, .int .u8 result] w fun e w' => Res N m vl lo w (blk (fun s => ins M lo l s) label result s) e w' := by
  have hlt := h.lt
  obtain ⟨i0, hi0, hz0, hz1, hz2⟩ := info_parts infoK
  have HBn0 := hide h.hb
  obtain ⟨ta, tc, rfl, -⟩ := slice_of h.st
  obtain ⟨aa, ac, rfl, -⟩ := slice_of h.la
  -- the outer scope's box
  obtain ⟨W0, hW0⟩ : ∃ W0, w.alloc (.cells #[.int .i64 (s.ben : Int), .bool s.beh, .bool s.wit] 136) = W0 := ⟨_, rfl⟩
  have hB0 : Below w.heap.size w W0 := by rw [← hW0]; exact one_al _ _
  have hr0 : W0.heap[w.heap.size]? = some (.cells #[.int .i64 (s.ben : Int), .bool s.beh, .bool s.wit] 136 (0, 0)) := by rw [← hW0]; exact heap_alloc_new _ _
  have e0 : W0.cell? ⟨w.heap.size, 0, none⟩ = some (.int .i64 (s.ben : Int)) := by rw [cell_of_row W0 _ 0 _ _ _ hr0]; rfl
  have e1 : W0.cell? ⟨w.heap.size, 1, none⟩ = some (.bool s.beh) := by rw [cell_of_row W0 _ 1 _ _ _ hr0]; rfl
  have e2 : W0.cell? ⟨w.heap.size, 2, none⟩ = some (.bool s.wit) := by rw [cell_of_row W0 _ 2 _ _ _ hr0]; rfl
  have h0 := h.below hB0
  obtain ⟨b8, b9, b10, b11, b12, b13, b14⟩ := h.box.cells
  obtain ⟨p8, p9, p10, p11, p12, p13, p14⟩ := h0.box.cells
  have fr0 := h0.box.fr
  have nN : ¬ N = w.heap.size := by omega
  have nN' : ¬ w.heap.size = N := by omega
  have hlen : ((s.st.length : Nat) : Int) ≤ 1099511627776 := by omega
  have HH := hide h0; have HW := hide hW0; have HB0 := hide hB0; have HR0 := hide hr0; have Hw := hide hw; have HC := hide hC; have HI := hide hI; have HL := hide hl; have HLa := hide hla
  clear h h0 hW0 hB0 hr0 hw hC hI hl hla b8 b9 b10 b14 p8 p9 p14
  go_enter Tryz.func58, Tryz.ntmps58
  go_upto_region 2 with fail
  rw [unhide HW]
  clear HW b11 b12 b13
  have hor : ∃ wt, (s.beh || s.wit) = wt := ⟨_, rfl⟩
  obtain ⟨wt, hwt⟩ := hor
  cases hbh : s.beh with
  | true =>
    obtain rfl : wt = true := by rw [← hwt, hbh]; rfl
    rw [hbh] at e1
    go_region
    rw [← hbh] at e1
    clear hbh
    have hs1 := ((unhide HH).scope s.st.length false true (Nat.le_refl _)).below (drew_b _)
    have hF1 : Fw N w ((((W0.setCell ⟨N, 11, none⟩ (.int .i64 (s.st.length : Int))).setCell ⟨N, 12, none⟩ (.bool false)).setCell ⟨N, 13, none⟩ (.bool true)).drew) :=
      (Fw.on (Fw.of (unhide HB0) (Nat.le_of_lt hlt)) (Fb.set3 11 12 13 _ _ _).fw).tail (Nat.le_of_lt hlt) ((drew_b _).mono (Nat.le_trans (unhide HB0).size (Fb.set3 (N := N) 11 12 13 _ _ _).lo.size))
    have hr1 : ((((W0.setCell ⟨N, 11, none⟩ (.int .i64 (s.st.length : Int))).setCell ⟨N, 12, none⟩ (.bool false)).setCell ⟨N, 13, none⟩ (.bool true)).drew).heap[w.heap.size]? = some (.cells #[.int .i64 (s.ben : Int), .bool s.beh, .bool s.wit] 136 (0, 0)) :=
      ((Fb.set3 (N := N) 11 12 13 _ _ _).hi w.heap.size (Array.getElem?_eq_some_iff.1 (unhide HR0)).1 nN').trans (unhide HR0)
    obtain ⟨w1, hw1⟩ : ∃ w1, (((W0.setCell ⟨N, 11, none⟩ (.int .i64 (s.st.length : Int))).setCell ⟨N, 12, none⟩ (.bool false)).setCell ⟨N, 13, none⟩ (.bool true)).drew = w1 := ⟨_, rfl⟩
    rw [hw1] at hs1 hF1 hr1 ⊢
    have hlt1 := hs1.lt
    have hA := hs1.below (one_al w1 (.cells #[.int .u8 label] 60))
    have q9 := hs1.box.cells.2.1
    have HA := hide hA; have HF1 := hide hF1; have HR1 := hide hr1
    clear hs1 hF1 hr1 hA hw1 HH HB0 HR0 e0 e1 e2 p10 p11 p12 p13 fr0
    obtain ⟨L, hL⟩ : ∃ L, L = s.la.length := ⟨_, rfl⟩
    rw [← hL] at q9
    have HLn := hide hL; clear hL
    go_wp2_with (at_builtin; refine wpList_append_own_at _ rfl (.tmp 35) (.tmp 37) 64 rfl N 60 i0 (.int .u8 0) 1 1 Tryz.underlying64 hi0 hz0 hz1 hz2 rfl (by decide) (.slice aa L ac) s.la.length (kr s.la) rfl (by rw [unhide HLn]; exact (unhide HA).la) ⟨w1.heap.size, 0, none⟩ 1 1 [.int .u8 label] rfl rfl ?c1 ?c2 ?c3 ?c4 ?c5 ?_)
    case c1 => exact cell_one_new _ _ _
    case c2 => intro u hu; simp at hu; subst hu; rfl
    case c3 => have := unhide HLa; unfold maxLen; omega
    case c4 => have := unhide HLa; omega
    case c5 => simp; omega
    intro v' w2 hown hgrow _ hat
    obtain ⟨g1, g2, g3⟩ := (unhide HA).pushL hown (by rw [← unhide HLn]; exact hgrow) (by rw [← unhide HLn, show (w1.alloc (.cells #[.int .u8 label] 60)).heap.size = w1.heap.size + 1 by simp]; exact hat)
    obtain ⟨aa', ac', rfl, -⟩ := slice_of hown
    have q9' := g1.cells.2.1
    have fr := g1.fr
    have G2 := hide g2; have G3 := hide (Fw.on (Fw.of (one_al w1 (.cells #[.int .u8 label] 60)) (Nat.le_of_lt hlt1)) g3)
    clear g1 g2 g3 hown hgrow hat q9 HA
    go_upto_region 4 with fail
    obtain ⟨w3, hw3⟩ : ∃ w3, w2.setCell ⟨N, 9, none⟩ (.slice aa' (s.la.length + 1) ac') = w3 := ⟨_, rfl⟩
    rw [hw3] at G2 G3 ⊢
    have hr3 := ((unhide G3).hi w.heap.size (Array.getElem?_eq_some_iff.1 (unhide HR1)).1 nN' (fun c fr e => by have := (unhide HR1).symm.trans e; simp at this)).trans (unhide HR1)
    have HF3 := hide (Fw.on (unhide HF1) (unhide G3))
    have HR3 := hide hr3
    have hs2 : Wk w3 N m vl lo (.slice aa' (s.la.length + 1) ac') (.slice ta s.st.length tc) (opn s label) := by
      have := unhide G2
      have e : opn s label = { s with la := s.la ++ [label], ben := s.st.length, beh := false, wit := true } := by unfold opn; rw [hwt]
      rw [e]; exact this
    have HS2 := hide hs2
    clear hs2 hr3 hw3 q9' fr G2 G3 HF1 HR1
    obtain ⟨n, hn⟩ : ∃ n, n = l.length := ⟨_, rfl⟩
    have hn2 : n ≤ cnt l := by rw [hn]; exact Ex.cnt_len l
    have hn' : (n : Int) ≤ 1099511627776 := by have := unhide HL; omega
    rw [← hn]
    have HN := hide hn; have HN2 := hide hn2
    clear hn hn2
    obtain ⟨s2, hs2⟩ : ∃ s2, opn s label = s2 := ⟨_, rfl⟩
    rw [hs2] at HS2
    have hs2l : s2.st = s.st := by rw [← hs2]; rfl
    have hs2la : s2.la = s.la ++ [label] := by rw [← hs2]; rfl
    have HE2 := hide hs2; have HS2l := hide hs2l; have HS2a := hide hs2la
    clear hs2 hs2l hs2la
    go_wp2
    go_loopw [43] (fun v wr => ∃ k : Nat, k ≤ n ∧ v = .int .i64 k ∧ ∃ sk vak vtk, ins M lo (l.take k) s2 = some sk ∧ Wk wr N m vl lo vak vtk sk ∧ Fw N w3 wr ∧ sk.st.length ≤ s2.st.length + k ∧ sk.la = s2.la ∧ sk.ben = s2.ben) (fun v _ => ((n : Int) - intOf v).toNat)
    case atStart => exact ⟨0, Nat.zero_le _, rfl, s2, _, _, by rw [List.take_zero]; exact ins_nil _ _ _, unhide HS2, (Fb.refl _ _).fw, Nat.le_refl _, rfl, rfl⟩
    case round =>
      obtain ⟨k, hk, rfl, sk, vak, vtk, hins, hwk, hfk, hlk, hak, hbk⟩ := hrel
      have hwr : Below N w0 wr := ((unhide Hw).trans (unhide HF3).lo).trans hfk.lo
      by_cases hlt2 : k < n
      · have hkl : k < l.length := by rw [← unhide HN]; exact hlt2
        obtain ⟨b, o, ha, hbN, hits⟩ := Lies.at0 (unhide HC) (by omega)
        subst ha
        obtain ⟨vb, ve, vx, hcel, hb1, hb2, hb3⟩ := Ex.Items_get hits k hkl
        have hcel' := Ex.Cel.move (hwr.block b hbN) hcel
        have hcb := hb1; have hce := hb2; have hcx := hb3
        obtain ⟨ba, bc, rfl, -⟩ := hb1
        obtain ⟨ea, ec, rfl, -⟩ := hb2
        obtain ⟨xa, xc, rfl, -⟩ := hb3
        obtain ⟨c0, c1, c2, c3, c4, c5, c6, c7⟩ := hcel'
        have hct := cnt_take l k
        have hca := cnt_at hkl
        have hmem := List.getElem_mem hkl
        obtain ⟨hin, hkp⟩ := unhide HI _ hmem
        have hcl : k ≤ cnt (l.take k) := by have := Ex.cnt_len (l.take k); simp at this; omega
        obtain ⟨W4, hW4⟩ : ∃ W4, wr.alloc (.cells #[.int .u8 l[k].op, .int .i64 l[k].n, .int .u32 l[k].al, .int .u32 l[k].of, .int .u8 l[k].re, .slice ba l[k].body.length bc, .slice ea l[k].els.length ec, .slice xa l[k].ls.length xc] 63) = W4 := ⟨_, rfl⟩
        have hb4 : Below wr.heap.size wr W4 := by rw [← hW4]; exact one_al _ _
        have hwk4 := hwk.below hb4
        have hst : sk.st.length + cnt (l.drop k) < 1099511627776 := by
          have := unhide HL; have h3 : s2.st.length = s.st.length := by rw [unhide HS2l]
          omega
        have hla4 : sk.la.length + cnt (l.drop k) < 1099511627776 := by
          have := unhide HLa; have h3 : s2.la.length = s.la.length + 1 := by rw [unhide HS2a]; simp
          rw [hak]; omega
        have hcall := hin W4 vak vtk sk ba bc ea ec xa xc (hwr.trans (hb4.mono (Nat.le_of_lt hwk.lt))) hwk4 (by rw [hak, unhide HS2a]; simp) (by omega) (by omega) hcb hce hcx
        have hbnb : ¬ b = wr.heap.size := by have := World.block_lt_of_cell? wr _ c0; simp at this; omega
        have HCall := hide hcall; have HW4 := hide hW4; have HF4 := hide (Fw.on hfk (Fw.of hb4 (Nat.le_of_lt hwk.lt)))
        have HIt := hide (ins_take (M := M) (lo := lo) hkl s2); have HIns := hide hins; have HKp := hide hkp; have HBn := hide hwk.hb; have HLk := hide hlk; have HAk := hide hak; have HBk2 := hide hbk; have HK := hide hlt2
        have hlt2' : (k : Int) < n := by omega
        clear hbk hcall hW4 hb4 hwk4 hcel hits hcb hce hcx hin hkp hmem hct hca hcl hst hla4 hfk hwk hlk hak hins hwr hk hlt2
        go_wp2_with fail
        rw [unhide HW4]
        refine (unhide HCall).mono ?_
        rintro e w5 ⟨rfl, hx5, hf5⟩
        have HF5 := hide (Fw.on (unhide HF4) hf5)
        clear hf5 HCall HF4 c0 c1 c2 c3 c4 c5 c6 c7
        cases ho : ins1 M lo l[k] sk with
        | none =>
          have hno : ins M lo l s2 = none := ins_stop (k := k + 1) s2 (by rw [unhide HIt, unhide HIns]; exact ho)
          have hblk : blk (fun s => ins M lo l s) label result s = none := by unfold blk; rw [unhide HE2]; show (ins M lo l s2).bind _ = none; rw [hno]; rfl
          have HBk := hide hblk
          clear ho hno hblk hx5
          go_wp2
          go_ret
          rw [unhide HBk]
          exact ⟨rfl, nofun, Fw.on (unhide HF3) (unhide HF5)⟩
        | some sk2 =>
          obtain ⟨va5, vt5, hw5⟩ := hx5 sk2 ho
          have hkk := unhide HKp sk sk2 (unhide HBn) ho
          have HW5 := hide hw5; have HO := hide ho; have HKK := hide hkk
          clear ho hx5 hw5 hkk
          go_wp2
          go_roundw
          case rel => exact ⟨k + 1, unhide HK, rfl, sk2, va5, vt5, by rw [unhide HIt, unhide HIns]; exact unhide HO, unhide HW5, unhide HF5, by have := unhide HLk; have := (unhide HKK).1; omega, (unhide HKK).2.1.trans (unhide HAk), (unhide HKK).2.2.trans (unhide HBk2)⟩
          case measure => have := unhide HK; simp [intOf]; omega
      · have hkn : n = k := by omega
        subst hkn
        have hall : ins M lo l s2 = some sk := by rw [← hins, List.take_of_length_le (by rw [← unhide HN]; exact Nat.le_refl _)]
        have hblk : blk (fun s => ins M lo l s) label result s = cls s result sk := by unfold blk; rw [unhide HE2]; show (ins M lo l s2).bind _ = _; rw [hall]; rfl
        have hTk := fun W (hW : Below wr.heap.size wr W) => take_any (hwk.below hW) (by have := unhide HL; have := unhide HN2; have h3 : s2.st.length = s.st.length := (by rw [unhide HS2l]); omega) result
        have hrk := (hfk.hi w.heap.size (Array.getElem?_eq_some_iff.1 (unhide HR3)).1 nN' (fun c fr e => by have := (unhide HR3).symm.trans e; simp at this)).trans (unhide HR3)
        have hlk2 : w.heap.size < wr.heap.size := (Array.getElem?_eq_some_iff.1 hrk).1
        have HTk := hide hTk; have HBlk := hide hblk; have HRk := hide hrk; have HFk := hide (Fw.on (unhide HF3) hfk)
        have hwkl := hwk.lt
        have hlak : sk.la.length = s.la.length + 1 := by rw [hak, unhide HS2a]; simp
        have hlat : sk.la.dropLast = s.la := by rw [hak, unhide HS2a]; simp
        have hbnk : sk.ben = s.st.length := by rw [hbk, ← unhide HE2]; rfl
        have hbn0 : s.ben ≤ s.st.length := (unhide HBn0)
        have HLak := hide hlak; have HLat := hide hlat; have HBnk := hide hbnk; have HBN0 := hide hbn0
        clear hTk hblk hrk hall hins hfk hlk hak hbk hk hlt2 hwr hlak hlat hbnk hbn0
        have hLab : (s.la.length : Int) ≤ 1099511627776 := by have := unhide HLa; omega
        clear HI HC HL HLa Hw HS2 HF3 HR3 HN HN2 HE2 HS2l HS2a HBn0 hi0 hz0 hz1 hz2 hn' hlen
        cases ht : tk sk result with
        | none =>
          have hc : cls s result sk = none := by unfold cls; rw [ht]; rfl
          have HCl := hide hc
          rw [ht] at HTk
          clear ht hc hwk
          go_wp2_with fail
          refine wp_region_held_drew (S := fun _ => True) (by kernel_rfl) trivial (fun _ => ?_)
          refine wpAnyH_take (i := 0) (oi := _) (v := ?vq0) rfl (by kernel_rfl) (by kernel_rfl) (by kernel_rfl) (fun _ _ _ h => h) (Or.inl ⟨by kernel_rfl, ?yq0⟩) trivial ?_
          case yq0 => intro w hSw; go_simp; first | done | rfl
          simp only [List.getElem_toArray, List.getElem_cons_succ, List.getElem_cons_zero, Act.put, List.setIfInBounds_toArray, List.set_cons_zero, List.set_cons_succ]
          refine wpAnyH_take (i := 1) (oi := _) (v := ?vq1) rfl (by kernel_rfl) (by kernel_rfl) (by kernel_rfl) (fun _ _ _ h => h) (Or.inl ⟨by kernel_rfl, ?yq1⟩) trivial ?_
          case yq1 => intro w hSw; go_simp; first | done | rfl
          simp only [List.getElem_toArray, List.getElem_cons_succ, List.getElem_cons_zero, Act.put, List.setIfInBounds_toArray, List.set_cons_zero, List.set_cons_succ]
          refine wpAnyH_ready (rs := [2]) (by kernel_rfl) (by simp) ?_
          refine AllReadyH.cons rfl (fun K hK => ?_) AllReadyH.nil
          go_simp
          go_at_call 95
          refine (unhide HTk _ (drew_b wr)).mono ?_
          rintro e w6 ⟨rfl, -, hf6⟩
          have HF6 := hide (Fw.on (unhide HFk) (Fw.on (Fw.of (drew_b wr) (Nat.le_of_lt hwkl)) hf6.fw))
          clear hf6
          go_wp2_with fail
          refine hK.out _ _ trivial (fun _ => ?_)
          refine wpAnyH_take (i := 3) (oi := _) (v := ?vq3) rfl (by kernel_rfl) (by kernel_rfl) (by kernel_rfl) (fun _ _ _ h => h) (Or.inl ⟨by kernel_rfl, ?yq3⟩) trivial ?_
          case yq3 => intro w hSw; go_simp; first | done | rfl
          simp only [List.getElem_toArray, List.getElem_cons_succ, List.getElem_cons_zero, Act.put, List.setIfInBounds_toArray, List.set_cons_zero, List.set_cons_succ]
          refine wpAnyH_take (i := 4) (oi := _) (v := ?vq4) rfl (by kernel_rfl) (by kernel_rfl) (by kernel_rfl) (fun _ _ _ h => h) (Or.inl ⟨by kernel_rfl, ?yq4⟩) trivial ?_
          case yq4 => intro w hSw; go_simp; first | done | rfl
          simp only [List.getElem_toArray, List.getElem_cons_succ, List.getElem_cons_zero, Act.put, List.setIfInBounds_toArray, List.set_cons_zero, List.set_cons_succ]
          refine wpAnyH_take (i := 5) (oi := _) (v := undef) rfl (by kernel_rfl) (by kernel_rfl) (by kernel_rfl) (fun _ _ _ h => h) (Or.inr ⟨by kernel_rfl, rfl⟩) trivial ?_
          simp only [List.getElem_toArray, List.getElem_cons_succ, List.getElem_cons_zero, Act.put, List.setIfInBounds_toArray, List.set_cons_zero, List.set_cons_succ]
          refine wpAnyH_take (i := 6) (oi := _) (v := undef) rfl (by kernel_rfl) (by kernel_rfl) (by kernel_rfl) (fun _ _ _ h => h) (Or.inr ⟨by kernel_rfl, rfl⟩) trivial ?_
          simp only [List.getElem_toArray, List.getElem_cons_succ, List.getElem_cons_zero, Act.put, List.setIfInBounds_toArray, List.set_cons_zero, List.set_cons_succ]
          refine wpAnyH_take (i := 7) (oi := _) (v := undef) rfl (by kernel_rfl) (by kernel_rfl) (by kernel_rfl) (fun _ _ _ h => h) (Or.inr ⟨by kernel_rfl, rfl⟩) trivial ?_
          simp only [List.getElem_toArray, List.getElem_cons_succ, List.getElem_cons_zero, Act.put, List.setIfInBounds_toArray, List.set_cons_zero, List.set_cons_succ]
          refine wpAnyH_take (i := 8) (oi := _) (v := undef) rfl (by kernel_rfl) (by kernel_rfl) (by kernel_rfl) (fun _ _ _ h => h) (Or.inr ⟨by kernel_rfl, rfl⟩) trivial ?_
          simp only [List.getElem_toArray, List.getElem_cons_succ, List.getElem_cons_zero, Act.put, List.setIfInBounds_toArray, List.set_cons_zero, List.set_cons_succ]
          refine wpAnyH_take (i := 9) (oi := _) (v := undef) rfl (by kernel_rfl) (by kernel_rfl) (by kernel_rfl) (fun _ _ _ h => h) (Or.inr ⟨by kernel_rfl, rfl⟩) trivial ?_
          simp only [List.getElem_toArray, List.getElem_cons_succ, List.getElem_cons_zero, Act.put, List.setIfInBounds_toArray, List.set_cons_zero, List.set_cons_succ]
          refine wpAnyH_take (i := 10) (oi := _) (v := undef) rfl (by kernel_rfl) (by kernel_rfl) (by kernel_rfl) (fun _ _ _ h => h) (Or.inr ⟨by kernel_rfl, rfl⟩) trivial ?_
          simp only [List.getElem_toArray, List.getElem_cons_succ, List.getElem_cons_zero, Act.put, List.setIfInBounds_toArray, List.set_cons_zero, List.set_cons_succ]
          refine wpAnyH_take (i := 11) (oi := _) (v := undef) rfl (by kernel_rfl) (by kernel_rfl) (by kernel_rfl) (fun _ _ _ h => h) (Or.inr ⟨by kernel_rfl, rfl⟩) trivial ?_
          simp only [List.getElem_toArray, List.getElem_cons_succ, List.getElem_cons_zero, Act.put, List.setIfInBounds_toArray, List.set_cons_zero, List.set_cons_succ]
          refine wpAnyH_take (i := 12) (oi := _) (v := undef) rfl (by kernel_rfl) (by kernel_rfl) (by kernel_rfl) (fun _ _ _ h => h) (Or.inr ⟨by kernel_rfl, rfl⟩) trivial ?_
          simp only [List.getElem_toArray, List.getElem_cons_succ, List.getElem_cons_zero, Act.put, List.setIfInBounds_toArray, List.set_cons_zero, List.set_cons_succ]
          refine wpAnyH_take (i := 13) (oi := _) (v := undef) rfl (by kernel_rfl) (by kernel_rfl) (by kernel_rfl) (fun _ _ _ h => h) (Or.inr ⟨by kernel_rfl, rfl⟩) trivial ?_
          simp only [List.getElem_toArray, List.getElem_cons_succ, List.getElem_cons_zero, Act.put, List.setIfInBounds_toArray, List.set_cons_zero, List.set_cons_succ]
          refine wpAnyH_take (i := 14) (oi := _) (v := undef) rfl (by kernel_rfl) (by kernel_rfl) (by kernel_rfl) (fun _ _ _ h => h) (Or.inr ⟨by kernel_rfl, rfl⟩) trivial ?_
          simp only [List.getElem_toArray, List.getElem_cons_succ, List.getElem_cons_zero, Act.put, List.setIfInBounds_toArray, List.set_cons_zero, List.set_cons_succ]
          refine wpAnyH_take (i := 15) (oi := _) (v := undef) rfl (by kernel_rfl) (by kernel_rfl) (by kernel_rfl) (fun _ _ _ h => h) (Or.inr ⟨by kernel_rfl, rfl⟩) trivial ?_
          simp only [List.getElem_toArray, List.getElem_cons_succ, List.getElem_cons_zero, Act.put, List.setIfInBounds_toArray, List.set_cons_zero, List.set_cons_succ]
          refine wpAnyH_take (i := 16) (oi := _) (v := ?vq16) rfl (by kernel_rfl) (by kernel_rfl) (by kernel_rfl) (fun _ _ _ h => h) (Or.inl ⟨by kernel_rfl, ?yq16⟩) trivial ?_
          case yq16 => intro w hSw; go_simp; first | done | rfl
          simp only [List.getElem_toArray, List.getElem_cons_succ, List.getElem_cons_zero, Act.put, List.setIfInBounds_toArray, List.set_cons_zero, List.set_cons_succ]
          refine wpAnyH_done (by kernel_rfl) ?_ _
          clear hK
          skip
          go_wp2
          go_ret
          rw [unhide HBlk, unhide HCl]
          exact ⟨rfl, nofun, unhide HF6⟩
        | some s3 =>
          rw [ht] at HTk
          have ht3 := tk_keep ht
          have HT3 := hide ht3; have HTt := hide ht
          obtain ⟨aak, ack, hvak, hack⟩ := slice_of hwk.la
          subst hvak
          have hack' : (s.la.length : Int) + 1 ≤ (ack : Int) := by have := unhide HLak; omega
          clear hack
          clear ht hwk ht3
          go_wp2_with fail
          refine wp_region_held_drew (S := fun _ => True) (by kernel_rfl) trivial (fun _ => ?_)
          refine wpAnyH_take (i := 0) (oi := _) (v := ?vq0_1) rfl (by kernel_rfl) (by kernel_rfl) (by kernel_rfl) (fun _ _ _ h => h) (Or.inl ⟨by kernel_rfl, ?yq0_1⟩) trivial ?_
          case yq0_1 => intro w hSw; go_simp; first | done | rfl
          simp only [List.getElem_toArray, List.getElem_cons_succ, List.getElem_cons_zero, Act.put, List.setIfInBounds_toArray, List.set_cons_zero, List.set_cons_succ]
          refine wpAnyH_take (i := 1) (oi := _) (v := ?vq1_2) rfl (by kernel_rfl) (by kernel_rfl) (by kernel_rfl) (fun _ _ _ h => h) (Or.inl ⟨by kernel_rfl, ?yq1_2⟩) trivial ?_
          case yq1_2 => intro w hSw; go_simp; first | done | rfl
          simp only [List.getElem_toArray, List.getElem_cons_succ, List.getElem_cons_zero, Act.put, List.setIfInBounds_toArray, List.set_cons_zero, List.set_cons_succ]
          refine wpAnyH_ready (rs := [2]) (by kernel_rfl) (by simp) ?_
          refine AllReadyH.cons rfl (fun K hK => ?_) AllReadyH.nil
          go_simp
          go_at_call 95
          refine (unhide HTk _ (drew_b wr)).mono ?_
          rintro e w6 ⟨rfl, hx6, hf6⟩
          obtain ⟨vt6, hw6⟩ := hx6 s3 rfl
          obtain ⟨ta6, tc6, rfl, -⟩ := slice_of hw6.st
          have q10 := hw6.box.cells.2.2.1
          have q11 := hw6.box.cells.2.2.2.1
          have HW6 := hide hw6
          have HF6 := hide (Fw.on (unhide HFk) (Fw.on (Fw.of (drew_b wr) (Nat.le_of_lt hwkl)) hf6.fw))
          have HFb6 := hide hf6
          clear hf6 hw6 hx6
          go_wp2_with fail
          refine hK.out _ _ trivial (fun _ => ?_)
          clear hK
          refine wpAnyH_take (i := 3) (oi := _) (v := ?vq3_3) rfl (by kernel_rfl) (by kernel_rfl) (by kernel_rfl) (fun _ _ _ h => h) (Or.inl ⟨by kernel_rfl, ?yq3_3⟩) trivial ?_
          case yq3_3 => intro w hSw; go_simp; first | done | rfl
          simp only [List.getElem_toArray, List.getElem_cons_succ, List.getElem_cons_zero, Act.put, List.setIfInBounds_toArray, List.set_cons_zero, List.set_cons_succ]
          refine wpAnyH_take (i := 4) (oi := _) (v := ?vq4_4) rfl (by kernel_rfl) (by kernel_rfl) (by kernel_rfl) (fun _ _ _ h => h) (Or.inl ⟨by kernel_rfl, ?yq4_4⟩) trivial ?_
          case yq4_4 => intro w hSw; go_simp; first | done | rfl
          simp only [List.getElem_toArray, List.getElem_cons_succ, List.getElem_cons_zero, Act.put, List.setIfInBounds_toArray, List.set_cons_zero, List.set_cons_succ]
          refine wpAnyH_take (i := 5) (oi := _) (v := ?vq5_5) rfl (by kernel_rfl) (by kernel_rfl) (by kernel_rfl) (fun _ _ _ h => h) (Or.inl ⟨by kernel_rfl, ?yq5_5⟩) trivial ?_
          case yq5_5 => intro w hSw; go_simp; first | done | rfl
          simp only [List.getElem_toArray, List.getElem_cons_succ, List.getElem_cons_zero, Act.put, List.setIfInBounds_toArray, List.set_cons_zero, List.set_cons_succ]
          refine wpAnyH_take (i := 6) (oi := _) (v := ?vq6_6) rfl (by kernel_rfl) (by kernel_rfl) (by kernel_rfl) (fun _ _ _ h => h) (Or.inl ⟨by kernel_rfl, ?yq6_6⟩) trivial ?_
          case yq6_6 => intro w hSw; go_simp; first | done | rfl
          simp only [List.getElem_toArray, List.getElem_cons_succ, List.getElem_cons_zero, Act.put, List.setIfInBounds_toArray, List.set_cons_zero, List.set_cons_succ]
          refine wpAnyH_take (i := 7) (oi := _) (v := ?vq7_7) rfl (by kernel_rfl) (by kernel_rfl) (by kernel_rfl) (fun _ _ _ h => h) (Or.inl ⟨by kernel_rfl, ?yq7_7⟩) trivial ?_
          case yq7_7 => intro w hSw; go_simp; first | done | rfl
          simp only [List.getElem_toArray, List.getElem_cons_succ, List.getElem_cons_zero, Act.put, List.setIfInBounds_toArray, List.set_cons_zero, List.set_cons_succ]
          refine wpAnyH_take (i := 10) (oi := _) (v := ?vq10_8) rfl (by kernel_rfl) (by kernel_rfl) (by kernel_rfl) (fun _ _ _ h => h) (Or.inl ⟨by kernel_rfl, ?yq10_8⟩) trivial ?_
          case yq10_8 => intro w hSw; go_simp; first | done | rfl
          simp only [List.getElem_toArray, List.getElem_cons_succ, List.getElem_cons_zero, Act.put, List.setIfInBounds_toArray, List.set_cons_zero, List.set_cons_succ]
          refine wpAnyH_take (i := 11) (oi := _) (v := ?vq11_9) rfl (by kernel_rfl) (by kernel_rfl) (by kernel_rfl) (fun _ _ _ h => h) (Or.inl ⟨by kernel_rfl, ?yq11_9⟩) trivial ?_
          case yq11_9 => intro w hSw; go_simp; first | done | rfl
          simp only [List.getElem_toArray, List.getElem_cons_succ, List.getElem_cons_zero, Act.put, List.setIfInBounds_toArray, List.set_cons_zero, List.set_cons_succ]
          refine wpAnyH_take (i := 12) (oi := _) (v := ?vq12_10) rfl (by kernel_rfl) (by kernel_rfl) (by kernel_rfl) (fun _ _ _ h => h) (Or.inl ⟨by kernel_rfl, ?yq12_10⟩) trivial ?_
          case yq12_10 => intro w hSw; go_simp; first | done | rfl
          simp only [List.getElem_toArray, List.getElem_cons_succ, List.getElem_cons_zero, Act.put, List.setIfInBounds_toArray, List.set_cons_zero, List.set_cons_succ]
          refine wpAnyH_take (i := 13) (oi := _) (v := ?vq13_11) rfl (by kernel_rfl) (by kernel_rfl) (by kernel_rfl) (fun _ _ _ h => h) (Or.inl ⟨by kernel_rfl, ?yq13_11⟩) trivial ?_
          case yq13_11 => intro w hSw; go_simp; first | done | rfl
          simp only [List.getElem_toArray, List.getElem_cons_succ, List.getElem_cons_zero, Act.put, List.setIfInBounds_toArray, List.set_cons_zero, List.set_cons_succ]
          refine wpAnyH_ready (rs := [8, 14]) (by kernel_rfl) (by simp) ?_
          refine AllReadyH.cons rfl (fun K hK8 => ?_) (AllReadyH.cons rfl (fun K hK14 => ?_) AllReadyH.nil)
          · go_simp
            refine hK8.out _ _ trivial (fun _ => ?_)
            try simp only [List.getElem_toArray, List.getElem_cons_succ, List.getElem_cons_zero, Act.put, List.setIfInBounds_toArray, List.set_cons_zero, List.set_cons_succ]
            clear hK8
            refine wpAnyH_take (i := 9) (oi := _) (v := ?vq9_12) rfl (by kernel_rfl) (by kernel_rfl) (by kernel_rfl) (fun _ _ _ h => h) (Or.inl ⟨by kernel_rfl, ?yq9_12⟩) trivial ?_
            case yq9_12 => intro w hSw; go_simp; first | done | rfl
            simp only [List.getElem_toArray, List.getElem_cons_succ, List.getElem_cons_zero, Act.put, List.setIfInBounds_toArray, List.set_cons_zero, List.set_cons_succ]
            refine wpAnyH_ready (rs := [14]) (by kernel_rfl) (by simp) ?_
            refine AllReadyH.cons rfl (fun K hKa => ?_) AllReadyH.nil
            go_simp
            refine hKa.out _ _ trivial (fun _ => ?_)
            try simp only [List.getElem_toArray, List.getElem_cons_succ, List.getElem_cons_zero, Act.put, List.setIfInBounds_toArray, List.set_cons_zero, List.set_cons_succ]
            clear hKa
            refine wpAnyH_take (i := 15) (oi := _) (v := ?vq15_13) rfl (by kernel_rfl) (by kernel_rfl) (by kernel_rfl) (fun _ _ _ h => h) (Or.inl ⟨by kernel_rfl, ?yq15_13⟩) trivial ?_
            case yq15_13 => intro w hSw; go_simp; first | done | rfl
            simp only [List.getElem_toArray, List.getElem_cons_succ, List.getElem_cons_zero, Act.put, List.setIfInBounds_toArray, List.set_cons_zero, List.set_cons_succ]
            refine wpAnyH_take (i := 16) (oi := _) (v := ?vq16_14) rfl (by kernel_rfl) (by kernel_rfl) (by kernel_rfl) (fun _ _ _ h => h) (Or.inl ⟨by kernel_rfl, ?yq16_14⟩) trivial ?_
            case yq16_14 => intro w hSw; go_simp; first | done | rfl
            simp only [List.getElem_toArray, List.getElem_cons_succ, List.getElem_cons_zero, Act.put, List.setIfInBounds_toArray, List.set_cons_zero, List.set_cons_succ]
            refine wpAnyH_done (by kernel_rfl) ?_ _
            by_cases hc : s3.ben < s3.st.length
            · have hcl : cls s result sk = none := by unfold cls; rw [unhide HTt]; show (if s3.ben < s3.st.length then none else _) = none; rw [if_pos hc]
              have hc' : (s3.st.length : Int) > (s3.ben : Int) := by omega
              have HCl := hide hcl
              clear hcl hc q10 q11
              go_wp2
              go_ret
              rw [unhide HBlk, unhide HCl]
              exact ⟨rfl, nofun, unhide HF6⟩
            · have hcl : cls s result sk = some { s3 with la := s3.la.dropLast, ben := s.ben, beh := s.beh, wit := s.wit } := by unfold cls; rw [unhide HTt]; show (if s3.ben < s3.st.length then none else _) = _; rw [if_neg hc]
              have hc' : decide ((s3.st.length : Int) > (s3.ben : Int)) = false := decide_eq_false (by omega)
              have hcn : decide (s3.ben < s3.st.length) = false := decide_eq_false hc
              have hw6 := unhide HW6
              have q9 := hw6.box.cells.2.1
              have hla3 : s3.la.length = s.la.length + 1 := by rw [(unhide HT3).1]; exact unhide HLak
              have hcut := hw6.cutL s.la.length (by omega)
              have htk3 : s3.la.take s.la.length = s3.la.dropLast := by rw [List.dropLast_eq_take, hla3]; rfl
              have hr6 := ((unhide HFb6).hi w.heap.size hlk2 nN').trans (unhide HRk)
              have hsb : s.ben ≤ s3.st.length := by have := hw6.hb; have := (unhide HT3).2; have := unhide HBnk; have := unhide HBN0; omega
              rw [unhide HLak] at q9
              have fr6 := hw6.box.fr
              have HCl := hide hcl; have HCut := hide hcut; have HTk3 := hide htk3; have HSb := hide hsb; have HR6 := hide hr6
              clear hcl hw6 hcut htk3 hsb hr6 q10 q11 hla3
              generalize hLL : s.la.length = LL at *
              go_wp2_with fail
              go_region
              obtain ⟨X, hX⟩ : ∃ X, (w6.setCell ⟨N, 9, none⟩ (.slice aak LL ack)).drew = X := ⟨_, rfl⟩
              rw [hX]
              have hxw := (unhide HCut).below (drew_b _)
              rw [hX] at hxw
              have hsc := hxw.scope s.ben s.beh s.wit (unhide HSb)
              have hrx : X.heap[w.heap.size]? = some (.cells #[.int .i64 (s.ben : Int), .bool s.beh, .bool s.wit] 136 (0, 0)) := by rw [← hX]; exact (heap_setCell_other w6 ⟨N, 9, none⟩ _ _ nN').trans (unhide HR6)
              have hFx : Fw N w X := by rw [← hX]; exact (Fw.on (unhide HF6) (Fb.set 9 _).fw).tail (Nat.le_of_lt hlt) ((drew_b _).mono (Nat.le_trans (unhide HF6).lo.size (Fb.set (N := N) 9 _).lo.size))
              have o0 : X.cell? ⟨w.heap.size, 0, none⟩ = some (.int .i64 (s.ben : Int)) := by rw [cell_of_row X _ 0 _ _ _ hrx]; rfl
              have o1 : X.cell? ⟨w.heap.size, 1, none⟩ = some (.bool s.beh) := by rw [cell_of_row X _ 1 _ _ _ hrx]; rfl
              have o2 : X.cell? ⟨w.heap.size, 2, none⟩ = some (.bool s.wit) := by rw [cell_of_row X _ 2 _ _ _ hrx]; rfl
              obtain ⟨x8, x9, x10, x11, x12, x13, x14⟩ := hxw.box.cells
              have frx := hxw.box.fr
              have HSc := hide hsc; have HFx := hide hFx
              clear hX hxw hsc hrx hFx x8 x9 x10 x14 q9 fr6
              go_wp2
              go_ret
              rw [unhide HBlk, unhide HCl]
              refine ⟨rfl, fun s' e => ?_, Fw.on (unhide HFx) (Fb.set3 11 12 13 _ _ _).fw⟩
              cases e
              rw [← unhide HTk3]
              exact ⟨_, _, unhide HSc⟩
          · go_simp
            refine hK14.out _ _ trivial (fun _ => ?_)
            try simp only [List.getElem_toArray, List.getElem_cons_succ, List.getElem_cons_zero, Act.put, List.setIfInBounds_toArray, List.set_cons_zero, List.set_cons_succ]
            clear hK14
            refine wpAnyH_ready (rs := [8]) (by kernel_rfl) (by simp) ?_
            refine AllReadyH.cons rfl (fun K hKb => ?_) AllReadyH.nil
            go_simp
            refine hKb.out _ _ trivial (fun _ => ?_)
            try simp only [List.getElem_toArray, List.getElem_cons_succ, List.getElem_cons_zero, Act.put, List.setIfInBounds_toArray, List.set_cons_zero, List.set_cons_succ]
            clear hKb
            refine wpAnyH_take (i := 9) (oi := _) (v := ?vq9_15) rfl (by kernel_rfl) (by kernel_rfl) (by kernel_rfl) (fun _ _ _ h => h) (Or.inl ⟨by kernel_rfl, ?yq9_15⟩) trivial ?_
            case yq9_15 => intro w hSw; go_simp; first | done | rfl
            simp only [List.getElem_toArray, List.getElem_cons_succ, List.getElem_cons_zero, Act.put, List.setIfInBounds_toArray, List.set_cons_zero, List.set_cons_succ]
            refine wpAnyH_take (i := 15) (oi := _) (v := ?vq15_16) rfl (by kernel_rfl) (by kernel_rfl) (by kernel_rfl) (fun _ _ _ h => h) (Or.inl ⟨by kernel_rfl, ?yq15_16⟩) trivial ?_
            case yq15_16 => intro w hSw; go_simp; first | done | rfl
            simp only [List.getElem_toArray, List.getElem_cons_succ, List.getElem_cons_zero, Act.put, List.setIfInBounds_toArray, List.set_cons_zero, List.set_cons_succ]
            refine wpAnyH_take (i := 16) (oi := _) (v := ?vq16_17) rfl (by kernel_rfl) (by kernel_rfl) (by kernel_rfl) (fun _ _ _ h => h) (Or.inl ⟨by kernel_rfl, ?yq16_17⟩) trivial ?_
            case yq16_17 => intro w hSw; go_simp; first | done | rfl
            simp only [List.getElem_toArray, List.getElem_cons_succ, List.getElem_cons_zero, Act.put, List.setIfInBounds_toArray, List.set_cons_zero, List.set_cons_succ]
            refine wpAnyH_done (by kernel_rfl) ?_ _
            by_cases hc : s3.ben < s3.st.length
            · have hcl : cls s result sk = none := by unfold cls; rw [unhide HTt]; show (if s3.ben < s3.st.length then none else _) = none; rw [if_pos hc]
              have hc' : (s3.st.length : Int) > (s3.ben : Int) := by omega
              have HCl := hide hcl
              clear hcl hc q10 q11
              go_wp2
              go_ret
              rw [unhide HBlk, unhide HCl]
              exact ⟨rfl, nofun, unhide HF6⟩
            · have hcl : cls s result sk = some { s3 with la := s3.la.dropLast, ben := s.ben, beh := s.beh, wit := s.wit } := by unfold cls; rw [unhide HTt]; show (if s3.ben < s3.st.length then none else _) = _; rw [if_neg hc]
              have hc' : decide ((s3.st.length : Int) > (s3.ben : Int)) = false := decide_eq_false (by omega)
              have hcn : decide (s3.ben < s3.st.length) = false := decide_eq_false hc
              have hw6 := unhide HW6
              have q9 := hw6.box.cells.2.1
              have hla3 : s3.la.length = s.la.length + 1 := by rw [(unhide HT3).1]; exact unhide HLak
              have hcut := hw6.cutL s.la.length (by omega)
              have htk3 : s3.la.take s.la.length = s3.la.dropLast := by rw [List.dropLast_eq_take, hla3]; rfl
              have hr6 := ((unhide HFb6).hi w.heap.size hlk2 nN').trans (unhide HRk)
              have hsb : s.ben ≤ s3.st.length := by have := hw6.hb; have := (unhide HT3).2; have := unhide HBnk; have := unhide HBN0; omega
              rw [unhide HLak] at q9
              have fr6 := hw6.box.fr
              have HCl := hide hcl; have HCut := hide hcut; have HTk3 := hide htk3; have HSb := hide hsb; have HR6 := hide hr6
              clear hcl hw6 hcut htk3 hsb hr6 q10 q11 hla3
              generalize hLL : s.la.length = LL at *
              go_wp2_with fail
              go_region
              obtain ⟨X, hX⟩ : ∃ X, (w6.setCell ⟨N, 9, none⟩ (.slice aak LL ack)).drew = X := ⟨_, rfl⟩
              rw [hX]
              have hxw := (unhide HCut).below (drew_b _)
              rw [hX] at hxw
              have hsc := hxw.scope s.ben s.beh s.wit (unhide HSb)
              have hrx : X.heap[w.heap.size]? = some (.cells #[.int .i64 (s.ben : Int), .bool s.beh, .bool s.wit] 136 (0, 0)) := by rw [← hX]; exact (heap_setCell_other w6 ⟨N, 9, none⟩ _ _ nN').trans (unhide HR6)
              have hFx : Fw N w X := by rw [← hX]; exact (Fw.on (unhide HF6) (Fb.set 9 _).fw).tail (Nat.le_of_lt hlt) ((drew_b _).mono (Nat.le_trans (unhide HF6).lo.size (Fb.set (N := N) 9 _).lo.size))
              have o0 : X.cell? ⟨w.heap.size, 0, none⟩ = some (.int .i64 (s.ben : Int)) := by rw [cell_of_row X _ 0 _ _ _ hrx]; rfl
              have o1 : X.cell? ⟨w.heap.size, 1, none⟩ = some (.bool s.beh) := by rw [cell_of_row X _ 1 _ _ _ hrx]; rfl
              have o2 : X.cell? ⟨w.heap.size, 2, none⟩ = some (.bool s.wit) := by rw [cell_of_row X _ 2 _ _ _ hrx]; rfl
              obtain ⟨x8, x9, x10, x11, x12, x13, x14⟩ := hxw.box.cells
              have frx := hxw.box.fr
              have HSc := hide hsc; have HFx := hide hFx
              clear hX hxw hsc hrx hFx x8 x9 x10 x14 q9 fr6
              go_wp2
              go_ret
              rw [unhide HBlk, unhide HCl]
              refine ⟨rfl, fun s' e => ?_, Fw.on (unhide HFx) (Fb.set3 11 12 13 _ _ _).fw⟩
              cases e
              rw [← unhide HTk3]
              exact ⟨_, _, unhide HSc⟩
  | false =>
    have hwt1 : s.wit = wt := by rw [← hwt, hbh]; rfl
    rw [hbh] at e1
    have e2' := e2
    rw [hwt1] at e2
    go_region
    rw [← hbh] at e1
    clear e2 hbh
    have e2 := e2'
    clear hwt1 e2'
    have hs1 := ((unhide HH).scope s.st.length false wt (Nat.le_refl _)).below (drew_b _)
    have hF1 : Fw N w ((((W0.setCell ⟨N, 11, none⟩ (.int .i64 (s.st.length : Int))).setCell ⟨N, 12, none⟩ (.bool false)).setCell ⟨N, 13, none⟩ (.bool wt)).drew) :=
      (Fw.on (Fw.of (unhide HB0) (Nat.le_of_lt hlt)) (Fb.set3 11 12 13 _ _ _).fw).tail (Nat.le_of_lt hlt) ((drew_b _).mono (Nat.le_trans (unhide HB0).size (Fb.set3 (N := N) 11 12 13 _ _ _).lo.size))
    have hr1 : ((((W0.setCell ⟨N, 11, none⟩ (.int .i64 (s.st.length : Int))).setCell ⟨N, 12, none⟩ (.bool false)).setCell ⟨N, 13, none⟩ (.bool wt)).drew).heap[w.heap.size]? = some (.cells #[.int .i64 (s.ben : Int), .bool s.beh, .bool s.wit] 136 (0, 0)) :=
      ((Fb.set3 (N := N) 11 12 13 _ _ _).hi w.heap.size (Array.getElem?_eq_some_iff.1 (unhide HR0)).1 nN').trans (unhide HR0)
    obtain ⟨w1, hw1⟩ : ∃ w1, (((W0.setCell ⟨N, 11, none⟩ (.int .i64 (s.st.length : Int))).setCell ⟨N, 12, none⟩ (.bool false)).setCell ⟨N, 13, none⟩ (.bool wt)).drew = w1 := ⟨_, rfl⟩
    rw [hw1] at hs1 hF1 hr1 ⊢
    have hlt1 := hs1.lt
    have hA := hs1.below (one_al w1 (.cells #[.int .u8 label] 60))
    have q9 := hs1.box.cells.2.1
    have HA := hide hA; have HF1 := hide hF1; have HR1 := hide hr1
    clear hs1 hF1 hr1 hA hw1 HH HB0 HR0 e0 e1 e2 p10 p11 p12 p13 fr0
    obtain ⟨L, hL⟩ : ∃ L, L = s.la.length := ⟨_, rfl⟩
    rw [← hL] at q9
    have HLn := hide hL; clear hL
    go_wp2_with (at_builtin; refine wpList_append_own_at _ rfl (.tmp 35) (.tmp 37) 64 rfl N 60 i0 (.int .u8 0) 1 1 Tryz.underlying64 hi0 hz0 hz1 hz2 rfl (by decide) (.slice aa L ac) s.la.length (kr s.la) rfl (by rw [unhide HLn]; exact (unhide HA).la) ⟨w1.heap.size, 0, none⟩ 1 1 [.int .u8 label] rfl rfl ?c1 ?c2 ?c3 ?c4 ?c5 ?_)
    case c1 => exact cell_one_new _ _ _
    case c2 => intro u hu; simp at hu; subst hu; rfl
    case c3 => have := unhide HLa; unfold maxLen; omega
    case c4 => have := unhide HLa; omega
    case c5 => simp; omega
    intro v' w2 hown hgrow _ hat
    obtain ⟨g1, g2, g3⟩ := (unhide HA).pushL hown (by rw [← unhide HLn]; exact hgrow) (by rw [← unhide HLn, show (w1.alloc (.cells #[.int .u8 label] 60)).heap.size = w1.heap.size + 1 by simp]; exact hat)
    obtain ⟨aa', ac', rfl, -⟩ := slice_of hown
    have q9' := g1.cells.2.1
    have fr := g1.fr
    have G2 := hide g2; have G3 := hide (Fw.on (Fw.of (one_al w1 (.cells #[.int .u8 label] 60)) (Nat.le_of_lt hlt1)) g3)
    clear g1 g2 g3 hown hgrow hat q9 HA
    go_upto_region 4 with fail
    obtain ⟨w3, hw3⟩ : ∃ w3, w2.setCell ⟨N, 9, none⟩ (.slice aa' (s.la.length + 1) ac') = w3 := ⟨_, rfl⟩
    rw [hw3] at G2 G3 ⊢
    have hr3 := ((unhide G3).hi w.heap.size (Array.getElem?_eq_some_iff.1 (unhide HR1)).1 nN' (fun c fr e => by have := (unhide HR1).symm.trans e; simp at this)).trans (unhide HR1)
    have HF3 := hide (Fw.on (unhide HF1) (unhide G3))
    have HR3 := hide hr3
    have hs2 : Wk w3 N m vl lo (.slice aa' (s.la.length + 1) ac') (.slice ta s.st.length tc) (opn s label) := by
      have := unhide G2
      have e : opn s label = { s with la := s.la ++ [label], ben := s.st.length, beh := false, wit := wt } := by unfold opn; rw [hwt]
      rw [e]; exact this
    have HS2 := hide hs2
    clear hs2 hr3 hw3 q9' fr G2 G3 HF1 HR1
    obtain ⟨n, hn⟩ : ∃ n, n = l.length := ⟨_, rfl⟩
    have hn2 : n ≤ cnt l := by rw [hn]; exact Ex.cnt_len l
    have hn' : (n : Int) ≤ 1099511627776 := by have := unhide HL; omega
    rw [← hn]
    have HN := hide hn; have HN2 := hide hn2
    clear hn hn2
    obtain ⟨s2, hs2⟩ : ∃ s2, opn s label = s2 := ⟨_, rfl⟩
    rw [hs2] at HS2
    have hs2l : s2.st = s.st := by rw [← hs2]; rfl
    have hs2la : s2.la = s.la ++ [label] := by rw [← hs2]; rfl
    have HE2 := hide hs2; have HS2l := hide hs2l; have HS2a := hide hs2la
    clear hs2 hs2l hs2la
    go_wp2
    go_loopw [43] (fun v wr => ∃ k : Nat, k ≤ n ∧ v = .int .i64 k ∧ ∃ sk vak vtk, ins M lo (l.take k) s2 = some sk ∧ Wk wr N m vl lo vak vtk sk ∧ Fw N w3 wr ∧ sk.st.length ≤ s2.st.length + k ∧ sk.la = s2.la ∧ sk.ben = s2.ben) (fun v _ => ((n : Int) - intOf v).toNat)
    case atStart => exact ⟨0, Nat.zero_le _, rfl, s2, _, _, by rw [List.take_zero]; exact ins_nil _ _ _, unhide HS2, (Fb.refl _ _).fw, Nat.le_refl _, rfl, rfl⟩
    case round =>
      obtain ⟨k, hk, rfl, sk, vak, vtk, hins, hwk, hfk, hlk, hak, hbk⟩ := hrel
      have hwr : Below N w0 wr := ((unhide Hw).trans (unhide HF3).lo).trans hfk.lo
      by_cases hlt2 : k < n
      · have hkl : k < l.length := by rw [← unhide HN]; exact hlt2
        obtain ⟨b, o, ha, hbN, hits⟩ := Lies.at0 (unhide HC) (by omega)
        subst ha
        obtain ⟨vb, ve, vx, hcel, hb1, hb2, hb3⟩ := Ex.Items_get hits k hkl
        have hcel' := Ex.Cel.move (hwr.block b hbN) hcel
        have hcb := hb1; have hce := hb2; have hcx := hb3
        obtain ⟨ba, bc, rfl, -⟩ := hb1
        obtain ⟨ea, ec, rfl, -⟩ := hb2
        obtain ⟨xa, xc, rfl, -⟩ := hb3
        obtain ⟨c0, c1, c2, c3, c4, c5, c6, c7⟩ := hcel'
        have hct := cnt_take l k
        have hca := cnt_at hkl
        have hmem := List.getElem_mem hkl
        obtain ⟨hin, hkp⟩ := unhide HI _ hmem
        have hcl : k ≤ cnt (l.take k) := by have := Ex.cnt_len (l.take k); simp at this; omega
        obtain ⟨W4, hW4⟩ : ∃ W4, wr.alloc (.cells #[.int .u8 l[k].op, .int .i64 l[k].n, .int .u32 l[k].al, .int .u32 l[k].of, .int .u8 l[k].re, .slice ba l[k].body.length bc, .slice ea l[k].els.length ec, .slice xa l[k].ls.length xc] 63) = W4 := ⟨_, rfl⟩
        have hb4 : Below wr.heap.size wr W4 := by rw [← hW4]; exact one_al _ _
        have hwk4 := hwk.below hb4
        have hst : sk.st.length + cnt (l.drop k) < 1099511627776 := by
          have := unhide HL; have h3 : s2.st.length = s.st.length := by rw [unhide HS2l]
          omega
        have hla4 : sk.la.length + cnt (l.drop k) < 1099511627776 := by
          have := unhide HLa; have h3 : s2.la.length = s.la.length + 1 := by rw [unhide HS2a]; simp
          rw [hak]; omega
        have hcall := hin W4 vak vtk sk ba bc ea ec xa xc (hwr.trans (hb4.mono (Nat.le_of_lt hwk.lt))) hwk4 (by rw [hak, unhide HS2a]; simp) (by omega) (by omega) hcb hce hcx
        have hbnb : ¬ b = wr.heap.size := by have := World.block_lt_of_cell? wr _ c0; simp at this; omega
        have HCall := hide hcall; have HW4 := hide hW4; have HF4 := hide (Fw.on hfk (Fw.of hb4 (Nat.le_of_lt hwk.lt)))
        have HIt := hide (ins_take (M := M) (lo := lo) hkl s2); have HIns := hide hins; have HKp := hide hkp; have HBn := hide hwk.hb; have HLk := hide hlk; have HAk := hide hak; have HBk2 := hide hbk; have HK := hide hlt2
        have hlt2' : (k : Int) < n := by omega
        clear hbk hcall hW4 hb4 hwk4 hcel hits hcb hce hcx hin hkp hmem hct hca hcl hst hla4 hfk hwk hlk hak hins hwr hk hlt2
        go_wp2_with fail
        rw [unhide HW4]
        refine (unhide HCall).mono ?_
        rintro e w5 ⟨rfl, hx5, hf5⟩
        have HF5 := hide (Fw.on (unhide HF4) hf5)
        clear hf5 HCall HF4 c0 c1 c2 c3 c4 c5 c6 c7
        cases ho : ins1 M lo l[k] sk with
        | none =>
          have hno : ins M lo l s2 = none := ins_stop (k := k + 1) s2 (by rw [unhide HIt, unhide HIns]; exact ho)
          have hblk : blk (fun s => ins M lo l s) label result s = none := by unfold blk; rw [unhide HE2]; show (ins M lo l s2).bind _ = none; rw [hno]; rfl
          have HBk := hide hblk
          clear ho hno hblk hx5
          go_wp2
          go_ret
          rw [unhide HBk]
          exact ⟨rfl, nofun, Fw.on (unhide HF3) (unhide HF5)⟩
        | some sk2 =>
          obtain ⟨va5, vt5, hw5⟩ := hx5 sk2 ho
          have hkk := unhide HKp sk sk2 (unhide HBn) ho
          have HW5 := hide hw5; have HO := hide ho; have HKK := hide hkk
          clear ho hx5 hw5 hkk
          go_wp2
          go_roundw
          case rel => exact ⟨k + 1, unhide HK, rfl, sk2, va5, vt5, by rw [unhide HIt, unhide HIns]; exact unhide HO, unhide HW5, unhide HF5, by have := unhide HLk; have := (unhide HKK).1; omega, (unhide HKK).2.1.trans (unhide HAk), (unhide HKK).2.2.trans (unhide HBk2)⟩
          case measure => have := unhide HK; simp [intOf]; omega
      · have hkn : n = k := by omega
        subst hkn
        have hall : ins M lo l s2 = some sk := by rw [← hins, List.take_of_length_le (by rw [← unhide HN]; exact Nat.le_refl _)]
        have hblk : blk (fun s => ins M lo l s) label result s = cls s result sk := by unfold blk; rw [unhide HE2]; show (ins M lo l s2).bind _ = _; rw [hall]; rfl
        have hTk := fun W (hW : Below wr.heap.size wr W) => take_any (hwk.below hW) (by have := unhide HL; have := unhide HN2; have h3 : s2.st.length = s.st.length := (by rw [unhide HS2l]); omega) result
        have hrk := (hfk.hi w.heap.size (Array.getElem?_eq_some_iff.1 (unhide HR3)).1 nN' (fun c fr e => by have := (unhide HR3).symm.trans e; simp at this)).trans (unhide HR3)
        have hlk2 : w.heap.size < wr.heap.size := (Array.getElem?_eq_some_iff.1 hrk).1
        have HTk := hide hTk; have HBlk := hide hblk; have HRk := hide hrk; have HFk := hide (Fw.on (unhide HF3) hfk)
        have hwkl := hwk.lt
        have hlak : sk.la.length = s.la.length + 1 := by rw [hak, unhide HS2a]; simp
        have hlat : sk.la.dropLast = s.la := by rw [hak, unhide HS2a]; simp
        have hbnk : sk.ben = s.st.length := by rw [hbk, ← unhide HE2]; rfl
        have hbn0 : s.ben ≤ s.st.length := (unhide HBn0)
        have HLak := hide hlak; have HLat := hide hlat; have HBnk := hide hbnk; have HBN0 := hide hbn0
        clear hTk hblk hrk hall hins hfk hlk hak hbk hk hlt2 hwr hlak hlat hbnk hbn0
        have hLab : (s.la.length : Int) ≤ 1099511627776 := by have := unhide HLa; omega
        clear HI HC HL HLa Hw HS2 HF3 HR3 HN HN2 HE2 HS2l HS2a HBn0 hi0 hz0 hz1 hz2 hn' hlen
        cases ht : tk sk result with
        | none =>
          have hc : cls s result sk = none := by unfold cls; rw [ht]; rfl
          have HCl := hide hc
          rw [ht] at HTk
          clear ht hc hwk
          go_wp2_with fail
          refine wp_region_held_drew (S := fun _ => True) (by kernel_rfl) trivial (fun _ => ?_)
          refine wpAnyH_take (i := 0) (oi := _) (v := ?v0) rfl (by kernel_rfl) (by kernel_rfl) (by kernel_rfl) (fun _ _ _ h => h) (Or.inl ⟨by kernel_rfl, ?y0⟩) trivial ?_
          case y0 => intro w hSw; go_simp; first | done | rfl
          simp only [List.getElem_toArray, List.getElem_cons_succ, List.getElem_cons_zero, Act.put, List.setIfInBounds_toArray, List.set_cons_zero, List.set_cons_succ]
          refine wpAnyH_take (i := 1) (oi := _) (v := ?v1) rfl (by kernel_rfl) (by kernel_rfl) (by kernel_rfl) (fun _ _ _ h => h) (Or.inl ⟨by kernel_rfl, ?y1⟩) trivial ?_
          case y1 => intro w hSw; go_simp; first | done | rfl
          simp only [List.getElem_toArray, List.getElem_cons_succ, List.getElem_cons_zero, Act.put, List.setIfInBounds_toArray, List.set_cons_zero, List.set_cons_succ]
          refine wpAnyH_ready (rs := [2]) (by kernel_rfl) (by simp) ?_
          refine AllReadyH.cons rfl (fun K hK => ?_) AllReadyH.nil
          go_simp
          go_at_call 95
          refine (unhide HTk _ (drew_b wr)).mono ?_
          rintro e w6 ⟨rfl, -, hf6⟩
          have HF6 := hide (Fw.on (unhide HFk) (Fw.on (Fw.of (drew_b wr) (Nat.le_of_lt hwkl)) hf6.fw))
          clear hf6
          go_wp2_with fail
          refine hK.out _ _ trivial (fun _ => ?_)
          refine wpAnyH_take (i := 3) (oi := _) (v := ?v3) rfl (by kernel_rfl) (by kernel_rfl) (by kernel_rfl) (fun _ _ _ h => h) (Or.inl ⟨by kernel_rfl, ?y3⟩) trivial ?_
          case y3 => intro w hSw; go_simp; first | done | rfl
          simp only [List.getElem_toArray, List.getElem_cons_succ, List.getElem_cons_zero, Act.put, List.setIfInBounds_toArray, List.set_cons_zero, List.set_cons_succ]
          refine wpAnyH_take (i := 4) (oi := _) (v := ?v4) rfl (by kernel_rfl) (by kernel_rfl) (by kernel_rfl) (fun _ _ _ h => h) (Or.inl ⟨by kernel_rfl, ?y4⟩) trivial ?_
          case y4 => intro w hSw; go_simp; first | done | rfl
          simp only [List.getElem_toArray, List.getElem_cons_succ, List.getElem_cons_zero, Act.put, List.setIfInBounds_toArray, List.set_cons_zero, List.set_cons_succ]
          refine wpAnyH_take (i := 5) (oi := _) (v := undef) rfl (by kernel_rfl) (by kernel_rfl) (by kernel_rfl) (fun _ _ _ h => h) (Or.inr ⟨by kernel_rfl, rfl⟩) trivial ?_
          simp only [List.getElem_toArray, List.getElem_cons_succ, List.getElem_cons_zero, Act.put, List.setIfInBounds_toArray, List.set_cons_zero, List.set_cons_succ]
          refine wpAnyH_take (i := 6) (oi := _) (v := undef) rfl (by kernel_rfl) (by kernel_rfl) (by kernel_rfl) (fun _ _ _ h => h) (Or.inr ⟨by kernel_rfl, rfl⟩) trivial ?_
          simp only [List.getElem_toArray, List.getElem_cons_succ, List.getElem_cons_zero, Act.put, List.setIfInBounds_toArray, List.set_cons_zero, List.set_cons_succ]
          refine wpAnyH_take (i := 7) (oi := _) (v := undef) rfl (by kernel_rfl) (by kernel_rfl) (by kernel_rfl) (fun _ _ _ h => h) (Or.inr ⟨by kernel_rfl, rfl⟩) trivial ?_
          simp only [List.getElem_toArray, List.getElem_cons_succ, List.getElem_cons_zero, Act.put, List.setIfInBounds_toArray, List.set_cons_zero, List.set_cons_succ]
          refine wpAnyH_take (i := 8) (oi := _) (v := undef) rfl (by kernel_rfl) (by kernel_rfl) (by kernel_rfl) (fun _ _ _ h => h) (Or.inr ⟨by kernel_rfl, rfl⟩) trivial ?_
          simp only [List.getElem_toArray, List.getElem_cons_succ, List.getElem_cons_zero, Act.put, List.setIfInBounds_toArray, List.set_cons_zero, List.set_cons_succ]
          refine wpAnyH_take (i := 9) (oi := _) (v := undef) rfl (by kernel_rfl) (by kernel_rfl) (by kernel_rfl) (fun _ _ _ h => h) (Or.inr ⟨by kernel_rfl, rfl⟩) trivial ?_
          simp only [List.getElem_toArray, List.getElem_cons_succ, List.getElem_cons_zero, Act.put, List.setIfInBounds_toArray, List.set_cons_zero, List.set_cons_succ]
          refine wpAnyH_take (i := 10) (oi := _) (v := undef) rfl (by kernel_rfl) (by kernel_rfl) (by kernel_rfl) (fun _ _ _ h => h) (Or.inr ⟨by kernel_rfl, rfl⟩) trivial ?_
          simp only [List.getElem_toArray, List.getElem_cons_succ, List.getElem_cons_zero, Act.put, List.setIfInBounds_toArray, List.set_cons_zero, List.set_cons_succ]
          refine wpAnyH_take (i := 11) (oi := _) (v := undef) rfl (by kernel_rfl) (by kernel_rfl) (by kernel_rfl) (fun _ _ _ h => h) (Or.inr ⟨by kernel_rfl, rfl⟩) trivial ?_
          simp only [List.getElem_toArray, List.getElem_cons_succ, List.getElem_cons_zero, Act.put, List.setIfInBounds_toArray, List.set_cons_zero, List.set_cons_succ]
          refine wpAnyH_take (i := 12) (oi := _) (v := undef) rfl (by kernel_rfl) (by kernel_rfl) (by kernel_rfl) (fun _ _ _ h => h) (Or.inr ⟨by kernel_rfl, rfl⟩) trivial ?_
          simp only [List.getElem_toArray, List.getElem_cons_succ, List.getElem_cons_zero, Act.put, List.setIfInBounds_toArray, List.set_cons_zero, List.set_cons_succ]
          refine wpAnyH_take (i := 13) (oi := _) (v := undef) rfl (by kernel_rfl) (by kernel_rfl) (by kernel_rfl) (fun _ _ _ h => h) (Or.inr ⟨by kernel_rfl, rfl⟩) trivial ?_
          simp only [List.getElem_toArray, List.getElem_cons_succ, List.getElem_cons_zero, Act.put, List.setIfInBounds_toArray, List.set_cons_zero, List.set_cons_succ]
          refine wpAnyH_take (i := 14) (oi := _) (v := undef) rfl (by kernel_rfl) (by kernel_rfl) (by kernel_rfl) (fun _ _ _ h => h) (Or.inr ⟨by kernel_rfl, rfl⟩) trivial ?_
          simp only [List.getElem_toArray, List.getElem_cons_succ, List.getElem_cons_zero, Act.put, List.setIfInBounds_toArray, List.set_cons_zero, List.set_cons_succ]
          refine wpAnyH_take (i := 15) (oi := _) (v := undef) rfl (by kernel_rfl) (by kernel_rfl) (by kernel_rfl) (fun _ _ _ h => h) (Or.inr ⟨by kernel_rfl, rfl⟩) trivial ?_
          simp only [List.getElem_toArray, List.getElem_cons_succ, List.getElem_cons_zero, Act.put, List.setIfInBounds_toArray, List.set_cons_zero, List.set_cons_succ]
          refine wpAnyH_take (i := 16) (oi := _) (v := ?v16) rfl (by kernel_rfl) (by kernel_rfl) (by kernel_rfl) (fun _ _ _ h => h) (Or.inl ⟨by kernel_rfl, ?y16⟩) trivial ?_
          case y16 => intro w hSw; go_simp; first | done | rfl
          simp only [List.getElem_toArray, List.getElem_cons_succ, List.getElem_cons_zero, Act.put, List.setIfInBounds_toArray, List.set_cons_zero, List.set_cons_succ]
          refine wpAnyH_done (by kernel_rfl) ?_ _
          clear hK
          skip
          go_wp2
          go_ret
          rw [unhide HBlk, unhide HCl]
          exact ⟨rfl, nofun, unhide HF6⟩
        | some s3 =>
          rw [ht] at HTk
          have ht3 := tk_keep ht
          have HT3 := hide ht3; have HTt := hide ht
          obtain ⟨aak, ack, hvak, hack⟩ := slice_of hwk.la
          subst hvak
          have hack' : (s.la.length : Int) + 1 ≤ (ack : Int) := by have := unhide HLak; omega
          clear hack
          clear ht hwk ht3
          go_wp2_with fail
          refine wp_region_held_drew (S := fun _ => True) (by kernel_rfl) trivial (fun _ => ?_)
          refine wpAnyH_take (i := 0) (oi := _) (v := ?v0_1) rfl (by kernel_rfl) (by kernel_rfl) (by kernel_rfl) (fun _ _ _ h => h) (Or.inl ⟨by kernel_rfl, ?y0_1⟩) trivial ?_
          case y0_1 => intro w hSw; go_simp; first | done | rfl
          simp only [List.getElem_toArray, List.getElem_cons_succ, List.getElem_cons_zero, Act.put, List.setIfInBounds_toArray, List.set_cons_zero, List.set_cons_succ]
          refine wpAnyH_take (i := 1) (oi := _) (v := ?v1_2) rfl (by kernel_rfl) (by kernel_rfl) (by kernel_rfl) (fun _ _ _ h => h) (Or.inl ⟨by kernel_rfl, ?y1_2⟩) trivial ?_
          case y1_2 => intro w hSw; go_simp; first | done | rfl
          simp only [List.getElem_toArray, List.getElem_cons_succ, List.getElem_cons_zero, Act.put, List.setIfInBounds_toArray, List.set_cons_zero, List.set_cons_succ]
          refine wpAnyH_ready (rs := [2]) (by kernel_rfl) (by simp) ?_
          refine AllReadyH.cons rfl (fun K hK => ?_) AllReadyH.nil
          go_simp
          go_at_call 95
          refine (unhide HTk _ (drew_b wr)).mono ?_
          rintro e w6 ⟨rfl, hx6, hf6⟩
          obtain ⟨vt6, hw6⟩ := hx6 s3 rfl
          obtain ⟨ta6, tc6, rfl, -⟩ := slice_of hw6.st
          have q10 := hw6.box.cells.2.2.1
          have q11 := hw6.box.cells.2.2.2.1
          have HW6 := hide hw6
          have HF6 := hide (Fw.on (unhide HFk) (Fw.on (Fw.of (drew_b wr) (Nat.le_of_lt hwkl)) hf6.fw))
          have HFb6 := hide hf6
          clear hf6 hw6 hx6
          go_wp2_with fail
          refine hK.out _ _ trivial (fun _ => ?_)
          clear hK
          refine wpAnyH_take (i := 3) (oi := _) (v := ?v3_3) rfl (by kernel_rfl) (by kernel_rfl) (by kernel_rfl) (fun _ _ _ h => h) (Or.inl ⟨by kernel_rfl, ?y3_3⟩) trivial ?_
          case y3_3 => intro w hSw; go_simp; first | done | rfl
          simp only [List.getElem_toArray, List.getElem_cons_succ, List.getElem_cons_zero, Act.put, List.setIfInBounds_toArray, List.set_cons_zero, List.set_cons_succ]
          refine wpAnyH_take (i := 4) (oi := _) (v := ?v4_4) rfl (by kernel_rfl) (by kernel_rfl) (by kernel_rfl) (fun _ _ _ h => h) (Or.inl ⟨by kernel_rfl, ?y4_4⟩) trivial ?_
          case y4_4 => intro w hSw; go_simp; first | done | rfl
          simp only [List.getElem_toArray, List.getElem_cons_succ, List.getElem_cons_zero, Act.put, List.setIfInBounds_toArray, List.set_cons_zero, List.set_cons_succ]
          refine wpAnyH_take (i := 5) (oi := _) (v := ?v5_5) rfl (by kernel_rfl) (by kernel_rfl) (by kernel_rfl) (fun _ _ _ h => h) (Or.inl ⟨by kernel_rfl, ?y5_5⟩) trivial ?_
          case y5_5 => intro w hSw; go_simp; first | done | rfl
          simp only [List.getElem_toArray, List.getElem_cons_succ, List.getElem_cons_zero, Act.put, List.setIfInBounds_toArray, List.set_cons_zero, List.set_cons_succ]
          refine wpAnyH_take (i := 6) (oi := _) (v := ?v6_6) rfl (by kernel_rfl) (by kernel_rfl) (by kernel_rfl) (fun _ _ _ h => h) (Or.inl ⟨by kernel_rfl, ?y6_6⟩) trivial ?_
          case y6_6 => intro w hSw; go_simp; first | done | rfl
          simp only [List.getElem_toArray, List.getElem_cons_succ, List.getElem_cons_zero, Act.put, List.setIfInBounds_toArray, List.set_cons_zero, List.set_cons_succ]
          refine wpAnyH_take (i := 7) (oi := _) (v := ?v7_7) rfl (by kernel_rfl) (by kernel_rfl) (by kernel_rfl) (fun _ _ _ h => h) (Or.inl ⟨by kernel_rfl, ?y7_7⟩) trivial ?_
          case y7_7 => intro w hSw; go_simp; first | done | rfl
          simp only [List.getElem_toArray, List.getElem_cons_succ, List.getElem_cons_zero, Act.put, List.setIfInBounds_toArray, List.set_cons_zero, List.set_cons_succ]
          refine wpAnyH_take (i := 10) (oi := _) (v := ?v10_8) rfl (by kernel_rfl) (by kernel_rfl) (by kernel_rfl) (fun _ _ _ h => h) (Or.inl ⟨by kernel_rfl, ?y10_8⟩) trivial ?_
          case y10_8 => intro w hSw; go_simp; first | done | rfl
          simp only [List.getElem_toArray, List.getElem_cons_succ, List.getElem_cons_zero, Act.put, List.setIfInBounds_toArray, List.set_cons_zero, List.set_cons_succ]
          refine wpAnyH_take (i := 11) (oi := _) (v := ?v11_9) rfl (by kernel_rfl) (by kernel_rfl) (by kernel_rfl) (fun _ _ _ h => h) (Or.inl ⟨by kernel_rfl, ?y11_9⟩) trivial ?_
          case y11_9 => intro w hSw; go_simp; first | done | rfl
          simp only [List.getElem_toArray, List.getElem_cons_succ, List.getElem_cons_zero, Act.put, List.setIfInBounds_toArray, List.set_cons_zero, List.set_cons_succ]
          refine wpAnyH_take (i := 12) (oi := _) (v := ?v12_10) rfl (by kernel_rfl) (by kernel_rfl) (by kernel_rfl) (fun _ _ _ h => h) (Or.inl ⟨by kernel_rfl, ?y12_10⟩) trivial ?_
          case y12_10 => intro w hSw; go_simp; first | done | rfl
          simp only [List.getElem_toArray, List.getElem_cons_succ, List.getElem_cons_zero, Act.put, List.setIfInBounds_toArray, List.set_cons_zero, List.set_cons_succ]
          refine wpAnyH_take (i := 13) (oi := _) (v := ?v13_11) rfl (by kernel_rfl) (by kernel_rfl) (by kernel_rfl) (fun _ _ _ h => h) (Or.inl ⟨by kernel_rfl, ?y13_11⟩) trivial ?_
          case y13_11 => intro w hSw; go_simp; first | done | rfl
          simp only [List.getElem_toArray, List.getElem_cons_succ, List.getElem_cons_zero, Act.put, List.setIfInBounds_toArray, List.set_cons_zero, List.set_cons_succ]
          refine wpAnyH_ready (rs := [8, 14]) (by kernel_rfl) (by simp) ?_
          refine AllReadyH.cons rfl (fun K hK8 => ?_) (AllReadyH.cons rfl (fun K hK14 => ?_) AllReadyH.nil)
          · go_simp
            refine hK8.out _ _ trivial (fun _ => ?_)
            try simp only [List.getElem_toArray, List.getElem_cons_succ, List.getElem_cons_zero, Act.put, List.setIfInBounds_toArray, List.set_cons_zero, List.set_cons_succ]
            clear hK8
            refine wpAnyH_take (i := 9) (oi := _) (v := ?v9_12) rfl (by kernel_rfl) (by kernel_rfl) (by kernel_rfl) (fun _ _ _ h => h) (Or.inl ⟨by kernel_rfl, ?y9_12⟩) trivial ?_
            case y9_12 => intro w hSw; go_simp; first | done | rfl
            simp only [List.getElem_toArray, List.getElem_cons_succ, List.getElem_cons_zero, Act.put, List.setIfInBounds_toArray, List.set_cons_zero, List.set_cons_succ]
            refine wpAnyH_ready (rs := [14]) (by kernel_rfl) (by simp) ?_
            refine AllReadyH.cons rfl (fun K hKa => ?_) AllReadyH.nil
            go_simp
            refine hKa.out _ _ trivial (fun _ => ?_)
            try simp only [List.getElem_toArray, List.getElem_cons_succ, List.getElem_cons_zero, Act.put, List.setIfInBounds_toArray, List.set_cons_zero, List.set_cons_succ]
            clear hKa
            refine wpAnyH_take (i := 15) (oi := _) (v := ?v15_13) rfl (by kernel_rfl) (by kernel_rfl) (by kernel_rfl) (fun _ _ _ h => h) (Or.inl ⟨by kernel_rfl, ?y15_13⟩) trivial ?_
            case y15_13 => intro w hSw; go_simp; first | done | rfl
            simp only [List.getElem_toArray, List.getElem_cons_succ, List.getElem_cons_zero, Act.put, List.setIfInBounds_toArray, List.set_cons_zero, List.set_cons_succ]
            refine wpAnyH_take (i := 16) (oi := _) (v := ?v16_14) rfl (by kernel_rfl) (by kernel_rfl) (by kernel_rfl) (fun _ _ _ h => h) (Or.inl ⟨by kernel_rfl, ?y16_14⟩) trivial ?_
            case y16_14 => intro w hSw; go_simp; first | done | rfl
            simp only [List.getElem_toArray, List.getElem_cons_succ, List.getElem_cons_zero, Act.put, List.setIfInBounds_toArray, List.set_cons_zero, List.set_cons_succ]
            refine wpAnyH_done (by kernel_rfl) ?_ _
            by_cases hc : s3.ben < s3.st.length
            · have hcl : cls s result sk = none := by unfold cls; rw [unhide HTt]; show (if s3.ben < s3.st.length then none else _) = none; rw [if_pos hc]
              have hc' : (s3.st.length : Int) > (s3.ben : Int) := by omega
              have HCl := hide hcl
              clear hcl hc q10 q11
              go_wp2
              go_ret
              rw [unhide HBlk, unhide HCl]
              exact ⟨rfl, nofun, unhide HF6⟩
            · have hcl : cls s result sk = some { s3 with la := s3.la.dropLast, ben := s.ben, beh := s.beh, wit := s.wit } := by unfold cls; rw [unhide HTt]; show (if s3.ben < s3.st.length then none else _) = _; rw [if_neg hc]
              have hc' : decide ((s3.st.length : Int) > (s3.ben : Int)) = false := decide_eq_false (by omega)
              have hcn : decide (s3.ben < s3.st.length) = false := decide_eq_false hc
              have hw6 := unhide HW6
              have q9 := hw6.box.cells.2.1
              have hla3 : s3.la.length = s.la.length + 1 := by rw [(unhide HT3).1]; exact unhide HLak
              have hcut := hw6.cutL s.la.length (by omega)
              have htk3 : s3.la.take s.la.length = s3.la.dropLast := by rw [List.dropLast_eq_take, hla3]; rfl
              have hr6 := ((unhide HFb6).hi w.heap.size hlk2 nN').trans (unhide HRk)
              have hsb : s.ben ≤ s3.st.length := by have := hw6.hb; have := (unhide HT3).2; have := unhide HBnk; have := unhide HBN0; omega
              rw [unhide HLak] at q9
              have fr6 := hw6.box.fr
              have HCl := hide hcl; have HCut := hide hcut; have HTk3 := hide htk3; have HSb := hide hsb; have HR6 := hide hr6
              clear hcl hw6 hcut htk3 hsb hr6 q10 q11 hla3
              generalize hLL : s.la.length = LL at *
              go_wp2_with fail
              go_region
              obtain ⟨X, hX⟩ : ∃ X, (w6.setCell ⟨N, 9, none⟩ (.slice aak LL ack)).drew = X := ⟨_, rfl⟩
              rw [hX]
              have hxw := (unhide HCut).below (drew_b _)
              rw [hX] at hxw
              have hsc := hxw.scope s.ben s.beh s.wit (unhide HSb)
              have hrx : X.heap[w.heap.size]? = some (.cells #[.int .i64 (s.ben : Int), .bool s.beh, .bool s.wit] 136 (0, 0)) := by rw [← hX]; exact (heap_setCell_other w6 ⟨N, 9, none⟩ _ _ nN').trans (unhide HR6)
              have hFx : Fw N w X := by rw [← hX]; exact (Fw.on (unhide HF6) (Fb.set 9 _).fw).tail (Nat.le_of_lt hlt) ((drew_b _).mono (Nat.le_trans (unhide HF6).lo.size (Fb.set (N := N) 9 _).lo.size))
              have o0 : X.cell? ⟨w.heap.size, 0, none⟩ = some (.int .i64 (s.ben : Int)) := by rw [cell_of_row X _ 0 _ _ _ hrx]; rfl
              have o1 : X.cell? ⟨w.heap.size, 1, none⟩ = some (.bool s.beh) := by rw [cell_of_row X _ 1 _ _ _ hrx]; rfl
              have o2 : X.cell? ⟨w.heap.size, 2, none⟩ = some (.bool s.wit) := by rw [cell_of_row X _ 2 _ _ _ hrx]; rfl
              obtain ⟨x8, x9, x10, x11, x12, x13, x14⟩ := hxw.box.cells
              have frx := hxw.box.fr
              have HSc := hide hsc; have HFx := hide hFx
              clear hX hxw hsc hrx hFx x8 x9 x10 x14 q9 fr6
              go_wp2
              go_ret
              rw [unhide HBlk, unhide HCl]
              refine ⟨rfl, fun s' e => ?_, Fw.on (unhide HFx) (Fb.set3 11 12 13 _ _ _).fw⟩
              cases e
              rw [← unhide HTk3]
              exact ⟨_, _, unhide HSc⟩
          · go_simp
            refine hK14.out _ _ trivial (fun _ => ?_)
            try simp only [List.getElem_toArray, List.getElem_cons_succ, List.getElem_cons_zero, Act.put, List.setIfInBounds_toArray, List.set_cons_zero, List.set_cons_succ]
            clear hK14
            refine wpAnyH_ready (rs := [8]) (by kernel_rfl) (by simp) ?_
            refine AllReadyH.cons rfl (fun K hKb => ?_) AllReadyH.nil
            go_simp
            refine hKb.out _ _ trivial (fun _ => ?_)
            try simp only [List.getElem_toArray, List.getElem_cons_succ, List.getElem_cons_zero, Act.put, List.setIfInBounds_toArray, List.set_cons_zero, List.set_cons_succ]
            clear hKb
            refine wpAnyH_take (i := 9) (oi := _) (v := ?v9_15) rfl (by kernel_rfl) (by kernel_rfl) (by kernel_rfl) (fun _ _ _ h => h) (Or.inl ⟨by kernel_rfl, ?y9_15⟩) trivial ?_
            case y9_15 => intro w hSw; go_simp; first | done | rfl
            simp only [List.getElem_toArray, List.getElem_cons_succ, List.getElem_cons_zero, Act.put, List.setIfInBounds_toArray, List.set_cons_zero, List.set_cons_succ]
            refine wpAnyH_take (i := 15) (oi := _) (v := ?v15_16) rfl (by kernel_rfl) (by kernel_rfl) (by kernel_rfl) (fun _ _ _ h => h) (Or.inl ⟨by kernel_rfl, ?y15_16⟩) trivial ?_
            case y15_16 => intro w hSw; go_simp; first | done | rfl
            simp only [List.getElem_toArray, List.getElem_cons_succ, List.getElem_cons_zero, Act.put, List.setIfInBounds_toArray, List.set_cons_zero, List.set_cons_succ]
            refine wpAnyH_take (i := 16) (oi := _) (v := ?v16_17) rfl (by kernel_rfl) (by kernel_rfl) (by kernel_rfl) (fun _ _ _ h => h) (Or.inl ⟨by kernel_rfl, ?y16_17⟩) trivial ?_
            case y16_17 => intro w hSw; go_simp; first | done | rfl
            simp only [List.getElem_toArray, List.getElem_cons_succ, List.getElem_cons_zero, Act.put, List.setIfInBounds_toArray, List.set_cons_zero, List.set_cons_succ]
            refine wpAnyH_done (by kernel_rfl) ?_ _
            by_cases hc : s3.ben < s3.st.length
            · have hcl : cls s result sk = none := by unfold cls; rw [unhide HTt]; show (if s3.ben < s3.st.length then none else _) = none; rw [if_pos hc]
              have hc' : (s3.st.length : Int) > (s3.ben : Int) := by omega
              have HCl := hide hcl
              clear hcl hc q10 q11
              go_wp2
              go_ret
              rw [unhide HBlk, unhide HCl]
              exact ⟨rfl, nofun, unhide HF6⟩
            · have hcl : cls s result sk = some { s3 with la := s3.la.dropLast, ben := s.ben, beh := s.beh, wit := s.wit } := by unfold cls; rw [unhide HTt]; show (if s3.ben < s3.st.length then none else _) = _; rw [if_neg hc]
              have hc' : decide ((s3.st.length : Int) > (s3.ben : Int)) = false := decide_eq_false (by omega)
              have hcn : decide (s3.ben < s3.st.length) = false := decide_eq_false hc
              have hw6 := unhide HW6
              have q9 := hw6.box.cells.2.1
              have hla3 : s3.la.length = s.la.length + 1 := by rw [(unhide HT3).1]; exact unhide HLak
              have hcut := hw6.cutL s.la.length (by omega)
              have htk3 : s3.la.take s.la.length = s3.la.dropLast := by rw [List.dropLast_eq_take, hla3]; rfl
              have hr6 := ((unhide HFb6).hi w.heap.size hlk2 nN').trans (unhide HRk)
              have hsb : s.ben ≤ s3.st.length := by have := hw6.hb; have := (unhide HT3).2; have := unhide HBnk; have := unhide HBN0; omega
              rw [unhide HLak] at q9
              have fr6 := hw6.box.fr
              have HCl := hide hcl; have HCut := hide hcut; have HTk3 := hide htk3; have HSb := hide hsb; have HR6 := hide hr6
              clear hcl hw6 hcut htk3 hsb hr6 q10 q11 hla3
              generalize hLL : s.la.length = LL at *
              go_wp2_with fail
              go_region
              obtain ⟨X, hX⟩ : ∃ X, (w6.setCell ⟨N, 9, none⟩ (.slice aak LL ack)).drew = X := ⟨_, rfl⟩
              rw [hX]
              have hxw := (unhide HCut).below (drew_b _)
              rw [hX] at hxw
              have hsc := hxw.scope s.ben s.beh s.wit (unhide HSb)
              have hrx : X.heap[w.heap.size]? = some (.cells #[.int .i64 (s.ben : Int), .bool s.beh, .bool s.wit] 136 (0, 0)) := by rw [← hX]; exact (heap_setCell_other w6 ⟨N, 9, none⟩ _ _ nN').trans (unhide HR6)
              have hFx : Fw N w X := by rw [← hX]; exact (Fw.on (unhide HF6) (Fb.set 9 _).fw).tail (Nat.le_of_lt hlt) ((drew_b _).mono (Nat.le_trans (unhide HF6).lo.size (Fb.set (N := N) 9 _).lo.size))
              have o0 : X.cell? ⟨w.heap.size, 0, none⟩ = some (.int .i64 (s.ben : Int)) := by rw [cell_of_row X _ 0 _ _ _ hrx]; rfl
              have o1 : X.cell? ⟨w.heap.size, 1, none⟩ = some (.bool s.beh) := by rw [cell_of_row X _ 1 _ _ _ hrx]; rfl
              have o2 : X.cell? ⟨w.heap.size, 2, none⟩ = some (.bool s.wit) := by rw [cell_of_row X _ 2 _ _ _ hrx]; rfl
              obtain ⟨x8, x9, x10, x11, x12, x13, x14⟩ := hxw.box.cells
              have frx := hxw.box.fr
              have HSc := hide hsc; have HFx := hide hFx
              clear hX hxw hsc hrx hFx x8 x9 x10 x14 q9 fr6
              go_wp2
              go_ret
              rw [unhide HBlk, unhide HCl]
              refine ⟨rfl, fun s' e => ?_, Fw.on (unhide HFx) (Fb.set3 11 12 13 _ _ _).fw⟩
              cases e
              rw [← unhide HTk3]
              exact ⟨_, _, unhide HSc⟩
end Vw
end Go.Proofs.YtcpknafaocdjdaaGreatDoor
