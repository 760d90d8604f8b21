/- The checker's hasNoMore. -/
import Derived.Test.YtjhmglefejclpaaDoorExG
namespace Go.Proofs.YtjhmglefejclpaaDoor
open Go.RowKit
namespace Ex
set_option linter.unusedVariables false

theorem bx_four (w : World) (x0 x1 x2 x3 x4 x5 x6 x7 y0 y1 y2 y3 y4 y5 y6 y7 : Value) (W : World)
    (hW : W = (((w.alloc (.cells #[x0, x1, x2, x3, x4, x5, x6, x7] 50)).alloc (.cells #[y0, y1, y2, y3, y4, y5, y6, y7] 50)).alloc (.cells #[x0, x1, x2, x3, x4, x5, x6, x7] 50)).alloc (.cells #[y0, y1, y2, y3, y4, y5, y6, y7] 50)) :
    Below w.heap.size w W ∧ Bx W (w.heap.size + 1 + 1) x0 x1 x2 x3 x4 x5 x6 x7 ∧ Bx W (w.heap.size + 1 + 1 + 1) y0 y1 y2 y3 y4 y5 y6 y7 := by
  subst hW
  obtain ⟨a1, a2, a3, a4⟩ := bx_two w x0 x1 x2 x3 x4 x5 x6 x7 y0 y1 y2 y3 y4 y5 y6 y7
  obtain ⟨b1, b2, b3, b4⟩ := bx_two ((w.alloc (.cells #[x0, x1, x2, x3, x4, x5, x6, x7] 50)).alloc (.cells #[y0, y1, y2, y3, y4, y5, y6, y7] 50)) x0 x1 x2 x3 x4 x5 x6 x7 y0 y1 y2 y3 y4 y5 y6 y7
  rw [a4] at b2 b3
  exact ⟨Below.on a1 b1, b2, b3⟩
theorem plain_sz (op : Int) : Sz 1099511627776 [plain op] := (Sz_cons _ _ _).2 ⟨⟨by simp [plain], by simp [plain], by simp [plain], Sz_nil _, Sz_nil _⟩, Sz_nil _⟩

set_option maxRecDepth 100000 in
set_option maxHeartbeats 1600000 in
theorem hnm_0 (i : Ins) (w : World) {g : Nat → Prop} {vb ve vl : Value} (h1 : Code w g i.body vb) (h2 : Code w g i.els ve) (h3 : Lies g i.ls.length (Lab w i.ls) vl) (sz : SzI 1099511627776 i) :
    Calls Tryd.prog 61 #[.agg #[.int .u8 i.op, .int .i64 i.n, .int .u32 i.al, .int .u32 i.of, .int .u8 i.re, vb, ve, vl], .int .i64 0] w fun r w' => r = .returned (.bool (alo 0 i.n i.al i.of i.re i.body.length i.els.length i.ls.length)) ∧ Below w.heap.size w w' := by
  have hal := bare_alo 0 i
  obtain ⟨op, n, al, of, re, bo, el, ls⟩ := i
  simp only at *
  have H1 := hide h1; have H2 := hide h2; have H3 := hide h3; have SZ := hide sz
  obtain ⟨ab, cb, rfl, _⟩ := h1
  obtain ⟨ae, ce, rfl, _⟩ := h2
  obtain ⟨al3, cl, rfl, _⟩ := h3
  rw [← hal]
  clear hal sz
  go_enter Tryd.func61, Tryd.ntmps61
  go_wp2_with fail
  obtain ⟨hb, b2, b3⟩ := bx_four w (.int .u8 op) (.int .i64 n) (.int .u32 al) (.int .u32 of) (.int .u8 re) (.slice ab bo.length cb) (.slice ae el.length ce) (.slice al3 ls.length cl) (.int .u8 op) (.int .i64 0) (.int .u32 0) (.int .u32 0) (.int .u8 0) (.slice none 0 0) (.slice none 0 0) (.slice none 0 0) _ rfl
  generalize (((w.alloc (.cells #[.int .u8 op, .int .i64 n, .int .u32 al, .int .u32 of, .int .u8 re, .slice ab bo.length cb, .slice ae el.length ce, .slice al3 ls.length cl] 50)).alloc (.cells #[.int .u8 op, .int .i64 0, .int .u32 0, .int .u32 0, .int .u8 0, .slice none 0 0, .slice none 0 0, .slice none 0 0] 50)).alloc (.cells #[.int .u8 op, .int .i64 n, .int .u32 al, .int .u32 of, .int .u8 re, .slice ab bo.length cb, .slice ae el.length ce, .slice al3 ls.length cl] 50)).alloc (.cells #[.int .u8 op, .int .i64 0, .int .u32 0, .int .u32 0, .int .u8 0, .slice none 0 0, .slice none 0 0, .slice none 0 0] 50) = W at *
  have k1 : Code W (fun _ => True) [bare 0 ⟨op, n, al, of, re, bo, el, ls⟩] (.slice (some ⟨w.heap.size + 1 + 1, 0, none⟩) 1 1) := by
    refine Code_one (vb := .slice ab bo.length cb) (ve := .slice ae el.length ce) (vl := .slice al3 ls.length cl) b2 trivial (by omega) ?_ ?_ ?_
    · exact ((unhide H1).any (fun _ _ _ => trivial)).below hb
    · exact ((unhide H2).any (fun _ _ _ => trivial)).below hb
    · exact Labs.below (Labs.any (unhide H3) (fun _ _ _ => trivial)) hb
  have k2 : Code W (fun _ => True) [plain op] (.slice (some ⟨w.heap.size + 1 + 1 + 1, 0, none⟩) 1 1) := Code_one (i := plain op) (vb := .slice none 0 0) (ve := .slice none 0 0) (vl := .slice none 0 0) b3 trivial (by omega) (Code_nil _ _) (Code_nil _ _) (Labs_nil _ _)
  have k3 : Sz 1099511627776 [bare 0 ⟨op, n, al, of, re, bo, el, ls⟩] := (Sz_cons _ _ _).2 ⟨⟨(unhide SZ).1, (unhide SZ).2.1, (unhide SZ).2.2.1, (unhide SZ).2.2.2.1, (unhide SZ).2.2.2.2⟩, Sz_nil _⟩
  have HB := hide hb
  refine (same_any _ [plain op] _ _ _ _ W k1 k2 (by simp) k3 (by simp) (plain_sz op)).mono ?_
  rintro e w1 ⟨rfl, hb1⟩
  have HB1 := hide (Below.on (unhide HB) hb1)
  clear hb1 hb b2 b3 k1 k2 k3 HB
  go_wp2
  go_ret
  exact ⟨rfl, unhide HB1⟩

set_option maxRecDepth 100000 in
set_option maxHeartbeats 1600000 in
theorem hnm_1 (i : Ins) (w : World) {g : Nat → Prop} {vb ve vl : Value} (h1 : Code w g i.body vb) (h2 : Code w g i.els ve) (h3 : Lies g i.ls.length (Lab w i.ls) vl) (sz : SzI 1099511627776 i) :
    Calls Tryd.prog 61 #[.agg #[.int .u8 i.op, .int .i64 i.n, .int .u32 i.al, .int .u32 i.of, .int .u8 i.re, vb, ve, vl], .int .i64 1] w fun r w' => r = .returned (.bool (alo 1 i.n i.al i.of i.re i.body.length i.els.length i.ls.length)) ∧ Below w.heap.size w w' := by
  have hal := bare_alo 1 i
  obtain ⟨op, n, al, of, re, bo, el, ls⟩ := i
  simp only at *
  have H1 := hide h1; have H2 := hide h2; have H3 := hide h3; have SZ := hide sz
  obtain ⟨ab, cb, rfl, _⟩ := h1
  obtain ⟨ae, ce, rfl, _⟩ := h2
  obtain ⟨al3, cl, rfl, _⟩ := h3
  rw [← hal]
  clear hal sz
  go_enter Tryd.func61, Tryd.ntmps61
  go_wp2_with fail
  obtain ⟨hb, b2, b3⟩ := bx_four w (.int .u8 op) (.int .i64 0) (.int .u32 al) (.int .u32 of) (.int .u8 re) (.slice ab bo.length cb) (.slice ae el.length ce) (.slice al3 ls.length cl) (.int .u8 op) (.int .i64 0) (.int .u32 0) (.int .u32 0) (.int .u8 0) (.slice none 0 0) (.slice none 0 0) (.slice none 0 0) _ rfl
  generalize (((w.alloc (.cells #[.int .u8 op, .int .i64 0, .int .u32 al, .int .u32 of, .int .u8 re, .slice ab bo.length cb, .slice ae el.length ce, .slice al3 ls.length cl] 50)).alloc (.cells #[.int .u8 op, .int .i64 0, .int .u32 0, .int .u32 0, .int .u8 0, .slice none 0 0, .slice none 0 0, .slice none 0 0] 50)).alloc (.cells #[.int .u8 op, .int .i64 0, .int .u32 al, .int .u32 of, .int .u8 re, .slice ab bo.length cb, .slice ae el.length ce, .slice al3 ls.length cl] 50)).alloc (.cells #[.int .u8 op, .int .i64 0, .int .u32 0, .int .u32 0, .int .u8 0, .slice none 0 0, .slice none 0 0, .slice none 0 0] 50) = W at *
  have k1 : Code W (fun _ => True) [bare 1 ⟨op, n, al, of, re, bo, el, ls⟩] (.slice (some ⟨w.heap.size + 1 + 1, 0, none⟩) 1 1) := by
    refine Code_one (vb := .slice ab bo.length cb) (ve := .slice ae el.length ce) (vl := .slice al3 ls.length cl) b2 trivial (by omega) ?_ ?_ ?_
    · exact ((unhide H1).any (fun _ _ _ => trivial)).below hb
    · exact ((unhide H2).any (fun _ _ _ => trivial)).below hb
    · exact Labs.below (Labs.any (unhide H3) (fun _ _ _ => trivial)) hb
  have k2 : Code W (fun _ => True) [plain op] (.slice (some ⟨w.heap.size + 1 + 1 + 1, 0, none⟩) 1 1) := Code_one (i := plain op) (vb := .slice none 0 0) (ve := .slice none 0 0) (vl := .slice none 0 0) b3 trivial (by omega) (Code_nil _ _) (Code_nil _ _) (Labs_nil _ _)
  have k3 : Sz 1099511627776 [bare 1 ⟨op, n, al, of, re, bo, el, ls⟩] := (Sz_cons _ _ _).2 ⟨⟨(unhide SZ).1, (unhide SZ).2.1, (unhide SZ).2.2.1, (unhide SZ).2.2.2.1, (unhide SZ).2.2.2.2⟩, Sz_nil _⟩
  have HB := hide hb
  refine (same_any _ [plain op] _ _ _ _ W k1 k2 (by simp) k3 (by simp) (plain_sz op)).mono ?_
  rintro e w1 ⟨rfl, hb1⟩
  have HB1 := hide (Below.on (unhide HB) hb1)
  clear hb1 hb b2 b3 k1 k2 k3 HB
  go_wp2
  go_ret
  exact ⟨rfl, unhide HB1⟩

set_option maxRecDepth 100000 in
set_option maxHeartbeats 1600000 in
theorem hnm_2 (i : Ins) (w : World) {g : Nat → Prop} {vb ve vl : Value} (h1 : Code w g i.body vb) (h2 : Code w g i.els ve) (h3 : Lies g i.ls.length (Lab w i.ls) vl) (sz : SzI 1099511627776 i) :
    Calls Tryd.prog 61 #[.agg #[.int .u8 i.op, .int .i64 i.n, .int .u32 i.al, .int .u32 i.of, .int .u8 i.re, vb, ve, vl], .int .i64 2] w fun r w' => r = .returned (.bool (alo 2 i.n i.al i.of i.re i.body.length i.els.length i.ls.length)) ∧ Below w.heap.size w w' := by
  have hal := bare_alo 2 i
  obtain ⟨op, n, al, of, re, bo, el, ls⟩ := i
  simp only at *
  have H1 := hide h1; have H2 := hide h2; have H3 := hide h3; have SZ := hide sz
  obtain ⟨ab, cb, rfl, _⟩ := h1
  obtain ⟨ae, ce, rfl, _⟩ := h2
  obtain ⟨al3, cl, rfl, _⟩ := h3
  rw [← hal]
  clear hal sz
  go_enter Tryd.func61, Tryd.ntmps61
  go_wp2_with fail
  obtain ⟨hb, b2, b3⟩ := bx_four w (.int .u8 op) (.int .i64 0) (.int .u32 al) (.int .u32 of) (.int .u8 re) (.slice ab bo.length cb) (.slice ae el.length ce) (.slice al3 ls.length cl) (.int .u8 op) (.int .i64 0) (.int .u32 0) (.int .u32 0) (.int .u8 0) (.slice none 0 0) (.slice none 0 0) (.slice none 0 0) _ rfl
  generalize (((w.alloc (.cells #[.int .u8 op, .int .i64 0, .int .u32 al, .int .u32 of, .int .u8 re, .slice ab bo.length cb, .slice ae el.length ce, .slice al3 ls.length cl] 50)).alloc (.cells #[.int .u8 op, .int .i64 0, .int .u32 0, .int .u32 0, .int .u8 0, .slice none 0 0, .slice none 0 0, .slice none 0 0] 50)).alloc (.cells #[.int .u8 op, .int .i64 0, .int .u32 al, .int .u32 of, .int .u8 re, .slice ab bo.length cb, .slice ae el.length ce, .slice al3 ls.length cl] 50)).alloc (.cells #[.int .u8 op, .int .i64 0, .int .u32 0, .int .u32 0, .int .u8 0, .slice none 0 0, .slice none 0 0, .slice none 0 0] 50) = W at *
  have k1 : Code W (fun _ => True) [bare 2 ⟨op, n, al, of, re, bo, el, ls⟩] (.slice (some ⟨w.heap.size + 1 + 1, 0, none⟩) 1 1) := by
    refine Code_one (vb := .slice ab bo.length cb) (ve := .slice ae el.length ce) (vl := .slice al3 ls.length cl) b2 trivial (by omega) ?_ ?_ ?_
    · exact ((unhide H1).any (fun _ _ _ => trivial)).below hb
    · exact ((unhide H2).any (fun _ _ _ => trivial)).below hb
    · exact Labs.below (Labs.any (unhide H3) (fun _ _ _ => trivial)) hb
  have k2 : Code W (fun _ => True) [plain op] (.slice (some ⟨w.heap.size + 1 + 1 + 1, 0, none⟩) 1 1) := Code_one (i := plain op) (vb := .slice none 0 0) (ve := .slice none 0 0) (vl := .slice none 0 0) b3 trivial (by omega) (Code_nil _ _) (Code_nil _ _) (Labs_nil _ _)
  have k3 : Sz 1099511627776 [bare 2 ⟨op, n, al, of, re, bo, el, ls⟩] := (Sz_cons _ _ _).2 ⟨⟨(unhide SZ).1, (unhide SZ).2.1, (unhide SZ).2.2.1, (unhide SZ).2.2.2.1, (unhide SZ).2.2.2.2⟩, Sz_nil _⟩
  have HB := hide hb
  refine (same_any _ [plain op] _ _ _ _ W k1 k2 (by simp) k3 (by simp) (plain_sz op)).mono ?_
  rintro e w1 ⟨rfl, hb1⟩
  have HB1 := hide (Below.on (unhide HB) hb1)
  clear hb1 hb b2 b3 k1 k2 k3 HB
  go_wp2
  go_ret
  exact ⟨rfl, unhide HB1⟩

set_option maxRecDepth 100000 in
set_option maxHeartbeats 1600000 in
theorem hnm_3 (i : Ins) (w : World) {g : Nat → Prop} {vb ve vl : Value} (h1 : Code w g i.body vb) (h2 : Code w g i.els ve) (h3 : Lies g i.ls.length (Lab w i.ls) vl) (sz : SzI 1099511627776 i) :
    Calls Tryd.prog 61 #[.agg #[.int .u8 i.op, .int .i64 i.n, .int .u32 i.al, .int .u32 i.of, .int .u8 i.re, vb, ve, vl], .int .i64 3] w fun r w' => r = .returned (.bool (alo 3 i.n i.al i.of i.re i.body.length i.els.length i.ls.length)) ∧ Below w.heap.size w w' := by
  have hal := bare_alo 3 i
  obtain ⟨op, n, al, of, re, bo, el, ls⟩ := i
  simp only at *
  have H1 := hide h1; have H2 := hide h2; have H3 := hide h3; have SZ := hide sz
  obtain ⟨ab, cb, rfl, _⟩ := h1
  obtain ⟨ae, ce, rfl, _⟩ := h2
  obtain ⟨al3, cl, rfl, _⟩ := h3
  rw [← hal]
  clear hal sz
  go_enter Tryd.func61, Tryd.ntmps61
  go_wp2_with fail
  obtain ⟨hb, b2, b3⟩ := bx_four w (.int .u8 op) (.int .i64 0) (.int .u32 al) (.int .u32 of) (.int .u8 re) (.slice ab bo.length cb) (.slice ae el.length ce) (.slice al3 ls.length cl) (.int .u8 op) (.int .i64 0) (.int .u32 0) (.int .u32 0) (.int .u8 0) (.slice none 0 0) (.slice none 0 0) (.slice none 0 0) _ rfl
  generalize (((w.alloc (.cells #[.int .u8 op, .int .i64 0, .int .u32 al, .int .u32 of, .int .u8 re, .slice ab bo.length cb, .slice ae el.length ce, .slice al3 ls.length cl] 50)).alloc (.cells #[.int .u8 op, .int .i64 0, .int .u32 0, .int .u32 0, .int .u8 0, .slice none 0 0, .slice none 0 0, .slice none 0 0] 50)).alloc (.cells #[.int .u8 op, .int .i64 0, .int .u32 al, .int .u32 of, .int .u8 re, .slice ab bo.length cb, .slice ae el.length ce, .slice al3 ls.length cl] 50)).alloc (.cells #[.int .u8 op, .int .i64 0, .int .u32 0, .int .u32 0, .int .u8 0, .slice none 0 0, .slice none 0 0, .slice none 0 0] 50) = W at *
  have k1 : Code W (fun _ => True) [bare 3 ⟨op, n, al, of, re, bo, el, ls⟩] (.slice (some ⟨w.heap.size + 1 + 1, 0, none⟩) 1 1) := by
    refine Code_one (vb := .slice ab bo.length cb) (ve := .slice ae el.length ce) (vl := .slice al3 ls.length cl) b2 trivial (by omega) ?_ ?_ ?_
    · exact ((unhide H1).any (fun _ _ _ => trivial)).below hb
    · exact ((unhide H2).any (fun _ _ _ => trivial)).below hb
    · exact Labs.below (Labs.any (unhide H3) (fun _ _ _ => trivial)) hb
  have k2 : Code W (fun _ => True) [plain op] (.slice (some ⟨w.heap.size + 1 + 1 + 1, 0, none⟩) 1 1) := Code_one (i := plain op) (vb := .slice none 0 0) (ve := .slice none 0 0) (vl := .slice none 0 0) b3 trivial (by omega) (Code_nil _ _) (Code_nil _ _) (Labs_nil _ _)
  have k3 : Sz 1099511627776 [bare 3 ⟨op, n, al, of, re, bo, el, ls⟩] := (Sz_cons _ _ _).2 ⟨⟨(unhide SZ).1, (unhide SZ).2.1, (unhide SZ).2.2.1, (unhide SZ).2.2.2.1, (unhide SZ).2.2.2.2⟩, Sz_nil _⟩
  have HB := hide hb
  refine (same_any _ [plain op] _ _ _ _ W k1 k2 (by simp) k3 (by simp) (plain_sz op)).mono ?_
  rintro e w1 ⟨rfl, hb1⟩
  have HB1 := hide (Below.on (unhide HB) hb1)
  clear hb1 hb b2 b3 k1 k2 k3 HB
  go_wp2
  go_ret
  exact ⟨rfl, unhide HB1⟩

set_option maxRecDepth 100000 in
set_option maxHeartbeats 1600000 in
theorem hnm_4 (i : Ins) (w : World) {g : Nat → Prop} {vb ve vl : Value} (h1 : Code w g i.body vb) (h2 : Code w g i.els ve) (h3 : Lies g i.ls.length (Lab w i.ls) vl) (sz : SzI 1099511627776 i) :
    Calls Tryd.prog 61 #[.agg #[.int .u8 i.op, .int .i64 i.n, .int .u32 i.al, .int .u32 i.of, .int .u8 i.re, vb, ve, vl], .int .i64 4] w fun r w' => r = .returned (.bool (alo 4 i.n i.al i.of i.re i.body.length i.els.length i.ls.length)) ∧ Below w.heap.size w w' := by
  have hal := bare_alo 4 i
  obtain ⟨op, n, al, of, re, bo, el, ls⟩ := i
  simp only at *
  have H1 := hide h1; have H2 := hide h2; have H3 := hide h3; have SZ := hide sz
  obtain ⟨ab, cb, rfl, _⟩ := h1
  obtain ⟨ae, ce, rfl, _⟩ := h2
  obtain ⟨al3, cl, rfl, _⟩ := h3
  rw [← hal]
  clear hal sz
  go_enter Tryd.func61, Tryd.ntmps61
  go_wp2_with fail
  obtain ⟨hb, b2, b3⟩ := bx_four w (.int .u8 op) (.int .i64 n) (.int .u32 0) (.int .u32 0) (.int .u8 re) (.slice ab bo.length cb) (.slice ae el.length ce) (.slice al3 ls.length cl) (.int .u8 op) (.int .i64 0) (.int .u32 0) (.int .u32 0) (.int .u8 0) (.slice none 0 0) (.slice none 0 0) (.slice none 0 0) _ rfl
  generalize (((w.alloc (.cells #[.int .u8 op, .int .i64 n, .int .u32 0, .int .u32 0, .int .u8 re, .slice ab bo.length cb, .slice ae el.length ce, .slice al3 ls.length cl] 50)).alloc (.cells #[.int .u8 op, .int .i64 0, .int .u32 0, .int .u32 0, .int .u8 0, .slice none 0 0, .slice none 0 0, .slice none 0 0] 50)).alloc (.cells #[.int .u8 op, .int .i64 n, .int .u32 0, .int .u32 0, .int .u8 re, .slice ab bo.length cb, .slice ae el.length ce, .slice al3 ls.length cl] 50)).alloc (.cells #[.int .u8 op, .int .i64 0, .int .u32 0, .int .u32 0, .int .u8 0, .slice none 0 0, .slice none 0 0, .slice none 0 0] 50) = W at *
  have k1 : Code W (fun _ => True) [bare 4 ⟨op, n, al, of, re, bo, el, ls⟩] (.slice (some ⟨w.heap.size + 1 + 1, 0, none⟩) 1 1) := by
    refine Code_one (vb := .slice ab bo.length cb) (ve := .slice ae el.length ce) (vl := .slice al3 ls.length cl) b2 trivial (by omega) ?_ ?_ ?_
    · exact ((unhide H1).any (fun _ _ _ => trivial)).below hb
    · exact ((unhide H2).any (fun _ _ _ => trivial)).below hb
    · exact Labs.below (Labs.any (unhide H3) (fun _ _ _ => trivial)) hb
  have k2 : Code W (fun _ => True) [plain op] (.slice (some ⟨w.heap.size + 1 + 1 + 1, 0, none⟩) 1 1) := Code_one (i := plain op) (vb := .slice none 0 0) (ve := .slice none 0 0) (vl := .slice none 0 0) b3 trivial (by omega) (Code_nil _ _) (Code_nil _ _) (Labs_nil _ _)
  have k3 : Sz 1099511627776 [bare 4 ⟨op, n, al, of, re, bo, el, ls⟩] := (Sz_cons _ _ _).2 ⟨⟨(unhide SZ).1, (unhide SZ).2.1, (unhide SZ).2.2.1, (unhide SZ).2.2.2.1, (unhide SZ).2.2.2.2⟩, Sz_nil _⟩
  have HB := hide hb
  refine (same_any _ [plain op] _ _ _ _ W k1 k2 (by simp) k3 (by simp) (plain_sz op)).mono ?_
  rintro e w1 ⟨rfl, hb1⟩
  have HB1 := hide (Below.on (unhide HB) hb1)
  clear hb1 hb b2 b3 k1 k2 k3 HB
  go_wp2
  go_ret
  exact ⟨rfl, unhide HB1⟩

set_option maxRecDepth 100000 in
set_option maxHeartbeats 1600000 in
theorem hnm_5 (i : Ins) (w : World) {g : Nat → Prop} {vb ve vl : Value} (h1 : Code w g i.body vb) (h2 : Code w g i.els ve) (h3 : Lies g i.ls.length (Lab w i.ls) vl) (sz : SzI 1099511627776 i) :
    Calls Tryd.prog 61 #[.agg #[.int .u8 i.op, .int .i64 i.n, .int .u32 i.al, .int .u32 i.of, .int .u8 i.re, vb, ve, vl], .int .i64 5] w fun r w' => r = .returned (.bool (alo 5 i.n i.al i.of i.re i.body.length i.els.length i.ls.length)) ∧ Below w.heap.size w w' := by
  have hal := bare_alo 5 i
  obtain ⟨op, n, al, of, re, bo, el, ls⟩ := i
  simp only at *
  have H1 := hide h1; have H2 := hide h2; have H3 := hide h3; have SZ := hide sz
  obtain ⟨ab, cb, rfl, _⟩ := h1
  obtain ⟨ae, ce, rfl, _⟩ := h2
  obtain ⟨al3, cl, rfl, _⟩ := h3
  rw [← hal]
  clear hal sz
  go_enter Tryd.func61, Tryd.ntmps61
  go_wp2_with fail
  obtain ⟨hb, b2, b3⟩ := bx_four w (.int .u8 op) (.int .i64 n) (.int .u32 al) (.int .u32 of) (.int .u8 re) (.slice ab bo.length cb) (.slice ae el.length ce) (.slice al3 ls.length cl) (.int .u8 op) (.int .i64 0) (.int .u32 0) (.int .u32 0) (.int .u8 0) (.slice none 0 0) (.slice none 0 0) (.slice none 0 0) _ rfl
  generalize (((w.alloc (.cells #[.int .u8 op, .int .i64 n, .int .u32 al, .int .u32 of, .int .u8 re, .slice ab bo.length cb, .slice ae el.length ce, .slice al3 ls.length cl] 50)).alloc (.cells #[.int .u8 op, .int .i64 0, .int .u32 0, .int .u32 0, .int .u8 0, .slice none 0 0, .slice none 0 0, .slice none 0 0] 50)).alloc (.cells #[.int .u8 op, .int .i64 n, .int .u32 al, .int .u32 of, .int .u8 re, .slice ab bo.length cb, .slice ae el.length ce, .slice al3 ls.length cl] 50)).alloc (.cells #[.int .u8 op, .int .i64 0, .int .u32 0, .int .u32 0, .int .u8 0, .slice none 0 0, .slice none 0 0, .slice none 0 0] 50) = W at *
  have k1 : Code W (fun _ => True) [bare 5 ⟨op, n, al, of, re, bo, el, ls⟩] (.slice (some ⟨w.heap.size + 1 + 1, 0, none⟩) 1 1) := by
    refine Code_one (vb := .slice ab bo.length cb) (ve := .slice ae el.length ce) (vl := .slice al3 ls.length cl) b2 trivial (by omega) ?_ ?_ ?_
    · exact ((unhide H1).any (fun _ _ _ => trivial)).below hb
    · exact ((unhide H2).any (fun _ _ _ => trivial)).below hb
    · exact Labs.below (Labs.any (unhide H3) (fun _ _ _ => trivial)) hb
  have k2 : Code W (fun _ => True) [plain op] (.slice (some ⟨w.heap.size + 1 + 1 + 1, 0, none⟩) 1 1) := Code_one (i := plain op) (vb := .slice none 0 0) (ve := .slice none 0 0) (vl := .slice none 0 0) b3 trivial (by omega) (Code_nil _ _) (Code_nil _ _) (Labs_nil _ _)
  have k3 : Sz 1099511627776 [bare 5 ⟨op, n, al, of, re, bo, el, ls⟩] := (Sz_cons _ _ _).2 ⟨⟨(unhide SZ).1, (unhide SZ).2.1, (unhide SZ).2.2.1, (unhide SZ).2.2.2.1, (unhide SZ).2.2.2.2⟩, Sz_nil _⟩
  have HB := hide hb
  refine (same_any _ [plain op] _ _ _ _ W k1 k2 (by simp) k3 (by simp) (plain_sz op)).mono ?_
  rintro e w1 ⟨rfl, hb1⟩
  have HB1 := hide (Below.on (unhide HB) hb1)
  clear hb1 hb b2 b3 k1 k2 k3 HB
  go_wp2
  go_ret
  exact ⟨rfl, unhide HB1⟩

set_option maxRecDepth 100000 in
set_option maxHeartbeats 1600000 in
theorem hnm_6 (i : Ins) (w : World) {g : Nat → Prop} {vb ve vl : Value} (h1 : Code w g i.body vb) (h2 : Code w g i.els ve) (h3 : Lies g i.ls.length (Lab w i.ls) vl) (sz : SzI 1099511627776 i) :
    Calls Tryd.prog 61 #[.agg #[.int .u8 i.op, .int .i64 i.n, .int .u32 i.al, .int .u32 i.of, .int .u8 i.re, vb, ve, vl], .int .i64 6] w fun r w' => r = .returned (.bool (alo 6 i.n i.al i.of i.re i.body.length i.els.length i.ls.length)) ∧ Below w.heap.size w w' := by
  have hal := bare_alo 6 i
  obtain ⟨op, n, al, of, re, bo, el, ls⟩ := i
  simp only at *
  have H1 := hide h1; have H2 := hide h2; have H3 := hide h3; have SZ := hide sz
  obtain ⟨ab, cb, rfl, _⟩ := h1
  obtain ⟨ae, ce, rfl, _⟩ := h2
  obtain ⟨al3, cl, rfl, _⟩ := h3
  rw [← hal]
  clear hal sz
  go_enter Tryd.func61, Tryd.ntmps61
  go_wp2_with fail
  obtain ⟨hb, b2, b3⟩ := bx_four w (.int .u8 op) (.int .i64 n) (.int .u32 al) (.int .u32 of) (.int .u8 0) (.slice none 0 0) (.slice ae el.length ce) (.slice al3 ls.length cl) (.int .u8 op) (.int .i64 0) (.int .u32 0) (.int .u32 0) (.int .u8 0) (.slice none 0 0) (.slice none 0 0) (.slice none 0 0) _ rfl
  generalize (((w.alloc (.cells #[.int .u8 op, .int .i64 n, .int .u32 al, .int .u32 of, .int .u8 0, .slice none 0 0, .slice ae el.length ce, .slice al3 ls.length cl] 50)).alloc (.cells #[.int .u8 op, .int .i64 0, .int .u32 0, .int .u32 0, .int .u8 0, .slice none 0 0, .slice none 0 0, .slice none 0 0] 50)).alloc (.cells #[.int .u8 op, .int .i64 n, .int .u32 al, .int .u32 of, .int .u8 0, .slice none 0 0, .slice ae el.length ce, .slice al3 ls.length cl] 50)).alloc (.cells #[.int .u8 op, .int .i64 0, .int .u32 0, .int .u32 0, .int .u8 0, .slice none 0 0, .slice none 0 0, .slice none 0 0] 50) = W at *
  have k1 : Code W (fun _ => True) [bare 6 ⟨op, n, al, of, re, bo, el, ls⟩] (.slice (some ⟨w.heap.size + 1 + 1, 0, none⟩) 1 1) := by
    refine Code_one (vb := .slice none 0 0) (ve := .slice ae el.length ce) (vl := .slice al3 ls.length cl) b2 trivial (by omega) ?_ ?_ ?_
    · exact Code_nil _ _
    · exact ((unhide H2).any (fun _ _ _ => trivial)).below hb
    · exact Labs.below (Labs.any (unhide H3) (fun _ _ _ => trivial)) hb
  have k2 : Code W (fun _ => True) [plain op] (.slice (some ⟨w.heap.size + 1 + 1 + 1, 0, none⟩) 1 1) := Code_one (i := plain op) (vb := .slice none 0 0) (ve := .slice none 0 0) (vl := .slice none 0 0) b3 trivial (by omega) (Code_nil _ _) (Code_nil _ _) (Labs_nil _ _)
  have k3 : Sz 1099511627776 [bare 6 ⟨op, n, al, of, re, bo, el, ls⟩] := (Sz_cons _ _ _).2 ⟨⟨by simp [bare], (unhide SZ).2.1, (unhide SZ).2.2.1, by simpa [bare] using Sz_nil _, (unhide SZ).2.2.2.2⟩, Sz_nil _⟩
  have HB := hide hb
  refine (same_any _ [plain op] _ _ _ _ W k1 k2 (by simp) k3 (by simp) (plain_sz op)).mono ?_
  rintro e w1 ⟨rfl, hb1⟩
  have HB1 := hide (Below.on (unhide HB) hb1)
  clear hb1 hb b2 b3 k1 k2 k3 HB
  go_wp2
  go_ret
  exact ⟨rfl, unhide HB1⟩

set_option maxRecDepth 100000 in
set_option maxHeartbeats 1600000 in
theorem hnm_7 (i : Ins) (w : World) {g : Nat → Prop} {vb ve vl : Value} (h1 : Code w g i.body vb) (h2 : Code w g i.els ve) (h3 : Lies g i.ls.length (Lab w i.ls) vl) (sz : SzI 1099511627776 i) :
    Calls Tryd.prog 61 #[.agg #[.int .u8 i.op, .int .i64 i.n, .int .u32 i.al, .int .u32 i.of, .int .u8 i.re, vb, ve, vl], .int .i64 7] w fun r w' => r = .returned (.bool (alo 7 i.n i.al i.of i.re i.body.length i.els.length i.ls.length)) ∧ Below w.heap.size w w' := by
  have hal := bare_alo 7 i
  obtain ⟨op, n, al, of, re, bo, el, ls⟩ := i
  simp only at *
  have H1 := hide h1; have H2 := hide h2; have H3 := hide h3; have SZ := hide sz
  obtain ⟨ab, cb, rfl, _⟩ := h1
  obtain ⟨ae, ce, rfl, _⟩ := h2
  obtain ⟨al3, cl, rfl, _⟩ := h3
  rw [← hal]
  clear hal sz
  go_enter Tryd.func61, Tryd.ntmps61
  go_wp2_with fail
  obtain ⟨hb, b2, b3⟩ := bx_four w (.int .u8 op) (.int .i64 n) (.int .u32 al) (.int .u32 of) (.int .u8 0) (.slice none 0 0) (.slice none 0 0) (.slice al3 ls.length cl) (.int .u8 op) (.int .i64 0) (.int .u32 0) (.int .u32 0) (.int .u8 0) (.slice none 0 0) (.slice none 0 0) (.slice none 0 0) _ rfl
  generalize (((w.alloc (.cells #[.int .u8 op, .int .i64 n, .int .u32 al, .int .u32 of, .int .u8 0, .slice none 0 0, .slice none 0 0, .slice al3 ls.length cl] 50)).alloc (.cells #[.int .u8 op, .int .i64 0, .int .u32 0, .int .u32 0, .int .u8 0, .slice none 0 0, .slice none 0 0, .slice none 0 0] 50)).alloc (.cells #[.int .u8 op, .int .i64 n, .int .u32 al, .int .u32 of, .int .u8 0, .slice none 0 0, .slice none 0 0, .slice al3 ls.length cl] 50)).alloc (.cells #[.int .u8 op, .int .i64 0, .int .u32 0, .int .u32 0, .int .u8 0, .slice none 0 0, .slice none 0 0, .slice none 0 0] 50) = W at *
  have k1 : Code W (fun _ => True) [bare 7 ⟨op, n, al, of, re, bo, el, ls⟩] (.slice (some ⟨w.heap.size + 1 + 1, 0, none⟩) 1 1) := by
    refine Code_one (vb := .slice none 0 0) (ve := .slice none 0 0) (vl := .slice al3 ls.length cl) b2 trivial (by omega) ?_ ?_ ?_
    · exact Code_nil _ _
    · exact Code_nil _ _
    · exact Labs.below (Labs.any (unhide H3) (fun _ _ _ => trivial)) hb
  have k2 : Code W (fun _ => True) [plain op] (.slice (some ⟨w.heap.size + 1 + 1 + 1, 0, none⟩) 1 1) := Code_one (i := plain op) (vb := .slice none 0 0) (ve := .slice none 0 0) (vl := .slice none 0 0) b3 trivial (by omega) (Code_nil _ _) (Code_nil _ _) (Labs_nil _ _)
  have k3 : Sz 1099511627776 [bare 7 ⟨op, n, al, of, re, bo, el, ls⟩] := (Sz_cons _ _ _).2 ⟨⟨by simp [bare], by simp [bare], (unhide SZ).2.2.1, by simpa [bare] using Sz_nil _, by simpa [bare] using Sz_nil _⟩, Sz_nil _⟩
  have HB := hide hb
  refine (same_any _ [plain op] _ _ _ _ W k1 k2 (by simp) k3 (by simp) (plain_sz op)).mono ?_
  rintro e w1 ⟨rfl, hb1⟩
  have HB1 := hide (Below.on (unhide HB) hb1)
  clear hb1 hb b2 b3 k1 k2 k3 HB
  go_wp2
  go_ret
  exact ⟨rfl, unhide HB1⟩

set_option maxRecDepth 100000 in
set_option maxHeartbeats 1600000 in
theorem hnm_8 (i : Ins) (w : World) {g : Nat → Prop} {vb ve vl : Value} (h1 : Code w g i.body vb) (h2 : Code w g i.els ve) (h3 : Lies g i.ls.length (Lab w i.ls) vl) (sz : SzI 1099511627776 i) :
    Calls Tryd.prog 61 #[.agg #[.int .u8 i.op, .int .i64 i.n, .int .u32 i.al, .int .u32 i.of, .int .u8 i.re, vb, ve, vl], .int .i64 8] w fun r w' => r = .returned (.bool (alo 8 i.n i.al i.of i.re i.body.length i.els.length i.ls.length)) ∧ Below w.heap.size w w' := by
  have hal := bare_alo 8 i
  obtain ⟨op, n, al, of, re, bo, el, ls⟩ := i
  simp only at *
  have H1 := hide h1; have H2 := hide h2; have H3 := hide h3; have SZ := hide sz
  obtain ⟨ab, cb, rfl, _⟩ := h1
  obtain ⟨ae, ce, rfl, _⟩ := h2
  obtain ⟨al3, cl, rfl, _⟩ := h3
  rw [← hal]
  clear hal sz
  go_enter Tryd.func61, Tryd.ntmps61
  go_wp2_with fail
  obtain ⟨hb, b2, b3⟩ := bx_four w (.int .u8 op) (.int .i64 n) (.int .u32 al) (.int .u32 of) (.int .u8 re) (.slice ab bo.length cb) (.slice ae el.length ce) (.slice none 0 0) (.int .u8 op) (.int .i64 0) (.int .u32 0) (.int .u32 0) (.int .u8 0) (.slice none 0 0) (.slice none 0 0) (.slice none 0 0) _ rfl
  generalize (((w.alloc (.cells #[.int .u8 op, .int .i64 n, .int .u32 al, .int .u32 of, .int .u8 re, .slice ab bo.length cb, .slice ae el.length ce, .slice none 0 0] 50)).alloc (.cells #[.int .u8 op, .int .i64 0, .int .u32 0, .int .u32 0, .int .u8 0, .slice none 0 0, .slice none 0 0, .slice none 0 0] 50)).alloc (.cells #[.int .u8 op, .int .i64 n, .int .u32 al, .int .u32 of, .int .u8 re, .slice ab bo.length cb, .slice ae el.length ce, .slice none 0 0] 50)).alloc (.cells #[.int .u8 op, .int .i64 0, .int .u32 0, .int .u32 0, .int .u8 0, .slice none 0 0, .slice none 0 0, .slice none 0 0] 50) = W at *
  have k1 : Code W (fun _ => True) [bare 8 ⟨op, n, al, of, re, bo, el, ls⟩] (.slice (some ⟨w.heap.size + 1 + 1, 0, none⟩) 1 1) := by
    refine Code_one (vb := .slice ab bo.length cb) (ve := .slice ae el.length ce) (vl := .slice none 0 0) b2 trivial (by omega) ?_ ?_ ?_
    · exact ((unhide H1).any (fun _ _ _ => trivial)).below hb
    · exact ((unhide H2).any (fun _ _ _ => trivial)).below hb
    · exact Labs_nil _ _
  have k2 : Code W (fun _ => True) [plain op] (.slice (some ⟨w.heap.size + 1 + 1 + 1, 0, none⟩) 1 1) := Code_one (i := plain op) (vb := .slice none 0 0) (ve := .slice none 0 0) (vl := .slice none 0 0) b3 trivial (by omega) (Code_nil _ _) (Code_nil _ _) (Labs_nil _ _)
  have k3 : Sz 1099511627776 [bare 8 ⟨op, n, al, of, re, bo, el, ls⟩] := (Sz_cons _ _ _).2 ⟨⟨(unhide SZ).1, (unhide SZ).2.1, by simp [bare], (unhide SZ).2.2.2.1, (unhide SZ).2.2.2.2⟩, Sz_nil _⟩
  have HB := hide hb
  refine (same_any _ [plain op] _ _ _ _ W k1 k2 (by simp) k3 (by simp) (plain_sz op)).mono ?_
  rintro e w1 ⟨rfl, hb1⟩
  have HB1 := hide (Below.on (unhide HB) hb1)
  clear hb1 hb b2 b3 k1 k2 k3 HB
  go_wp2
  go_ret
  exact ⟨rfl, unhide HB1⟩

set_option maxRecDepth 100000 in
set_option maxHeartbeats 1600000 in
theorem hnm_9 (i : Ins) (w : World) {g : Nat → Prop} {vb ve vl : Value} (h1 : Code w g i.body vb) (h2 : Code w g i.els ve) (h3 : Lies g i.ls.length (Lab w i.ls) vl) (sz : SzI 1099511627776 i) :
    Calls Tryd.prog 61 #[.agg #[.int .u8 i.op, .int .i64 i.n, .int .u32 i.al, .int .u32 i.of, .int .u8 i.re, vb, ve, vl], .int .i64 9] w fun r w' => r = .returned (.bool (alo 9 i.n i.al i.of i.re i.body.length i.els.length i.ls.length)) ∧ Below w.heap.size w w' := by
  have hal := bare_alo 9 i
  obtain ⟨op, n, al, of, re, bo, el, ls⟩ := i
  simp only at *
  have H1 := hide h1; have H2 := hide h2; have H3 := hide h3; have SZ := hide sz
  obtain ⟨ab, cb, rfl, _⟩ := h1
  obtain ⟨ae, ce, rfl, _⟩ := h2
  obtain ⟨al3, cl, rfl, _⟩ := h3
  rw [← hal]
  clear hal sz
  go_enter Tryd.func61, Tryd.ntmps61
  go_wp2_with fail
  obtain ⟨hb, b2, b3⟩ := bx_four w (.int .u8 op) (.int .i64 0) (.int .u32 al) (.int .u32 of) (.int .u8 re) (.slice ab bo.length cb) (.slice ae el.length ce) (.slice al3 ls.length cl) (.int .u8 op) (.int .i64 0) (.int .u32 0) (.int .u32 0) (.int .u8 0) (.slice none 0 0) (.slice none 0 0) (.slice none 0 0) _ rfl
  generalize (((w.alloc (.cells #[.int .u8 op, .int .i64 0, .int .u32 al, .int .u32 of, .int .u8 re, .slice ab bo.length cb, .slice ae el.length ce, .slice al3 ls.length cl] 50)).alloc (.cells #[.int .u8 op, .int .i64 0, .int .u32 0, .int .u32 0, .int .u8 0, .slice none 0 0, .slice none 0 0, .slice none 0 0] 50)).alloc (.cells #[.int .u8 op, .int .i64 0, .int .u32 al, .int .u32 of, .int .u8 re, .slice ab bo.length cb, .slice ae el.length ce, .slice al3 ls.length cl] 50)).alloc (.cells #[.int .u8 op, .int .i64 0, .int .u32 0, .int .u32 0, .int .u8 0, .slice none 0 0, .slice none 0 0, .slice none 0 0] 50) = W at *
  have k1 : Code W (fun _ => True) [bare 9 ⟨op, n, al, of, re, bo, el, ls⟩] (.slice (some ⟨w.heap.size + 1 + 1, 0, none⟩) 1 1) := by
    refine Code_one (vb := .slice ab bo.length cb) (ve := .slice ae el.length ce) (vl := .slice al3 ls.length cl) b2 trivial (by omega) ?_ ?_ ?_
    · exact ((unhide H1).any (fun _ _ _ => trivial)).below hb
    · exact ((unhide H2).any (fun _ _ _ => trivial)).below hb
    · exact Labs.below (Labs.any (unhide H3) (fun _ _ _ => trivial)) hb
  have k2 : Code W (fun _ => True) [plain op] (.slice (some ⟨w.heap.size + 1 + 1 + 1, 0, none⟩) 1 1) := Code_one (i := plain op) (vb := .slice none 0 0) (ve := .slice none 0 0) (vl := .slice none 0 0) b3 trivial (by omega) (Code_nil _ _) (Code_nil _ _) (Labs_nil _ _)
  have k3 : Sz 1099511627776 [bare 9 ⟨op, n, al, of, re, bo, el, ls⟩] := (Sz_cons _ _ _).2 ⟨⟨(unhide SZ).1, (unhide SZ).2.1, (unhide SZ).2.2.1, (unhide SZ).2.2.2.1, (unhide SZ).2.2.2.2⟩, Sz_nil _⟩
  have HB := hide hb
  refine (same_any _ [plain op] _ _ _ _ W k1 k2 (by simp) k3 (by simp) (plain_sz op)).mono ?_
  rintro e w1 ⟨rfl, hb1⟩
  have HB1 := hide (Below.on (unhide HB) hb1)
  clear hb1 hb b2 b3 k1 k2 k3 HB
  go_wp2
  go_ret
  exact ⟨rfl, unhide HB1⟩

theorem hnm_any (i : Ins) (f : Int) (hf : f = 0 ∨ f = 1 ∨ f = 2 ∨ f = 3 ∨ f = 4 ∨ f = 5 ∨ f = 6 ∨ f = 7 ∨ f = 8 ∨ f = 9) (w : World) {g : Nat → Prop} {vb ve vl : Value} (h1 : Code w g i.body vb) (h2 : Code w g i.els ve) (h3 : Lies g i.ls.length (Lab w i.ls) vl) (sz : SzI 1099511627776 i) :
    Calls Tryd.prog 61 #[.agg #[.int .u8 i.op, .int .i64 i.n, .int .u32 i.al, .int .u32 i.of, .int .u8 i.re, vb, ve, vl], .int .i64 f] w fun r w' => r = .returned (.bool (alo f i.n i.al i.of i.re i.body.length i.els.length i.ls.length)) ∧ Below w.heap.size w w' := by
  rcases hf with rfl | rfl | rfl | rfl | rfl | rfl | rfl | rfl | rfl | rfl
  · exact hnm_0 i w h1 h2 h3 sz
  · exact hnm_1 i w h1 h2 h3 sz
  · exact hnm_2 i w h1 h2 h3 sz
  · exact hnm_3 i w h1 h2 h3 sz
  · exact hnm_4 i w h1 h2 h3 sz
  · exact hnm_5 i w h1 h2 h3 sz
  · exact hnm_6 i w h1 h2 h3 sz
  · exact hnm_7 i w h1 h2 h3 sz
  · exact hnm_8 i w h1 h2 h3 sz
  · exact hnm_9 i w h1 h2 h3 sz
end Ex
end Go.Proofs.YtjhmglefejclpaaDoor
