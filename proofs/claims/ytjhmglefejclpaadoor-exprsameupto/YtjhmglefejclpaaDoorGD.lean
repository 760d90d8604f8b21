/- GD: what follows, part by part: each part tells what it holds. -/
import Derived.Test.YtjhmglefejclpaaDoorGC
import Derived.Test.YtjhmglefejclpaaDoorGA
import Derived.Deep.RegionHeld3
import Derived.Deep.RegionLaw
import Derived.Deep.DrawnRows
import Derived.Deep.AppendLies

/- The checker's inBounds and hasNoMore. -/
namespace Go.Proofs.YtjhmglefejclpaaDoor
open Go.RowKit
namespace Ex
set_option linter.unusedVariables false
set_option linter.unusedSimpArgs false

set_option maxRecDepth 100000 in
set_option maxHeartbeats 1600000 in
theorem inb_any (op n al of re : Int) (b e l : Option Addr) (lb cb le ce ll cl : Nat) (f : Int) (w : World) (hf : f = 0 ∨ f = 1 ∨ f = 2 ∨ f = 3 ∨ f = 4 ∨ f = 5 ∨ f = 6 ∨ f = 7 ∨ f = 8 ∨ f = 9) (hll : ll ≤ 1099511627776) :
    Calls Tryd.prog 60 #[.agg #[.int .u8 op, .int .i64 n, .int .u32 al, .int .u32 of, .int .u8 re, .slice b lb cb, .slice e le ce, .slice l ll cl], .int .i64 f] w fun r w' => r = .returned (.bool (bnd f n re ll)) ∧ Below w.heap.size w w' := by
  rcases hf with rfl | rfl | rfl | rfl | rfl | rfl | rfl | rfl | rfl | rfl
  · go_enter Tryd.func60, Tryd.ntmps60
    go_wp2
    go_ret
    exact ⟨ret_bool (by simp [bnd]), one_alloc _ _⟩
  · by_cases h1 : (-2147483648 : Int) ≤ n
    · by_cases h2 : n ≤ 2147483647
      · have HB := hide (show bnd 1 n re ll = true by simp [bnd]; try omega)
        go_enter Tryd.func60, Tryd.ntmps60
        go_wp2
        go_ret
        exact ⟨ret_bool (unhide HB).symm, one_alloc _ _⟩
      · have HB := hide (show bnd 1 n re ll = false by simp [bnd]; try omega)
        go_enter Tryd.func60, Tryd.ntmps60
        go_wp2
        go_ret
        exact ⟨ret_bool (unhide HB).symm, one_alloc _ _⟩
    · have HB := hide (show bnd 1 n re ll = false by simp [bnd]; try omega)
      go_enter Tryd.func60, Tryd.ntmps60
      go_wp2
      go_ret
      exact ⟨ret_bool (unhide HB).symm, one_alloc _ _⟩
  · go_enter Tryd.func60, Tryd.ntmps60
    go_wp2
    go_ret
    exact ⟨ret_bool (by simp [bnd]), one_alloc _ _⟩
  · by_cases h1 : (0 : Int) ≤ n
    · by_cases h2 : n ≤ 4294967295
      · have HB := hide (show bnd 3 n re ll = true by simp [bnd]; try omega)
        go_enter Tryd.func60, Tryd.ntmps60
        go_wp2
        go_ret
        exact ⟨ret_bool (unhide HB).symm, one_alloc _ _⟩
      · have HB := hide (show bnd 3 n re ll = false by simp [bnd]; try omega)
        go_enter Tryd.func60, Tryd.ntmps60
        go_wp2
        go_ret
        exact ⟨ret_bool (unhide HB).symm, one_alloc _ _⟩
    · have HB := hide (show bnd 3 n re ll = false by simp [bnd]; try omega)
      go_enter Tryd.func60, Tryd.ntmps60
      go_wp2
      go_ret
      exact ⟨ret_bool (unhide HB).symm, one_alloc _ _⟩
  · go_enter Tryd.func60, Tryd.ntmps60
    go_wp2
    go_ret
    exact ⟨ret_bool (by simp [bnd]), one_alloc _ _⟩
  · go_enter Tryd.func60, Tryd.ntmps60
    go_wp2
    go_ret
    exact ⟨ret_bool (by simp [bnd]), one_alloc _ _⟩
  · by_cases h1 : re = 0
    · subst h1
      go_enter Tryd.func60, Tryd.ntmps60
      go_wp2
      go_ret
      exact ⟨ret_bool (by simp [bnd]), one_alloc _ _⟩
    · by_cases h2 : re = 127
      · subst h2
        go_enter Tryd.func60, Tryd.ntmps60
        go_wp2
        go_ret
        exact ⟨ret_bool (by simp [bnd]), one_alloc _ _⟩
      · by_cases h3 : re = 126
        · subst h3
          go_enter Tryd.func60, Tryd.ntmps60
          go_wp2
          go_ret
          exact ⟨ret_bool (by simp [bnd]), one_alloc _ _⟩
        · have t1 : (re == 0) = false := by simpa using h1
          have t2 : (re == 127) = false := by simpa using h2
          have t3 : (re == 126) = false := by simpa using h3
          have hb : bnd 6 n re ll = false ∧ bnd 7 n re ll = false := by simp [bnd, h1, h2, h3]
          have HB := hide hb
          clear h1 h2 h3 hb
          go_enter Tryd.func60, Tryd.ntmps60
          go_wp2
          go_ret
          exact ⟨ret_bool (by first | exact (unhide HB).1.symm | exact (unhide HB).2.symm), one_alloc _ _⟩
  · by_cases h1 : re = 0
    · subst h1
      go_enter Tryd.func60, Tryd.ntmps60
      go_wp2
      go_ret
      exact ⟨ret_bool (by simp [bnd]), one_alloc _ _⟩
    · by_cases h2 : re = 127
      · subst h2
        go_enter Tryd.func60, Tryd.ntmps60
        go_wp2
        go_ret
        exact ⟨ret_bool (by simp [bnd]), one_alloc _ _⟩
      · by_cases h3 : re = 126
        · subst h3
          go_enter Tryd.func60, Tryd.ntmps60
          go_wp2
          go_ret
          exact ⟨ret_bool (by simp [bnd]), one_alloc _ _⟩
        · have t1 : (re == 0) = false := by simpa using h1
          have t2 : (re == 127) = false := by simpa using h2
          have t3 : (re == 126) = false := by simpa using h3
          have hb : bnd 6 n re ll = false ∧ bnd 7 n re ll = false := by simp [bnd, h1, h2, h3]
          have HB := hide hb
          clear h1 h2 h3 hb
          go_enter Tryd.func60, Tryd.ntmps60
          go_wp2
          go_ret
          exact ⟨ret_bool (by first | exact (unhide HB).1.symm | exact (unhide HB).2.symm), one_alloc _ _⟩
  · by_cases h1 : (1 : Int) ≤ (ll : Int)
    · by_cases h2 : (ll : Int) ≤ 257
      · have hb : bnd 8 n re ll = true := by simp [bnd]; omega
        have HB := hide hb; clear hb
        go_enter Tryd.func60, Tryd.ntmps60
        go_wp2
        go_ret
        exact ⟨ret_bool (unhide HB).symm, one_alloc _ _⟩
      · have hb : bnd 8 n re ll = false := by simp [bnd]; omega
        have HB := hide hb; clear hb
        go_enter Tryd.func60, Tryd.ntmps60
        go_wp2
        go_ret
        exact ⟨ret_bool (unhide HB).symm, one_alloc _ _⟩
    · have hb : bnd 8 n re ll = false := by simp [bnd]; omega
      have HB := hide hb; clear hb
      go_enter Tryd.func60, Tryd.ntmps60
      go_wp2
      go_ret
      exact ⟨ret_bool (unhide HB).symm, one_alloc _ _⟩
  · by_cases h1 : (0 : Int) ≤ n
    · by_cases h2 : n ≤ 4294967295
      · have HB := hide (show bnd 9 n re ll = true by simp [bnd]; try omega)
        go_enter Tryd.func60, Tryd.ntmps60
        go_wp2
        go_ret
        exact ⟨ret_bool (unhide HB).symm, one_alloc _ _⟩
      · have HB := hide (show bnd 9 n re ll = false by simp [bnd]; try omega)
        go_enter Tryd.func60, Tryd.ntmps60
        go_wp2
        go_ret
        exact ⟨ret_bool (unhide HB).symm, one_alloc _ _⟩
    · have HB := hide (show bnd 9 n re ll = false by simp [bnd]; try omega)
      go_enter Tryd.func60, Tryd.ntmps60
      go_wp2
      go_ret
      exact ⟨ret_bool (unhide HB).symm, one_alloc _ _⟩

/-- one instruction in a block of its own -/
theorem Code_one {w : World} {g : Nat → Prop} {Q c : Nat} {i : Ins} {vb ve vl : Value} (hb : Bx w Q (.int .u8 i.op) (.int .i64 i.n) (.int .u32 i.al) (.int .u32 i.of) (.int .u8 i.re) vb ve vl) (hg : g Q) (hc : 1 ≤ c) (h1 : Code w g i.body vb) (h2 : Code w g i.els ve) (h3 : Lies g i.ls.length (Lab w i.ls) vl) :
    Code w g [i] (.slice (some ⟨Q, 0, none⟩) 1 c) := by
  refine ⟨_, c, rfl, hc, by simp, fun _ => ⟨Q, 0, rfl, hg, ?_⟩⟩
  rw [Items_cons]
  obtain ⟨c0, c1, c2, c3, c4, c5, c6, c7⟩ := hb.cs
  exact ⟨⟨vb, ve, vl, ⟨c0, c1, c2, c3, c4, c5, c6, c7⟩, h1, h2, h3⟩, Items_nil _ _ _ _⟩
theorem same_one (i j : Ins) : same [i] [j] = sameI i j := by rw [same_cons, same_nil, Bool.and_true]
theorem same_nil_r (l : List Ins) : same l [] = (l.length == 0) := by
  cases l with
  | nil => rw [same_nil]; rfl
  | cons x r => rw [same_ne (by simp)]; rfl
theorem ls_nil_r (l : List Int) : (l == []) = (l.length == 0) := by cases l <;> rfl
/-- what hasNoMore leaves of an instruction -/
def bare (f : Int) (i : Ins) : Ins :=
  if f = 1 ∨ f = 2 ∨ f = 3 ∨ f = 9 then { i with n := 0 } else if f = 4 then { i with al := 0, of := 0 } else if f = 8 then { i with ls := [] }
  else if f = 7 then { i with els := [], re := 0, body := [] } else if f = 6 then { i with re := 0, body := [] } else i
theorem bare_alo (f : Int) (i : Ins) : same [bare f i] [plain i.op] = alo f i.n i.al i.of i.re i.body.length i.els.length i.ls.length := by
  rw [same_one, Bool.eq_iff_iff]
  obtain ⟨op, n, al, of, re, bo, el, ls⟩ := i
  unfold bare
  split
  · simp only [sameI, plain, alo, same_nil_r, ls_nil_r, Bool.and_eq_true, beq_iff_eq, decide_eq_true_eq]; (try simp only [true_and, and_true, List.length_nil]); constructor <;> intro h <;> omega
  · split
    · simp only [sameI, plain, alo, same_nil_r, ls_nil_r, Bool.and_eq_true, beq_iff_eq, decide_eq_true_eq]; (try simp only [true_and, and_true, List.length_nil]); constructor <;> intro h <;> omega
    · split
      · simp only [sameI, plain, alo, same_nil_r, ls_nil_r, Bool.and_eq_true, beq_iff_eq, decide_eq_true_eq]; (try simp only [true_and, and_true, List.length_nil]); constructor <;> intro h <;> omega
      · split
        · simp only [sameI, plain, alo, same_nil_r, ls_nil_r, Bool.and_eq_true, beq_iff_eq, decide_eq_true_eq]; (try simp only [true_and, and_true, List.length_nil]); constructor <;> intro h <;> omega
        · split
          · simp only [sameI, plain, alo, same_nil_r, ls_nil_r, Bool.and_eq_true, beq_iff_eq, decide_eq_true_eq]; (try simp only [true_and, and_true, List.length_nil]); constructor <;> intro h <;> omega
          · simp only [sameI, plain, alo, same_nil_r, ls_nil_r, Bool.and_eq_true, beq_iff_eq, decide_eq_true_eq]; (try simp only [true_and, and_true, List.length_nil]); constructor <;> intro h <;> omega
end Ex
end Go.Proofs.YtjhmglefejclpaaDoor

/- The checker's hasNoMore. -/
namespace Go.Proofs.YtjhmglefejclpaaDoor
open Go.RowKit
namespace Ex
set_option linter.unusedVariables false

theorem bx_four (w : World) (x0 x1 x2 x3 x4 x5 x6 x7 y0 y1 y2 y3 y4 y5 y6 y7 : Value) (W : World)
    (hW : W = (((w.alloc (.cells #[x0, x1, x2, x3, x4, x5, x6, x7] 50)).alloc (.cells #[y0, y1, y2, y3, y4, y5, y6, y7] 50)).alloc (.cells #[x0, x1, x2, x3, x4, x5, x6, x7] 50)).alloc (.cells #[y0, y1, y2, y3, y4, y5, y6, y7] 50)) :
    Below w.heap.size w W ∧ Bx W (w.heap.size + 1 + 1) x0 x1 x2 x3 x4 x5 x6 x7 ∧ Bx W (w.heap.size + 1 + 1 + 1) y0 y1 y2 y3 y4 y5 y6 y7 := by
  subst hW
  obtain ⟨a1, a2, a3, a4⟩ := bx_two w x0 x1 x2 x3 x4 x5 x6 x7 y0 y1 y2 y3 y4 y5 y6 y7
  obtain ⟨b1, b2, b3, b4⟩ := bx_two ((w.alloc (.cells #[x0, x1, x2, x3, x4, x5, x6, x7] 50)).alloc (.cells #[y0, y1, y2, y3, y4, y5, y6, y7] 50)) x0 x1 x2 x3 x4 x5 x6 x7 y0 y1 y2 y3 y4 y5 y6 y7
  rw [a4] at b2 b3
  exact ⟨Below.on a1 b1, b2, b3⟩
theorem plain_sz (op : Int) : Sz 1099511627776 [plain op] := (Sz_cons _ _ _).2 ⟨⟨by simp [plain], by simp [plain], by simp [plain], Sz_nil _, Sz_nil _⟩, Sz_nil _⟩

set_option maxRecDepth 100000 in
set_option maxHeartbeats 1600000 in
theorem hnm_0 (i : Ins) (w : World) {g : Nat → Prop} {vb ve vl : Value} (h1 : Code w g i.body vb) (h2 : Code w g i.els ve) (h3 : Lies g i.ls.length (Lab w i.ls) vl) (sz : SzI 1099511627776 i) :
    Calls Tryd.prog 61 #[.agg #[.int .u8 i.op, .int .i64 i.n, .int .u32 i.al, .int .u32 i.of, .int .u8 i.re, vb, ve, vl], .int .i64 0] w fun r w' => r = .returned (.bool (alo 0 i.n i.al i.of i.re i.body.length i.els.length i.ls.length)) ∧ Below w.heap.size w w' := by
  have hal := bare_alo 0 i
  obtain ⟨op, n, al, of, re, bo, el, ls⟩ := i
  simp only at *
  have H1 := hide h1; have H2 := hide h2; have H3 := hide h3; have SZ := hide sz
  obtain ⟨ab, cb, rfl, _⟩ := h1
  obtain ⟨ae, ce, rfl, _⟩ := h2
  obtain ⟨al3, cl, rfl, _⟩ := h3
  rw [← hal]
  clear hal sz
  go_enter Tryd.func61, Tryd.ntmps61
  go_wp2_with fail
  obtain ⟨hb, b2, b3⟩ := bx_four w (.int .u8 op) (.int .i64 n) (.int .u32 al) (.int .u32 of) (.int .u8 re) (.slice ab bo.length cb) (.slice ae el.length ce) (.slice al3 ls.length cl) (.int .u8 op) (.int .i64 0) (.int .u32 0) (.int .u32 0) (.int .u8 0) (.slice none 0 0) (.slice none 0 0) (.slice none 0 0) _ rfl
  generalize (((w.alloc (.cells #[.int .u8 op, .int .i64 n, .int .u32 al, .int .u32 of, .int .u8 re, .slice ab bo.length cb, .slice ae el.length ce, .slice al3 ls.length cl] 50)).alloc (.cells #[.int .u8 op, .int .i64 0, .int .u32 0, .int .u32 0, .int .u8 0, .slice none 0 0, .slice none 0 0, .slice none 0 0] 50)).alloc (.cells #[.int .u8 op, .int .i64 n, .int .u32 al, .int .u32 of, .int .u8 re, .slice ab bo.length cb, .slice ae el.length ce, .slice al3 ls.length cl] 50)).alloc (.cells #[.int .u8 op, .int .i64 0, .int .u32 0, .int .u32 0, .int .u8 0, .slice none 0 0, .slice none 0 0, .slice none 0 0] 50) = W at *
  have k1 : Code W (fun _ => True) [bare 0 ⟨op, n, al, of, re, bo, el, ls⟩] (.slice (some ⟨w.heap.size + 1 + 1, 0, none⟩) 1 1) := by
    refine Code_one (vb := .slice ab bo.length cb) (ve := .slice ae el.length ce) (vl := .slice al3 ls.length cl) b2 trivial (by omega) ?_ ?_ ?_
    · exact ((unhide H1).any (fun _ _ _ => trivial)).below hb
    · exact ((unhide H2).any (fun _ _ _ => trivial)).below hb
    · exact Labs.below (Labs.any (unhide H3) (fun _ _ _ => trivial)) hb
  have k2 : Code W (fun _ => True) [plain op] (.slice (some ⟨w.heap.size + 1 + 1 + 1, 0, none⟩) 1 1) := Code_one (i := plain op) (vb := .slice none 0 0) (ve := .slice none 0 0) (vl := .slice none 0 0) b3 trivial (by omega) (Code_nil _ _) (Code_nil _ _) (Labs_nil _ _)
  have k3 : Sz 1099511627776 [bare 0 ⟨op, n, al, of, re, bo, el, ls⟩] := (Sz_cons _ _ _).2 ⟨⟨(unhide SZ).1, (unhide SZ).2.1, (unhide SZ).2.2.1, (unhide SZ).2.2.2.1, (unhide SZ).2.2.2.2⟩, Sz_nil _⟩
  have HB := hide hb
  refine (same_any _ [plain op] _ _ _ _ W k1 k2 (by simp) k3 (by simp) (plain_sz op)).mono ?_
  rintro e w1 ⟨rfl, hb1⟩
  have HB1 := hide (Below.on (unhide HB) hb1)
  clear hb1 hb b2 b3 k1 k2 k3 HB
  go_wp2
  go_ret
  exact ⟨rfl, unhide HB1⟩

set_option maxRecDepth 100000 in
set_option maxHeartbeats 1600000 in
theorem hnm_1 (i : Ins) (w : World) {g : Nat → Prop} {vb ve vl : Value} (h1 : Code w g i.body vb) (h2 : Code w g i.els ve) (h3 : Lies g i.ls.length (Lab w i.ls) vl) (sz : SzI 1099511627776 i) :
    Calls Tryd.prog 61 #[.agg #[.int .u8 i.op, .int .i64 i.n, .int .u32 i.al, .int .u32 i.of, .int .u8 i.re, vb, ve, vl], .int .i64 1] w fun r w' => r = .returned (.bool (alo 1 i.n i.al i.of i.re i.body.length i.els.length i.ls.length)) ∧ Below w.heap.size w w' := by
  have hal := bare_alo 1 i
  obtain ⟨op, n, al, of, re, bo, el, ls⟩ := i
  simp only at *
  have H1 := hide h1; have H2 := hide h2; have H3 := hide h3; have SZ := hide sz
  obtain ⟨ab, cb, rfl, _⟩ := h1
  obtain ⟨ae, ce, rfl, _⟩ := h2
  obtain ⟨al3, cl, rfl, _⟩ := h3
  rw [← hal]
  clear hal sz
  go_enter Tryd.func61, Tryd.ntmps61
  go_wp2_with fail
  obtain ⟨hb, b2, b3⟩ := bx_four w (.int .u8 op) (.int .i64 0) (.int .u32 al) (.int .u32 of) (.int .u8 re) (.slice ab bo.length cb) (.slice ae el.length ce) (.slice al3 ls.length cl) (.int .u8 op) (.int .i64 0) (.int .u32 0) (.int .u32 0) (.int .u8 0) (.slice none 0 0) (.slice none 0 0) (.slice none 0 0) _ rfl
  generalize (((w.alloc (.cells #[.int .u8 op, .int .i64 0, .int .u32 al, .int .u32 of, .int .u8 re, .slice ab bo.length cb, .slice ae el.length ce, .slice al3 ls.length cl] 50)).alloc (.cells #[.int .u8 op, .int .i64 0, .int .u32 0, .int .u32 0, .int .u8 0, .slice none 0 0, .slice none 0 0, .slice none 0 0] 50)).alloc (.cells #[.int .u8 op, .int .i64 0, .int .u32 al, .int .u32 of, .int .u8 re, .slice ab bo.length cb, .slice ae el.length ce, .slice al3 ls.length cl] 50)).alloc (.cells #[.int .u8 op, .int .i64 0, .int .u32 0, .int .u32 0, .int .u8 0, .slice none 0 0, .slice none 0 0, .slice none 0 0] 50) = W at *
  have k1 : Code W (fun _ => True) [bare 1 ⟨op, n, al, of, re, bo, el, ls⟩] (.slice (some ⟨w.heap.size + 1 + 1, 0, none⟩) 1 1) := by
    refine Code_one (vb := .slice ab bo.length cb) (ve := .slice ae el.length ce) (vl := .slice al3 ls.length cl) b2 trivial (by omega) ?_ ?_ ?_
    · exact ((unhide H1).any (fun _ _ _ => trivial)).below hb
    · exact ((unhide H2).any (fun _ _ _ => trivial)).below hb
    · exact Labs.below (Labs.any (unhide H3) (fun _ _ _ => trivial)) hb
  have k2 : Code W (fun _ => True) [plain op] (.slice (some ⟨w.heap.size + 1 + 1 + 1, 0, none⟩) 1 1) := Code_one (i := plain op) (vb := .slice none 0 0) (ve := .slice none 0 0) (vl := .slice none 0 0) b3 trivial (by omega) (Code_nil _ _) (Code_nil _ _) (Labs_nil _ _)
  have k3 : Sz 1099511627776 [bare 1 ⟨op, n, al, of, re, bo, el, ls⟩] := (Sz_cons _ _ _).2 ⟨⟨(unhide SZ).1, (unhide SZ).2.1, (unhide SZ).2.2.1, (unhide SZ).2.2.2.1, (unhide SZ).2.2.2.2⟩, Sz_nil _⟩
  have HB := hide hb
  refine (same_any _ [plain op] _ _ _ _ W k1 k2 (by simp) k3 (by simp) (plain_sz op)).mono ?_
  rintro e w1 ⟨rfl, hb1⟩
  have HB1 := hide (Below.on (unhide HB) hb1)
  clear hb1 hb b2 b3 k1 k2 k3 HB
  go_wp2
  go_ret
  exact ⟨rfl, unhide HB1⟩

set_option maxRecDepth 100000 in
set_option maxHeartbeats 1600000 in
theorem hnm_2 (i : Ins) (w : World) {g : Nat → Prop} {vb ve vl : Value} (h1 : Code w g i.body vb) (h2 : Code w g i.els ve) (h3 : Lies g i.ls.length (Lab w i.ls) vl) (sz : SzI 1099511627776 i) :
    Calls Tryd.prog 61 #[.agg #[.int .u8 i.op, .int .i64 i.n, .int .u32 i.al, .int .u32 i.of, .int .u8 i.re, vb, ve, vl], .int .i64 2] w fun r w' => r = .returned (.bool (alo 2 i.n i.al i.of i.re i.body.length i.els.length i.ls.length)) ∧ Below w.heap.size w w' := by
  have hal := bare_alo 2 i
  obtain ⟨op, n, al, of, re, bo, el, ls⟩ := i
  simp only at *
  have H1 := hide h1; have H2 := hide h2; have H3 := hide h3; have SZ := hide sz
  obtain ⟨ab, cb, rfl, _⟩ := h1
  obtain ⟨ae, ce, rfl, _⟩ := h2
  obtain ⟨al3, cl, rfl, _⟩ := h3
  rw [← hal]
  clear hal sz
  go_enter Tryd.func61, Tryd.ntmps61
  go_wp2_with fail
  obtain ⟨hb, b2, b3⟩ := bx_four w (.int .u8 op) (.int .i64 0) (.int .u32 al) (.int .u32 of) (.int .u8 re) (.slice ab bo.length cb) (.slice ae el.length ce) (.slice al3 ls.length cl) (.int .u8 op) (.int .i64 0) (.int .u32 0) (.int .u32 0) (.int .u8 0) (.slice none 0 0) (.slice none 0 0) (.slice none 0 0) _ rfl
  generalize (((w.alloc (.cells #[.int .u8 op, .int .i64 0, .int .u32 al, .int .u32 of, .int .u8 re, .slice ab bo.length cb, .slice ae el.length ce, .slice al3 ls.length cl] 50)).alloc (.cells #[.int .u8 op, .int .i64 0, .int .u32 0, .int .u32 0, .int .u8 0, .slice none 0 0, .slice none 0 0, .slice none 0 0] 50)).alloc (.cells #[.int .u8 op, .int .i64 0, .int .u32 al, .int .u32 of, .int .u8 re, .slice ab bo.length cb, .slice ae el.length ce, .slice al3 ls.length cl] 50)).alloc (.cells #[.int .u8 op, .int .i64 0, .int .u32 0, .int .u32 0, .int .u8 0, .slice none 0 0, .slice none 0 0, .slice none 0 0] 50) = W at *
  have k1 : Code W (fun _ => True) [bare 2 ⟨op, n, al, of, re, bo, el, ls⟩] (.slice (some ⟨w.heap.size + 1 + 1, 0, none⟩) 1 1) := by
    refine Code_one (vb := .slice ab bo.length cb) (ve := .slice ae el.length ce) (vl := .slice al3 ls.length cl) b2 trivial (by omega) ?_ ?_ ?_
    · exact ((unhide H1).any (fun _ _ _ => trivial)).below hb
    · exact ((unhide H2).any (fun _ _ _ => trivial)).below hb
    · exact Labs.below (Labs.any (unhide H3) (fun _ _ _ => trivial)) hb
  have k2 : Code W (fun _ => True) [plain op] (.slice (some ⟨w.heap.size + 1 + 1 + 1, 0, none⟩) 1 1) := Code_one (i := plain op) (vb := .slice none 0 0) (ve := .slice none 0 0) (vl := .slice none 0 0) b3 trivial (by omega) (Code_nil _ _) (Code_nil _ _) (Labs_nil _ _)
  have k3 : Sz 1099511627776 [bare 2 ⟨op, n, al, of, re, bo, el, ls⟩] := (Sz_cons _ _ _).2 ⟨⟨(unhide SZ).1, (unhide SZ).2.1, (unhide SZ).2.2.1, (unhide SZ).2.2.2.1, (unhide SZ).2.2.2.2⟩, Sz_nil _⟩
  have HB := hide hb
  refine (same_any _ [plain op] _ _ _ _ W k1 k2 (by simp) k3 (by simp) (plain_sz op)).mono ?_
  rintro e w1 ⟨rfl, hb1⟩
  have HB1 := hide (Below.on (unhide HB) hb1)
  clear hb1 hb b2 b3 k1 k2 k3 HB
  go_wp2
  go_ret
  exact ⟨rfl, unhide HB1⟩

set_option maxRecDepth 100000 in
set_option maxHeartbeats 1600000 in
theorem hnm_3 (i : Ins) (w : World) {g : Nat → Prop} {vb ve vl : Value} (h1 : Code w g i.body vb) (h2 : Code w g i.els ve) (h3 : Lies g i.ls.length (Lab w i.ls) vl) (sz : SzI 1099511627776 i) :
    Calls Tryd.prog 61 #[.agg #[.int .u8 i.op, .int .i64 i.n, .int .u32 i.al, .int .u32 i.of, .int .u8 i.re, vb, ve, vl], .int .i64 3] w fun r w' => r = .returned (.bool (alo 3 i.n i.al i.of i.re i.body.length i.els.length i.ls.length)) ∧ Below w.heap.size w w' := by
  have hal := bare_alo 3 i
  obtain ⟨op, n, al, of, re, bo, el, ls⟩ := i
  simp only at *
  have H1 := hide h1; have H2 := hide h2; have H3 := hide h3; have SZ := hide sz
  obtain ⟨ab, cb, rfl, _⟩ := h1
  obtain ⟨ae, ce, rfl, _⟩ := h2
  obtain ⟨al3, cl, rfl, _⟩ := h3
  rw [← hal]
  clear hal sz
  go_enter Tryd.func61, Tryd.ntmps61
  go_wp2_with fail
  obtain ⟨hb, b2, b3⟩ := bx_four w (.int .u8 op) (.int .i64 0) (.int .u32 al) (.int .u32 of) (.int .u8 re) (.slice ab bo.length cb) (.slice ae el.length ce) (.slice al3 ls.length cl) (.int .u8 op) (.int .i64 0) (.int .u32 0) (.int .u32 0) (.int .u8 0) (.slice none 0 0) (.slice none 0 0) (.slice none 0 0) _ rfl
  generalize (((w.alloc (.cells #[.int .u8 op, .int .i64 0, .int .u32 al, .int .u32 of, .int .u8 re, .slice ab bo.length cb, .slice ae el.length ce, .slice al3 ls.length cl] 50)).alloc (.cells #[.int .u8 op, .int .i64 0, .int .u32 0, .int .u32 0, .int .u8 0, .slice none 0 0, .slice none 0 0, .slice none 0 0] 50)).alloc (.cells #[.int .u8 op, .int .i64 0, .int .u32 al, .int .u32 of, .int .u8 re, .slice ab bo.length cb, .slice ae el.length ce, .slice al3 ls.length cl] 50)).alloc (.cells #[.int .u8 op, .int .i64 0, .int .u32 0, .int .u32 0, .int .u8 0, .slice none 0 0, .slice none 0 0, .slice none 0 0] 50) = W at *
  have k1 : Code W (fun _ => True) [bare 3 ⟨op, n, al, of, re, bo, el, ls⟩] (.slice (some ⟨w.heap.size + 1 + 1, 0, none⟩) 1 1) := by
    refine Code_one (vb := .slice ab bo.length cb) (ve := .slice ae el.length ce) (vl := .slice al3 ls.length cl) b2 trivial (by omega) ?_ ?_ ?_
    · exact ((unhide H1).any (fun _ _ _ => trivial)).below hb
    · exact ((unhide H2).any (fun _ _ _ => trivial)).below hb
    · exact Labs.below (Labs.any (unhide H3) (fun _ _ _ => trivial)) hb
  have k2 : Code W (fun _ => True) [plain op] (.slice (some ⟨w.heap.size + 1 + 1 + 1, 0, none⟩) 1 1) := Code_one (i := plain op) (vb := .slice none 0 0) (ve := .slice none 0 0) (vl := .slice none 0 0) b3 trivial (by omega) (Code_nil _ _) (Code_nil _ _) (Labs_nil _ _)
  have k3 : Sz 1099511627776 [bare 3 ⟨op, n, al, of, re, bo, el, ls⟩] := (Sz_cons _ _ _).2 ⟨⟨(unhide SZ).1, (unhide SZ).2.1, (unhide SZ).2.2.1, (unhide SZ).2.2.2.1, (unhide SZ).2.2.2.2⟩, Sz_nil _⟩
  have HB := hide hb
  refine (same_any _ [plain op] _ _ _ _ W k1 k2 (by simp) k3 (by simp) (plain_sz op)).mono ?_
  rintro e w1 ⟨rfl, hb1⟩
  have HB1 := hide (Below.on (unhide HB) hb1)
  clear hb1 hb b2 b3 k1 k2 k3 HB
  go_wp2
  go_ret
  exact ⟨rfl, unhide HB1⟩

set_option maxRecDepth 100000 in
set_option maxHeartbeats 1600000 in
theorem hnm_4 (i : Ins) (w : World) {g : Nat → Prop} {vb ve vl : Value} (h1 : Code w g i.body vb) (h2 : Code w g i.els ve) (h3 : Lies g i.ls.length (Lab w i.ls) vl) (sz : SzI 1099511627776 i) :
    Calls Tryd.prog 61 #[.agg #[.int .u8 i.op, .int .i64 i.n, .int .u32 i.al, .int .u32 i.of, .int .u8 i.re, vb, ve, vl], .int .i64 4] w fun r w' => r = .returned (.bool (alo 4 i.n i.al i.of i.re i.body.length i.els.length i.ls.length)) ∧ Below w.heap.size w w' := by
  have hal := bare_alo 4 i
  obtain ⟨op, n, al, of, re, bo, el, ls⟩ := i
  simp only at *
  have H1 := hide h1; have H2 := hide h2; have H3 := hide h3; have SZ := hide sz
  obtain ⟨ab, cb, rfl, _⟩ := h1
  obtain ⟨ae, ce, rfl, _⟩ := h2
  obtain ⟨al3, cl, rfl, _⟩ := h3
  rw [← hal]
  clear hal sz
  go_enter Tryd.func61, Tryd.ntmps61
  go_wp2_with fail
  obtain ⟨hb, b2, b3⟩ := bx_four w (.int .u8 op) (.int .i64 n) (.int .u32 0) (.int .u32 0) (.int .u8 re) (.slice ab bo.length cb) (.slice ae el.length ce) (.slice al3 ls.length cl) (.int .u8 op) (.int .i64 0) (.int .u32 0) (.int .u32 0) (.int .u8 0) (.slice none 0 0) (.slice none 0 0) (.slice none 0 0) _ rfl
  generalize (((w.alloc (.cells #[.int .u8 op, .int .i64 n, .int .u32 0, .int .u32 0, .int .u8 re, .slice ab bo.length cb, .slice ae el.length ce, .slice al3 ls.length cl] 50)).alloc (.cells #[.int .u8 op, .int .i64 0, .int .u32 0, .int .u32 0, .int .u8 0, .slice none 0 0, .slice none 0 0, .slice none 0 0] 50)).alloc (.cells #[.int .u8 op, .int .i64 n, .int .u32 0, .int .u32 0, .int .u8 re, .slice ab bo.length cb, .slice ae el.length ce, .slice al3 ls.length cl] 50)).alloc (.cells #[.int .u8 op, .int .i64 0, .int .u32 0, .int .u32 0, .int .u8 0, .slice none 0 0, .slice none 0 0, .slice none 0 0] 50) = W at *
  have k1 : Code W (fun _ => True) [bare 4 ⟨op, n, al, of, re, bo, el, ls⟩] (.slice (some ⟨w.heap.size + 1 + 1, 0, none⟩) 1 1) := by
    refine Code_one (vb := .slice ab bo.length cb) (ve := .slice ae el.length ce) (vl := .slice al3 ls.length cl) b2 trivial (by omega) ?_ ?_ ?_
    · exact ((unhide H1).any (fun _ _ _ => trivial)).below hb
    · exact ((unhide H2).any (fun _ _ _ => trivial)).below hb
    · exact Labs.below (Labs.any (unhide H3) (fun _ _ _ => trivial)) hb
  have k2 : Code W (fun _ => True) [plain op] (.slice (some ⟨w.heap.size + 1 + 1 + 1, 0, none⟩) 1 1) := Code_one (i := plain op) (vb := .slice none 0 0) (ve := .slice none 0 0) (vl := .slice none 0 0) b3 trivial (by omega) (Code_nil _ _) (Code_nil _ _) (Labs_nil _ _)
  have k3 : Sz 1099511627776 [bare 4 ⟨op, n, al, of, re, bo, el, ls⟩] := (Sz_cons _ _ _).2 ⟨⟨(unhide SZ).1, (unhide SZ).2.1, (unhide SZ).2.2.1, (unhide SZ).2.2.2.1, (unhide SZ).2.2.2.2⟩, Sz_nil _⟩
  have HB := hide hb
  refine (same_any _ [plain op] _ _ _ _ W k1 k2 (by simp) k3 (by simp) (plain_sz op)).mono ?_
  rintro e w1 ⟨rfl, hb1⟩
  have HB1 := hide (Below.on (unhide HB) hb1)
  clear hb1 hb b2 b3 k1 k2 k3 HB
  go_wp2
  go_ret
  exact ⟨rfl, unhide HB1⟩

set_option maxRecDepth 100000 in
set_option maxHeartbeats 1600000 in
theorem hnm_5 (i : Ins) (w : World) {g : Nat → Prop} {vb ve vl : Value} (h1 : Code w g i.body vb) (h2 : Code w g i.els ve) (h3 : Lies g i.ls.length (Lab w i.ls) vl) (sz : SzI 1099511627776 i) :
    Calls Tryd.prog 61 #[.agg #[.int .u8 i.op, .int .i64 i.n, .int .u32 i.al, .int .u32 i.of, .int .u8 i.re, vb, ve, vl], .int .i64 5] w fun r w' => r = .returned (.bool (alo 5 i.n i.al i.of i.re i.body.length i.els.length i.ls.length)) ∧ Below w.heap.size w w' := by
  have hal := bare_alo 5 i
  obtain ⟨op, n, al, of, re, bo, el, ls⟩ := i
  simp only at *
  have H1 := hide h1; have H2 := hide h2; have H3 := hide h3; have SZ := hide sz
  obtain ⟨ab, cb, rfl, _⟩ := h1
  obtain ⟨ae, ce, rfl, _⟩ := h2
  obtain ⟨al3, cl, rfl, _⟩ := h3
  rw [← hal]
  clear hal sz
  go_enter Tryd.func61, Tryd.ntmps61
  go_wp2_with fail
  obtain ⟨hb, b2, b3⟩ := bx_four w (.int .u8 op) (.int .i64 n) (.int .u32 al) (.int .u32 of) (.int .u8 re) (.slice ab bo.length cb) (.slice ae el.length ce) (.slice al3 ls.length cl) (.int .u8 op) (.int .i64 0) (.int .u32 0) (.int .u32 0) (.int .u8 0) (.slice none 0 0) (.slice none 0 0) (.slice none 0 0) _ rfl
  generalize (((w.alloc (.cells #[.int .u8 op, .int .i64 n, .int .u32 al, .int .u32 of, .int .u8 re, .slice ab bo.length cb, .slice ae el.length ce, .slice al3 ls.length cl] 50)).alloc (.cells #[.int .u8 op, .int .i64 0, .int .u32 0, .int .u32 0, .int .u8 0, .slice none 0 0, .slice none 0 0, .slice none 0 0] 50)).alloc (.cells #[.int .u8 op, .int .i64 n, .int .u32 al, .int .u32 of, .int .u8 re, .slice ab bo.length cb, .slice ae el.length ce, .slice al3 ls.length cl] 50)).alloc (.cells #[.int .u8 op, .int .i64 0, .int .u32 0, .int .u32 0, .int .u8 0, .slice none 0 0, .slice none 0 0, .slice none 0 0] 50) = W at *
  have k1 : Code W (fun _ => True) [bare 5 ⟨op, n, al, of, re, bo, el, ls⟩] (.slice (some ⟨w.heap.size + 1 + 1, 0, none⟩) 1 1) := by
    refine Code_one (vb := .slice ab bo.length cb) (ve := .slice ae el.length ce) (vl := .slice al3 ls.length cl) b2 trivial (by omega) ?_ ?_ ?_
    · exact ((unhide H1).any (fun _ _ _ => trivial)).below hb
    · exact ((unhide H2).any (fun _ _ _ => trivial)).below hb
    · exact Labs.below (Labs.any (unhide H3) (fun _ _ _ => trivial)) hb
  have k2 : Code W (fun _ => True) [plain op] (.slice (some ⟨w.heap.size + 1 + 1 + 1, 0, none⟩) 1 1) := Code_one (i := plain op) (vb := .slice none 0 0) (ve := .slice none 0 0) (vl := .slice none 0 0) b3 trivial (by omega) (Code_nil _ _) (Code_nil _ _) (Labs_nil _ _)
  have k3 : Sz 1099511627776 [bare 5 ⟨op, n, al, of, re, bo, el, ls⟩] := (Sz_cons _ _ _).2 ⟨⟨(unhide SZ).1, (unhide SZ).2.1, (unhide SZ).2.2.1, (unhide SZ).2.2.2.1, (unhide SZ).2.2.2.2⟩, Sz_nil _⟩
  have HB := hide hb
  refine (same_any _ [plain op] _ _ _ _ W k1 k2 (by simp) k3 (by simp) (plain_sz op)).mono ?_
  rintro e w1 ⟨rfl, hb1⟩
  have HB1 := hide (Below.on (unhide HB) hb1)
  clear hb1 hb b2 b3 k1 k2 k3 HB
  go_wp2
  go_ret
  exact ⟨rfl, unhide HB1⟩

set_option maxRecDepth 100000 in
set_option maxHeartbeats 1600000 in
theorem hnm_6 (i : Ins) (w : World) {g : Nat → Prop} {vb ve vl : Value} (h1 : Code w g i.body vb) (h2 : Code w g i.els ve) (h3 : Lies g i.ls.length (Lab w i.ls) vl) (sz : SzI 1099511627776 i) :
    Calls Tryd.prog 61 #[.agg #[.int .u8 i.op, .int .i64 i.n, .int .u32 i.al, .int .u32 i.of, .int .u8 i.re, vb, ve, vl], .int .i64 6] w fun r w' => r = .returned (.bool (alo 6 i.n i.al i.of i.re i.body.length i.els.length i.ls.length)) ∧ Below w.heap.size w w' := by
  have hal := bare_alo 6 i
  obtain ⟨op, n, al, of, re, bo, el, ls⟩ := i
  simp only at *
  have H1 := hide h1; have H2 := hide h2; have H3 := hide h3; have SZ := hide sz
  obtain ⟨ab, cb, rfl, _⟩ := h1
  obtain ⟨ae, ce, rfl, _⟩ := h2
  obtain ⟨al3, cl, rfl, _⟩ := h3
  rw [← hal]
  clear hal sz
  go_enter Tryd.func61, Tryd.ntmps61
  go_wp2_with fail
  obtain ⟨hb, b2, b3⟩ := bx_four w (.int .u8 op) (.int .i64 n) (.int .u32 al) (.int .u32 of) (.int .u8 0) (.slice none 0 0) (.slice ae el.length ce) (.slice al3 ls.length cl) (.int .u8 op) (.int .i64 0) (.int .u32 0) (.int .u32 0) (.int .u8 0) (.slice none 0 0) (.slice none 0 0) (.slice none 0 0) _ rfl
  generalize (((w.alloc (.cells #[.int .u8 op, .int .i64 n, .int .u32 al, .int .u32 of, .int .u8 0, .slice none 0 0, .slice ae el.length ce, .slice al3 ls.length cl] 50)).alloc (.cells #[.int .u8 op, .int .i64 0, .int .u32 0, .int .u32 0, .int .u8 0, .slice none 0 0, .slice none 0 0, .slice none 0 0] 50)).alloc (.cells #[.int .u8 op, .int .i64 n, .int .u32 al, .int .u32 of, .int .u8 0, .slice none 0 0, .slice ae el.length ce, .slice al3 ls.length cl] 50)).alloc (.cells #[.int .u8 op, .int .i64 0, .int .u32 0, .int .u32 0, .int .u8 0, .slice none 0 0, .slice none 0 0, .slice none 0 0] 50) = W at *
  have k1 : Code W (fun _ => True) [bare 6 ⟨op, n, al, of, re, bo, el, ls⟩] (.slice (some ⟨w.heap.size + 1 + 1, 0, none⟩) 1 1) := by
    refine Code_one (vb := .slice none 0 0) (ve := .slice ae el.length ce) (vl := .slice al3 ls.length cl) b2 trivial (by omega) ?_ ?_ ?_
    · exact Code_nil _ _
    · exact ((unhide H2).any (fun _ _ _ => trivial)).below hb
    · exact Labs.below (Labs.any (unhide H3) (fun _ _ _ => trivial)) hb
  have k2 : Code W (fun _ => True) [plain op] (.slice (some ⟨w.heap.size + 1 + 1 + 1, 0, none⟩) 1 1) := Code_one (i := plain op) (vb := .slice none 0 0) (ve := .slice none 0 0) (vl := .slice none 0 0) b3 trivial (by omega) (Code_nil _ _) (Code_nil _ _) (Labs_nil _ _)
  have k3 : Sz 1099511627776 [bare 6 ⟨op, n, al, of, re, bo, el, ls⟩] := (Sz_cons _ _ _).2 ⟨⟨by simp [bare], (unhide SZ).2.1, (unhide SZ).2.2.1, by simpa [bare] using Sz_nil _, (unhide SZ).2.2.2.2⟩, Sz_nil _⟩
  have HB := hide hb
  refine (same_any _ [plain op] _ _ _ _ W k1 k2 (by simp) k3 (by simp) (plain_sz op)).mono ?_
  rintro e w1 ⟨rfl, hb1⟩
  have HB1 := hide (Below.on (unhide HB) hb1)
  clear hb1 hb b2 b3 k1 k2 k3 HB
  go_wp2
  go_ret
  exact ⟨rfl, unhide HB1⟩

set_option maxRecDepth 100000 in
set_option maxHeartbeats 1600000 in
theorem hnm_7 (i : Ins) (w : World) {g : Nat → Prop} {vb ve vl : Value} (h1 : Code w g i.body vb) (h2 : Code w g i.els ve) (h3 : Lies g i.ls.length (Lab w i.ls) vl) (sz : SzI 1099511627776 i) :
    Calls Tryd.prog 61 #[.agg #[.int .u8 i.op, .int .i64 i.n, .int .u32 i.al, .int .u32 i.of, .int .u8 i.re, vb, ve, vl], .int .i64 7] w fun r w' => r = .returned (.bool (alo 7 i.n i.al i.of i.re i.body.length i.els.length i.ls.length)) ∧ Below w.heap.size w w' := by
  have hal := bare_alo 7 i
  obtain ⟨op, n, al, of, re, bo, el, ls⟩ := i
  simp only at *
  have H1 := hide h1; have H2 := hide h2; have H3 := hide h3; have SZ := hide sz
  obtain ⟨ab, cb, rfl, _⟩ := h1
  obtain ⟨ae, ce, rfl, _⟩ := h2
  obtain ⟨al3, cl, rfl, _⟩ := h3
  rw [← hal]
  clear hal sz
  go_enter Tryd.func61, Tryd.ntmps61
  go_wp2_with fail
  obtain ⟨hb, b2, b3⟩ := bx_four w (.int .u8 op) (.int .i64 n) (.int .u32 al) (.int .u32 of) (.int .u8 0) (.slice none 0 0) (.slice none 0 0) (.slice al3 ls.length cl) (.int .u8 op) (.int .i64 0) (.int .u32 0) (.int .u32 0) (.int .u8 0) (.slice none 0 0) (.slice none 0 0) (.slice none 0 0) _ rfl
  generalize (((w.alloc (.cells #[.int .u8 op, .int .i64 n, .int .u32 al, .int .u32 of, .int .u8 0, .slice none 0 0, .slice none 0 0, .slice al3 ls.length cl] 50)).alloc (.cells #[.int .u8 op, .int .i64 0, .int .u32 0, .int .u32 0, .int .u8 0, .slice none 0 0, .slice none 0 0, .slice none 0 0] 50)).alloc (.cells #[.int .u8 op, .int .i64 n, .int .u32 al, .int .u32 of, .int .u8 0, .slice none 0 0, .slice none 0 0, .slice al3 ls.length cl] 50)).alloc (.cells #[.int .u8 op, .int .i64 0, .int .u32 0, .int .u32 0, .int .u8 0, .slice none 0 0, .slice none 0 0, .slice none 0 0] 50) = W at *
  have k1 : Code W (fun _ => True) [bare 7 ⟨op, n, al, of, re, bo, el, ls⟩] (.slice (some ⟨w.heap.size + 1 + 1, 0, none⟩) 1 1) := by
    refine Code_one (vb := .slice none 0 0) (ve := .slice none 0 0) (vl := .slice al3 ls.length cl) b2 trivial (by omega) ?_ ?_ ?_
    · exact Code_nil _ _
    · exact Code_nil _ _
    · exact Labs.below (Labs.any (unhide H3) (fun _ _ _ => trivial)) hb
  have k2 : Code W (fun _ => True) [plain op] (.slice (some ⟨w.heap.size + 1 + 1 + 1, 0, none⟩) 1 1) := Code_one (i := plain op) (vb := .slice none 0 0) (ve := .slice none 0 0) (vl := .slice none 0 0) b3 trivial (by omega) (Code_nil _ _) (Code_nil _ _) (Labs_nil _ _)
  have k3 : Sz 1099511627776 [bare 7 ⟨op, n, al, of, re, bo, el, ls⟩] := (Sz_cons _ _ _).2 ⟨⟨by simp [bare], by simp [bare], (unhide SZ).2.2.1, by simpa [bare] using Sz_nil _, by simpa [bare] using Sz_nil _⟩, Sz_nil _⟩
  have HB := hide hb
  refine (same_any _ [plain op] _ _ _ _ W k1 k2 (by simp) k3 (by simp) (plain_sz op)).mono ?_
  rintro e w1 ⟨rfl, hb1⟩
  have HB1 := hide (Below.on (unhide HB) hb1)
  clear hb1 hb b2 b3 k1 k2 k3 HB
  go_wp2
  go_ret
  exact ⟨rfl, unhide HB1⟩

set_option maxRecDepth 100000 in
set_option maxHeartbeats 1600000 in
theorem hnm_8 (i : Ins) (w : World) {g : Nat → Prop} {vb ve vl : Value} (h1 : Code w g i.body vb) (h2 : Code w g i.els ve) (h3 : Lies g i.ls.length (Lab w i.ls) vl) (sz : SzI 1099511627776 i) :
    Calls Tryd.prog 61 #[.agg #[.int .u8 i.op, .int .i64 i.n, .int .u32 i.al, .int .u32 i.of, .int .u8 i.re, vb, ve, vl], .int .i64 8] w fun r w' => r = .returned (.bool (alo 8 i.n i.al i.of i.re i.body.length i.els.length i.ls.length)) ∧ Below w.heap.size w w' := by
  have hal := bare_alo 8 i
  obtain ⟨op, n, al, of, re, bo, el, ls⟩ := i
  simp only at *
  have H1 := hide h1; have H2 := hide h2; have H3 := hide h3; have SZ := hide sz
  obtain ⟨ab, cb, rfl, _⟩ := h1
  obtain ⟨ae, ce, rfl, _⟩ := h2
  obtain ⟨al3, cl, rfl, _⟩ := h3
  rw [← hal]
  clear hal sz
  go_enter Tryd.func61, Tryd.ntmps61
  go_wp2_with fail
  obtain ⟨hb, b2, b3⟩ := bx_four w (.int .u8 op) (.int .i64 n) (.int .u32 al) (.int .u32 of) (.int .u8 re) (.slice ab bo.length cb) (.slice ae el.length ce) (.slice none 0 0) (.int .u8 op) (.int .i64 0) (.int .u32 0) (.int .u32 0) (.int .u8 0) (.slice none 0 0) (.slice none 0 0) (.slice none 0 0) _ rfl
  generalize (((w.alloc (.cells #[.int .u8 op, .int .i64 n, .int .u32 al, .int .u32 of, .int .u8 re, .slice ab bo.length cb, .slice ae el.length ce, .slice none 0 0] 50)).alloc (.cells #[.int .u8 op, .int .i64 0, .int .u32 0, .int .u32 0, .int .u8 0, .slice none 0 0, .slice none 0 0, .slice none 0 0] 50)).alloc (.cells #[.int .u8 op, .int .i64 n, .int .u32 al, .int .u32 of, .int .u8 re, .slice ab bo.length cb, .slice ae el.length ce, .slice none 0 0] 50)).alloc (.cells #[.int .u8 op, .int .i64 0, .int .u32 0, .int .u32 0, .int .u8 0, .slice none 0 0, .slice none 0 0, .slice none 0 0] 50) = W at *
  have k1 : Code W (fun _ => True) [bare 8 ⟨op, n, al, of, re, bo, el, ls⟩] (.slice (some ⟨w.heap.size + 1 + 1, 0, none⟩) 1 1) := by
    refine Code_one (vb := .slice ab bo.length cb) (ve := .slice ae el.length ce) (vl := .slice none 0 0) b2 trivial (by omega) ?_ ?_ ?_
    · exact ((unhide H1).any (fun _ _ _ => trivial)).below hb
    · exact ((unhide H2).any (fun _ _ _ => trivial)).below hb
    · exact Labs_nil _ _
  have k2 : Code W (fun _ => True) [plain op] (.slice (some ⟨w.heap.size + 1 + 1 + 1, 0, none⟩) 1 1) := Code_one (i := plain op) (vb := .slice none 0 0) (ve := .slice none 0 0) (vl := .slice none 0 0) b3 trivial (by omega) (Code_nil _ _) (Code_nil _ _) (Labs_nil _ _)
  have k3 : Sz 1099511627776 [bare 8 ⟨op, n, al, of, re, bo, el, ls⟩] := (Sz_cons _ _ _).2 ⟨⟨(unhide SZ).1, (unhide SZ).2.1, by simp [bare], (unhide SZ).2.2.2.1, (unhide SZ).2.2.2.2⟩, Sz_nil _⟩
  have HB := hide hb
  refine (same_any _ [plain op] _ _ _ _ W k1 k2 (by simp) k3 (by simp) (plain_sz op)).mono ?_
  rintro e w1 ⟨rfl, hb1⟩
  have HB1 := hide (Below.on (unhide HB) hb1)
  clear hb1 hb b2 b3 k1 k2 k3 HB
  go_wp2
  go_ret
  exact ⟨rfl, unhide HB1⟩

set_option maxRecDepth 100000 in
set_option maxHeartbeats 1600000 in
theorem hnm_9 (i : Ins) (w : World) {g : Nat → Prop} {vb ve vl : Value} (h1 : Code w g i.body vb) (h2 : Code w g i.els ve) (h3 : Lies g i.ls.length (Lab w i.ls) vl) (sz : SzI 1099511627776 i) :
    Calls Tryd.prog 61 #[.agg #[.int .u8 i.op, .int .i64 i.n, .int .u32 i.al, .int .u32 i.of, .int .u8 i.re, vb, ve, vl], .int .i64 9] w fun r w' => r = .returned (.bool (alo 9 i.n i.al i.of i.re i.body.length i.els.length i.ls.length)) ∧ Below w.heap.size w w' := by
  have hal := bare_alo 9 i
  obtain ⟨op, n, al, of, re, bo, el, ls⟩ := i
  simp only at *
  have H1 := hide h1; have H2 := hide h2; have H3 := hide h3; have SZ := hide sz
  obtain ⟨ab, cb, rfl, _⟩ := h1
  obtain ⟨ae, ce, rfl, _⟩ := h2
  obtain ⟨al3, cl, rfl, _⟩ := h3
  rw [← hal]
  clear hal sz
  go_enter Tryd.func61, Tryd.ntmps61
  go_wp2_with fail
  obtain ⟨hb, b2, b3⟩ := bx_four w (.int .u8 op) (.int .i64 0) (.int .u32 al) (.int .u32 of) (.int .u8 re) (.slice ab bo.length cb) (.slice ae el.length ce) (.slice al3 ls.length cl) (.int .u8 op) (.int .i64 0) (.int .u32 0) (.int .u32 0) (.int .u8 0) (.slice none 0 0) (.slice none 0 0) (.slice none 0 0) _ rfl
  generalize (((w.alloc (.cells #[.int .u8 op, .int .i64 0, .int .u32 al, .int .u32 of, .int .u8 re, .slice ab bo.length cb, .slice ae el.length ce, .slice al3 ls.length cl] 50)).alloc (.cells #[.int .u8 op, .int .i64 0, .int .u32 0, .int .u32 0, .int .u8 0, .slice none 0 0, .slice none 0 0, .slice none 0 0] 50)).alloc (.cells #[.int .u8 op, .int .i64 0, .int .u32 al, .int .u32 of, .int .u8 re, .slice ab bo.length cb, .slice ae el.length ce, .slice al3 ls.length cl] 50)).alloc (.cells #[.int .u8 op, .int .i64 0, .int .u32 0, .int .u32 0, .int .u8 0, .slice none 0 0, .slice none 0 0, .slice none 0 0] 50) = W at *
  have k1 : Code W (fun _ => True) [bare 9 ⟨op, n, al, of, re, bo, el, ls⟩] (.slice (some ⟨w.heap.size + 1 + 1, 0, none⟩) 1 1) := by
    refine Code_one (vb := .slice ab bo.length cb) (ve := .slice ae el.length ce) (vl := .slice al3 ls.length cl) b2 trivial (by omega) ?_ ?_ ?_
    · exact ((unhide H1).any (fun _ _ _ => trivial)).below hb
    · exact ((unhide H2).any (fun _ _ _ => trivial)).below hb
    · exact Labs.below (Labs.any (unhide H3) (fun _ _ _ => trivial)) hb
  have k2 : Code W (fun _ => True) [plain op] (.slice (some ⟨w.heap.size + 1 + 1 + 1, 0, none⟩) 1 1) := Code_one (i := plain op) (vb := .slice none 0 0) (ve := .slice none 0 0) (vl := .slice none 0 0) b3 trivial (by omega) (Code_nil _ _) (Code_nil _ _) (Labs_nil _ _)
  have k3 : Sz 1099511627776 [bare 9 ⟨op, n, al, of, re, bo, el, ls⟩] := (Sz_cons _ _ _).2 ⟨⟨(unhide SZ).1, (unhide SZ).2.1, (unhide SZ).2.2.1, (unhide SZ).2.2.2.1, (unhide SZ).2.2.2.2⟩, Sz_nil _⟩
  have HB := hide hb
  refine (same_any _ [plain op] _ _ _ _ W k1 k2 (by simp) k3 (by simp) (plain_sz op)).mono ?_
  rintro e w1 ⟨rfl, hb1⟩
  have HB1 := hide (Below.on (unhide HB) hb1)
  clear hb1 hb b2 b3 k1 k2 k3 HB
  go_wp2
  go_ret
  exact ⟨rfl, unhide HB1⟩

theorem hnm_any (i : Ins) (f : Int) (hf : f = 0 ∨ f = 1 ∨ f = 2 ∨ f = 3 ∨ f = 4 ∨ f = 5 ∨ f = 6 ∨ f = 7 ∨ f = 8 ∨ f = 9) (w : World) {g : Nat → Prop} {vb ve vl : Value} (h1 : Code w g i.body vb) (h2 : Code w g i.els ve) (h3 : Lies g i.ls.length (Lab w i.ls) vl) (sz : SzI 1099511627776 i) :
    Calls Tryd.prog 61 #[.agg #[.int .u8 i.op, .int .i64 i.n, .int .u32 i.al, .int .u32 i.of, .int .u8 i.re, vb, ve, vl], .int .i64 f] w fun r w' => r = .returned (.bool (alo f i.n i.al i.of i.re i.body.length i.els.length i.ls.length)) ∧ Below w.heap.size w w' := by
  rcases hf with rfl | rfl | rfl | rfl | rfl | rfl | rfl | rfl | rfl | rfl
  · exact hnm_0 i w h1 h2 h3 sz
  · exact hnm_1 i w h1 h2 h3 sz
  · exact hnm_2 i w h1 h2 h3 sz
  · exact hnm_3 i w h1 h2 h3 sz
  · exact hnm_4 i w h1 h2 h3 sz
  · exact hnm_5 i w h1 h2 h3 sz
  · exact hnm_6 i w h1 h2 h3 sz
  · exact hnm_7 i w h1 h2 h3 sz
  · exact hnm_8 i w h1 h2 h3 sz
  · exact hnm_9 i w h1 h2 h3 sz
end Ex
end Go.Proofs.YtjhmglefejclpaaDoor

/- The checker: instr and list; expr.Check. -/
namespace Go.Proofs.YtjhmglefejclpaaDoor
open Go.RowKit
namespace Ex
set_option linter.unusedVariables false

/-- the checker's box -/
def Ck (w : World) (N q : Nat) : Prop := w.heap[N]? = some (.cells #[.int .i64 q] 68 (0, 0))
namespace Ck
variable {w : World} {N q : Nat}
theorem lt (h : Ck w N q) : N < w.heap.size := (Array.getElem?_eq_some_iff.1 h).1
theorem c0 (h : Ck w N q) : w.cell? ⟨N, 0, none⟩ = some (.int .i64 q) := cell_of_row w N 0 _ _ _ h
theorem fz (h : Ck w N q) : w.frozen? ⟨N, 0, none⟩ = false := by unfold Ck at h; simp [World.frozen?, h]
theorem below (h : Ck w N q) {w' : World} (hb : Below w.heap.size w w') : Ck w' N q := (hb.block N h.lt).trans h
theorem set (h : Ck w N q) (q' : Nat) : Ck (w.setCell ⟨N, 0, none⟩ (.int .i64 q')) N q' := heap_setCell_same w N 0 _ _ _ h
theorem kin (h : Ck w N q) : ¬ Kin w N := by
  rintro ⟨o, x, h2 | h2⟩
  all_goals
    rw [cell_of_row w N o _ _ _ h] at h2
    rcases o with _ | o
    · simp at h2
    · simp at h2
theorem moves (h : Ck w N q) {w' : World} (ht : Tn N w w') (g : Nat → Prop) : Moves w w' g g := fun k hk hkin hg => ⟨hg, ht.block k hk (fun e => h.kin (by cases e; exact hkin))⟩
theorem tb (h : Ck w N q) {w' : World} (ht : Tn N w w') (hT : Tb w) : Tb w' := by
  obtain ⟨⟨h1, t1, f1, e1⟩, ⟨h2, t2, f2, e2⟩⟩ := hT
  have n1 : 2 ≠ N := by
    rintro rfl
    have := e1.symm.trans h
    simp only [Option.some.injEq, Obj.cells.injEq] at this
    have h := congrArg Array.size this.1
    have hla : fmV.toArray.size = 192 := rfl
    rw [hla] at h; simp at h
  have n2 : 1 ≠ N := by
    rintro rfl
    have := e2.symm.trans h
    simp only [Option.some.injEq, Obj.cells.injEq] at this
    have h := congrArg Array.size this.1
    have hla : flV.toArray.size = 14 := rfl
    rw [hla] at h; simp at h
  exact ⟨⟨Nat.lt_of_lt_of_le h1 ht.size, t1, f1, (ht.block _ h1 (fun e => n1 (Option.some.inj e))).trans e1⟩, ⟨Nat.lt_of_lt_of_le h2 ht.size, t2, f2, (ht.block _ h2 (fun e => n2 (Option.some.inj e))).trans e2⟩⟩
end Ck
/-- what list says -/
def okL (q nest : Nat) (l : List Ins) : Bool := decide (q + cnt l ≤ 16384) && decide (nest ≤ 64) && may nest l
def okI (q nest : Nat) (i : Ins) : Bool := mayI nest i && decide (q + cnt i.body + cnt i.els ≤ 16384)
def CkPost (N : Nat) (b : Bool) (q : Nat) (w : World) (e : Ending) (w' : World) : Prop := ∃ q' : Nat, e = .returned (.bool b) ∧ Ck w' N q' ∧ Tn N w w' ∧ (b = true → q' = q)
def ChkP (l : List Ins) : Prop := ∀ (N q nest : Nat) (g : Nat → Prop) (v : Value) (w : World), Ck w N q → Code w g l v → Tb w → q ≤ 16384 → nest ≤ 65 → l.length ≤ 1099511627776 → Sz 1099511627776 l → Wf l →
  Calls Tryd.prog 31 #[.pointer (some ⟨N, 0, none⟩), v, .int .i64 nest] w (CkPost N (okL q nest l) (q + cnt l) w)

theorem okI_form {q nest : Nat} {i : Ins} (h : frm i.op = none) : okI q nest i = false := by simp [okI, mayI, one, h]
theorem okI_bnd {q nest : Nat} {i : Ins} (h : bnd (fr i.op) i.n i.re i.ls.length = false) : okI q nest i = false := by simp [okI, mayI, one, h]
theorem okI_alo {q nest : Nat} {i : Ins} (h : alo (fr i.op) i.n i.al i.of i.re i.body.length i.els.length i.ls.length = false) : okI q nest i = false := by simp [okI, mayI, one, h]
theorem alo_nil {f n al of re : Int} {lb le ll : Nat} (h : alo f n al of re lb le ll = true) (hb : blk f = false) : lb = 0 ∧ le = 0 := by
  unfold alo at h; unfold blk at hb
  simp only [decide_eq_true_eq, decide_eq_false_iff_not] at h hb
  omega
theorem cnt_0 {l : List Ins} (h : l.length = 0) : cnt l = 0 := by rw [List.eq_nil_of_length_eq_zero h, cnt_nil]
theorem okI_plain {q nest : Nat} {i : Ins} (hq : q ≤ 16384) (h0 : (frm i.op).isSome = true) (h1 : bnd (fr i.op) i.n i.re i.ls.length = true) (h2 : alo (fr i.op) i.n i.al i.of i.re i.body.length i.els.length i.ls.length = true) (hb : blk (fr i.op) = false) : okI q nest i = true ∧ cnt i.body = 0 ∧ cnt i.els = 0 := by
  have := alo_nil h2 hb
  have c1 := cnt_0 this.1
  have c2 := cnt_0 this.2
  exact ⟨by simp [okI, mayI, one, h0, h1, h2, hb, c1, c2]; omega, c1, c2⟩
theorem okI_blk {q nest : Nat} {i : Ins} (h0 : (frm i.op).isSome = true) (h1 : bnd (fr i.op) i.n i.re i.ls.length = true) (h2 : alo (fr i.op) i.n i.al i.of i.re i.body.length i.els.length i.ls.length = true) (hb : blk (fr i.op) = true) :
    okI q nest i = (okL q (nest + 1) i.body && okL (q + cnt i.body) (nest + 1) i.els) := by
  unfold okI okL mayI one
  rw [h0, h1, h2, hb]
  rw [Bool.eq_iff_iff]
  simp only [Bool.and_eq_true, Bool.or_eq_true, Bool.not_eq_true', decide_eq_true_eq, Bool.true_eq_false, false_or, true_and]
  constructor
  · rintro ⟨⟨⟨a, b⟩, c⟩, d⟩; exact ⟨⟨⟨by omega, by omega⟩, b⟩, ⟨by omega, by omega⟩, c⟩
  · rintro ⟨⟨⟨a, b⟩, c⟩, ⟨d, e⟩, f⟩; exact ⟨⟨⟨by omega, c⟩, f⟩, by omega⟩

set_option maxRecDepth 100000 in
set_option maxHeartbeats 3200000 in
theorem chki_any (i : Ins) (hib : ChkP i.body) (hie : ChkP i.els) {N q nest : Nat} {g : Nat → Prop} {vb ve vl : Value} {w : World} (hk : Ck w N q) (h1 : Code w g i.body vb) (h2 : Code w g i.els ve) (h3 : Lies g i.ls.length (Lab w i.ls) vl) (hT : Tb w) (hq : q ≤ 16384) (hn : nest ≤ 64) (sz : SzI 1099511627776 i) (wf : WfI i) :
    Calls Tryd.prog 43 #[.pointer (some ⟨N, 0, none⟩), .agg #[.int .u8 i.op, .int .i64 i.n, .int .u32 i.al, .int .u32 i.of, .int .u8 i.re, vb, ve, vl], .int .i64 nest] w (CkPost N (okI q nest i) (q + cnt i.body + cnt i.els) w) := by
  obtain ⟨o, ho⟩ : ∃ o : Nat, i.op = (o : Int) := ⟨i.op.toNat, by have := wf.1.1; omega⟩
  have ho2 : o < 256 := by have := wf.1.1; omega
  have H1 := hide h1; have H2 := hide h2; have H3 := hide h3; have SZ := hide sz; have WF := hide wf; have HK := hide hk; have HT := hide hT; have HIb := hide hib; have HIe := hide hie
  obtain ⟨ab, cb, rfl, _⟩ := h1
  obtain ⟨ae, ce, rfl, _⟩ := h2
  obtain ⟨al3, cl, rfl, _⟩ := h3
  clear hk hT hib hie
  have hfm := fun wx hx => form_any o ho2 wx hx
  rw [← ho] at hfm
  clear ho ho2
  have hb0 := one_alloc w (.cells #[.int .u8 i.op, .int .i64 i.n, .int .u32 i.al, .int .u32 i.of, .int .u8 i.re, .slice ab i.body.length cb, .slice ae i.els.length ce, .slice al3 i.ls.length cl] 50)
  have hbx : Bx (w.alloc (.cells #[.int .u8 i.op, .int .i64 i.n, .int .u32 i.al, .int .u32 i.of, .int .u8 i.re, .slice ab i.body.length cb, .slice ae i.els.length ce, .slice al3 i.ls.length cl] 50)) w.heap.size (.int .u8 i.op) (.int .i64 i.n) (.int .u32 i.al) (.int .u32 i.of) (.int .u8 i.re) (.slice ab i.body.length cb) (.slice ae i.els.length ce) (.slice al3 i.ls.length cl) := heap_alloc_new w _
  have HBx := hide hbx; have HB0 := hide hb0
  have hln : N < w.heap.size := (unhide HK).lt
  clear hbx hb0
  cases hx : fam i.op with
  | none =>
    have hno : okI q nest i = false := okI_form (by unfold frm; rw [hx]; rfl)
    rw [hno]
    rw [hx] at hfm
    simp only [formR, errV_1] at hfm
    have HF := hide hfm; clear hfm hx hno sz wf
    go_enter Tryd.func43, Tryd.ntmps43
    go_wp2_with fail
    refine (unhide HF _ ((unhide HT).1.below (unhide HB0))).mono ?_
    rintro e w1 ⟨rfl, hb1⟩
    have HB1 := hide (Below.on (unhide HB0) hb1); clear hb1
    go_wp2
    go_ret
    exact ⟨q, rfl, (unhide HK).below (unhide HB1), Tn.of (unhide HB1), fun e => absurd e (by decide)⟩
  | some x =>
    have hfo := fam_o hx
    obtain ⟨x1, x2, f, x4, x5, x6⟩ := x
    simp only at hfo
    have hfr : fr i.op = f := fr_of hx
    have hso : (frm i.op).isSome = true := by unfold frm; rw [hx]; rfl
    rw [hx] at hfm
    simp only [formR, errV_0] at hfm
    have hin := fun wx => inb_any i.op i.n i.al i.of i.re ab ae al3 i.body.length cb i.els.length ce i.ls.length cl f wx hfo sz.2.2.1
    have hnm := fun (wx : World) (hb : Below w.heap.size w wx) => hnm_any i f hfo wx ((unhide H1).below hb) ((unhide H2).below hb) (Labs.below (unhide H3) hb) sz
    have HF := hide hfm; have HIn := hide hin; have HNm := hide hnm; have HSo := hide hso; have HFr := hide hfr
    clear hfm hin hnm hx hso hfr
    cases hbd : bnd f i.n i.re i.ls.length with
    | false =>
      have hno : okI q nest i = false := okI_bnd (by rw [unhide HFr]; exact hbd)
      rw [hno]
      have HBd := hide hbd
      clear hno hbd sz wf hfo
      go_enter Tryd.func43, Tryd.ntmps43
      go_wp2_with fail
      refine (unhide HF _ ((unhide HT).1.below (unhide HB0))).mono ?_
      rintro e w1 ⟨rfl, hb1⟩
      have bx := (unhide HBx).below hb1
      obtain ⟨c0, c1, c2, c3, c4, c5, c6, c7⟩ := bx.cs
      have HB1 := hide (Below.on (unhide HB0) hb1)
      clear hb1 bx
      go_wp2_with fail
      refine (unhide HIn _).mono ?_
      rintro e w2 ⟨rfl, hb2⟩
      rw [unhide HBd]
      have HB2 := hide (Below.on (unhide HB1) hb2)
      clear hb2 c0 c1 c2 c3 c4 c5 c6 c7
      go_wp2
      go_ret
      exact ⟨q, rfl, (unhide HK).below (unhide HB2), Tn.of (unhide HB2), fun e => absurd e (by decide)⟩
    | true =>
      cases hal : alo f i.n i.al i.of i.re i.body.length i.els.length i.ls.length with
      | false =>
        have hno : okI q nest i = false := okI_alo (by rw [unhide HFr]; exact hal)
        rw [hno]
        have HBd := hide hbd; have HAl := hide hal
        clear hno hbd sz wf hfo hal
        go_enter Tryd.func43, Tryd.ntmps43
        go_wp2_with fail
        refine (unhide HF _ ((unhide HT).1.below (unhide HB0))).mono ?_
        rintro e w1 ⟨rfl, hb1⟩
        have bx := (unhide HBx).below hb1
        obtain ⟨c0, c1, c2, c3, c4, c5, c6, c7⟩ := bx.cs
        have HB1 := hide (Below.on (unhide HB0) hb1); have HX1 := hide bx
        clear hb1 bx
        go_wp2_with fail
        refine (unhide HIn _).mono ?_
        rintro e w2 ⟨rfl, hb2⟩
        rw [unhide HBd]
        have bx := (unhide HX1).below hb2
        have HB2 := hide (Below.on (unhide HB1) hb2)
        clear hb2 c0 c1 c2 c3 c4 c5 c6 c7
        obtain ⟨c0, c1, c2, c3, c4, c5, c6, c7⟩ := bx.cs
        clear bx
        go_wp2_with fail
        refine (unhide HNm _ (unhide HB2)).mono ?_
        rintro e w3 ⟨rfl, hb3⟩
        rw [unhide HAl]
        have HB3 := hide (Below.on (unhide HB2) hb3)
        clear hb3 c0 c1 c2 c3 c4 c5 c6 c7
        go_wp2
        go_ret
        exact ⟨q, rfl, (unhide HK).below (unhide HB3), Tn.of (unhide HB3), fun e => absurd e (by decide)⟩
      | true =>
        have hib := fun wx => ib_any f wx
        have HIB := hide hib
        have HBd := hide hbd; have HAl := hide hal
        clear hib hbd hal hfo
        go_enter Tryd.func43, Tryd.ntmps43
        go_wp2_with fail
        refine (unhide HF _ ((unhide HT).1.below (unhide HB0))).mono ?_
        rintro e w1 ⟨rfl, hb1⟩
        have bx := (unhide HBx).below hb1
        obtain ⟨c0, c1, c2, c3, c4, c5, c6, c7⟩ := bx.cs
        have HB1 := hide (Below.on (unhide HB0) hb1); have HX1 := hide bx
        clear hb1 bx
        go_wp2_with fail
        refine (unhide HIn _).mono ?_
        rintro e w2 ⟨rfl, hb2⟩
        rw [unhide HBd]
        have bx := (unhide HX1).below hb2
        have HB2 := hide (Below.on (unhide HB1) hb2); have HX2 := hide bx
        clear hb2 c0 c1 c2 c3 c4 c5 c6 c7
        obtain ⟨c0, c1, c2, c3, c4, c5, c6, c7⟩ := bx.cs
        clear bx
        go_wp2_with fail
        refine (unhide HNm _ (unhide HB2)).mono ?_
        rintro e w3 ⟨rfl, hb3⟩
        rw [unhide HAl]
        have bx := (unhide HX2).below hb3
        have HB3 := hide (Below.on (unhide HB2) hb3); have HX3 := hide bx
        clear hb3 c0 c1 c2 c3 c4 c5 c6 c7 bx
        go_wp2_with fail
        refine (unhide HIB _).mono ?_
        rintro e w4 ⟨rfl, rfl⟩
        have hkk := (unhide HK).below (unhide HB3)
        cases hbl : blk f with
        | false =>
          obtain ⟨y1, y2, y3⟩ := okI_plain (nest := nest) hq (unhide HSo) (by rw [unhide HFr]; exact unhide HBd) (by rw [unhide HFr]; exact unhide HAl) (by rw [unhide HFr]; exact hbl)
          have HY := hide (show _ ∧ _ ∧ _ from ⟨y1, y2, y3⟩)
          have HKK := hide hkk
          clear y1 y2 y3 hkk hbl sz wf
          go_wp2
          go_ret
          exact ⟨q, ret_bool (unhide HY).1.symm, unhide HKK, Tn.of (unhide HB3), fun _ => by have := unhide HY; omega⟩
        | true =>
          have hbk := okI_blk (q := q) (nest := nest) (unhide HSo) (by rw [unhide HFr]; exact unhide HBd) (by rw [unhide HFr]; exact unhide HAl) (by rw [unhide HFr]; exact hbl)
          have HBk := hide hbk
          have c5 := (unhide HX3).cs.2.2.2.2.2.1
          have hl1 := unhide HIb N q (nest + 1) g _ w3 hkk ((unhide H1).below (unhide HB3)) ((unhide HT).below (unhide HB3)) hq (by omega) sz.1 sz.2.2.2.1 wf.2.1
          rw [show (((nest + 1 : Nat)) : Int) = (nest : Int) + 1 by omega] at hl1
          have HL1 := hide hl1; have HKK := hide hkk
          have HTW := hide ((unhide HT).below (unhide HB3)); have HC2 := hide ((unhide H2).below (unhide HB3))
          clear hbk hl1 hkk hbl
          go_wp2_with fail
          refine (unhide HL1).mono ?_
          rintro e w5 ⟨q1, rfl, hk5, ht5, hq5⟩
          have hne : w.heap.size ≠ N := by omega
          have c6 := ((unhide HX3).tn ht5 hne).cs.2.2.2.2.2.2.1
          have HK5 := hide hk5; have HT5 := hide ht5
          have htw := Ck.tb (unhide HKK) ht5 (unhide HTW)
          have hc2 := (unhide HC2).move (Ck.moves (unhide HKK) ht5 g)
          cases ho1 : okL q (nest + 1) i.body with
          | false =>
            have hno : okI q nest i = false := by rw [unhide HBk, ho1]; rfl
            have HNo := hide hno
            clear hk5 ht5 hq5 hno ho1 c5 htw hc2 sz wf
            go_wp2
            go_ret
            exact ⟨q1, ret_bool (unhide HNo).symm, unhide HK5, Tn.on (Tn.of (unhide HB3)) (unhide HT5), fun e => absurd (e.symm.trans (unhide HNo)) (by decide)⟩
          | true =>
            have hq1 := hq5 ho1
            subst hq1
            have hle : q + cnt i.body ≤ 16384 := by
              unfold okL at ho1
              simp only [Bool.and_eq_true, decide_eq_true_eq] at ho1
              exact ho1.1.1
            have hl2 := unhide HIe N (q + cnt i.body) (nest + 1) g _ w5 hk5 hc2 htw hle (by omega) sz.2.1 sz.2.2.2.2 wf.2.2
            rw [show (((nest + 1 : Nat)) : Int) = (nest : Int) + 1 by omega] at hl2
            have HL2 := hide hl2
            have hyes : okI q nest i = okL (q + cnt i.body) (nest + 1) i.els := by rw [unhide HBk, ho1]; rfl
            have HYes := hide hyes
            clear hk5 ht5 hq5 ho1 c5 htw hc2 hl2 hyes sz wf hle
            go_wp2_with fail
            refine (unhide HL2).mono ?_
            rintro e w6 ⟨q2, rfl, hk6, ht6, hq6⟩
            have HK6 := hide hk6; have HT6 := hide (Tn.on (Tn.of (N := N) (unhide HB3)) (Tn.on (unhide HT5) ht6)); have HQ6 := hide hq6
            clear hk6 ht6 hq6 c6
            go_wp2
            go_ret
            exact ⟨q2, ret_bool (unhide HYes).symm, unhide HK6, unhide HT6, fun e => by rw [unhide HQ6 ((unhide HYes).symm.trans e)]⟩
end Ex
end Go.Proofs.YtjhmglefejclpaaDoor

/- The checker's list; expr.Check. -/
namespace Go.Proofs.YtjhmglefejclpaaDoor
open Go.RowKit
namespace Ex
set_option linter.unusedVariables false

theorem okL_many {q nest : Nat} {l : List Ins} (h : 16384 < q + l.length) : okL q nest l = false := by
  have := cnt_len l
  simp [okL]; intro h1; omega
theorem okL_deep {q nest : Nat} {l : List Ins} (h : 64 < nest) : okL q nest l = false := by
  simp [okL]; intro h1 h2; omega
theorem okL_item {q nest j : Nat} {l : List Ins} (hj : j < l.length) (h : okI (q + cnt (l.take j) + l.length - j) nest l[j] = false) (hle : cnt (l.take j) + l.length ≥ j) : okL q nest l = false := by
  unfold okI at h
  unfold okL
  cases hm : mayI nest l[j] with
  | false => rw [may_not (List.getElem_mem hj) hm]; simp
  | true =>
    rw [hm] at h
    simp only [Bool.true_and, decide_eq_false_iff_not] at h
    have h1 := cnt_take hj
    have h2 := cnt_take_le l (j + 1)
    have : ¬ q + cnt l ≤ 16384 := by omega
    simp [this]
theorem okL_yes {q nest : Nat} {l : List Ins} (h : q + cnt l ≤ 16384) (hn : nest ≤ 64) (hm : ∀ j (hj : j < l.length), mayI nest l[j] = true) : okL q nest l = true := by
  unfold okL
  rw [may_of fun i hi => by obtain ⟨j, hj, rfl⟩ := List.mem_iff_getElem.1 hi; exact hm j hj]
  simp [h, hn]
theorem okI_may {q nest : Nat} {i : Ins} (h : okI q nest i = true) : mayI nest i = true ∧ q + cnt i.body + cnt i.els ≤ 16384 := by
  unfold okI at h
  simpa using h

set_option maxRecDepth 100000 in
set_option maxHeartbeats 3200000 in
theorem chk_any (l : List Ins) : ChkP l := by
  refine ind2 (P := ChkP) (fun l ih => ?_) l
  intro N q nest g v w hk hv hT hq hn hl hs hw
  obtain ⟨a, ca, rfl, hca, _, hA⟩ := hv
  have c0 := hk.c0; have fz := hk.fz
  have hk1 := hk.set (q + l.length)
  have ht1 := Tn.set N 0 w (.int .i64 ((q + l.length : Nat) : Int))
  rw [show (((q + l.length : Nat)) : Int) = (q : Int) + (l.length : Int) by omega] at hk1 ht1
  have c1 := hk1.c0
  rw [show (((q + l.length : Nat)) : Int) = (q : Int) + (l.length : Int) by omega] at c1
  by_cases h1 : 16384 < q + l.length
  · have hno := okL_many (nest := nest) h1
    rw [hno]
    have h1' : (16384 : Int) < (q : Int) + (l.length : Int) := by omega
    have HK := hide hk1; have HT := hide ht1
    generalize l.length = n at *
    clear hno hA ih hs hw hk hk1 ht1 hT h1
    go_enter Tryd.func31, Tryd.ntmps31
    go_wp2
    go_ret
    exact ⟨_, rfl, unhide HK, unhide HT, fun e => absurd e (by decide)⟩
  by_cases h2 : 64 < nest
  · have hno := okL_deep (q := q) (l := l) h2
    rw [hno]
    have h1' : (q : Int) + (l.length : Int) ≤ 16384 := by omega
    have h2' : (64 : Int) < (nest : Int) := by omega
    have HK := hide hk1; have HT := hide ht1
    generalize l.length = n at *
    clear hno hA ih hs hw hk hk1 ht1 hT h1 h2
    go_enter Tryd.func31, Tryd.ntmps31
    go_wp2
    go_ret
    exact ⟨_, rfl, unhide HK, unhide HT, fun e => absurd e (by decide)⟩
  have h1' : (q : Int) + (l.length : Int) ≤ 16384 := by omega
  have h2' : (nest : Int) ≤ 64 := by omega
  have HK := hide hk; have HT := hide hT; have HIh := hide ih; have HSz := hide hs; have HWf := hide hw; have HK1 := hide hk1; have HT1 := hide ht1
  clear hk hT ih hs hw hk1 ht1 h1 h2
  by_cases h0 : 0 < l.length
  · obtain ⟨ba, oa, rfl, hgb, hla⟩ := hA h0
    have HLa := hide hla
    clear hA hla
    generalize hln : l.length = n at *
    have HN := hide hln; clear hln
    go_enter Tryd.func31, Tryd.ntmps31
    go_wp2_with fail
    generalize w.setCell ⟨N, 0, none⟩ (.int .i64 ((q : Int) + (n : Int))) = w1 at *
    go_loopw [29] (fun c wr => ∃ j : Nat, c = .int .i64 j ∧ (j : Int) ≤ n ∧ Ck wr N (q + cnt (l.take j) + n - j) ∧ q + cnt (l.take j) + n - j ≤ 16384 ∧ Tn N w wr ∧ (∀ i (h : i < l.length), i < j → mayI nest l[i] = true)) (fun c _ => n - (intOf c).toNat)
    case atStart => exact ⟨0, rfl, by omega, by simpa [cnt_nil] using unhide HK1, by simp [cnt_nil]; omega, unhide HT1, fun i _ hi => absurd hi (by omega)⟩
    case round =>
      clear c1 c0 fz
      obtain ⟨j, rfl, hj, hkr, hqr, htr, hall⟩ := hrel
      have HAll := hide hall; have HTr := hide htr; have HKr := hide hkr
      by_cases hlt : (j : Int) < n
      · have ja : j < l.length := by have := unhide HN; omega
        have hm := Ck.moves (unhide HK) htr g
        have hbk : wr.heap[ba]? = w.heap[ba]? := htr.block ba (Items_lt (unhide HLa) (by omega)) (fun e => (unhide HK).kin (by cases e; exact Items_kin (unhide HLa) (by omega)))
        have iA := ItemAt.move hm hbk (Items_get (unhide HLa) j ja)
        have hI := unhide HIh l[j] (List.getElem_mem ja)
        have sA := Sz_get (unhide HSz) l[j] (List.getElem_mem ja)
        have wA := Wf_get (unhide HWf) l[j] (List.getElem_mem ja)
        have hT := cnt_take ja
        have hge : cnt (l.take j) + n ≥ j := by omega
        have hno := fun h => okL_item (q := q) (nest := nest) ja h (by have := unhide HN; omega)
        rw [unhide HN] at hno
        have hTb := Ck.tb (unhide HK) htr (unhide HT)
        generalize hx : l[j] = x at *
        have HX := hide hx
        obtain ⟨vb, ve, vl, hc, k1, k2, k3⟩ := iA
        have K1 := hide k1; have K2 := hide k2; have K3 := hide k3
        obtain ⟨d1, db1, rfl, _⟩ := k1
        obtain ⟨d2, db2, rfl, _⟩ := k2
        obtain ⟨d3, db3, rfl, _⟩ := k3
        obtain ⟨e0, e1, e2, e3, e4, e5, e6, e7⟩ := hc
        have hb0 := one_alloc wr (.cells #[.int .u8 x.op, .int .i64 x.n, .int .u32 x.al, .int .u32 x.of, .int .u8 x.re, .slice d1 x.body.length db1, .slice d2 x.els.length db2, .slice d3 x.ls.length db3] 50)
        have hci := chki_any x hI.1 hI.2 (nest := nest) (hkr.below hb0) ((unhide K1).below hb0) ((unhide K2).below hb0) (Labs.below (unhide K3) hb0) (hTb.below hb0) hqr (by omega) sA wA
        have HCi := hide hci; have HNo := hide hno; have HT2 := hide hT; have HB0 := hide hb0; have HQr := hide hqr; have HGe := hide hge; have HTk := hide (show cnt (l.take (j + 1)) + n ≤ cnt l + (j + 1) from by have := cnt_take_le l (j + 1); rw [unhide HN] at this; exact this)
        clear hci hno hT hx hI sA wA hTb hm hbk hb0 hall hkr hqr htr hj hge
        go_wp2_with fail
        refine (unhide HCi).mono ?_
        rintro e w3 ⟨q', rfl, hk3, ht3, hq3⟩
        have HK3 := hide hk3; have HT3 := hide (Tn.on (unhide HTr) (Tn.on (Tn.of (N := N) (unhide HB0)) ht3)); have HQ3 := hide hq3
        clear hk3 ht3 hq3 e0 e1 e2 e3 e4 e5 e6 e7
        cases hoi : okI (q + cnt (l.take j) + n - j) nest x with
        | false =>
          have HF := hide (unhide HNo hoi)
          clear hoi
          go_wp2
          go_ret
          exact ⟨_, ret_bool (unhide HF).symm, unhide HK3, unhide HT3, fun e => absurd (e.symm.trans (unhide HF)) (by decide)⟩
        | true =>
          have hmm := okI_may hoi
          have hqq := unhide HQ3 hoi
          have hq4 : q' = q + cnt (l.take (j + 1)) + n - (j + 1) := by have := unhide HT2; have := unhide HGe; omega
          subst hq4
          have HMm := hide hmm
          clear hoi hmm hqq
          go_wp2
          go_roundw
          case rel => exact ⟨j + 1, by go_num, by omega, unhide HK3, by have := (unhide HMm).2; have := unhide HT2; have := unhide HGe; omega, unhide HT3, fun i hi hij => by
            by_cases e : i = j
            · subst e; rw [unhide HX]; exact (unhide HMm).1
            · exact unhide HAll i hi (by omega)⟩
          case measure => simp [intOf]; omega
      · obtain rfl : j = n := by omega
        have htk : l.take j = l := by rw [← unhide HN]; exact List.take_length
        rw [htk] at hkr hqr
        have HY := hide (show okL q nest l = true from okL_yes (by omega) (by omega) (fun i hi => unhide HAll i hi (by have := unhide HN; omega)))
        have hkr' : Ck wr N (q + cnt l) := by rw [show q + cnt l + j - j = q + cnt l by omega] at hkr; exact hkr
        have HKr2 := hide hkr'
        clear hj hlt hkr hqr htk hkr' htr hall
        go_wp2
        go_ret
        exact ⟨_, ret_bool (unhide HY).symm, unhide HKr2, unhide HTr, fun _ => rfl⟩
  · have hlz : l = [] := List.eq_nil_of_length_eq_zero (by omega)
    subst hlz
    simp only [List.length_nil] at *
    have HY := hide (show okL q nest [] = true from okL_yes (by rw [cnt_nil]; omega) (by omega) (fun i hi => absurd hi (by simp)))
    have HKn := hide (show Ck (w.setCell ⟨N, 0, none⟩ (.int .i64 (q : Int))) N q by have := unhide HK1; simpa using this)
    have HTn := hide (show Tn N w (w.setCell ⟨N, 0, none⟩ (.int .i64 (q : Int))) by have := unhide HT1; simpa using this)
    have c1' : (w.setCell ⟨N, 0, none⟩ (.int .i64 (q : Int))).cell? ⟨N, 0, none⟩ = some (.int .i64 (q : Int)) := (unhide HKn).c0
    clear hA hca h0 c1 HK1 HT1
    go_enter Tryd.func31, Tryd.ntmps31
    go_wp2_with fail
    go_loopw [29] (fun c wr => c = .int .i64 0 ∧ wr = w.setCell ⟨N, 0, none⟩ (.int .i64 (q : Int))) (fun c _ => 0)
    case atStart => exact ⟨rfl, rfl⟩
    case round =>
      obtain ⟨rfl, rfl⟩ := hrel
      go_wp2
      go_ret
      exact ⟨q, ret_bool (unhide HY).symm, unhide HKn, unhide HTn, fun _ => by rw [cnt_nil]; rfl⟩

/-- may they be? -/
def mayB (l : List Ins) : Bool := okL 0 0 l
set_option maxRecDepth 100000 in
set_option maxHeartbeats 800000 in
theorem check_any (l : List Ins) {g : Nat → Prop} {v : Value} {w : World} (hv : Code w g l v) (hT : Tb w) (hl : l.length ≤ 1099511627776) (hs : Sz 1099511627776 l) (hw : Wf l) :
    Calls Tryd.prog 19 #[v] w fun e w' => e = .returned (errV (if mayB l = true then 0 else 1)) ∧ Below w.heap.size w w' := by
  have hb := one_alloc w (.cells #[.int .i64 0] 68)
  have hk : Ck (w.alloc (.cells #[.int .i64 0] 68)) w.heap.size 0 := heap_alloc_new w _
  have hc := chk_any l w.heap.size 0 0 g v _ hk (hv.below hb) (hT.below hb) (by omega) (by omega) hl hs hw
  obtain ⟨a, ca, rfl, _⟩ := hv
  have HC := hide hc; have HB := hide hb
  clear hc hk hb hT hs hw
  unfold mayB
  cases hm : okL 0 0 l with
  | true =>
    rw [hm] at HC
    rw [if_pos rfl, errV_0]
    clear hm
    go_enter Tryd.func19, Tryd.ntmps19
    go_wp2_with fail
    refine (unhide HC).mono ?_
    rintro e w1 ⟨q', rfl, _, ht, _⟩
    have HT := hide (Tn.below (unhide HB) ht); clear ht
    go_wp2
    go_ret
    exact ⟨rfl, unhide HT⟩
  | false =>
    rw [hm] at HC
    rw [if_neg (by decide), errV_1]
    clear hm
    go_enter Tryd.func19, Tryd.ntmps19
    go_wp2_with fail
    refine (unhide HC).mono ?_
    rintro e w1 ⟨q', rfl, _, ht, _⟩
    have HT := hide (Tn.below (unhide HB) ht); clear ht
    go_wp2
    go_ret
    exact ⟨rfl, unhide HT⟩
end Ex
end Go.Proofs.YtjhmglefejclpaaDoor

/- The writer: one, unsigned, signed. -/
namespace Go.Proofs.YtjhmglefejclpaaDoor
open Go.RowKit
namespace Ex
set_option linter.unusedVariables false
attribute [local go_sem ↓] Go.wp_at_zero Go.wp_at_succ

/-- the writer's box, and the bytes that it laid -/
def Wr (w : World) (N : Nat) (zs : List Int) : Prop := ∃ v, w.heap[N]? = some (.cells #[v] 57 (0, 0)) ∧ w.ownsRow N 5 1 v zs.length (zs.map (Value.int .u8)) ∧ ∀ z ∈ zs, 0 ≤ z ∧ z ≤ 255
theorem Wr.below {w w' : World} {N : Nat} {zs : List Int} (h : Wr w N zs) (hb : Below w.heap.size w w') : Wr w' N zs := by
  obtain ⟨v, h1, h2, h3⟩ := h
  have hlt : N < w.heap.size := (Array.getElem?_eq_some_iff.1 h1).1
  refine ⟨v, (hb.block N hlt).trans h1, ⟨h2.1, ?_⟩, h3⟩
  rcases h2.2 with hn | ⟨g, cap, cur, e1, e2, e3, e4⟩
  · exact .inl hn
  · exact .inr ⟨g, cap, cur, e1, e2, (hb.block g (Array.getElem?_eq_some_iff.1 e3).1).trans e3, e4⟩
theorem Wr.lt {w : World} {N : Nat} {zs : List Int} (h : Wr w N zs) : N < w.heap.size := by obtain ⟨v, h1, _⟩ := h; exact (Array.getElem?_eq_some_iff.1 h1).1
/-- what stays: all below the box; all that is no bytes, and not the box -/
structure Fr (N : Nat) (w w' : World) : Prop where
  lo : Below N w w'
  hi : ∀ k, k < w.heap.size → k ≠ N → (∀ c fr, w.heap[k]? ≠ some (.cells c 5 fr)) → w'.heap[k]? = w.heap[k]?
theorem Fr.on {N : Nat} {w w1 w2 : World} (h : Fr N w w1) (h2 : Fr N w1 w2) : Fr N w w2 := ⟨h.lo.trans h2.lo, fun k hk hne hu => by
  have e := h.hi k hk hne hu
  exact (h2.hi k (Nat.lt_of_lt_of_le hk h.lo.size) hne (fun c fr => by rw [e]; exact hu c fr)).trans e⟩
theorem Fr.of {N : Nat} {w w1 : World} (h : Below w.heap.size w w1) (hN : N ≤ w.heap.size) : Fr N w w1 := ⟨h.mono hN, fun k hk _ _ => h.block k hk⟩
theorem Fr.bx {N Q : Nat} {w w1 : World} {x0 x1 x2 x3 x4 x5 x6 x7 : Value} (h : Fr N w w1) (hb : Bx w Q x0 x1 x2 x3 x4 x5 x6 x7) (hq : Q ≠ N) : Bx w1 Q x0 x1 x2 x3 x4 x5 x6 x7 :=
  (h.hi Q hb.lt hq (fun c fr e => by have := hb.symm.trans e; simp at this)).trans hb
/-- more bytes, laid behind, and the slice stored -/
theorem wr_step {w w2 : World} {N : Nat} {v v' : Value} {zs ds : List Int} (h1 : w.heap[N]? = some (.cells #[v] 57 (0, 0))) (h2 : w.ownsRow N 5 1 v zs.length (zs.map (Value.int .u8))) (h3 : ∀ z ∈ zs ++ ds, 0 ≤ z ∧ z ≤ 255)
    (hown : w2.ownsRow N 5 1 v' (zs.length + ds.length) (zs.map (Value.int .u8) ++ ds.map (Value.int .u8))) (hg : w.grownBy w2 v.ownBlock) :
    Wr (w2.setCell ⟨N, 0, none⟩ v') N (zs ++ ds) ∧ Fr N w (w2.setCell ⟨N, 0, none⟩ v') := by
  have hlt : N < w.heap.size := (Array.getElem?_eq_some_iff.1 h1).1
  have hne : ∀ k, v.ownBlock = some k → k ≠ N ∧ N ≤ k := by
    intro k hk
    refine ⟨?_, (h2.lt k hk).1⟩
    rintro rfl
    rcases h2.2 with ⟨rfl, _⟩ | ⟨g, cap, cur, rfl, _, e3, _⟩
    · cases hk
    · cases hk; have := h1.symm.trans e3; simp at this
  have hN2 : w2.heap[N]? = some (.cells #[v] 57 (0, 0)) := (hg.block N hlt (fun e => (hne N e.symm).1 rfl)).trans h1
  have hS := heap_setCell_same w2 N 0 _ _ v' hN2
  refine ⟨⟨v', by rw [hS]; rfl, ⟨by simp, ?_⟩, h3⟩, ?_⟩
  · rcases hown.2 with ⟨e, h0⟩ | ⟨g, cap, cur, e1, e2, e3, e4⟩
    · exact .inl ⟨e, by rw [List.length_append]; exact h0⟩
    · refine .inr ⟨g, cap, cur, by rw [e1]; simp, e2, ?_, by simpa using e4⟩
      rw [heap_setCell_other w2 ⟨N, 0, none⟩ g v' (by
        rintro rfl
        have := hN2.symm.trans e3
        simp at this)]
      exact e3
  · have hs : Below N w2 (w2.setCell ⟨N, 0, none⟩ v') := (Below.refl _ _).setCell (p := ⟨N, 0, none⟩) (Nat.le_refl _) _
    refine ⟨⟨hs.os.trans hg.os, hs.tape.trans hg.tape, hs.output.trans hg.output, Nat.le_trans hg.size hs.size, fun k hk => (hs.block k hk).trans (hg.block k (by omega) (fun e => by have := hne k e.symm; omega))⟩, fun k hk hkN hu => ?_⟩
    rw [heap_setCell_other w2 ⟨N, 0, none⟩ k v' hkN]
    refine hg.block k hk (fun e => ?_)
    rcases h2.2 with ⟨rfl, _⟩ | ⟨g, cap, cur, rfl, _, e3, _⟩
    · cases e
    · cases e; exact hu _ _ e3

set_option maxRecDepth 100000 in
set_option maxHeartbeats 1600000 in
theorem one_any {w : World} {N : Nat} {zs : List Int} (c : Int) (h : Wr w N zs) (hz : zs.length ≤ 1099511627776) (hc : 0 ≤ c ∧ c ≤ 255) :
    Calls Tryd.prog 25 #[.pointer (some ⟨N, 0, none⟩), .int .u8 c] w fun e w' => e = .returned (.tuple #[]) ∧ Wr w' N (zs ++ [c]) ∧ Fr N w w' := by
  obtain ⟨i0, hi, hz0, hz1, hz2⟩ := info_parts Tryd.info5
  have hlt := h.lt
  have hal := h.below (one_alloc w (.cells #[.int .u8 c] 5))
  obtain ⟨v, h1, h2, h3⟩ := h
  have h1a := ((one_alloc w (.cells #[.int .u8 c] 5)).block N hlt).trans h1
  have h2a := h2.alloc (.cells #[.int .u8 c] 5)
  have c0 : w.cell? ⟨N, 0, none⟩ = some v := by rw [cell_of_row w N 0 _ _ _ h1]; rfl
  have hsh : ∃ a n cp, v = .slice a n cp := by rcases h2.2 with ⟨rfl, _⟩ | ⟨g, cap, cur, rfl, _⟩; exact ⟨_, _, _, rfl⟩; exact ⟨_, _, _, rfl⟩
  obtain ⟨va, vn, vc, rfl⟩ := hsh
  have H1 := hide h1a; have H2 := hide h2a; have H3 := hide h3
  clear hal h1 h2 h3 h1a h2a
  go_enter Tryd.func25, Tryd.ntmps25
  go_wp2_with (at_builtin; refine wpList_append_own _ rfl (.tmp 8) (.tmp 10) 27 rfl N 5 i0 (.int .u8 0) 1 1 Tryd.underlying27 hi hz0 hz1 hz2 rfl (by decide) (.slice va vn vc) zs.length (zs.map (Value.int .u8)) rfl (unhide H2) ⟨w.heap.size, 0, none⟩ 1 1 [.int .u8 c] rfl rfl ?c1 ?c2 ?c3 ?c4 ?c5 ?_)
  case c1 => exact cell_one_new _ _ _
  case c2 => intro u hu; simp at hu; subst hu; rfl
  case c3 => unfold maxLen; omega
  case c4 => omega
  case c5 => simp; omega
  intro v' w2 hown hgrow _
  obtain ⟨g1, g2⟩ := wr_step (ds := [c]) (unhide H1) (unhide H2) (by
    intro z hzz
    rcases List.mem_append.1 hzz with hh | hh
    · exact unhide H3 z hh
    · simp at hh; subst hh; exact hc) hown hgrow
  have hN2 : w2.heap[N]? = some (.cells #[.slice va vn vc] 57 (0, 0)) := by
    refine (hgrow.block N (by simp; omega) ?_).trans (unhide H1)
    intro e
    obtain ⟨cur, hcur⟩ : ∃ cur, (w.alloc (.cells #[.int .u8 c] 5)).heap[N]? = some (.cells cur 5 (0, 0)) := by
      rcases (unhide H2).2 with ⟨e1, _⟩ | ⟨g, cap, cur, e1, _, e3, _⟩
      · rw [e1] at e; cases e
      · rw [e1] at e; cases e; exact ⟨cur, e3⟩
    have := (unhide H1).symm.trans hcur
    simp at this
  have n0 : w2.cell? ⟨N, 0, none⟩ = some (.slice va vn vc) := by rw [cell_of_row w2 N 0 _ _ _ hN2]; rfl
  have n1 : w2.frozen? ⟨N, 0, none⟩ = false := by simp [World.frozen?, hN2]
  have hsh : ∃ a n cp, v' = .slice a n cp := by rcases hown.2 with ⟨rfl, _⟩ | ⟨g, cap, cur, rfl, _⟩; exact ⟨_, _, _, rfl⟩; exact ⟨_, _, _, rfl⟩
  obtain ⟨va', vn', vc', rfl⟩ := hsh
  have G1 := hide g1; have G2 := hide (Fr.on (Fr.of (one_alloc w (.cells #[.int .u8 c] 5)) (Nat.le_of_lt hlt)) g2)
  clear g1 g2 hown hgrow hN2 c0
  go_wp2
  go_end0
  exact ⟨rfl, unhide G1, unhide G2⟩

theorem ownsRow_below {w w' : World} {B e size n : Nat} {v : Value} {xs : List Value} (h : w.ownsRow B e size v n xs) (hb : Below w.heap.size w w') : w'.ownsRow B e size v n xs := by
  refine ⟨h.1, ?_⟩
  rcases h.2 with hn | ⟨g, cap, cur, e1, e2, e3, e4⟩
  · exact .inl hn
  · exact .inr ⟨g, cap, cur, e1, e2, (hb.block g (Array.getElem?_eq_some_iff.1 e3).1).trans e3, e4⟩
theorem row_news {w : World} {g len : Nat} {zs : List Int} (h : Row w (some ⟨g, 0, none⟩) len zs) : ∀ j u, (zs.map (Value.int .u8))[j]? = some u → w.cell? ((⟨g, 0, none⟩ : Addr).add j) = some u := by
  intro j u hj
  simp only [List.getElem?_map, Option.map_eq_some_iff] at hj
  obtain ⟨z, hz, rfl⟩ := hj
  have hj2 : j < len := by have := (List.getElem?_eq_some_iff.1 hz).1; have := h.1; omega
  obtain ⟨b, o, e, _, hc⟩ := h.2.2 (by omega)
  simp only [Option.some.injEq, Addr.mk.injEq] at e
  obtain ⟨rfl, rfl, _⟩ := e
  have : ((⟨g, 0, none⟩ : Addr).add j) = ⟨g, 0 + j, none⟩ := by by_cases h : j = 0 <;> simp [Addr.add, h]
  rw [this, hc j hj2]
  simp [List.getD, hz]
/-- the box behind an append to the bytes -/
theorem wr_box {w w1 w2 : World} {N : Nat} {v : Value} {zs : List Int} (h1 : w.heap[N]? = some (.cells #[v] 57 (0, 0))) (h2 : w.ownsRow N 5 1 v zs.length (zs.map (Value.int .u8))) (hb : Below w.heap.size w w1) (hg : w1.grownBy w2 v.ownBlock) :
    w2.heap[N]? = some (.cells #[v] 57 (0, 0)) := by
  have hlt : N < w.heap.size := (Array.getElem?_eq_some_iff.1 h1).1
  refine (hg.block N (Nat.lt_of_lt_of_le hlt hb.size) (fun e => ?_)).trans ((hb.block N hlt).trans h1)
  rcases h2.2 with ⟨rfl, _⟩ | ⟨g, cap, cur, rfl, _, e3, _⟩
  · cases e
  · cases e; have := h1.symm.trans e3; simp at this
theorem wr_keep {w w1 w2 : World} {N : Nat} {v : Value} {zs : List Int} (h1 : w.heap[N]? = some (.cells #[v] 57 (0, 0))) (h2 : w.ownsRow N 5 1 v zs.length (zs.map (Value.int .u8))) (hb : Below w.heap.size w w1) (hg : w1.grownBy w2 v.ownBlock) :
    w2.cell? ⟨N, 0, none⟩ = some v := by rw [cell_of_row w2 N 0 _ _ _ (wr_box h1 h2 hb hg)]; rfl

theorem wr_fz {w w1 w2 : World} {N : Nat} {v : Value} {zs : List Int} (h1 : w.heap[N]? = some (.cells #[v] 57 (0, 0))) (h2 : w.ownsRow N 5 1 v zs.length (zs.map (Value.int .u8))) (hb : Below w.heap.size w w1) (hg : w1.grownBy w2 v.ownBlock) :
    w2.frozen? ⟨N, 0, none⟩ = false := by simp [World.frozen?, wr_box h1 h2 hb hg]

set_option maxRecDepth 100000 in
set_option maxHeartbeats 3200000 in
theorem uns_any {w : World} {N : Nat} {zs : List Int} (x : Int) (h : Wr w N zs) (hz : zs.length ≤ 1099511627776) (x0 : 0 ≤ x) (x1 : x < 18446744073709551616) :
    Calls Tryd.prog 54 #[.pointer (some ⟨N, 0, none⟩), .int .u64 x] w fun e w' => e = .returned (.tuple #[]) ∧ Wr w' N (zs ++ Leb.bU 10 x) ∧ Fr N w w' := by
  obtain ⟨i0, hi, hz0, hz1, hz2⟩ := info_parts Tryd.info5
  have hlt := h.lt
  have hq := fun (wx : World) => putU_b none 0 0 [] x wx ⟨rfl, by simp, fun h => by omega⟩ x0 x1 (by omega)
  have hpos := Leb.bU_pos 10 x
  have hle := Leb.bU_len 10 x
  simp only [Nat.zero_add, List.nil_append] at hq
  generalize hL : Leb.bU 10 x = L at *
  clear hL
  have HWr := hide h
  obtain ⟨v, h1, h2, h3⟩ := h
  have c0 : w.cell? ⟨N, 0, none⟩ = some v := by rw [cell_of_row w N 0 _ _ _ h1]; rfl
  have f0 : w.frozen? ⟨N, 0, none⟩ = false := by simp [World.frozen?, h1]
  have hsh : ∃ a n cp, v = .slice a n cp := by rcases h2.2 with ⟨rfl, _⟩ | ⟨g, cap, cur, rfl, _⟩; exact ⟨_, _, _, rfl⟩; exact ⟨_, _, _, rfl⟩
  obtain ⟨va, vn, vc, rfl⟩ := hsh
  have HQ := hide hq; have H1 := hide h1; have H2 := hide h2; have H3 := hide h3
  clear hq h1 h2 h3
  go_enter Tryd.func54, Tryd.ntmps54
  go_wp2_with fail
  go_region_law
    (first
      | (refine step_append_lies _ (by rfl) _ _ _ (by rfl) N 5 i0 (.int .u8 0) 1 1 Tryd.underlying27 hi hz0 hz1 hz2 rfl (by decide) (.slice va vn vc) zs.length (zs.map (Value.int .u8)) (by rfl) (ownsRow_below (unhide H2) (Below.on (below_drew w) hb1)) ⟨gg, 0, none⟩ L.length gc (L.map (Value.int .u8)) (by rfl) (by simp) (row_news hrow) (ints_oneCell _ _) (by omega) (by unfold maxLen; omega) (by omega) (by have := hb1.size; simp at this; omega) w1.heap.size rfl ?_; intro g capn w2 hown hgrow hat hlt2; have k0 : w2.cell? ⟨N, 0, none⟩ = some (.slice va vn vc) := wr_keep (unhide H1) (unhide H2) (Below.on (below_drew w) hb1) hgrow; have k1 : w2.frozen? ⟨N, 0, none⟩ = false := wr_fz (unhide H1) (unhide H2) (Below.on (below_drew w) hb1) hgrow)
      | (go_simp; go_at_call 78; refine (unhide HQ _).mono ?_; rintro e w1 ⟨gg, gc, rfl, hrow, hgc, hgg, hb1⟩; have k0 : w1.cell? ⟨N, 0, none⟩ = some (.slice va vn vc) := (hb1.cell (p := ⟨N, 0, none⟩) hlt).trans c0; go_wp2_with fail))
  all_goals
    have hb2 := Below.on (below_drew w) hb1
    obtain ⟨g1, g2⟩ := wr_step (ds := L) ((hb2.block N hlt).trans (unhide H1)) (ownsRow_below (unhide H2) hb2) (by
      intro z hzz
      rcases List.mem_append.1 hzz with hh | hh
      · exact unhide H3 z hh
      · exact hrow.2.1 z hh) hown hgrow
    have G1 := hide g1; have G2 := hide (Fr.on (Fr.of hb2 (Nat.le_of_lt hlt)) g2)
    clear g1 g2 hown hgrow hb1 hb2 k0 k1 c0 f0 hrow
    go_wp2
    go_end0
    exact ⟨rfl, unhide G1, unhide G2⟩

set_option maxRecDepth 100000 in
set_option maxHeartbeats 3200000 in
theorem sgn_any {w : World} {N : Nat} {zs : List Int} (x : Int) (h : Wr w N zs) (hz : zs.length ≤ 1099511627776) (x0 : -9223372036854775808 ≤ x) (x1 : x < 9223372036854775808) :
    Calls Tryd.prog 53 #[.pointer (some ⟨N, 0, none⟩), .int .i64 x] w fun e w' => e = .returned (.tuple #[]) ∧ Wr w' N (zs ++ Leb.bS 10 x) ∧ Fr N w w' := by
  obtain ⟨i0, hi, hz0, hz1, hz2⟩ := info_parts Tryd.info5
  have hlt := h.lt
  have hq := fun (wx : World) => putS_b none 0 0 [] x wx ⟨rfl, by simp, fun h => by omega⟩ x0 x1 (by omega)
  have hpos := Leb.bS_pos 10 x
  have hle := Leb.bS_len 10 x
  simp only [Nat.zero_add, List.nil_append] at hq
  generalize hL : Leb.bS 10 x = L at *
  clear hL
  have HWr := hide h
  obtain ⟨v, h1, h2, h3⟩ := h
  have c0 : w.cell? ⟨N, 0, none⟩ = some v := by rw [cell_of_row w N 0 _ _ _ h1]; rfl
  have f0 : w.frozen? ⟨N, 0, none⟩ = false := by simp [World.frozen?, h1]
  have hsh : ∃ a n cp, v = .slice a n cp := by rcases h2.2 with ⟨rfl, _⟩ | ⟨g, cap, cur, rfl, _⟩; exact ⟨_, _, _, rfl⟩; exact ⟨_, _, _, rfl⟩
  obtain ⟨va, vn, vc, rfl⟩ := hsh
  have HQ := hide hq; have H1 := hide h1; have H2 := hide h2; have H3 := hide h3
  clear hq h1 h2 h3
  go_enter Tryd.func53, Tryd.ntmps53
  go_wp2_with fail
  go_region_law
    (first
      | (refine step_append_lies _ (by rfl) _ _ _ (by rfl) N 5 i0 (.int .u8 0) 1 1 Tryd.underlying27 hi hz0 hz1 hz2 rfl (by decide) (.slice va vn vc) zs.length (zs.map (Value.int .u8)) (by rfl) (ownsRow_below (unhide H2) (Below.on (below_drew w) hb1)) ⟨gg, 0, none⟩ L.length gc (L.map (Value.int .u8)) (by rfl) (by simp) (row_news hrow) (ints_oneCell _ _) (by omega) (by unfold maxLen; omega) (by omega) (by have := hb1.size; simp at this; omega) w1.heap.size rfl ?_; intro g capn w2 hown hgrow hat hlt2; have k0 : w2.cell? ⟨N, 0, none⟩ = some (.slice va vn vc) := wr_keep (unhide H1) (unhide H2) (Below.on (below_drew w) hb1) hgrow; have k1 : w2.frozen? ⟨N, 0, none⟩ = false := wr_fz (unhide H1) (unhide H2) (Below.on (below_drew w) hb1) hgrow)
      | (go_simp; go_at_call 77; refine (unhide HQ _).mono ?_; rintro e w1 ⟨gg, gc, rfl, hrow, hgc, hgg, hb1⟩; have k0 : w1.cell? ⟨N, 0, none⟩ = some (.slice va vn vc) := (hb1.cell (p := ⟨N, 0, none⟩) hlt).trans c0; go_wp2_with fail))
  all_goals
    have hb2 := Below.on (below_drew w) hb1
    obtain ⟨g1, g2⟩ := wr_step (ds := L) ((hb2.block N hlt).trans (unhide H1)) (ownsRow_below (unhide H2) hb2) (by
      intro z hzz
      rcases List.mem_append.1 hzz with hh | hh
      · exact unhide H3 z hh
      · exact hrow.2.1 z hh) hown hgrow
    have G1 := hide g1; have G2 := hide (Fr.on (Fr.of hb2 (Nat.le_of_lt hlt)) g2)
    clear g1 g2 hown hgrow hb1 hb2 k0 k1 c0 f0 hrow
    go_wp2
    go_end0
    exact ⟨rfl, unhide G1, unhide G2⟩
end Ex
end Go.Proofs.YtjhmglefejclpaaDoor

/- The writer: labels, block, fields, list; expr.Encode. -/
namespace Go.Proofs.YtjhmglefejclpaaDoor
open Go.RowKit
namespace Ex
set_option linter.unusedVariables false
set_option linter.unusedSimpArgs false

def kB (re : Int) : Int := if re = 0 then 64 else re
theorem kb_any (re : Int) (w : World) : Calls Tryd.prog 79 #[.int .u8 re] w fun e w' => e = .returned (.int .u8 (kB re)) ∧ w = w' := by
  by_cases h : re = 0
  · subst h
    go_enter Tryd.func79, Tryd.ntmps79
    go_wp2
    go_ret
    exact ⟨rfl, rfl⟩
  · have t : (re == 0) = false := by simpa using h
    rw [show kB re = re by simp [kB, h]]
    clear h
    go_enter Tryd.func79, Tryd.ntmps79
    go_wp2
    go_ret
    exact ⟨rfl, rfl⟩
theorem moves_belowN {w w' : World} {N : Nat} (hb : Below N w w') : Moves w w' (· < N) (· < N) := fun k _ _ hg => ⟨hg, hb.block k hg⟩
theorem Code.belowN {w w' : World} {N : Nat} {l : List Ins} {v : Value} (h : Code w (· < N) l v) (hb : Below N w w') : Code w' (· < N) l v := h.move (moves_belowN hb)
theorem Labs.belowN {w w' : World} {N : Nat} {ls : List Int} {v : Value} (h : Lies (· < N) ls.length (Lab w ls) v) (hb : Below N w w') : Lies (· < N) ls.length (Lab w' ls) v := Labs.move (moves_belowN hb) h
theorem TC.belowN {w w' : World} {g N : Nat} {vs : List Value} (h : TC w g vs) (hg : g < N) (hb : Below N w w') : TC w' g vs := by
  obtain ⟨h1, t, fr, h2⟩ := h
  exact ⟨Nat.lt_of_lt_of_le h1 hb.size, t, fr, (hb.block g hg).trans h2⟩
theorem flat_take {ls : List Int} {j : Nat} (h : j < ls.length) : (ls.take (j + 1)).flatMap (Leb.bU 10) = (ls.take j).flatMap (Leb.bU 10) ++ Leb.bU 10 (ls.getD j 0) := by
  rw [List.take_succ_eq_append_getElem h, List.flatMap_append]
  simp [List.getD, h]
theorem flat_len (ls : List Int) : (ls.flatMap (Leb.bU 10)).length ≤ 11 * ls.length := by
  induction ls with
  | nil => simp
  | cons a l ih => rw [List.flatMap_cons, List.length_append, List.length_cons]; have := Leb.bU_len 10 a; omega

set_option maxRecDepth 100000 in
set_option maxHeartbeats 1600000 in
theorem labs_any {w : World} {N : Nat} {zs ls : List Int} {v : Value} (h : Wr w N zs) (hl : Lies (· < N) ls.length (Lab w ls) v) (h1 : 1 ≤ ls.length) (h2 : ls.length ≤ 257) (hz : zs.length + 4000 ≤ 1099511627776) (hb : ∀ z ∈ ls, 0 ≤ z ∧ z < 4294967296) :
    Calls Tryd.prog 56 #[.pointer (some ⟨N, 0, none⟩), v] w fun e w' => e = .returned (.tuple #[]) ∧ Wr w' N (zs ++ (Leb.bU 10 ((ls.length : Int) - 1) ++ ls.flatMap (Leb.bU 10))) ∧ Fr N w w' := by
  obtain ⟨a, ca, rfl, hca, _, hA⟩ := hl
  obtain ⟨b, o, rfl, hbN, hLab⟩ := hA (by omega)
  have hu := uns_any ((ls.length : Int) - 1) h (by omega) (by omega) (by omega)
  have hle := Leb.bU_len 10 ((ls.length : Int) - 1)
  have HU := hide hu; have HLab := hide hLab; have HBd := hide hb; have HBN := hide hbN
  clear hu hLab hb hA h hbN
  generalize hn : ls.length = n at *
  have HN := hide hn; clear hn
  have e1 : IntKind.u64.wrap ((n : Int) - 1) = (n : Int) - 1 := by rw [IntKind.wrap_u64]; omega
  go_enter Tryd.func56, Tryd.ntmps56
  go_wp2_with fail
  refine (unhide HU).mono ?_
  rintro e w1 ⟨rfl, hw1, hb1⟩
  have HW1 := hide hw1; have HB1 := hide hb1
  clear hw1 hb1 e1
  generalize hP : Leb.bU 10 ((n : Int) - 1) = P at *
  have HP := hide hP; clear hP
  go_wp2_with fail
  go_loopw [14] (fun c wr => ∃ j : Nat, c = .int .i64 j ∧ (j : Int) ≤ n ∧ Wr wr N (zs ++ (P ++ (ls.take j).flatMap (Leb.bU 10))) ∧ Fr N w wr) (fun c _ => n - (intOf c).toNat)
  case atStart => exact ⟨0, rfl, by omega, by simpa using unhide HW1, unhide HB1⟩
  case round =>
    clear HW1 HB1
    obtain ⟨j, rfl, hj, hw, hbe⟩ := hrel
    by_cases hlt : (j : Int) < n
    · have jl : j < ls.length := by have := unhide HN; omega
      have hc := (World.cell?_of_block (a := ⟨b, o + j, none⟩) (hbe.lo.block b (unhide HBN))).trans (unhide HLab j jl)
      have hbd := unhide HBd (ls.getD j 0) (by simp [List.getD, jl])
      have hft := flat_take jl
      have hfl := flat_len (ls.take j)
      have htl : (ls.take j).length ≤ 257 := by rw [List.length_take]; omega
      have hu := uns_any (ls.getD j 0) hw (by simp only [List.length_append]; omega) hbd.1 (by omega)
      generalize ls.getD j 0 = x at *
      have HU2 := hide hu; have HFt := hide hft; have HBe := hide hbe
      obtain ⟨x0, x1⟩ := hbd
      clear hu hft hfl htl jl hw hbe hj
      go_wp2_with fail
      refine (unhide HU2).mono ?_
      rintro e w3 ⟨rfl, hw3, hb3⟩
      have HW3 := hide hw3; have HB3 := hide (Fr.on (unhide HBe) hb3)
      clear hw3 hb3 hc
      go_wp2
      go_roundw
      case rel => exact ⟨j + 1, by go_num, by omega, by rw [unhide HFt]; have := unhide HW3; simpa using this, unhide HB3⟩
      case measure => simp [intOf]; omega
    · obtain rfl : j = n := by omega
      have htk : ls.take j = ls := by rw [← unhide HN]; exact List.take_length
      rw [htk] at hw
      have HW := hide hw; have HBe := hide hbe
      clear hj hlt htk hw hbe
      go_wp2
      go_end0
      exact ⟨rfl, by have := unhide HW; rw [← unhide HP] at this; exact this, unhide HBe⟩

def WrP (l : List Ins) : Prop := ∀ (N d : Nat) (zs : List Int) (v : Value) (w : World), Wr w N zs → Code w (· < N) l v → may d l = true → Wf l → Sz 1099511627776 l → l.length ≤ 1099511627776 → zs.length + (enc l).length + 4000 ≤ 1099511627776 → TC w 2 fmV → 2 < N →
  Calls Tryd.prog 24 #[.pointer (some ⟨N, 0, none⟩), v] w fun e w' => e = .returned (.tuple #[]) ∧ Wr w' N (zs ++ enc l) ∧ Fr N w w'
/-- an instruction's box -/
theorem box1 (w : World) (x0 x1 x2 x3 x4 x5 x6 x7 : Value) : Bx (w.alloc (.cells #[x0, x1, x2, x3, x4, x5, x6, x7] 50)) w.heap.size x0 x1 x2 x3 x4 x5 x6 x7 := heap_alloc_new w _
end Ex
end Go.Proofs.YtjhmglefejclpaaDoor

/- The writer: block, fields, list; expr.Encode. -/
namespace Go.Proofs.YtjhmglefejclpaaDoor
open Go.RowKit
namespace Ex
set_option linter.unusedVariables false
set_option linter.unusedSimpArgs false

theorem may_blk {d : Nat} {i : Ins} (h : mayI d i = true) (hb : blk (fr i.op) = true) : may (d + 1) i.body = true ∧ may (d + 1) i.els = true := by
  unfold mayI at h
  rw [hb] at h
  simp only [Bool.and_eq_true, Bool.not_true, Bool.false_or] at h
  exact ⟨h.2.1.2, h.2.2⟩
theorem may_one {d : Nat} {i : Ins} (h : mayI d i = true) : bnd (fr i.op) i.n i.re i.ls.length = true ∧ ∃ x, fam i.op = some x := by
  unfold mayI one at h
  simp only [Bool.and_eq_true] at h
  refine ⟨h.1.1.2, ?_⟩
  have := h.1.1.1
  unfold frm at this
  cases hx : fam i.op with
  | none => rw [hx] at this; exact absurd this (by decide)
  | some x => exact ⟨x, rfl⟩
theorem len4 (a b c d : List Int) : (a ++ b ++ c ++ d).length = a.length + b.length + c.length + d.length := by simp only [List.length_append]

set_option maxRecDepth 100000 in
set_option maxHeartbeats 3200000 in
theorem blk_any (i : Ins) (hb : WrP i.body) (he : WrP i.els) {w : World} {N d : Nat} {zs : List Int} {vb ve vl : Value} (h : Wr w N zs) (h1 : Code w (· < N) i.body vb) (h2 : Code w (· < N) i.els ve) (h3 : Lies (· < N) i.ls.length (Lab w i.ls) vl)
    (m1 : may d i.body = true) (m2 : may d i.els = true) (hre : i.re = 0 ∨ i.re = 127 ∨ i.re = 126) (sz : SzI 1099511627776 i) (wf : WfI i)
    (hz : zs.length + ([kB i.re] ++ enc i.body ++ (if 0 < i.els.length then [5] ++ enc i.els else []) ++ [11]).length + 4000 ≤ 1099511627776) (hT : TC w 2 fmV) (hTN : 2 < N) :
    Calls Tryd.prog 55 #[.pointer (some ⟨N, 0, none⟩), .agg #[.int .u8 i.op, .int .i64 i.n, .int .u32 i.al, .int .u32 i.of, .int .u8 i.re, vb, ve, vl]] w fun e w' => e = .returned (.tuple #[]) ∧ Wr w' N (zs ++ ([kB i.re] ++ enc i.body ++ (if 0 < i.els.length then [5] ++ enc i.els else []) ++ [11])) ∧ Fr N w w' := by
  have H1 := hide h1; have H2 := hide h2
  obtain ⟨ab, cb, rfl, _⟩ := h1
  obtain ⟨ae, ce, rfl, _⟩ := h2
  obtain ⟨al3, cl, rfl, _⟩ := h3
  have hlt := h.lt
  have hkb : 0 ≤ kB i.re ∧ kB i.re ≤ 255 := by rcases hre with e | e | e <;> rw [e] <;> decide
  rw [len4] at hz
  have b0 := box1 w (.int .u8 i.op) (.int .i64 i.n) (.int .u32 i.al) (.int .u32 i.of) (.int .u8 i.re) (.slice ab i.body.length cb) (.slice ae i.els.length ce) (.slice al3 i.ls.length cl)
  have f0 := Fr.of (N := N) (one_alloc w (.cells #[.int .u8 i.op, .int .i64 i.n, .int .u32 i.al, .int .u32 i.of, .int .u8 i.re, .slice ab i.body.length cb, .slice ae i.els.length ce, .slice al3 i.ls.length cl] 50)) (Nat.le_of_lt hlt)
  have w0 := h.below (one_alloc w (.cells #[.int .u8 i.op, .int .i64 i.n, .int .u32 i.al, .int .u32 i.of, .int .u8 i.re, .slice ab i.body.length cb, .slice ae i.els.length ce, .slice al3 i.ls.length cl] 50))
  have hQ : w.heap.size ≠ N := by omega
  have hzl : zs.length + 1 + (enc i.body).length + 4000 ≤ 1099511627776 := by simp at hz; omega
  generalize hbb : [kB i.re] = KB at *
  have hkl : KB.length = 1 := by rw [← hbb]; rfl
  have F0 := hide f0; have B0 := hide b0; have W0 := hide w0; have HZ := hide hz; have HBB := hide hbb; have HB := hide hb; have HE := hide he; have HT := hide hT; have SZ := hide sz; have WF := hide wf; have M1 := hide m1; have M2 := hide m2; have HKL := hide hkl
  clear f0 b0 w0 hz hbb hb he h hT m1 m2 sz wf hre hkl
  go_enter Tryd.func55, Tryd.ntmps55
  go_wp2_with fail
  generalize (w.alloc (.cells #[.int .u8 i.op, .int .i64 i.n, .int .u32 i.al, .int .u32 i.of, .int .u8 i.re, .slice ab i.body.length cb, .slice ae i.els.length ce, .slice al3 i.ls.length cl] 50)) = w0 at *
  generalize hQn : w.heap.size = Q at *
  clear hQn
  refine (kb_any i.re _).mono ?_
  rintro e w1 ⟨rfl, rfl⟩
  go_wp2_with fail
  refine (one_any (kB i.re) (unhide W0) (by omega) hkb).mono ?_
  rintro e w1 ⟨rfl, hw1, hf1⟩
  rw [unhide HBB] at hw1
  have b1 := hf1.bx (unhide B0) hQ
  have c5 := b1.cs.2.2.2.2.2.1
  have fr1 := Fr.on (unhide F0) hf1
  have hl := unhide HB N d (zs ++ KB) _ w1 hw1 ((unhide H1).belowN fr1.lo) (unhide M1) (unhide WF).2.1 (unhide SZ).2.2.2.1 (unhide SZ).1 (by have := unhide HKL; rw [List.length_append]; omega) (TC.belowN (unhide HT) hTN fr1.lo) hTN
  have HL := hide hl; have B1 := hide b1; have F1 := hide fr1
  clear hl hw1 hf1 b1 fr1
  go_wp2_with fail
  refine (unhide HL).mono ?_
  rintro e w2 ⟨rfl, hw2, hf2⟩
  have b2 := hf2.bx (unhide B1) hQ
  have c6 := b2.cs.2.2.2.2.2.2.1
  have fr2 := Fr.on (unhide F1) hf2
  have HW2 := hide hw2; have B2 := hide b2; have F2 := hide fr2
  clear hw2 hf2 b2 fr2 c5
  by_cases hel : 0 < i.els.length
  · rw [if_pos hel] at HZ
    have hel2 : (0 : Int) < (i.els.length : Int) := by omega
    go_wp2_with fail
    refine (one_any 5 (unhide HW2) (by have h5 := unhide HZ; have := unhide HKL; simp only [List.length_append, List.length_cons, List.length_nil] at h5 ⊢; omega) (by omega)).mono ?_
    rintro e w3 ⟨rfl, hw3, hf3⟩
    have b3 := hf3.bx (unhide B2) hQ
    have d6 := b3.cs.2.2.2.2.2.2.1
    have fr3 := Fr.on (unhide F2) hf3
    have hl := unhide HE N d (zs ++ KB ++ enc i.body ++ [5]) _ w3 hw3 ((unhide H2).belowN fr3.lo) (unhide M2) (unhide WF).2.2 (unhide SZ).2.2.2.2 (unhide SZ).2.1 (by have h5 := unhide HZ; have := unhide HKL; simp only [List.length_append, List.length_cons, List.length_nil] at h5 ⊢; omega) (TC.belowN (unhide HT) hTN fr3.lo) hTN
    have HL2 := hide hl; have F3 := hide fr3
    clear hl hw3 hf3 b3 fr3 c6
    go_wp2_with fail
    refine (unhide HL2).mono ?_
    rintro e w4 ⟨rfl, hw4, hf4⟩
    have HW4 := hide hw4; have F4 := hide (Fr.on (unhide F3) hf4)
    clear hw4 hf4 d6
    go_wp2_with fail
    refine (one_any 11 (unhide HW4) (by have h5 := unhide HZ; have := unhide HKL; simp only [List.length_append, List.length_cons, List.length_nil] at h5 ⊢; omega) (by omega)).mono ?_
    rintro e w5 ⟨rfl, hw5, hf5⟩
    have HW5 := hide hw5; have F5 := hide (Fr.on (unhide F4) hf5)
    clear hw5 hf5
    go_wp2
    go_end0
    refine ⟨rfl, ?_, unhide F5⟩
    have := unhide HW5
    simpa using this
  · rw [if_neg hel] at HZ
    have hel2 : ¬ (0 : Int) < (i.els.length : Int) := by omega
    go_wp2_with fail
    refine (one_any 11 (unhide HW2) (by have h5 := unhide HZ; have := unhide HKL; simp only [List.length_append, List.length_cons, List.length_nil] at h5 ⊢; omega) (by omega)).mono ?_
    rintro e w5 ⟨rfl, hw5, hf5⟩
    have HW5 := hide hw5; have F5 := hide (Fr.on (unhide F2) hf5)
    clear hw5 hf5 c6
    go_wp2
    go_end0
    refine ⟨rfl, ?_, unhide F5⟩
    have := unhide HW5
    simpa using this

set_option maxRecDepth 100000 in
set_option maxHeartbeats 3200000 in
theorem fld_0 (i : Ins) (hib : WrP i.body) (hie : WrP i.els) {w : World} {N d : Nat} {zs : List Int} {vb ve vl : Value} (h : Wr w N zs) (h1 : Code w (· < N) i.body vb) (h2 : Code w (· < N) i.els ve) (h3 : Lies (· < N) i.ls.length (Lab w i.ls) vl)
    (hm : mayI d i = true) (x : Fam) (hx : fam i.op = some x) (ho : x.o = 0) (sz : SzI 1099511627776 i) (wf : WfI i) (hz : zs.length + (encI i).length + 4000 ≤ 1099511627776) (hT : TC w 2 fmV) (hTN : 2 < N) :
    Calls Tryd.prog 37 #[.pointer (some ⟨N, 0, none⟩), .agg #[.int .u8 i.op, .int .i64 i.n, .int .u32 i.al, .int .u32 i.of, .int .u8 i.re, vb, ve, vl]] w fun e w' => e = .returned (.tuple #[]) ∧ Wr w' N (zs ++ encI i) ∧ Fr N w w' := by
  obtain ⟨o, hop⟩ : ∃ o : Nat, i.op = (o : Int) := ⟨i.op.toNat, by have := wf.1.1; omega⟩
  have ho2 : o < 256 := by have := wf.1.1; omega
  have hfm := fun wx hx => form_any o ho2 wx hx
  rw [← hop] at hfm
  clear hop ho2
  obtain ⟨x1, x2, f, x4, x5, x6⟩ := x
  simp only at ho
  subst ho
  have hfr := fr_of hx
  rw [hx] at hfm
  simp only [formR, errV_0] at hfm
  have hbd := (may_one hm).1
  rw [hfr] at hbd
  obtain ⟨⟨o0, o1⟩, ⟨n0, n1⟩, ⟨a0, a1⟩, ⟨of0, of1⟩, ⟨r0, r1⟩, hls⟩ := wf.1
  have H1 := hide h1; have H2 := hide h2; have H3 := hide h3
  obtain ⟨ab, cb, rfl, _⟩ := h1
  obtain ⟨ae, ce, rfl, _⟩ := h2
  obtain ⟨al3, cl, rfl, _⟩ := h3
  have hlt := h.lt
  have b0 := box1 w (.int .u8 i.op) (.int .i64 i.n) (.int .u32 i.al) (.int .u32 i.of) (.int .u8 i.re) (.slice ab i.body.length cb) (.slice ae i.els.length ce) (.slice al3 i.ls.length cl)
  have g0 := one_alloc w (.cells #[.int .u8 i.op, .int .i64 i.n, .int .u32 i.al, .int .u32 i.of, .int .u8 i.re, .slice ab i.body.length cb, .slice ae i.els.length ce, .slice al3 i.ls.length cl] 50)
  have hQ : w.heap.size ≠ N := by omega
  have hE : encI i = [] := by unfold encI encF; rw [hfr]; rfl
  rw [hE] at hz
  have HF := hide hfm; have HG := hide g0; have B0 := hide b0; have HW := hide h; have HT := hide hT; have HE := hide hE; have HLs := hide hls; have SZ := hide sz; have WF := hide wf; have HIb := hide hib; have HIe := hide hie; have HM := hide hm; have HFr := hide hfr
  clear hfm g0 b0 h hT hE hls sz wf hib hie hm hx hfr hz
  go_enter Tryd.func37, Tryd.ntmps37
  go_wp2_with fail
  generalize (w.alloc (.cells #[.int .u8 i.op, .int .i64 i.n, .int .u32 i.al, .int .u32 i.of, .int .u8 i.re, .slice ab i.body.length cb, .slice ae i.els.length ce, .slice al3 i.ls.length cl] 50)) = w0 at *
  generalize hQn : w.heap.size = Q at *
  have HQ := hide hQn; clear hQn
  refine (unhide HF _ ((unhide HT).below (by rw [unhide HQ]; exact unhide HG))).mono ?_
  rintro e w1 ⟨rfl, hb1⟩
  have g1 : Below w.heap.size w w1 := Below.on (by rw [unhide HQ]; exact unhide HG) hb1
  have W1 := hide ((unhide HW).below g1); have B1 := hide ((unhide B0).below hb1); have F1 := hide (Fr.of (N := N) g1 (by have := unhide HQ; omega)); have HT1 := hide ((unhide HT).below g1)
  have K1 := hide ((unhide H1).below g1); have K2 := hide ((unhide H2).below g1); have K3 := hide (Labs.below (unhide H3) g1)
  clear g1 hb1 B0 HG HF HW H1 H2 H3 HT
  have HWe := hide (show Wr w1 N (zs ++ []) by rw [List.append_nil]; exact unhide W1); have HFe := F1
  go_wp2
  go_end0
  exact ⟨rfl, by have := unhide HWe; rw [unhide HE]; simpa using this, unhide HFe⟩

set_option maxRecDepth 100000 in
set_option maxHeartbeats 3200000 in
theorem fld_1 (i : Ins) (hib : WrP i.body) (hie : WrP i.els) {w : World} {N d : Nat} {zs : List Int} {vb ve vl : Value} (h : Wr w N zs) (h1 : Code w (· < N) i.body vb) (h2 : Code w (· < N) i.els ve) (h3 : Lies (· < N) i.ls.length (Lab w i.ls) vl)
    (hm : mayI d i = true) (x : Fam) (hx : fam i.op = some x) (ho : x.o = 1) (sz : SzI 1099511627776 i) (wf : WfI i) (hz : zs.length + (encI i).length + 4000 ≤ 1099511627776) (hT : TC w 2 fmV) (hTN : 2 < N) :
    Calls Tryd.prog 37 #[.pointer (some ⟨N, 0, none⟩), .agg #[.int .u8 i.op, .int .i64 i.n, .int .u32 i.al, .int .u32 i.of, .int .u8 i.re, vb, ve, vl]] w fun e w' => e = .returned (.tuple #[]) ∧ Wr w' N (zs ++ encI i) ∧ Fr N w w' := by
  obtain ⟨o, hop⟩ : ∃ o : Nat, i.op = (o : Int) := ⟨i.op.toNat, by have := wf.1.1; omega⟩
  have ho2 : o < 256 := by have := wf.1.1; omega
  have hfm := fun wx hx => form_any o ho2 wx hx
  rw [← hop] at hfm
  clear hop ho2
  obtain ⟨x1, x2, f, x4, x5, x6⟩ := x
  simp only at ho
  subst ho
  have hfr := fr_of hx
  rw [hx] at hfm
  simp only [formR, errV_0] at hfm
  have hbd := (may_one hm).1
  rw [hfr] at hbd
  obtain ⟨⟨o0, o1⟩, ⟨n0, n1⟩, ⟨a0, a1⟩, ⟨of0, of1⟩, ⟨r0, r1⟩, hls⟩ := wf.1
  have H1 := hide h1; have H2 := hide h2; have H3 := hide h3
  obtain ⟨ab, cb, rfl, _⟩ := h1
  obtain ⟨ae, ce, rfl, _⟩ := h2
  obtain ⟨al3, cl, rfl, _⟩ := h3
  have hlt := h.lt
  have b0 := box1 w (.int .u8 i.op) (.int .i64 i.n) (.int .u32 i.al) (.int .u32 i.of) (.int .u8 i.re) (.slice ab i.body.length cb) (.slice ae i.els.length ce) (.slice al3 i.ls.length cl)
  have g0 := one_alloc w (.cells #[.int .u8 i.op, .int .i64 i.n, .int .u32 i.al, .int .u32 i.of, .int .u8 i.re, .slice ab i.body.length cb, .slice ae i.els.length ce, .slice al3 i.ls.length cl] 50)
  have hQ : w.heap.size ≠ N := by omega
  have hE : encI i = Leb.bS 10 i.n := by unfold encI encF; rw [hfr]; rfl
  rw [hE] at hz
  have hzz : zs.length ≤ 1099511627776 := by omega
  have HF := hide hfm; have HG := hide g0; have B0 := hide b0; have HW := hide h; have HT := hide hT; have HE := hide hE; have HLs := hide hls; have SZ := hide sz; have WF := hide wf; have HIb := hide hib; have HIe := hide hie; have HM := hide hm; have HFr := hide hfr
  clear hfm g0 b0 h hT hE hls sz wf hib hie hm hx hfr hz
  go_enter Tryd.func37, Tryd.ntmps37
  go_wp2_with fail
  generalize (w.alloc (.cells #[.int .u8 i.op, .int .i64 i.n, .int .u32 i.al, .int .u32 i.of, .int .u8 i.re, .slice ab i.body.length cb, .slice ae i.els.length ce, .slice al3 i.ls.length cl] 50)) = w0 at *
  generalize hQn : w.heap.size = Q at *
  have HQ := hide hQn; clear hQn
  refine (unhide HF _ ((unhide HT).below (by rw [unhide HQ]; exact unhide HG))).mono ?_
  rintro e w1 ⟨rfl, hb1⟩
  have g1 : Below w.heap.size w w1 := Below.on (by rw [unhide HQ]; exact unhide HG) hb1
  have W1 := hide ((unhide HW).below g1); have B1 := hide ((unhide B0).below hb1); have F1 := hide (Fr.of (N := N) g1 (by have := unhide HQ; omega)); have HT1 := hide ((unhide HT).below g1)
  have K1 := hide ((unhide H1).below g1); have K2 := hide ((unhide H2).below g1); have K3 := hide (Labs.below (unhide H3) g1)
  clear g1 hb1 B0 HG HF HW H1 H2 H3 HT
  obtain ⟨c0, c1, c2, c3, c4, c5, c6, c7⟩ := (unhide B1).cs
  go_wp2_with fail
  refine (sgn_any i.n (unhide W1) hzz n0 n1).mono ?_
  rintro e w2 ⟨rfl, hw2, hf2⟩
  have HWe := hide hw2; have HFe := hide (Fr.on (unhide F1) hf2)
  clear hw2 hf2 c0 c1 c2 c3 c4 c5 c6 c7
  go_wp2
  go_end0
  exact ⟨rfl, by have := unhide HWe; rw [unhide HE]; simpa using this, unhide HFe⟩

set_option maxRecDepth 100000 in
set_option maxHeartbeats 3200000 in
theorem fld_2 (i : Ins) (hib : WrP i.body) (hie : WrP i.els) {w : World} {N d : Nat} {zs : List Int} {vb ve vl : Value} (h : Wr w N zs) (h1 : Code w (· < N) i.body vb) (h2 : Code w (· < N) i.els ve) (h3 : Lies (· < N) i.ls.length (Lab w i.ls) vl)
    (hm : mayI d i = true) (x : Fam) (hx : fam i.op = some x) (ho : x.o = 2) (sz : SzI 1099511627776 i) (wf : WfI i) (hz : zs.length + (encI i).length + 4000 ≤ 1099511627776) (hT : TC w 2 fmV) (hTN : 2 < N) :
    Calls Tryd.prog 37 #[.pointer (some ⟨N, 0, none⟩), .agg #[.int .u8 i.op, .int .i64 i.n, .int .u32 i.al, .int .u32 i.of, .int .u8 i.re, vb, ve, vl]] w fun e w' => e = .returned (.tuple #[]) ∧ Wr w' N (zs ++ encI i) ∧ Fr N w w' := by
  obtain ⟨o, hop⟩ : ∃ o : Nat, i.op = (o : Int) := ⟨i.op.toNat, by have := wf.1.1; omega⟩
  have ho2 : o < 256 := by have := wf.1.1; omega
  have hfm := fun wx hx => form_any o ho2 wx hx
  rw [← hop] at hfm
  clear hop ho2
  obtain ⟨x1, x2, f, x4, x5, x6⟩ := x
  simp only at ho
  subst ho
  have hfr := fr_of hx
  rw [hx] at hfm
  simp only [formR, errV_0] at hfm
  have hbd := (may_one hm).1
  rw [hfr] at hbd
  obtain ⟨⟨o0, o1⟩, ⟨n0, n1⟩, ⟨a0, a1⟩, ⟨of0, of1⟩, ⟨r0, r1⟩, hls⟩ := wf.1
  have H1 := hide h1; have H2 := hide h2; have H3 := hide h3
  obtain ⟨ab, cb, rfl, _⟩ := h1
  obtain ⟨ae, ce, rfl, _⟩ := h2
  obtain ⟨al3, cl, rfl, _⟩ := h3
  have hlt := h.lt
  have b0 := box1 w (.int .u8 i.op) (.int .i64 i.n) (.int .u32 i.al) (.int .u32 i.of) (.int .u8 i.re) (.slice ab i.body.length cb) (.slice ae i.els.length ce) (.slice al3 i.ls.length cl)
  have g0 := one_alloc w (.cells #[.int .u8 i.op, .int .i64 i.n, .int .u32 i.al, .int .u32 i.of, .int .u8 i.re, .slice ab i.body.length cb, .slice ae i.els.length ce, .slice al3 i.ls.length cl] 50)
  have hQ : w.heap.size ≠ N := by omega
  have hE : encI i = Leb.bS 10 i.n := by unfold encI encF; rw [hfr]; rfl
  rw [hE] at hz
  have hzz : zs.length ≤ 1099511627776 := by omega
  have HF := hide hfm; have HG := hide g0; have B0 := hide b0; have HW := hide h; have HT := hide hT; have HE := hide hE; have HLs := hide hls; have SZ := hide sz; have WF := hide wf; have HIb := hide hib; have HIe := hide hie; have HM := hide hm; have HFr := hide hfr
  clear hfm g0 b0 h hT hE hls sz wf hib hie hm hx hfr hz
  go_enter Tryd.func37, Tryd.ntmps37
  go_wp2_with fail
  generalize (w.alloc (.cells #[.int .u8 i.op, .int .i64 i.n, .int .u32 i.al, .int .u32 i.of, .int .u8 i.re, .slice ab i.body.length cb, .slice ae i.els.length ce, .slice al3 i.ls.length cl] 50)) = w0 at *
  generalize hQn : w.heap.size = Q at *
  have HQ := hide hQn; clear hQn
  refine (unhide HF _ ((unhide HT).below (by rw [unhide HQ]; exact unhide HG))).mono ?_
  rintro e w1 ⟨rfl, hb1⟩
  have g1 : Below w.heap.size w w1 := Below.on (by rw [unhide HQ]; exact unhide HG) hb1
  have W1 := hide ((unhide HW).below g1); have B1 := hide ((unhide B0).below hb1); have F1 := hide (Fr.of (N := N) g1 (by have := unhide HQ; omega)); have HT1 := hide ((unhide HT).below g1)
  have K1 := hide ((unhide H1).below g1); have K2 := hide ((unhide H2).below g1); have K3 := hide (Labs.below (unhide H3) g1)
  clear g1 hb1 B0 HG HF HW H1 H2 H3 HT
  obtain ⟨c0, c1, c2, c3, c4, c5, c6, c7⟩ := (unhide B1).cs
  go_wp2_with fail
  refine (sgn_any i.n (unhide W1) hzz n0 n1).mono ?_
  rintro e w2 ⟨rfl, hw2, hf2⟩
  have HWe := hide hw2; have HFe := hide (Fr.on (unhide F1) hf2)
  clear hw2 hf2 c0 c1 c2 c3 c4 c5 c6 c7
  go_wp2
  go_end0
  exact ⟨rfl, by have := unhide HWe; rw [unhide HE]; simpa using this, unhide HFe⟩

set_option maxRecDepth 100000 in
set_option maxHeartbeats 3200000 in
theorem fld_3 (i : Ins) (hib : WrP i.body) (hie : WrP i.els) {w : World} {N d : Nat} {zs : List Int} {vb ve vl : Value} (h : Wr w N zs) (h1 : Code w (· < N) i.body vb) (h2 : Code w (· < N) i.els ve) (h3 : Lies (· < N) i.ls.length (Lab w i.ls) vl)
    (hm : mayI d i = true) (x : Fam) (hx : fam i.op = some x) (ho : x.o = 3) (sz : SzI 1099511627776 i) (wf : WfI i) (hz : zs.length + (encI i).length + 4000 ≤ 1099511627776) (hT : TC w 2 fmV) (hTN : 2 < N) :
    Calls Tryd.prog 37 #[.pointer (some ⟨N, 0, none⟩), .agg #[.int .u8 i.op, .int .i64 i.n, .int .u32 i.al, .int .u32 i.of, .int .u8 i.re, vb, ve, vl]] w fun e w' => e = .returned (.tuple #[]) ∧ Wr w' N (zs ++ encI i) ∧ Fr N w w' := by
  obtain ⟨o, hop⟩ : ∃ o : Nat, i.op = (o : Int) := ⟨i.op.toNat, by have := wf.1.1; omega⟩
  have ho2 : o < 256 := by have := wf.1.1; omega
  have hfm := fun wx hx => form_any o ho2 wx hx
  rw [← hop] at hfm
  clear hop ho2
  obtain ⟨x1, x2, f, x4, x5, x6⟩ := x
  simp only at ho
  subst ho
  have hfr := fr_of hx
  rw [hx] at hfm
  simp only [formR, errV_0] at hfm
  have hbd := (may_one hm).1
  rw [hfr] at hbd
  obtain ⟨⟨o0, o1⟩, ⟨n0, n1⟩, ⟨a0, a1⟩, ⟨of0, of1⟩, ⟨r0, r1⟩, hls⟩ := wf.1
  have H1 := hide h1; have H2 := hide h2; have H3 := hide h3
  obtain ⟨ab, cb, rfl, _⟩ := h1
  obtain ⟨ae, ce, rfl, _⟩ := h2
  obtain ⟨al3, cl, rfl, _⟩ := h3
  have hlt := h.lt
  have b0 := box1 w (.int .u8 i.op) (.int .i64 i.n) (.int .u32 i.al) (.int .u32 i.of) (.int .u8 i.re) (.slice ab i.body.length cb) (.slice ae i.els.length ce) (.slice al3 i.ls.length cl)
  have g0 := one_alloc w (.cells #[.int .u8 i.op, .int .i64 i.n, .int .u32 i.al, .int .u32 i.of, .int .u8 i.re, .slice ab i.body.length cb, .slice ae i.els.length ce, .slice al3 i.ls.length cl] 50)
  have hQ : w.heap.size ≠ N := by omega
  have hE : encI i = Leb.bU 10 i.n := by unfold encI encF; rw [hfr]; rfl
  rw [hE] at hz
  have hzz : zs.length ≤ 1099511627776 := by omega
  have hn : 0 ≤ i.n ∧ i.n ≤ 4294967295 := by simpa [bnd] using hbd
  obtain ⟨m0, m1⟩ := hn
  have HF := hide hfm; have HG := hide g0; have B0 := hide b0; have HW := hide h; have HT := hide hT; have HE := hide hE; have HLs := hide hls; have SZ := hide sz; have WF := hide wf; have HIb := hide hib; have HIe := hide hie; have HM := hide hm; have HFr := hide hfr
  clear hfm g0 b0 h hT hE hls sz wf hib hie hm hx hfr hz
  go_enter Tryd.func37, Tryd.ntmps37
  go_wp2_with fail
  generalize (w.alloc (.cells #[.int .u8 i.op, .int .i64 i.n, .int .u32 i.al, .int .u32 i.of, .int .u8 i.re, .slice ab i.body.length cb, .slice ae i.els.length ce, .slice al3 i.ls.length cl] 50)) = w0 at *
  generalize hQn : w.heap.size = Q at *
  have HQ := hide hQn; clear hQn
  refine (unhide HF _ ((unhide HT).below (by rw [unhide HQ]; exact unhide HG))).mono ?_
  rintro e w1 ⟨rfl, hb1⟩
  have g1 : Below w.heap.size w w1 := Below.on (by rw [unhide HQ]; exact unhide HG) hb1
  have W1 := hide ((unhide HW).below g1); have B1 := hide ((unhide B0).below hb1); have F1 := hide (Fr.of (N := N) g1 (by have := unhide HQ; omega)); have HT1 := hide ((unhide HT).below g1)
  have K1 := hide ((unhide H1).below g1); have K2 := hide ((unhide H2).below g1); have K3 := hide (Labs.below (unhide H3) g1)
  clear g1 hb1 B0 HG HF HW H1 H2 H3 HT
  obtain ⟨c0, c1, c2, c3, c4, c5, c6, c7⟩ := (unhide B1).cs
  go_wp2_with fail
  refine (uns_any i.n (unhide W1) hzz m0 (by omega)).mono ?_
  rintro e w2 ⟨rfl, hw2, hf2⟩
  have HWe := hide hw2; have HFe := hide (Fr.on (unhide F1) hf2)
  clear hw2 hf2 c0 c1 c2 c3 c4 c5 c6 c7
  go_wp2
  go_end0
  exact ⟨rfl, by have := unhide HWe; rw [unhide HE]; simpa using this, unhide HFe⟩

set_option maxRecDepth 100000 in
set_option maxHeartbeats 3200000 in
theorem fld_5 (i : Ins) (hib : WrP i.body) (hie : WrP i.els) {w : World} {N d : Nat} {zs : List Int} {vb ve vl : Value} (h : Wr w N zs) (h1 : Code w (· < N) i.body vb) (h2 : Code w (· < N) i.els ve) (h3 : Lies (· < N) i.ls.length (Lab w i.ls) vl)
    (hm : mayI d i = true) (x : Fam) (hx : fam i.op = some x) (ho : x.o = 5) (sz : SzI 1099511627776 i) (wf : WfI i) (hz : zs.length + (encI i).length + 4000 ≤ 1099511627776) (hT : TC w 2 fmV) (hTN : 2 < N) :
    Calls Tryd.prog 37 #[.pointer (some ⟨N, 0, none⟩), .agg #[.int .u8 i.op, .int .i64 i.n, .int .u32 i.al, .int .u32 i.of, .int .u8 i.re, vb, ve, vl]] w fun e w' => e = .returned (.tuple #[]) ∧ Wr w' N (zs ++ encI i) ∧ Fr N w w' := by
  obtain ⟨o, hop⟩ : ∃ o : Nat, i.op = (o : Int) := ⟨i.op.toNat, by have := wf.1.1; omega⟩
  have ho2 : o < 256 := by have := wf.1.1; omega
  have hfm := fun wx hx => form_any o ho2 wx hx
  rw [← hop] at hfm
  clear hop ho2
  obtain ⟨x1, x2, f, x4, x5, x6⟩ := x
  simp only at ho
  subst ho
  have hfr := fr_of hx
  rw [hx] at hfm
  simp only [formR, errV_0] at hfm
  have hbd := (may_one hm).1
  rw [hfr] at hbd
  obtain ⟨⟨o0, o1⟩, ⟨n0, n1⟩, ⟨a0, a1⟩, ⟨of0, of1⟩, ⟨r0, r1⟩, hls⟩ := wf.1
  have H1 := hide h1; have H2 := hide h2; have H3 := hide h3
  obtain ⟨ab, cb, rfl, _⟩ := h1
  obtain ⟨ae, ce, rfl, _⟩ := h2
  obtain ⟨al3, cl, rfl, _⟩ := h3
  have hlt := h.lt
  have b0 := box1 w (.int .u8 i.op) (.int .i64 i.n) (.int .u32 i.al) (.int .u32 i.of) (.int .u8 i.re) (.slice ab i.body.length cb) (.slice ae i.els.length ce) (.slice al3 i.ls.length cl)
  have g0 := one_alloc w (.cells #[.int .u8 i.op, .int .i64 i.n, .int .u32 i.al, .int .u32 i.of, .int .u8 i.re, .slice ab i.body.length cb, .slice ae i.els.length ce, .slice al3 i.ls.length cl] 50)
  have hQ : w.heap.size ≠ N := by omega
  have hE : encI i = [0] := by unfold encI encF; rw [hfr]; rfl
  rw [hE] at hz
  have hzz : zs.length ≤ 1099511627776 := by omega
  have HF := hide hfm; have HG := hide g0; have B0 := hide b0; have HW := hide h; have HT := hide hT; have HE := hide hE; have HLs := hide hls; have SZ := hide sz; have WF := hide wf; have HIb := hide hib; have HIe := hide hie; have HM := hide hm; have HFr := hide hfr
  clear hfm g0 b0 h hT hE hls sz wf hib hie hm hx hfr hz
  go_enter Tryd.func37, Tryd.ntmps37
  go_wp2_with fail
  generalize (w.alloc (.cells #[.int .u8 i.op, .int .i64 i.n, .int .u32 i.al, .int .u32 i.of, .int .u8 i.re, .slice ab i.body.length cb, .slice ae i.els.length ce, .slice al3 i.ls.length cl] 50)) = w0 at *
  generalize hQn : w.heap.size = Q at *
  have HQ := hide hQn; clear hQn
  refine (unhide HF _ ((unhide HT).below (by rw [unhide HQ]; exact unhide HG))).mono ?_
  rintro e w1 ⟨rfl, hb1⟩
  have g1 : Below w.heap.size w w1 := Below.on (by rw [unhide HQ]; exact unhide HG) hb1
  have W1 := hide ((unhide HW).below g1); have B1 := hide ((unhide B0).below hb1); have F1 := hide (Fr.of (N := N) g1 (by have := unhide HQ; omega)); have HT1 := hide ((unhide HT).below g1)
  have K1 := hide ((unhide H1).below g1); have K2 := hide ((unhide H2).below g1); have K3 := hide (Labs.below (unhide H3) g1)
  clear g1 hb1 B0 HG HF HW H1 H2 H3 HT
  obtain ⟨c0, c1, c2, c3, c4, c5, c6, c7⟩ := (unhide B1).cs
  go_wp2_with fail
  refine (one_any 0 (unhide W1) hzz (by omega)).mono ?_
  rintro e w2 ⟨rfl, hw2, hf2⟩
  have HWe := hide hw2; have HFe := hide (Fr.on (unhide F1) hf2)
  clear hw2 hf2 c0 c1 c2 c3 c4 c5 c6 c7
  go_wp2
  go_end0
  exact ⟨rfl, by have := unhide HWe; rw [unhide HE]; simpa using this, unhide HFe⟩

set_option maxRecDepth 100000 in
set_option maxHeartbeats 3200000 in
theorem fld_8 (i : Ins) (hib : WrP i.body) (hie : WrP i.els) {w : World} {N d : Nat} {zs : List Int} {vb ve vl : Value} (h : Wr w N zs) (h1 : Code w (· < N) i.body vb) (h2 : Code w (· < N) i.els ve) (h3 : Lies (· < N) i.ls.length (Lab w i.ls) vl)
    (hm : mayI d i = true) (x : Fam) (hx : fam i.op = some x) (ho : x.o = 8) (sz : SzI 1099511627776 i) (wf : WfI i) (hz : zs.length + (encI i).length + 4000 ≤ 1099511627776) (hT : TC w 2 fmV) (hTN : 2 < N) :
    Calls Tryd.prog 37 #[.pointer (some ⟨N, 0, none⟩), .agg #[.int .u8 i.op, .int .i64 i.n, .int .u32 i.al, .int .u32 i.of, .int .u8 i.re, vb, ve, vl]] w fun e w' => e = .returned (.tuple #[]) ∧ Wr w' N (zs ++ encI i) ∧ Fr N w w' := by
  obtain ⟨o, hop⟩ : ∃ o : Nat, i.op = (o : Int) := ⟨i.op.toNat, by have := wf.1.1; omega⟩
  have ho2 : o < 256 := by have := wf.1.1; omega
  have hfm := fun wx hx => form_any o ho2 wx hx
  rw [← hop] at hfm
  clear hop ho2
  obtain ⟨x1, x2, f, x4, x5, x6⟩ := x
  simp only at ho
  subst ho
  have hfr := fr_of hx
  rw [hx] at hfm
  simp only [formR, errV_0] at hfm
  have hbd := (may_one hm).1
  rw [hfr] at hbd
  obtain ⟨⟨o0, o1⟩, ⟨n0, n1⟩, ⟨a0, a1⟩, ⟨of0, of1⟩, ⟨r0, r1⟩, hls⟩ := wf.1
  have H1 := hide h1; have H2 := hide h2; have H3 := hide h3
  obtain ⟨ab, cb, rfl, _⟩ := h1
  obtain ⟨ae, ce, rfl, _⟩ := h2
  obtain ⟨al3, cl, rfl, _⟩ := h3
  have hlt := h.lt
  have b0 := box1 w (.int .u8 i.op) (.int .i64 i.n) (.int .u32 i.al) (.int .u32 i.of) (.int .u8 i.re) (.slice ab i.body.length cb) (.slice ae i.els.length ce) (.slice al3 i.ls.length cl)
  have g0 := one_alloc w (.cells #[.int .u8 i.op, .int .i64 i.n, .int .u32 i.al, .int .u32 i.of, .int .u8 i.re, .slice ab i.body.length cb, .slice ae i.els.length ce, .slice al3 i.ls.length cl] 50)
  have hQ : w.heap.size ≠ N := by omega
  have hE : encI i = Leb.bU 10 ((i.ls.length : Int) - 1) ++ i.ls.flatMap (Leb.bU 10) := by unfold encI encF; rw [hfr]; rfl
  rw [hE] at hz
  have hzz : zs.length ≤ 1099511627776 := by omega
  have hll : 1 ≤ i.ls.length ∧ i.ls.length ≤ 257 := by simpa [bnd] using hbd
  obtain ⟨l0, l1⟩ := hll
  have hz4 : zs.length + 4000 ≤ 1099511627776 := by omega
  have HF := hide hfm; have HG := hide g0; have B0 := hide b0; have HW := hide h; have HT := hide hT; have HE := hide hE; have HLs := hide hls; have SZ := hide sz; have WF := hide wf; have HIb := hide hib; have HIe := hide hie; have HM := hide hm; have HFr := hide hfr
  clear hfm g0 b0 h hT hE hls sz wf hib hie hm hx hfr hz
  go_enter Tryd.func37, Tryd.ntmps37
  go_wp2_with fail
  generalize (w.alloc (.cells #[.int .u8 i.op, .int .i64 i.n, .int .u32 i.al, .int .u32 i.of, .int .u8 i.re, .slice ab i.body.length cb, .slice ae i.els.length ce, .slice al3 i.ls.length cl] 50)) = w0 at *
  generalize hQn : w.heap.size = Q at *
  have HQ := hide hQn; clear hQn
  refine (unhide HF _ ((unhide HT).below (by rw [unhide HQ]; exact unhide HG))).mono ?_
  rintro e w1 ⟨rfl, hb1⟩
  have g1 : Below w.heap.size w w1 := Below.on (by rw [unhide HQ]; exact unhide HG) hb1
  have W1 := hide ((unhide HW).below g1); have B1 := hide ((unhide B0).below hb1); have F1 := hide (Fr.of (N := N) g1 (by have := unhide HQ; omega)); have HT1 := hide ((unhide HT).below g1)
  have K1 := hide ((unhide H1).below g1); have K2 := hide ((unhide H2).below g1); have K3 := hide (Labs.below (unhide H3) g1)
  clear g1 hb1 B0 HG HF HW H1 H2 H3 HT
  obtain ⟨c0, c1, c2, c3, c4, c5, c6, c7⟩ := (unhide B1).cs
  go_wp2_with fail
  refine (labs_any (unhide W1) (unhide K3) l0 l1 hz4 (unhide HLs)).mono ?_
  rintro e w2 ⟨rfl, hw2, hf2⟩
  have HWe := hide hw2; have HFe := hide (Fr.on (unhide F1) hf2)
  clear hw2 hf2 c0 c1 c2 c3 c4 c5 c6 c7
  go_wp2
  go_end0
  exact ⟨rfl, by have := unhide HWe; rw [unhide HE]; simpa using this, unhide HFe⟩

set_option maxRecDepth 100000 in
set_option maxHeartbeats 3200000 in
theorem fld_6 (i : Ins) (hib : WrP i.body) (hie : WrP i.els) {w : World} {N d : Nat} {zs : List Int} {vb ve vl : Value} (h : Wr w N zs) (h1 : Code w (· < N) i.body vb) (h2 : Code w (· < N) i.els ve) (h3 : Lies (· < N) i.ls.length (Lab w i.ls) vl)
    (hm : mayI d i = true) (x : Fam) (hx : fam i.op = some x) (ho : x.o = 6) (sz : SzI 1099511627776 i) (wf : WfI i) (hz : zs.length + (encI i).length + 4000 ≤ 1099511627776) (hT : TC w 2 fmV) (hTN : 2 < N) :
    Calls Tryd.prog 37 #[.pointer (some ⟨N, 0, none⟩), .agg #[.int .u8 i.op, .int .i64 i.n, .int .u32 i.al, .int .u32 i.of, .int .u8 i.re, vb, ve, vl]] w fun e w' => e = .returned (.tuple #[]) ∧ Wr w' N (zs ++ encI i) ∧ Fr N w w' := by
  obtain ⟨o, hop⟩ : ∃ o : Nat, i.op = (o : Int) := ⟨i.op.toNat, by have := wf.1.1; omega⟩
  have ho2 : o < 256 := by have := wf.1.1; omega
  have hfm := fun wx hx => form_any o ho2 wx hx
  rw [← hop] at hfm
  clear hop ho2
  obtain ⟨x1, x2, f, x4, x5, x6⟩ := x
  simp only at ho
  subst ho
  have hfr := fr_of hx
  rw [hx] at hfm
  simp only [formR, errV_0] at hfm
  have hbd := (may_one hm).1
  rw [hfr] at hbd
  obtain ⟨⟨o0, o1⟩, ⟨n0, n1⟩, ⟨a0, a1⟩, ⟨of0, of1⟩, ⟨r0, r1⟩, hls⟩ := wf.1
  have H1 := hide h1; have H2 := hide h2; have H3 := hide h3
  obtain ⟨ab, cb, rfl, _⟩ := h1
  obtain ⟨ae, ce, rfl, _⟩ := h2
  obtain ⟨al3, cl, rfl, _⟩ := h3
  have hlt := h.lt
  have b0 := box1 w (.int .u8 i.op) (.int .i64 i.n) (.int .u32 i.al) (.int .u32 i.of) (.int .u8 i.re) (.slice ab i.body.length cb) (.slice ae i.els.length ce) (.slice al3 i.ls.length cl)
  have g0 := one_alloc w (.cells #[.int .u8 i.op, .int .i64 i.n, .int .u32 i.al, .int .u32 i.of, .int .u8 i.re, .slice ab i.body.length cb, .slice ae i.els.length ce, .slice al3 i.ls.length cl] 50)
  have hQ : w.heap.size ≠ N := by omega
  have hE : encI i = [kB i.re] ++ enc i.body ++ (if 0 < i.els.length then [5] ++ enc i.els else []) ++ [11] := by unfold encI encF; rw [hfr]; rfl
  rw [hE] at hz
  have hzz : zs.length ≤ 1099511627776 := by omega
  have hre : i.re = 0 ∨ i.re = 127 ∨ i.re = 126 := by simpa [bnd] using hbd
  have mb := may_blk hm (by rw [hfr]; rfl)
  have hzk := hz
  have HF := hide hfm; have HG := hide g0; have B0 := hide b0; have HW := hide h; have HT := hide hT; have HE := hide hE; have HLs := hide hls; have SZ := hide sz; have WF := hide wf; have HIb := hide hib; have HIe := hide hie; have HM := hide hm; have HFr := hide hfr
  clear hfm g0 b0 h hT hE hls sz wf hib hie hm hx hfr hz
  go_enter Tryd.func37, Tryd.ntmps37
  go_wp2_with fail
  generalize (w.alloc (.cells #[.int .u8 i.op, .int .i64 i.n, .int .u32 i.al, .int .u32 i.of, .int .u8 i.re, .slice ab i.body.length cb, .slice ae i.els.length ce, .slice al3 i.ls.length cl] 50)) = w0 at *
  generalize hQn : w.heap.size = Q at *
  have HQ := hide hQn; clear hQn
  refine (unhide HF _ ((unhide HT).below (by rw [unhide HQ]; exact unhide HG))).mono ?_
  rintro e w1 ⟨rfl, hb1⟩
  have g1 : Below w.heap.size w w1 := Below.on (by rw [unhide HQ]; exact unhide HG) hb1
  have W1 := hide ((unhide HW).below g1); have B1 := hide ((unhide B0).below hb1); have F1 := hide (Fr.of (N := N) g1 (by have := unhide HQ; omega)); have HT1 := hide ((unhide HT).below g1)
  have K1 := hide ((unhide H1).below g1); have K2 := hide ((unhide H2).below g1); have K3 := hide (Labs.below (unhide H3) g1)
  clear g1 hb1 B0 HG HF HW H1 H2 H3 HT
  obtain ⟨c0, c1, c2, c3, c4, c5, c6, c7⟩ := (unhide B1).cs
  go_wp2_with fail
  refine (blk_any i (unhide HIb) (unhide HIe) (d := d + 1) (unhide W1) (unhide K1) (unhide K2) (unhide K3) mb.1 mb.2 hre (unhide SZ) (unhide WF) hzk (unhide HT1) hTN).mono ?_
  rintro e w2 ⟨rfl, hw2, hf2⟩
  have HWe := hide hw2; have HFe := hide (Fr.on (unhide F1) hf2)
  clear hw2 hf2 c0 c1 c2 c3 c4 c5 c6 c7
  go_wp2
  go_end0
  exact ⟨rfl, by have := unhide HWe; rw [unhide HE]; simpa using this, unhide HFe⟩

set_option maxRecDepth 100000 in
set_option maxHeartbeats 3200000 in
theorem fld_7 (i : Ins) (hib : WrP i.body) (hie : WrP i.els) {w : World} {N d : Nat} {zs : List Int} {vb ve vl : Value} (h : Wr w N zs) (h1 : Code w (· < N) i.body vb) (h2 : Code w (· < N) i.els ve) (h3 : Lies (· < N) i.ls.length (Lab w i.ls) vl)
    (hm : mayI d i = true) (x : Fam) (hx : fam i.op = some x) (ho : x.o = 7) (sz : SzI 1099511627776 i) (wf : WfI i) (hz : zs.length + (encI i).length + 4000 ≤ 1099511627776) (hT : TC w 2 fmV) (hTN : 2 < N) :
    Calls Tryd.prog 37 #[.pointer (some ⟨N, 0, none⟩), .agg #[.int .u8 i.op, .int .i64 i.n, .int .u32 i.al, .int .u32 i.of, .int .u8 i.re, vb, ve, vl]] w fun e w' => e = .returned (.tuple #[]) ∧ Wr w' N (zs ++ encI i) ∧ Fr N w w' := by
  obtain ⟨o, hop⟩ : ∃ o : Nat, i.op = (o : Int) := ⟨i.op.toNat, by have := wf.1.1; omega⟩
  have ho2 : o < 256 := by have := wf.1.1; omega
  have hfm := fun wx hx => form_any o ho2 wx hx
  rw [← hop] at hfm
  clear hop ho2
  obtain ⟨x1, x2, f, x4, x5, x6⟩ := x
  simp only at ho
  subst ho
  have hfr := fr_of hx
  rw [hx] at hfm
  simp only [formR, errV_0] at hfm
  have hbd := (may_one hm).1
  rw [hfr] at hbd
  obtain ⟨⟨o0, o1⟩, ⟨n0, n1⟩, ⟨a0, a1⟩, ⟨of0, of1⟩, ⟨r0, r1⟩, hls⟩ := wf.1
  have H1 := hide h1; have H2 := hide h2; have H3 := hide h3
  obtain ⟨ab, cb, rfl, _⟩ := h1
  obtain ⟨ae, ce, rfl, _⟩ := h2
  obtain ⟨al3, cl, rfl, _⟩ := h3
  have hlt := h.lt
  have b0 := box1 w (.int .u8 i.op) (.int .i64 i.n) (.int .u32 i.al) (.int .u32 i.of) (.int .u8 i.re) (.slice ab i.body.length cb) (.slice ae i.els.length ce) (.slice al3 i.ls.length cl)
  have g0 := one_alloc w (.cells #[.int .u8 i.op, .int .i64 i.n, .int .u32 i.al, .int .u32 i.of, .int .u8 i.re, .slice ab i.body.length cb, .slice ae i.els.length ce, .slice al3 i.ls.length cl] 50)
  have hQ : w.heap.size ≠ N := by omega
  have hE : encI i = [kB i.re] ++ enc i.body ++ (if 0 < i.els.length then [5] ++ enc i.els else []) ++ [11] := by unfold encI encF; rw [hfr]; rfl
  rw [hE] at hz
  have hzz : zs.length ≤ 1099511627776 := by omega
  have hre : i.re = 0 ∨ i.re = 127 ∨ i.re = 126 := by simpa [bnd] using hbd
  have mb := may_blk hm (by rw [hfr]; rfl)
  have hzk := hz
  have HF := hide hfm; have HG := hide g0; have B0 := hide b0; have HW := hide h; have HT := hide hT; have HE := hide hE; have HLs := hide hls; have SZ := hide sz; have WF := hide wf; have HIb := hide hib; have HIe := hide hie; have HM := hide hm; have HFr := hide hfr
  clear hfm g0 b0 h hT hE hls sz wf hib hie hm hx hfr hz
  go_enter Tryd.func37, Tryd.ntmps37
  go_wp2_with fail
  generalize (w.alloc (.cells #[.int .u8 i.op, .int .i64 i.n, .int .u32 i.al, .int .u32 i.of, .int .u8 i.re, .slice ab i.body.length cb, .slice ae i.els.length ce, .slice al3 i.ls.length cl] 50)) = w0 at *
  generalize hQn : w.heap.size = Q at *
  have HQ := hide hQn; clear hQn
  refine (unhide HF _ ((unhide HT).below (by rw [unhide HQ]; exact unhide HG))).mono ?_
  rintro e w1 ⟨rfl, hb1⟩
  have g1 : Below w.heap.size w w1 := Below.on (by rw [unhide HQ]; exact unhide HG) hb1
  have W1 := hide ((unhide HW).below g1); have B1 := hide ((unhide B0).below hb1); have F1 := hide (Fr.of (N := N) g1 (by have := unhide HQ; omega)); have HT1 := hide ((unhide HT).below g1)
  have K1 := hide ((unhide H1).below g1); have K2 := hide ((unhide H2).below g1); have K3 := hide (Labs.below (unhide H3) g1)
  clear g1 hb1 B0 HG HF HW H1 H2 H3 HT
  obtain ⟨c0, c1, c2, c3, c4, c5, c6, c7⟩ := (unhide B1).cs
  go_wp2_with fail
  refine (blk_any i (unhide HIb) (unhide HIe) (d := d + 1) (unhide W1) (unhide K1) (unhide K2) (unhide K3) mb.1 mb.2 hre (unhide SZ) (unhide WF) hzk (unhide HT1) hTN).mono ?_
  rintro e w2 ⟨rfl, hw2, hf2⟩
  have HWe := hide hw2; have HFe := hide (Fr.on (unhide F1) hf2)
  clear hw2 hf2 c0 c1 c2 c3 c4 c5 c6 c7
  go_wp2
  go_end0
  exact ⟨rfl, by have := unhide HWe; rw [unhide HE]; simpa using this, unhide HFe⟩

set_option maxRecDepth 100000 in
set_option maxHeartbeats 3200000 in
theorem fld_4 (i : Ins) (hib : WrP i.body) (hie : WrP i.els) {w : World} {N d : Nat} {zs : List Int} {vb ve vl : Value} (h : Wr w N zs) (h1 : Code w (· < N) i.body vb) (h2 : Code w (· < N) i.els ve) (h3 : Lies (· < N) i.ls.length (Lab w i.ls) vl)
    (hm : mayI d i = true) (x : Fam) (hx : fam i.op = some x) (ho : x.o = 4) (sz : SzI 1099511627776 i) (wf : WfI i) (hz : zs.length + (encI i).length + 4000 ≤ 1099511627776) (hT : TC w 2 fmV) (hTN : 2 < N) :
    Calls Tryd.prog 37 #[.pointer (some ⟨N, 0, none⟩), .agg #[.int .u8 i.op, .int .i64 i.n, .int .u32 i.al, .int .u32 i.of, .int .u8 i.re, vb, ve, vl]] w fun e w' => e = .returned (.tuple #[]) ∧ Wr w' N (zs ++ encI i) ∧ Fr N w w' := by
  obtain ⟨o, hop⟩ : ∃ o : Nat, i.op = (o : Int) := ⟨i.op.toNat, by have := wf.1.1; omega⟩
  have ho2 : o < 256 := by have := wf.1.1; omega
  have hfm := fun wx hx => form_any o ho2 wx hx
  rw [← hop] at hfm
  clear hop ho2
  obtain ⟨x1, x2, f, x4, x5, x6⟩ := x
  simp only at ho
  subst ho
  have hfr := fr_of hx
  rw [hx] at hfm
  simp only [formR, errV_0] at hfm
  have hbd := (may_one hm).1
  rw [hfr] at hbd
  obtain ⟨⟨o0, o1⟩, ⟨n0, n1⟩, ⟨a0, a1⟩, ⟨of0, of1⟩, ⟨r0, r1⟩, hls⟩ := wf.1
  have H1 := hide h1; have H2 := hide h2; have H3 := hide h3
  obtain ⟨ab, cb, rfl, _⟩ := h1
  obtain ⟨ae, ce, rfl, _⟩ := h2
  obtain ⟨al3, cl, rfl, _⟩ := h3
  have hlt := h.lt
  have b0 := box1 w (.int .u8 i.op) (.int .i64 i.n) (.int .u32 i.al) (.int .u32 i.of) (.int .u8 i.re) (.slice ab i.body.length cb) (.slice ae i.els.length ce) (.slice al3 i.ls.length cl)
  have g0 := one_alloc w (.cells #[.int .u8 i.op, .int .i64 i.n, .int .u32 i.al, .int .u32 i.of, .int .u8 i.re, .slice ab i.body.length cb, .slice ae i.els.length ce, .slice al3 i.ls.length cl] 50)
  have hQ : w.heap.size ≠ N := by omega
  have hE : encI i = Leb.bU 10 i.al ++ Leb.bU 10 i.of := by unfold encI encF; rw [hfr]; rfl
  rw [hE] at hz
  have hzz : zs.length + 11 ≤ 1099511627776 := by omega
  have hll := Leb.bU_len 10 i.al
  have HF := hide hfm; have HG := hide g0; have B0 := hide b0; have HW := hide h; have HT := hide hT; have HE := hide hE; have HLs := hide hls; have SZ := hide sz; have WF := hide wf; have HIb := hide hib; have HIe := hide hie; have HM := hide hm; have HFr := hide hfr
  clear hfm g0 b0 h hT hE hls sz wf hib hie hm hx hfr hz
  go_enter Tryd.func37, Tryd.ntmps37
  go_wp2_with fail
  generalize (w.alloc (.cells #[.int .u8 i.op, .int .i64 i.n, .int .u32 i.al, .int .u32 i.of, .int .u8 i.re, .slice ab i.body.length cb, .slice ae i.els.length ce, .slice al3 i.ls.length cl] 50)) = w0 at *
  generalize hQn : w.heap.size = Q at *
  have HQ := hide hQn; clear hQn
  refine (unhide HF _ ((unhide HT).below (by rw [unhide HQ]; exact unhide HG))).mono ?_
  rintro e w1 ⟨rfl, hb1⟩
  have g1 : Below w.heap.size w w1 := Below.on (by rw [unhide HQ]; exact unhide HG) hb1
  have W1 := hide ((unhide HW).below g1); have B1 := hide ((unhide B0).below hb1); have F1 := hide (Fr.of (N := N) g1 (by have := unhide HQ; omega)); have HT1 := hide ((unhide HT).below g1)
  have K1 := hide ((unhide H1).below g1); have K2 := hide ((unhide H2).below g1); have K3 := hide (Labs.below (unhide H3) g1)
  clear g1 hb1 B0 HG HF HW H1 H2 H3 HT
  obtain ⟨c0, c1, c2, c3, c4, c5, c6, c7⟩ := (unhide B1).cs
  go_wp2_with fail
  refine (uns_any i.al (unhide W1) (by omega) a0 (by omega)).mono ?_
  rintro e w2 ⟨rfl, hw2, hf2⟩
  have b2 := hf2.bx (unhide B1) hQ
  clear c0 c1 c2 c3 c4 c5 c6 c7
  obtain ⟨c0, c1, c2, c3, c4, c5, c6, c7⟩ := b2.cs
  have HW2 := hide hw2; have F2 := hide (Fr.on (unhide F1) hf2)
  clear hw2 hf2 b2
  go_wp2_with fail
  refine (uns_any i.of (unhide HW2) (by rw [List.length_append]; omega) of0 (by omega)).mono ?_
  rintro e w3 ⟨rfl, hw3, hf3⟩
  have HWe := hide hw3; have HFe := hide (Fr.on (unhide F2) hf3)
  clear hw3 hf3 c0 c1 c2 c3 c4 c5 c6 c7
  go_wp2
  go_end0
  exact ⟨rfl, by have := unhide HWe; rw [unhide HE]; simpa using this, unhide HFe⟩

set_option maxRecDepth 100000 in
set_option maxHeartbeats 3200000 in
theorem fld_9 (i : Ins) (hib : WrP i.body) (hie : WrP i.els) {w : World} {N d : Nat} {zs : List Int} {vb ve vl : Value} (h : Wr w N zs) (h1 : Code w (· < N) i.body vb) (h2 : Code w (· < N) i.els ve) (h3 : Lies (· < N) i.ls.length (Lab w i.ls) vl)
    (hm : mayI d i = true) (x : Fam) (hx : fam i.op = some x) (ho : x.o = 9) (sz : SzI 1099511627776 i) (wf : WfI i) (hz : zs.length + (encI i).length + 4000 ≤ 1099511627776) (hT : TC w 2 fmV) (hTN : 2 < N) :
    Calls Tryd.prog 37 #[.pointer (some ⟨N, 0, none⟩), .agg #[.int .u8 i.op, .int .i64 i.n, .int .u32 i.al, .int .u32 i.of, .int .u8 i.re, vb, ve, vl]] w fun e w' => e = .returned (.tuple #[]) ∧ Wr w' N (zs ++ encI i) ∧ Fr N w w' := by
  obtain ⟨o, hop⟩ : ∃ o : Nat, i.op = (o : Int) := ⟨i.op.toNat, by have := wf.1.1; omega⟩
  have ho2 : o < 256 := by have := wf.1.1; omega
  have hfm := fun wx hx => form_any o ho2 wx hx
  rw [← hop] at hfm
  clear hop ho2
  obtain ⟨x1, x2, f, x4, x5, x6⟩ := x
  simp only at ho
  subst ho
  have hfr := fr_of hx
  rw [hx] at hfm
  simp only [formR, errV_0] at hfm
  have hbd := (may_one hm).1
  rw [hfr] at hbd
  obtain ⟨⟨o0, o1⟩, ⟨n0, n1⟩, ⟨a0, a1⟩, ⟨of0, of1⟩, ⟨r0, r1⟩, hls⟩ := wf.1
  have H1 := hide h1; have H2 := hide h2; have H3 := hide h3
  obtain ⟨ab, cb, rfl, _⟩ := h1
  obtain ⟨ae, ce, rfl, _⟩ := h2
  obtain ⟨al3, cl, rfl, _⟩ := h3
  have hlt := h.lt
  have b0 := box1 w (.int .u8 i.op) (.int .i64 i.n) (.int .u32 i.al) (.int .u32 i.of) (.int .u8 i.re) (.slice ab i.body.length cb) (.slice ae i.els.length ce) (.slice al3 i.ls.length cl)
  have g0 := one_alloc w (.cells #[.int .u8 i.op, .int .i64 i.n, .int .u32 i.al, .int .u32 i.of, .int .u8 i.re, .slice ab i.body.length cb, .slice ae i.els.length ce, .slice al3 i.ls.length cl] 50)
  have hQ : w.heap.size ≠ N := by omega
  have hE : encI i = Leb.bU 10 i.n ++ [0] := by unfold encI encF; rw [hfr]; rfl
  rw [hE] at hz
  have hzz : zs.length + 11 ≤ 1099511627776 := by omega
  have hll := Leb.bU_len 10 i.n
  have hn : 0 ≤ i.n ∧ i.n ≤ 4294967295 := by simpa [bnd] using hbd
  obtain ⟨m0, m1⟩ := hn
  have HF := hide hfm; have HG := hide g0; have B0 := hide b0; have HW := hide h; have HT := hide hT; have HE := hide hE; have HLs := hide hls; have SZ := hide sz; have WF := hide wf; have HIb := hide hib; have HIe := hide hie; have HM := hide hm; have HFr := hide hfr
  clear hfm g0 b0 h hT hE hls sz wf hib hie hm hx hfr hz
  go_enter Tryd.func37, Tryd.ntmps37
  go_wp2_with fail
  generalize (w.alloc (.cells #[.int .u8 i.op, .int .i64 i.n, .int .u32 i.al, .int .u32 i.of, .int .u8 i.re, .slice ab i.body.length cb, .slice ae i.els.length ce, .slice al3 i.ls.length cl] 50)) = w0 at *
  generalize hQn : w.heap.size = Q at *
  have HQ := hide hQn; clear hQn
  refine (unhide HF _ ((unhide HT).below (by rw [unhide HQ]; exact unhide HG))).mono ?_
  rintro e w1 ⟨rfl, hb1⟩
  have g1 : Below w.heap.size w w1 := Below.on (by rw [unhide HQ]; exact unhide HG) hb1
  have W1 := hide ((unhide HW).below g1); have B1 := hide ((unhide B0).below hb1); have F1 := hide (Fr.of (N := N) g1 (by have := unhide HQ; omega)); have HT1 := hide ((unhide HT).below g1)
  have K1 := hide ((unhide H1).below g1); have K2 := hide ((unhide H2).below g1); have K3 := hide (Labs.below (unhide H3) g1)
  clear g1 hb1 B0 HG HF HW H1 H2 H3 HT
  obtain ⟨c0, c1, c2, c3, c4, c5, c6, c7⟩ := (unhide B1).cs
  go_wp2_with fail
  refine (uns_any i.n (unhide W1) (by omega) m0 (by omega)).mono ?_
  rintro e w2 ⟨rfl, hw2, hf2⟩
  have HW2 := hide hw2; have F2 := hide (Fr.on (unhide F1) hf2)
  clear hw2 hf2 c0 c1 c2 c3 c4 c5 c6 c7
  go_wp2_with fail
  refine (one_any 0 (unhide HW2) (by rw [List.length_append]; omega) (by omega)).mono ?_
  rintro e w3 ⟨rfl, hw3, hf3⟩
  have HWe := hide hw3; have HFe := hide (Fr.on (unhide F2) hf3)
  clear hw3 hf3
  go_wp2
  go_end0
  exact ⟨rfl, by have := unhide HWe; rw [unhide HE]; simpa using this, unhide HFe⟩

theorem fld_any (i : Ins) (hib : WrP i.body) (hie : WrP i.els) {w : World} {N d : Nat} {zs : List Int} {vb ve vl : Value} (h : Wr w N zs) (h1 : Code w (· < N) i.body vb) (h2 : Code w (· < N) i.els ve) (h3 : Lies (· < N) i.ls.length (Lab w i.ls) vl)
    (hm : mayI d i = true) (sz : SzI 1099511627776 i) (wf : WfI i) (hz : zs.length + (encI i).length + 4000 ≤ 1099511627776) (hT : TC w 2 fmV) (hTN : 2 < N) :
    Calls Tryd.prog 37 #[.pointer (some ⟨N, 0, none⟩), .agg #[.int .u8 i.op, .int .i64 i.n, .int .u32 i.al, .int .u32 i.of, .int .u8 i.re, vb, ve, vl]] w fun e w' => e = .returned (.tuple #[]) ∧ Wr w' N (zs ++ encI i) ∧ Fr N w w' := by
  obtain ⟨x, hx⟩ := (may_one hm).2
  rcases fam_o hx with ho | ho | ho | ho | ho | ho | ho | ho | ho | ho
  · exact fld_0 i hib hie h h1 h2 h3 hm x hx ho sz wf hz hT hTN
  · exact fld_1 i hib hie h h1 h2 h3 hm x hx ho sz wf hz hT hTN
  · exact fld_2 i hib hie h h1 h2 h3 hm x hx ho sz wf hz hT hTN
  · exact fld_3 i hib hie h h1 h2 h3 hm x hx ho sz wf hz hT hTN
  · exact fld_4 i hib hie h h1 h2 h3 hm x hx ho sz wf hz hT hTN
  · exact fld_5 i hib hie h h1 h2 h3 hm x hx ho sz wf hz hT hTN
  · exact fld_6 i hib hie h h1 h2 h3 hm x hx ho sz wf hz hT hTN
  · exact fld_7 i hib hie h h1 h2 h3 hm x hx ho sz wf hz hT hTN
  · exact fld_8 i hib hie h h1 h2 h3 hm x hx ho sz wf hz hT hTN
  · exact fld_9 i hib hie h h1 h2 h3 hm x hx ho sz wf hz hT hTN
end Ex
end Go.Proofs.YtjhmglefejclpaaDoor

/- The writer's list; expr.Encode. -/
namespace Go.Proofs.YtjhmglefejclpaaDoor
open Go.RowKit
namespace Ex
set_option linter.unusedVariables false
set_option linter.unusedSimpArgs false

theorem enc_take {l : List Ins} {j : Nat} (h : j < l.length) : enc (l.take (j + 1)) = enc (l.take j) ++ [l[j].op] ++ encI l[j] := by
  rw [List.take_succ_eq_append_getElem h, enc_app, enc_cons, enc_nil]; simp
theorem enc_take_le (l : List Ins) (j : Nat) : (enc (l.take j)).length ≤ (enc l).length := by
  have h : enc l = enc (l.take j) ++ enc (l.drop j) := by rw [← enc_app, List.take_append_drop]
  rw [h, List.length_append]; omega

set_option maxRecDepth 100000 in
set_option maxHeartbeats 3200000 in
theorem wl_any (l : List Ins) : WrP l := by
  refine ind2 (P := WrP) (fun l ih => ?_) l
  intro N d zs v w h hv hm hw hs hl hz hT hTN
  obtain ⟨a, ca, rfl, hca, _, hA⟩ := hv
  have hlt := h.lt
  by_cases h0 : 0 < l.length
  · obtain ⟨ba, oa, rfl, hgb, hla⟩ := hA h0
    have HLa := hide hla; have HIh := hide ih; have HM := hide hm; have HWf := hide hw; have HSz := hide hs; have HT := hide hT; have HZ := hide hz; have HW := hide h; have HGb := hide hgb
    clear hA hla ih hm hw hs hT h hz hgb
    generalize hln : l.length = n at *
    have HN := hide hln; clear hln
    go_enter Tryd.func24, Tryd.ntmps24
    go_wp2_with fail
    go_loopw [8] (fun c wr => ∃ j : Nat, c = .int .i64 j ∧ (j : Int) ≤ n ∧ Wr wr N (zs ++ enc (l.take j)) ∧ Fr N w wr) (fun c _ => n - (intOf c).toNat)
    case atStart => exact ⟨0, rfl, by omega, by simpa [enc_nil] using unhide HW, Fr.of (Below.refl _ _) (Nat.le_of_lt hlt)⟩
    case round =>
      obtain ⟨j, rfl, hj, hwr, hfr⟩ := hrel
      by_cases hlt2 : (j : Int) < n
      · have ja : j < l.length := by have := unhide HN; omega
        have iA := ItemAt.move (moves_belowN hfr.lo) (hfr.lo.block ba (unhide HGb)) (Items_get (unhide HLa) j ja)
        have hI := unhide HIh l[j] (List.getElem_mem ja)
        have sA := Sz_get (unhide HSz) l[j] (List.getElem_mem ja)
        have wA := Wf_get (unhide HWf) l[j] (List.getElem_mem ja)
        have mA := may_get (unhide HM) l[j] (List.getElem_mem ja)
        have hE := enc_take ja
        have hEl := enc_take_le l (j + 1)
        generalize hx : l[j] = x at *
        rw [hE, List.length_append, List.length_append] at hEl
        simp only [List.length_cons, List.length_nil] at hEl
        obtain ⟨vb, ve, vl, hc, k1, k2, k3⟩ := iA
        have K1 := hide k1; have K2 := hide k2; have K3 := hide k3
        obtain ⟨d1, db1, rfl, _⟩ := k1
        obtain ⟨d2, db2, rfl, _⟩ := k2
        obtain ⟨d3, db3, rfl, _⟩ := k3
        obtain ⟨e0, e1, e2, e3, e4, e5, e6, e7⟩ := hc
        have hrl := hwr.lt
        have g0 := one_alloc wr (.cells #[.int .u8 x.op, .int .i64 x.n, .int .u32 x.al, .int .u32 x.of, .int .u8 x.re, .slice d1 x.body.length db1, .slice d2 x.els.length db2, .slice d3 x.ls.length db3] 50)
        have b0 := box1 wr (.int .u8 x.op) (.int .i64 x.n) (.int .u32 x.al) (.int .u32 x.of) (.int .u8 x.re) (.slice d1 x.body.length db1) (.slice d2 x.els.length db2) (.slice d3 x.ls.length db3)
        have hone := one_any x.op (hwr.below g0) (by have := unhide HZ; rw [List.length_append]; omega) wA.1.1
        have f0 := Fr.on hfr (Fr.of (N := N) g0 (Nat.le_of_lt hrl))
        have hQ : wr.heap.size ≠ N := by omega
        have k1' := (unhide K1).below g0; have k2' := (unhide K2).below g0; have k3' := Labs.below (unhide K3) g0
        have HOne := hide hone; have F0 := hide f0; have B0 := hide b0; have HE := hide hE; have HEl := hide hEl; have HI := hide hI; have SA := hide sA; have WA := hide wA; have MA := hide mA; have K1' := hide k1'; have K2' := hide k2'; have K3' := hide k3'
        clear hone f0 b0 hE hEl hI sA wA mA k1' k2' k3' hx g0 hwr hfr hrl ja hj K1 K2 K3
        go_wp2_with fail
        generalize wr.alloc (.cells #[.int .u8 x.op, .int .i64 x.n, .int .u32 x.al, .int .u32 x.of, .int .u8 x.re, .slice d1 x.body.length db1, .slice d2 x.els.length db2, .slice d3 x.ls.length db3] 50) = w0 at *
        generalize wr.heap.size = Q at *
        refine (unhide HOne).mono ?_
        rintro e w1 ⟨rfl, hw1, hf1⟩
        have b1 := hf1.bx (unhide B0) hQ
        obtain ⟨c0, c1, c2, c3, c4, c5, c6, c7⟩ := b1.cs
        have fr1 := Fr.on (unhide F0) hf1
        have hfl := fld_any x (unhide HI).1 (unhide HI).2 hw1 ((unhide K1').belowN hf1.lo) ((unhide K2').belowN hf1.lo) (Labs.belowN (unhide K3') hf1.lo) (unhide MA) (unhide SA) (unhide WA) (by have := unhide HZ; have := unhide HEl; simp only [List.length_append, List.length_cons, List.length_nil]; omega) (TC.belowN (unhide HT) hTN fr1.lo) hTN
        have HFl := hide hfl; have F1 := hide fr1
        clear hfl hw1 hf1 b1 fr1 e0 e1 e2 e3 e4 e5 e6 e7
        go_wp2_with fail
        refine (unhide HFl).mono ?_
        rintro e w2 ⟨rfl, hw2, hf2⟩
        have HW2 := hide hw2; have F2 := hide (Fr.on (unhide F1) hf2)
        clear hw2 hf2 c0 c1 c2 c3 c4 c5 c6 c7
        go_wp2
        go_roundw
        case rel => exact ⟨j + 1, by go_num, by omega, by rw [unhide HE]; have := unhide HW2; simpa using this, unhide F2⟩
        case measure => simp [intOf]; omega
      · obtain rfl : j = n := by omega
        have htk : l.take j = l := by rw [← unhide HN]; exact List.take_length
        rw [htk] at hwr
        have HWr := hide hwr; have HFr := hide hfr
        clear hj hlt2 htk hwr hfr
        go_wp2
        go_end0
        exact ⟨rfl, unhide HWr, unhide HFr⟩
  · have hlz : l = [] := List.eq_nil_of_length_eq_zero (by omega)
    subst hlz
    simp only [List.length_nil] at *
    have HW := hide (show Wr w N (zs ++ enc []) by rw [enc_nil, List.append_nil]; exact h)
    clear hA hca h0 ih hm hw hs hl hz hT h
    go_enter Tryd.func24, Tryd.ntmps24
    go_wp2_with fail
    go_loopw [8] (fun c wr => c = .int .i64 0 ∧ wr = w) (fun c _ => 0)
    case atStart => exact ⟨rfl, rfl⟩
    case round =>
      obtain ⟨rfl, rfl⟩ := hrel
      go_wp2
      go_end0
      exact ⟨rfl, unhide HW, Fr.of (Below.refl _ _) (Nat.le_of_lt hlt)⟩

theorem encF_len (f n al of re : Int) (eb ee : List Int) (el : Nat) (ls : List Int) (h : ¬ f = 8 ∨ ls.length ≤ 257) : (encF f n al of re eb ee el ls).length ≤ 2838 + eb.length + ee.length := by
  have h1 := Leb.bS_len 10 n; have h2 := Leb.bU_len 10 n; have h3 := Leb.bU_len 10 al; have h4 := Leb.bU_len 10 of; have h5 := Leb.bU_len 10 ((ls.length : Int) - 1); have h6 := flat_len ls
  unfold encF
  split
  · omega
  · split
    · omega
    · split
      · rw [List.length_append]; omega
      · split
        · simp; omega
        · split
          · have h7 : (if 0 < el then [5] ++ ee else []).length ≤ 1 + ee.length := by
              by_cases he : 0 < el
              · rw [if_pos he]; simp; omega
              · rw [if_neg he]; simp
            rw [List.length_append, List.length_append, List.length_append]
            simp only [List.length_cons, List.length_nil]
            omega
          · split
            · rename_i e
              rw [List.length_append]
              rcases h with h | h
              · exact absurd e h
              · omega
            · split
              · simp only [List.length_append, List.length_cons, List.length_nil]; omega
              · simp
theorem enc_len (l : List Ins) : ∀ d, may d l = true → (enc l).length ≤ 2900 * cnt l := by
  refine ind (P := fun l => ∀ d, may d l = true → (enc l).length ≤ 2900 * cnt l) ?_ ?_ l
  · intro d _; rw [enc_nil]; simp
  · intro op n al of re b e ls r hb he hr d hm
    rw [may_cons, Bool.and_eq_true] at hm
    rw [enc_cons, cnt_cons]
    have h1 := hr d hm.2
    have hmi := hm.1
    have hls : ¬ fr op = 8 ∨ ls.length ≤ 257 := by
      by_cases e8 : fr op = 8
      · right
        have := (may_one hmi).1
        simp only [e8] at this
        simp [bnd] at this
        exact this.2
      · exact .inl e8
    have h2 := encF_len (fr op) n al of re (enc b) (enc e) e.length ls hls
    have hbe : (enc b).length ≤ 2900 * cnt b ∧ (enc e).length ≤ 2900 * cnt e := by
      cases hbl : blk (fr op) with
      | true => have := may_blk hmi hbl; exact ⟨hb _ this.1, he _ this.2⟩
      | false =>
        have hal : alo (fr op) n al of re b.length e.length ls.length = true := by unfold mayI one at hmi; simp only [Bool.and_eq_true] at hmi; exact hmi.1.2
        have := alo_nil hal hbl
        rw [List.eq_nil_of_length_eq_zero this.1, List.eq_nil_of_length_eq_zero this.2, enc_nil]; simp
    unfold encI
    simp only [List.length_append, List.length_cons, List.length_nil]
    omega
theorem mayB_parts {l : List Ins} (h : mayB l = true) : cnt l ≤ 16384 ∧ may 0 l = true := by
  unfold mayB okL at h
  simp only [Bool.and_eq_true, decide_eq_true_eq, Nat.zero_add] at h
  exact ⟨h.1.1, h.2⟩
theorem mayB_of {l : List Ins} (h : cnt l ≤ 16384) (hm : may 0 l = true) : mayB l = true := by unfold mayB okL; simp [h, hm]

def EncPost (w : World) (l : List Ins) (e : Ending) (w' : World) : Prop := ∃ (a : Option Addr) (len cap : Nat), e = .returned (.tuple #[.slice a len cap, errV (if mayB l = true then 0 else 1)]) ∧ Below w.heap.size w w' ∧ (mayB l = true → Bs w' a len cap (enc l ++ [11])) ∧ (mayB l = false → a = none ∧ len = 0 ∧ cap = 0)
theorem wr_new (w : World) : Wr (w.alloc (.cells #[.slice none 0 0] 57)) w.heap.size [] := ⟨_, heap_alloc_new w _, World.ownsRow_nil _ _ _ _, by simp⟩
theorem Wr.bs {w : World} {N : Nat} {zs : List Int} (h : Wr w N zs) (hz : 0 < zs.length) (hl : zs.length ≤ 1099511627776) : ∃ g cap, w.cell? ⟨N, 0, none⟩ = some (.slice (some ⟨g, 0, none⟩) zs.length cap) ∧ Bs w (some ⟨g, 0, none⟩) zs.length cap zs := by
  obtain ⟨v, h1, h2, h3⟩ := h
  obtain ⟨g, cap, rfl, hr, hc, _⟩ := own_shape h2 hz h3
  exact ⟨g, cap, by rw [cell_of_row w N 0 _ _ _ h1]; rfl, hr, by simp, hc, hl⟩

set_option maxRecDepth 100000 in
set_option maxHeartbeats 1600000 in
theorem encode_any (l : List Ins) {g : Nat → Prop} {v : Value} {w : World} (hv : Code w g l v) (hT : Tb w) (hl : l.length ≤ 1099511627776) (hs : Sz 1099511627776 l) (hw : Wf l) :
    Calls Tryd.prog 12 #[v] w (EncPost w l) := by
  have hc := check_any l hv hT hl hs hw
  have HV := hide hv
  obtain ⟨a, ca, rfl, _⟩ := hv
  have HC := hide hc; have HT := hide hT; have HS := hide hs; have HW := hide hw
  clear hc hT hs hw
  cases hm : mayB l with
  | false =>
    rw [hm, if_neg (by decide), errV_1] at HC
    have HMm := hide hm
    clear hm
    go_enter Tryd.func12, Tryd.ntmps12
    go_wp2_with fail
    refine (unhide HC).mono ?_
    rintro e w1 ⟨rfl, hb⟩
    have HB := hide hb; clear hb
    go_wp2
    go_ret2
    exact ⟨none, 0, 0, by rw [unhide HMm, if_neg (by decide), errV_1]; rfl, unhide HB, fun e => absurd (e.symm.trans (unhide HMm)) (by decide), fun _ => ⟨rfl, rfl, rfl⟩⟩
  | true =>
    rw [hm, if_pos rfl, errV_0] at HC
    obtain ⟨hcnt, hmay⟩ := mayB_parts hm
    have hel := enc_len l 0 hmay
    have HM := hide hmay; have HMm := hide hm
    clear hm hmay
    go_enter Tryd.func12, Tryd.ntmps12
    go_wp2_with fail
    refine (unhide HC).mono ?_
    rintro e w1 ⟨rfl, hb⟩
    have g1 := one_alloc w1 (.cells #[.slice none 0 0] 57)
    have hb2 := Below.on hb g1
    have hTw := (unhide HT).below hb2
    have hlw := wl_any l w1.heap.size 0 [] _ _ (wr_new w1) (((unhide HV).below hb).move (moves_below (g' := (· < w1.heap.size)) g1 (fun k hk _ => hk))) (unhide HM) (unhide HW) (unhide HS) hl (by simp; omega) hTw.1 (by have := ((unhide HT).below hb).1.1; exact this)
    have HL := hide hlw; have HB := hide hb; have G1 := hide g1
    clear hlw hb hb2 hTw g1
    go_wp2_with fail
    refine (unhide HL).mono ?_
    rintro e w2 ⟨rfl, hw2, hf2⟩
    rw [List.nil_append] at hw2
    have HW2 := hide hw2; have F2 := hide hf2
    clear hw2 hf2
    go_wp2_with fail
    refine (one_any 11 (unhide HW2) (by omega) (by omega)).mono ?_
    rintro e w3 ⟨rfl, hw3, hf3⟩
    obtain ⟨gg, gc, hcell, hbs⟩ := hw3.bs (by simp) (by simp; omega)
    have hbel : Below w.heap.size w w3 := by
      have h1 := unhide HB
      have h2 := (unhide G1).trans ((unhide F2).lo.trans hf3.lo)
      exact h1.trans (h2.mono h1.size)
    have HBs := hide hbs; have HBel := hide hbel
    clear hw3 hf3 hbs hbel
    generalize (enc l ++ [11]).length = en at *
    go_wp2
    go_ret2
    exact ⟨some ⟨gg, 0, none⟩, en, gc, by rw [unhide HMm, if_pos rfl, errV_0]; rfl, unhide HBel, fun _ => unhide HBs, fun e => absurd (e.symm.trans (unhide HMm)) (by decide)⟩
end Ex
end Go.Proofs.YtjhmglefejclpaaDoor

/- What was told is read as itself. Plain mathematics. -/
namespace Go.Proofs.YtjhmglefejclpaaDoor
open Go.RowKit
namespace Ex
set_option linter.unusedVariables false
set_option linter.unusedSimpArgs false

theorem drop_add {zs a r : List Int} {p : Nat} (h : zs.drop p = a ++ r) : zs.drop (p + a.length) = r := by
  rw [← List.drop_drop, h, List.drop_left]
theorem drop_len {zs : List Int} {p : Nat} {c : Int} {r : List Int} (h : zs.drop p = c :: r) : p < zs.length ∧ zs.getD p 0 = c := by
  have hl : p < zs.length := by
    by_cases hl : p < zs.length
    · exact hl
    · rw [List.drop_eq_nil_of_le (by omega)] at h; cases h
  refine ⟨hl, ?_⟩
  rw [List.drop_eq_getElem_cons hl] at h
  have := (List.cons.inj h).1
  simp [List.getD, hl, this]
theorem pB_back {zs : List Int} {p : Nat} {c : Int} {r : List Int} {J : Int → Int} (h : zs.drop p = c :: r) (hJ : J c = 0) : pB zs p J = ⟨0, p + 1, c⟩ := by
  obtain ⟨h1, h2⟩ := drop_len h
  unfold pB
  rw [if_neg (by omega), h2, if_pos hJ]
theorem pU_back {zs : List Int} {p : Nat} {v most : Int} {r : List Int} (h : zs.drop p = Leb.bU 10 v ++ r) (h0 : 0 ≤ v) (h1 : v < 4294967296) (hm : v ≤ most) : pU zs p most = ⟨0, p + (Leb.bU 10 v).length, v⟩ := by
  obtain ⟨e1, e2⟩ := (Leb.back_U32 v r h0 (by omega)).1 h1
  obtain ⟨k, _, k2, k3, _⟩ := Leb.bU_form 10 v r h0 (by omega)
  have e3 : (Leb.tuN (Leb.bU 10 v ++ r) 32).toNat = (Leb.bU 10 v).length := by unfold Leb.tuN; rw [if_pos e1, k3, k2]; omega
  rw [pU_ok (by rw [h]; exact e1) (by rw [h, e2]; omega), h, e2, e3]
theorem pS_back {zs : List Int} {p : Nat} {v n : Int} {r : List Int} (h : zs.drop p = Leb.bS 10 v ++ r) (h0 : -9223372036854775808 ≤ v) (h1 : v < 9223372036854775808) (hn : n = 64 ∨ (n = 32 ∧ -2147483648 ≤ v ∧ v < 2147483648)) : pS zs p n = ⟨0, p + (Leb.bS 10 v).length, v⟩ := by
  obtain ⟨e1, e2⟩ : Leb.tsE (Leb.bS 10 v ++ r) n = 0 ∧ Leb.tsV (Leb.bS 10 v ++ r) n = v := by
    rcases hn with rfl | ⟨rfl, h2⟩
    · have := Leb.back_S64 v r h0 h1; exact ⟨this.1, this.2.1⟩
    · exact (Leb.back_S32 v r h0 h1).1 h2
  obtain ⟨k, _, k2, k3, _⟩ := Leb.bS_form 10 v r (by omega) (by omega)
  have e3 : (Leb.tsN (Leb.bS 10 v ++ r) n).toNat = (Leb.bS 10 v).length := by unfold Leb.tsN; rw [if_pos e1, k3, k2]; omega
  rw [pS_ok (by rw [h]; exact e1), h, e2, e3]
theorem pL_back {zs : List Int} {k : Nat} : ∀ (ls : List Int) (p : Nat) (r : List Int), zs.drop p = ls.flatMap (Leb.bU 10) ++ r → (∀ z ∈ ls, 0 ≤ z ∧ z < 4294967296) → pL zs ls.length p k = ⟨0, p + (ls.flatMap (Leb.bU 10)).length, k, ls⟩
  | [], p, r, _, _ => by simp [pL]
  | x :: ls, p, r, h, hb => by
    rw [List.flatMap_cons, List.append_assoc] at h
    have hx := hb x (by simp)
    have h1 := pU_back (most := 4294967295) h hx.1 hx.2 (by omega)
    have h2 := pL_back (k := k) ls _ r (drop_add h) fun z hz => hb z (by simp [hz])
    rw [List.length_cons, pL, h1, Part.on_ok rfl]
    simp only
    rw [h2, Out.on_ok rfl]
    simp only [List.flatMap_cons, List.length_append, Out.mk.injEq, true_and, and_true]
    omega
theorem op_facts : ((List.range 256).all fun n => !(fam n).isSome || (!(flt n) && n != 11 && n != 5)) = true := by kernel_rfl
theorem op_fact {op : Int} (h0 : 0 ≤ op) (h1 : op ≤ 255) {x : Fam} (h : fam op = some x) : flt op = false ∧ ¬ op = 11 ∧ ¬ op = 5 := by
  obtain ⟨n, rfl⟩ := Int.eq_ofNat_of_zero_le h0
  have := List.all_eq_true.1 op_facts n (List.mem_range.2 (by omega))
  rw [h] at this
  simp at this
  exact ⟨this.1.1, by omega, by omega⟩
theorem jO_ok {k nest : Nat} {me : Bool} {i : Ins} (hm : mayI nest i = true) (h0 : 0 ≤ i.op) (h1 : i.op ≤ 255) (hk : k < 16384) : jO k nest me i.op = 0 ∧ ¬ (i.op = 11 ∨ i.op = 5) := by
  obtain ⟨x, hx⟩ := (may_one hm).2
  obtain ⟨f1, f2, f3⟩ := op_fact h0 h1 hx
  refine ⟨?_, by rintro (e | e); exact f2 e; exact f3 e⟩
  rw [jO_gen (by rintro (e | e); exact f2 e; exact f3 e.1), f1]
  have hfr : frm i.op = some x.o := by unfold frm; rw [hx]; rfl
  simp only [Bool.false_eq_true, if_false, hfr]
  rw [if_neg]
  rintro (e | ⟨e, e2⟩)
  · omega
  · unfold mayI at hm
    rw [show blk (fr i.op) = true by unfold fr; rw [hfr]; exact e] at hm
    simp only [Bool.and_eq_true, Bool.not_true, Bool.false_or, decide_eq_true_eq] at hm
    omega

/-- read as itself -/
def BackP (l : List Ins) : Prop := ∀ (zs : List Int) (p k nest : Nat) (me : Bool) (c : Int) (r : List Int), may nest l = true → k + cnt l ≤ 16384 → Wf l → zs.drop p = enc l ++ c :: r → (c = 11 ∨ (c = 5 ∧ me = true)) →
  D zs p k nest me = ⟨0, p + (enc l).length + 1, k + cnt l, (l, c)⟩
theorem kV_kB {re : Int} (h : re = 0 ∨ re = 127 ∨ re = 126) : kV (kB re) = re ∧ jK (kB re) = 0 := by rcases h with rfl | rfl | rfl <;> decide
theorem pI_back {i : Ins} (hib : BackP i.body) (hie : BackP i.els) {zs : List Int} {p k nest : Nat} {r : List Int} (hm : mayI nest i = true) (hk : k + cnt i.body + cnt i.els ≤ 16384) (hw : WfI i) (h : zs.drop p = encI i ++ r) :
    pI (D zs) zs p k nest i.op = ⟨0, p + (encI i).length, k + cnt i.body + cnt i.els, i⟩ := by
  obtain ⟨hbd, x, hx⟩ := may_one hm
  have hal : alo (fr i.op) i.n i.al i.of i.re i.body.length i.els.length i.ls.length = true := by unfold mayI one at hm; simp only [Bool.and_eq_true] at hm; exact hm.1.2
  have hmb := fun h => may_blk hm h
  obtain ⟨op, n, al, of, re, b, e, ls⟩ := i
  obtain ⟨⟨⟨o0, o1⟩, ⟨n0, n1⟩, ⟨a0, a1⟩, ⟨f0, f1⟩, ⟨r0, r1⟩, hls⟩, wb, we⟩ := hw
  simp only at *
  have hfo : fr op = x.o := by unfold fr frm; rw [hx]; rfl
  have hfo2 := fam_o hx
  rw [← hfo] at hfo2
  unfold encI at h ⊢
  simp only at h ⊢
  generalize hf : fr op = f at *
  have plainOf : ∀ (n' al' of' : Int) (ls' : List Int), blk f = false → n' = n → al' = al → of' = of → ls' = ls → re = 0 → ({ plain op with n := n', al := al', of := of', ls := ls' } : Ins) = ⟨op, n, al, of, re, b, e, ls⟩ ∧ cnt b = 0 ∧ cnt e = 0 := by
    rintro n' al' of' ls' hb rfl rfl rfl rfl hre
    have := alo_nil hal hb
    have hbn := List.eq_nil_of_length_eq_zero this.1
    have hen := List.eq_nil_of_length_eq_zero this.2
    subst hbn hen hre
    exact ⟨rfl, cnt_nil, cnt_nil⟩
  have halo := hal
  unfold alo at halo
  simp only [decide_eq_true_eq] at halo
  have lnil : ¬ f = 8 → ls = [] := fun hh => List.eq_nil_of_length_eq_zero (by omega)
  unfold bnd at hbd
  rcases hfo2 with rfl | rfl | rfl | rfl | rfl | rfl | rfl | rfl | rfl | rfl
  · -- 0
    obtain ⟨q1, q2, q3⟩ := plainOf n al of ls rfl rfl rfl rfl rfl (by omega)
    have : pI (D zs) zs p k nest op = ⟨0, p, k, plain op⟩ := by unfold pI; rw [hf]; rfl
    rw [this, show encF 0 n al of re (enc b) (enc e) e.length ls = [] from rfl, q2, q3]
    have hn : n = 0 := by omega
    have ha : al = 0 := by omega
    have ho : of = 0 := by omega
    have hl := lnil (by omega)
    subst hn ha ho hl
    rw [← q1]; rfl
  · -- 1
    have he : encF 1 n al of re (enc b) (enc e) e.length ls = Leb.bS 10 n := rfl
    rw [he] at h ⊢
    have hr : -2147483648 ≤ n ∧ n ≤ 2147483647 := by simpa using hbd
    obtain ⟨q1, q2, q3⟩ := plainOf n 0 0 [] rfl rfl (by omega) (by omega) (lnil (by omega)).symm (by omega)
    have : pI (D zs) zs p k nest op = (pS zs p 32).on k (plain op) fun a1 v => ⟨0, a1, k, { plain op with n := v }⟩ := by unfold pI; rw [hf]; rfl
    rw [this, pS_back h n0 n1 (.inr ⟨rfl, by omega, by omega⟩), Part.on_ok rfl, q2, q3, ← q1]; rfl
  · -- 2
    have he : encF 2 n al of re (enc b) (enc e) e.length ls = Leb.bS 10 n := rfl
    rw [he] at h ⊢
    obtain ⟨q1, q2, q3⟩ := plainOf n 0 0 [] rfl rfl (by omega) (by omega) (lnil (by omega)).symm (by omega)
    have : pI (D zs) zs p k nest op = (pS zs p 64).on k (plain op) fun a1 v => ⟨0, a1, k, { plain op with n := v }⟩ := by unfold pI; rw [hf]; rfl
    rw [this, pS_back h n0 n1 (.inl rfl), Part.on_ok rfl, q2, q3, ← q1]; rfl
  · -- 3
    have he : encF 3 n al of re (enc b) (enc e) e.length ls = Leb.bU 10 n := rfl
    rw [he] at h ⊢
    have hr : 0 ≤ n ∧ n ≤ 4294967295 := by simpa using hbd
    obtain ⟨q1, q2, q3⟩ := plainOf n 0 0 [] rfl rfl (by omega) (by omega) (lnil (by omega)).symm (by omega)
    have : pI (D zs) zs p k nest op = (pU zs p 4294967295).on k (plain op) fun a1 v => ⟨0, a1, k, { plain op with n := v }⟩ := by unfold pI; rw [hf]; rfl
    rw [this, pU_back h hr.1 (by omega) hr.2, Part.on_ok rfl, q2, q3, ← q1]; rfl
  · -- 4
    have he : encF 4 n al of re (enc b) (enc e) e.length ls = Leb.bU 10 al ++ Leb.bU 10 of := rfl
    rw [he] at h ⊢
    rw [List.append_assoc] at h
    obtain ⟨q1, q2, q3⟩ := plainOf 0 al of [] rfl (by omega) rfl rfl (lnil (by omega)).symm (by omega)
    have : pI (D zs) zs p k nest op = (pU zs p 4294967295).on k (plain op) fun a1 v => (pU zs a1 4294967295).on k (plain op) fun a2 u => ⟨0, a2, k, { plain op with al := v, of := u }⟩ := by unfold pI; rw [hf]; rfl
    rw [this, pU_back h a0 a1 (by omega), Part.on_ok rfl]
    simp only
    rw [pU_back (drop_add h) f0 f1 (by omega), Part.on_ok rfl, q2, q3, ← q1, List.length_append]
    simp only [Out.mk.injEq, true_and, Nat.add_zero]
    exact ⟨by omega, rfl⟩
  · -- 5
    have he : encF 5 n al of re (enc b) (enc e) e.length ls = [0] := rfl
    rw [he] at h ⊢
    obtain ⟨q1, q2, q3⟩ := plainOf 0 0 0 [] rfl (by omega) (by omega) (by omega) (lnil (by omega)).symm (by omega)
    have : pI (D zs) zs p k nest op = (pB zs p jZ).on k (plain op) fun a1 _ => ⟨0, a1, k, plain op⟩ := by unfold pI; rw [hf]; rfl
    rw [this, pB_back h rfl, Part.on_ok rfl, q2, q3, ← q1]; rfl
  · -- 6
    have he : encF 6 n al of re (enc b) (enc e) e.length ls = [kB re] ++ enc b ++ (if 0 < e.length then [5] ++ enc e else []) ++ [11] := rfl
    have hen : e = [] := List.eq_nil_of_length_eq_zero (by omega)
    subst hen
    rw [he] at h ⊢
    simp only [List.length_nil, Nat.lt_irrefl, if_false, List.append_nil, List.append_assoc, List.singleton_append] at h ⊢
    have hr : re = 0 ∨ re = 127 ∨ re = 126 := by simpa using hbd
    obtain ⟨y1, y2⟩ := kV_kB hr
    have hd : zs.drop (p + 1) = enc b ++ 11 :: r := by have := drop_add (a := [kB re]) (by simpa using h); simpa using this
    have hB := hib zs (p + 1) k (nest + 1) false 11 r (hmb rfl).1 (by omega) wb hd (.inl rfl)
    have : pI (D zs) zs p k nest op = (pB zs p jK).on k (plain op) fun a1 c => pK (D zs) a1 k nest op (kV c) := by unfold pI; rw [hf]; rfl
    rw [this, pB_back (by simpa using h) y2, Part.on_ok rfl]
    unfold pK
    simp only
    rw [hf, show decide ((6 : Int) = 7) = false from rfl, hB, Out.on_ok rfl]
    have hn : n = 0 := by omega
    have ha : al = 0 := by omega
    have ho : of = 0 := by omega
    have hl := lnil (by omega)
    subst hn ha ho hl
    rw [y1, cnt_nil]
    simp [plain]; omega
  · -- 7
    have he : encF 7 n al of re (enc b) (enc e) e.length ls = [kB re] ++ enc b ++ (if 0 < e.length then [5] ++ enc e else []) ++ [11] := rfl
    rw [he] at h ⊢
    have hr : re = 0 ∨ re = 127 ∨ re = 126 := by simpa using hbd
    obtain ⟨y1, y2⟩ := kV_kB hr
    have : pI (D zs) zs p k nest op = (pB zs p jK).on k (plain op) fun a1 c => pK (D zs) a1 k nest op (kV c) := by unfold pI; rw [hf]; rfl
    have hn : n = 0 := by omega
    have ha : al = 0 := by omega
    have ho : of = 0 := by omega
    have hl := lnil (by omega)
    subst hn ha ho hl
    by_cases hel : 0 < e.length
    · rw [if_pos hel] at h ⊢
      simp only [List.append_assoc, List.singleton_append, List.cons_append] at h ⊢
      have hd : zs.drop (p + 1) = enc b ++ 5 :: (enc e ++ 11 :: r) := by have := drop_add (a := [kB re]) (by simpa using h); simpa using this
      have hB := hib zs (p + 1) k (nest + 1) true 5 _ (hmb rfl).1 (by omega) wb hd (.inr ⟨rfl, rfl⟩)
      have hd2 : zs.drop (p + 1 + (enc b).length + 1) = enc e ++ 11 :: r := by
        have := drop_add (a := enc b ++ [5]) (r := enc e ++ 11 :: r) (by simpa using hd)
        simpa [Nat.add_assoc] using this
      have hE := hie zs _ (k + cnt b) (nest + 1) false 11 r (hmb rfl).2 (by omega) we hd2 (.inl rfl)
      rw [this, pB_back (by simpa using h) y2, Part.on_ok rfl]
      unfold pK
      simp only
      rw [hf, show decide ((7 : Int) = 7) = true from rfl, hB, Out.on_ok rfl]
      simp only [if_true]
      rw [hE, Out.on_ok rfl, y1]
      simp [plain]; omega
    · have hen : e = [] := List.eq_nil_of_length_eq_zero (by omega)
      subst hen
      simp only [List.length_nil, Nat.lt_irrefl, if_false, List.append_nil, List.append_assoc, List.singleton_append] at h ⊢
      have hd : zs.drop (p + 1) = enc b ++ 11 :: r := by have := drop_add (a := [kB re]) (by simpa using h); simpa using this
      have hB := hib zs (p + 1) k (nest + 1) true 11 r (hmb rfl).1 (by omega) wb hd (.inl rfl)
      rw [this, pB_back (by simpa using h) y2, Part.on_ok rfl]
      unfold pK
      simp only
      rw [hf, show decide ((7 : Int) = 7) = true from rfl, hB, Out.on_ok rfl, y1, cnt_nil]
      simp [plain]; omega
  · -- 8
    have he : encF 8 n al of re (enc b) (enc e) e.length ls = Leb.bU 10 ((ls.length : Int) - 1) ++ ls.flatMap (Leb.bU 10) := rfl
    rw [he] at h ⊢
    rw [List.append_assoc] at h
    have hr : 1 ≤ ls.length ∧ ls.length ≤ 257 := by simpa using hbd
    obtain ⟨q1, q2, q3⟩ := plainOf 0 0 0 ls rfl (by omega) (by omega) (by omega) rfl (by omega)
    have : pI (D zs) zs p k nest op = (pU zs p 256).on k (plain op) fun a1 v => (pL zs (v.toNat + 1) a1 k).on (plain op) fun a2 k2 ls => ⟨0, a2, k2, { plain op with ls := ls }⟩ := by unfold pI; rw [hf]; rfl
    rw [this, pU_back h (by omega) (by omega) (by omega), Part.on_ok rfl]
    simp only
    rw [show ((ls.length : Int) - 1).toNat + 1 = ls.length by omega, pL_back ls _ r (drop_add h) hls, Out.on_ok rfl, q2, q3, ← q1, List.length_append]
    simp only [Out.mk.injEq, true_and, Nat.add_zero]
    exact ⟨by omega, rfl⟩
  · -- 9
    have he : encF 9 n al of re (enc b) (enc e) e.length ls = Leb.bU 10 n ++ [0] := rfl
    rw [he] at h ⊢
    rw [List.append_assoc] at h
    have hr : 0 ≤ n ∧ n ≤ 4294967295 := by simpa using hbd
    obtain ⟨q1, q2, q3⟩ := plainOf n 0 0 [] rfl rfl (by omega) (by omega) (lnil (by omega)).symm (by omega)
    have : pI (D zs) zs p k nest op = (pU zs p 4294967295).on k (plain op) fun a1 v => (pB zs a1 jZ).on k (plain op) fun a2 _ => ⟨0, a2, k, { plain op with n := v }⟩ := by unfold pI; rw [hf]; rfl
    rw [this, pU_back h hr.1 (by omega) hr.2, Part.on_ok rfl]
    simp only
    rw [pB_back (drop_add h) rfl, Part.on_ok rfl, q2, q3, ← q1, List.length_append]
    simp only [Out.mk.injEq, true_and, Nat.add_zero]
    exact ⟨by simp; omega, rfl⟩
theorem back_any (l : List Ins) : BackP l := by
  refine ind (P := BackP) ?_ ?_ l
  · intro zs p k nest me c r hm hk hw h hc
    rw [enc_nil, List.nil_append] at h
    obtain ⟨h1, h2⟩ := drop_len h
    have hJ : jO k nest me c = 0 := by unfold jO; rw [if_pos hc]
    rw [D_eq zs p k nest me (by omega)]
    unfold step
    rw [pB_back h hJ, Part.on_ok rfl, if_pos (by rcases hc with e | e; exact .inl e; exact .inr e.1), cnt_nil, enc_nil]
    rfl
  · intro op n al of re b e ls rest hb he hr zs p k nest me c r hm hk hw h hc
    rw [may_cons, Bool.and_eq_true] at hm
    rw [Wf_cons] at hw
    rw [cnt_cons] at hk ⊢
    rw [enc_cons] at h ⊢
    simp only [List.append_assoc, List.singleton_append] at h
    have hcl := drop_len h
    have hj := jO_ok (k := k) (me := me) hm.1 hw.1.1.1.1 hw.1.1.1.2 (by omega)
    have h1 : zs.drop (p + 1) = encI ⟨op, n, al, of, re, b, e, ls⟩ ++ (enc rest ++ c :: r) := by have := drop_add (a := [op]) (by simpa using h); simpa using this
    have hI := pI_back (i := ⟨op, n, al, of, re, b, e, ls⟩) hb he (p := p + 1) (k := k + 1) hm.1 (by simp only at hk ⊢; omega) hw.1 h1
    have hR := hr zs _ (k + 1 + cnt b + cnt e) nest me c r hm.2 (by simp only at hk; omega) hw.2 (drop_add h1) hc
    rw [D_eq zs p k nest me (by omega)]
    unfold step
    rw [pB_back h hj.1, Part.on_ok rfl, if_neg hj.2]
    simp only at hI ⊢
    rw [hI, Out.on_ok rfl]
    simp only
    rw [hR, Out.on_ok rfl]
    simp only [Out.mk.injEq, true_and, List.length_append, List.length_cons, List.length_nil, and_true]
    omega
end Ex
end Go.Proofs.YtjhmglefejclpaaDoor

/- ExprMany's walk. -/
namespace Go.Proofs.YtjhmglefejclpaaDoor
open Go.RowKit
namespace Ex
set_option linter.unusedVariables false
set_option linter.unusedSimpArgs false

/-- so many plain instructions; so many blocks, one in another, about a list -/
def nops (k : Nat) : List Ins := List.replicate k (plain 1)
def inB (op : Nat → Int) : Nat → List Ins → List Ins
  | 0, l => l
  | d + 1, l => [⟨op d, 0, 0, 0, 0, inB op d l, [], []⟩]
theorem nops_succ (k : Nat) : nops (k + 1) = nops k ++ [plain 1] := by unfold nops; rw [List.replicate_succ']
theorem nops_len (k : Nat) : (nops k).length = k := by simp [nops]
theorem nops_cnt (k : Nat) : cnt (nops k) = k := by
  induction k with
  | zero => exact cnt_nil
  | succ k ih => rw [nops_succ, cnt_app, ih, cnt_cons, cnt_nil]; simp [plain, cnt_nil]
theorem fr1 : fr 1 = 0 ∧ (frm 1).isSome = true := ⟨by kernel_rfl, by kernel_rfl⟩
theorem fr23 : ∀ op : Int, op = 2 ∨ op = 3 → fr op = 6 ∧ (frm op).isSome = true := by rintro op (rfl | rfl) <;> exact ⟨by kernel_rfl, by kernel_rfl⟩
theorem nops_enc (k : Nat) : (enc (nops k)).length = k := by
  induction k with
  | zero => rw [show nops 0 = [] from rfl, enc_nil]; rfl
  | succ k ih =>
    rw [nops_succ, enc_app, enc_cons, enc_nil]
    simp only [List.length_append, List.length_cons, List.length_nil, ih]
    have : encI (plain 1) = [] := by unfold encI encF plain; simp only [fr1.1]; rfl
    rw [this]; rfl
theorem nops_may (k d : Nat) : may d (nops k) = true := may_of fun i hi => by
  obtain rfl := (List.mem_replicate.1 hi).2
  unfold mayI one
  simp only [plain, fr1.1, fr1.2]
  rfl
theorem fit0 (op : Int) (h : 0 ≤ op ∧ op ≤ 255) : fit op 0 0 0 0 [] := ⟨h, by decide, by decide, by decide, by decide, by simp⟩
theorem plain_wf (op : Int) (h : 0 ≤ op ∧ op ≤ 255) : WfI (plain op) := ⟨fit0 op h, Wf_nil, Wf_nil⟩
theorem plain_szI (op : Int) : SzI 1099511627776 (plain op) := ⟨by simp [plain], by simp [plain], by simp [plain], Sz_nil _, Sz_nil _⟩
theorem nops_wf (k : Nat) : Wf (nops k) := Wf_of fun i hi => by obtain rfl := (List.mem_replicate.1 hi).2; exact plain_wf 1 (by decide)
theorem nops_sz (k : Nat) : Sz 1099511627776 (nops k) := Sz_of fun i hi => by obtain rfl := (List.mem_replicate.1 hi).2; exact plain_szI 1
theorem inB_cnt (op : Nat → Int) (l : List Ins) (d : Nat) : cnt (inB op d l) = d + cnt l := by
  induction d with
  | zero => simp [inB]
  | succ d ih => rw [inB, cnt_cons, cnt_nil]; simp only [ih, cnt_nil]; omega
theorem inB_len (op : Nat → Int) (l : List Ins) (d : Nat) : (inB op d l).length ≤ l.length + 1 := by cases d <;> simp [inB]
theorem inB_enc {op : Nat → Int} (hop : ∀ j, op j = 2 ∨ op j = 3) (l : List Ins) (d : Nat) : (enc (inB op d l)).length = 3 * d + (enc l).length := by
  induction d with
  | zero => simp [inB]
  | succ d ih =>
    rw [inB, enc_cons, enc_nil]
    have : encI ⟨op d, 0, 0, 0, 0, inB op d l, [], []⟩ = [kB 0] ++ enc (inB op d l) ++ [] ++ [11] := by unfold encI encF; simp only [(fr23 _ (hop d)).1]; rfl
    rw [this]
    simp only [List.length_append, List.length_cons, List.length_nil, ih]
    omega
theorem inB_may {op : Nat → Int} (hop : ∀ j, op j = 2 ∨ op j = 3) (l : List Ins) (d : Nat) : ∀ e, e + d ≤ 64 → may (e + d) l = true → may e (inB op d l) = true := by
  induction d with
  | zero => intro e _ h; exact h
  | succ d ih =>
    intro e he hl
    rw [inB]
    refine may_of fun i hi => ?_
    obtain rfl := List.mem_singleton.1 hi
    have h1 := ih (e + 1) (by omega) (by rw [show e + 1 + d = e + (d + 1) by omega]; exact hl)
    unfold mayI one
    simp only [(fr23 _ (hop d)).1, (fr23 _ (hop d)).2]
    rw [h1, may_nil]
    simp [bnd, alo, blk]; omega
theorem inB_deep {op : Nat → Int} (hop : ∀ j, op j = 2 ∨ op j = 3) (l : List Ins) (d : Nat) : ∀ e, 64 < e + d → e ≤ 64 → may e (inB op d l) = false := by
  induction d with
  | zero => intro e h1 h2; omega
  | succ d ih =>
    intro e h1 h2
    rw [inB]
    refine may_not (i := ⟨op d, 0, 0, 0, 0, inB op d l, [], []⟩) (by simp) ?_
    unfold mayI
    simp only [(fr23 _ (hop d)).1]
    by_cases he : e < 64
    · rw [ih (e + 1) (by omega) (by omega)]; simp [blk]
    · simp [he, blk]
theorem inB_wf {op : Nat → Int} (hop : ∀ j, op j = 2 ∨ op j = 3) {l : List Ins} (d : Nat) (h : Wf l) : Wf (inB op d l) := by
  induction d with
  | zero => exact h
  | succ d ih =>
    rw [inB, Wf_cons]
    exact ⟨⟨fit0 (op d) (by rcases hop d with e | e <;> rw [e] <;> decide), ih, Wf_nil⟩, Wf_nil⟩
theorem inB_sz {op : Nat → Int} {l : List Ins} (d : Nat) (h : Sz 1099511627776 l) (hl : l.length ≤ 1000) : Sz 1099511627776 (inB op d l) := by
  induction d with
  | zero => exact h
  | succ d ih =>
    rw [inB, Sz_cons]
    have := inB_len op l d
    exact ⟨⟨by simp only; omega, by simp, by simp, ih, Sz_nil _⟩, Sz_nil _⟩
/-- decoded as itself -/
theorem D_back {l : List Ins} (h : mayB l = true) (hw : Wf l) (r : List Int) : D (enc l ++ [11] ++ r) 0 0 0 false = ⟨0, (enc l).length + 1, cnt l, (l, 11)⟩ := by
  have := mayB_parts h
  have hb := back_any l (enc l ++ [11] ++ r) 0 0 0 false 11 r this.2 (by omega) hw (by simp) (.inl rfl)
  rw [hb]; simp

theorem D_back0 {l : List Ins} (h : mayB l = true) (hw : Wf l) : D (enc l ++ [11]) 0 0 0 false = ⟨0, (enc l).length + 1, cnt l, (l, 11)⟩ := by
  have := D_back h hw []
  rwa [List.append_nil] at this
theorem two23 (j : Nat) : (fun _ : Nat => (2 : Int)) j = 2 ∨ (fun _ : Nat => (2 : Int)) j = 3 := .inl rfl

set_option maxRecDepth 100000 in
set_option maxHeartbeats 6400000 in
theorem many_walk (n deep : Int) (w : World) (hT : Tb w) (hE : ErrT w) (K Dp : Nat) (eK : (IntKind.u64.wrap n).tmod 200 = (K : Int)) (hK : K < 200) (eD : (IntKind.u64.wrap deep).tmod 60 = (Dp : Int)) (hD : Dp < 60) :
    Calls Tryd.prog 8 #[.int .i64 n, .int .i64 deep] w fun e w' => e = .returned (.bool true) ∧ Below w.heap.size w w' := by
  obtain ⟨i0, hi, hz0, hz1, hz2⟩ := info_parts infoI
  have HT := hide hT; have HE := hide hE
  clear hT hE
  go_enter Tryd.func8, Tryd.ntmps8
  go_wp2_with fail
  generalize hB : w.heap.size = B at *
  have HB := hide hB; clear hB
  go_loopw [7, 8] (fun s c wr => ∃ j : Nat, c = .int .i64 j ∧ (j : Int) ≤ K ∧ OwnC wr B (fun _ => True) s (nops j) ∧ Below B w wr ∧ B ≤ wr.heap.size) (fun _ c _ => K - (intOf c).toNat)
  case atStart => exact ⟨0, rfl, by omega, OwnC_nil _ _ _, Below.refl _ _, by have := unhide HB; omega⟩
  case round =>
    obtain ⟨j, rfl, hj, hown, hbel, hlt⟩ := hrel
    by_cases hjk : (j : Int) < K
    · obtain ⟨sa, sc, rfl, _⟩ := hown.shape
      have hlow := hown.lt
      obtain ⟨xs, hxo, hit⟩ := hown.below (one_alloc wr (.cells (cel (plain 1) (.slice none 0 0) (.slice none 0 0) (.slice none 0 0)).toArray 50))
      have HXo := hide hxo; have HIt := hide hit; have HBel := hide hbel; have HLt := hide hlt; have HLow := hide hlow
      clear hown hxo hit hbel hlt hlow
      rw [nops_len] at HXo HIt HLow
      rw [nops_len]
      go_wp2_with (at_builtin; refine wpList_append_lies _ rfl (.tmp 28) (.tmp 30) 25 rfl B 50 i0 (.agg #[.int .u8 0, .int .i64 0, .int .u32 0, .int .u32 0, .int .u8 0, .slice none 0 0, .slice none 0 0, .slice none 0 0]) 8 104 Tryd.underlying25 hi hz0 hz1 hz2 rfl (by decide) (.slice sa j sc) j xs rfl (unhide HXo) ⟨wr.heap.size, 0, none⟩ 1 1 (cel (plain 1) (.slice none 0 0) (.slice none 0 0) (.slice none 0 0)) rfl rfl ?c1 ?c2 (by omega) ?c3 ?c4 ?c5 (wr.heap.size + 1) ?c6 ?_)
      case c1 => exact new_cel wr _ _ _ _ _
      case c2 => exact cel_one _ ⟨_, _, _, rfl⟩ ⟨_, _, _, rfl⟩ ⟨_, _, _, rfl⟩
      case c3 => unfold maxLen; omega
      case c4 => omega
      case c5 => have := unhide HLt; simp; omega
      case c6 => simp
      intro g capn w6 hown6 hgrow hat6 hlt6
      have hsn := OwnC.snoc (l := nops j) (v := .slice sa j sc) (i := plain 1) (vb := .slice none 0 0) (ve := .slice none 0 0) (vl := .slice none 0 0) (G := fun _ => True) (by rw [nops_len]; exact unhide HXo) (unhide HIt) (Code_nil _ _) (Code_nil _ _) (Labs_nil _ _) (by rw [nops_len]; exact hown6) hgrow hat6 (by simp)
      rw [← nops_succ, nops_len] at hsn
      have hb6 : Below B w w6 := ((unhide HBel).alloc (unhide HLt) _).grown hgrow (by have := unhide HLt; simp; omega) (fun k hk => (unhide HLow k hk).1)
      have HSn := hide hsn; have HB6 := hide hb6; have HS6 := hide (show B ≤ w6.heap.size by have := hgrow.size; have := unhide HLt; simp at *; omega)
      clear hsn hb6 hown6 hgrow hat6 hlt6
      go_wp2
      go_roundw
      case rel => exact ⟨j + 1, by go_num, by omega, unhide HSn, unhide HB6, unhide HS6⟩
      case measure => simp [intOf]; omega
    · obtain rfl : j = K := by omega
      have HC0 := hide (hown.code (g' := fun _ => True) (fun _ _ _ => trivial)); have HBel := hide hbel; have HLt := hide hlt
      obtain ⟨sa, sc, rfl, _⟩ := hown.shape
      clear hown hbel hlt hj hjk
      go_wp2_with fail
      go_loopw [7, 9] (fun s c wr2 => ∃ q : Nat, c = .int .i64 q ∧ (q : Int) ≤ Dp ∧ Code wr2 (fun _ => True) (inB (fun _ => 2) q (nops j)) s ∧ Below B w wr2 ∧ B ≤ wr2.heap.size) (fun _ c _ => Dp - (intOf c).toNat)
      case atStart => exact ⟨0, rfl, by omega, unhide HC0, unhide HBel, unhide HLt⟩
      case round =>
        clear HC0 HBel HLt
        obtain ⟨q, rfl, hq, hcode, hbel, hlt⟩ := hrel
        have HC := hide hcode
        obtain ⟨ra, rc, rfl, _⟩ := hcode
        by_cases hqd : (q : Int) < Dp
        · have g0 := one_alloc wr (.cells #[.int .u8 2, .int .i64 0, .int .u32 0, .int .u32 0, .int .u8 0, .slice ra (inB (fun _ => 2) q (nops j)).length rc, .slice none 0 0, .slice none 0 0] 50)
          have b0 := box1 wr (.int .u8 2) (.int .i64 0) (.int .u32 0) (.int .u32 0) (.int .u8 0) (.slice ra (inB (fun _ => 2) q (nops j)).length rc) (.slice none 0 0) (.slice none 0 0)
          have hn := Code_one (g := fun _ => True) (c := 1) (i := ⟨2, 0, 0, 0, 0, inB (fun _ => 2) q (nops j), [], []⟩) b0 trivial (by omega) ((unhide HC).below g0) (Code_nil _ _) (Labs_nil _ _)
          have HN := hide hn; have HB2 := hide (hbel.alloc hlt (.cells #[.int .u8 2, .int .i64 0, .int .u32 0, .int .u32 0, .int .u8 0, .slice ra (inB (fun _ => 2) q (nops j)).length rc, .slice none 0 0, .slice none 0 0] 50)); have HL2 := hide (show B ≤ (wr.alloc (.cells #[.int .u8 2, .int .i64 0, .int .u32 0, .int .u32 0, .int .u8 0, .slice ra (inB (fun _ => 2) q (nops j)).length rc, .slice none 0 0, .slice none 0 0] 50)).heap.size by simp; omega)
          clear hn g0 b0 hbel hlt HC hq
          generalize hLL : (inB (fun _ => 2) q (nops j)).length = LL at *
          clear hLL
          go_wp2
          go_roundw
          case rel => exact ⟨q + 1, by go_num, by omega, unhide HN, unhide HB2, unhide HL2⟩
          case measure => simp [intOf]; omega
        · obtain rfl : q = Dp := by omega
          have hcnt := inB_cnt (fun _ => 2) (nops j) q
          have hen := inB_enc two23 (nops j) q
          have hmay := inB_may two23 (nops j) q 0 (by omega) (nops_may _ _)
          have hwf := inB_wf two23 (l := nops j) q (nops_wf j)
          have hsz := inB_sz (op := fun _ => 2) (l := nops j) q (nops_sz j) (by rw [nops_len]; omega)
          have hll := inB_len (fun _ => 2) (nops j) q
          rw [nops_cnt] at hcnt
          rw [nops_enc] at hen
          rw [nops_len] at hll
          generalize inB (fun _ => 2) q (nops j) = l at *
          have hmB : mayB l = true := mayB_of (by omega) hmay
          have hb0 : Below w.heap.size w wr := by rw [unhide HB]; exact hbel
          have hTr := (unhide HT).below hb0
          have hEn := encode_any l (unhide HC) hTr (by omega) hsz hwf
          have hDb := D_back0 hmB hwf
          rw [hen, hcnt] at hDb
          have HEn := hide hEn; have HDb := hide hDb; have HMB := hide hmB; have HB0 := hide hb0; have HSz := hide hsz; have HCn := hide hcnt; have HEl := hide hen; have HLl := hide hll
          clear hEn hDb hmB hb0 hsz hcnt hen hmay hwf hTr hll hbel hlt hq hqd
          generalize hLL : l.length = LL at *
          have HLL := hide hLL; clear hLL
          go_wp2_with fail
          refine (unhide HEn).mono ?_
          rintro e w1 ⟨ba, bl, bc, rfl, hb1, hok, _⟩
          rw [unhide HMB, if_pos rfl, errV_0]
          have hbs := hok (unhide HMB)
          have hbl : bl = j + 3 * q + 1 := by have := hbs.row.1; rw [List.length_append, unhide HEl] at this; simp at this; omega
          subst hbl
          have hB1 := Below.on (unhide HB0) hb1
          have hDe := decode_any hbs ((unhide HT).below hB1)
          rw [unhide HDb] at hDe
          have HDe := hide hDe; have HB1 := hide hB1; have HC1 := hide ((unhide HC).below hb1)
          clear hok hbs hb1 hB1 hDe HC HEn
          go_wp2_with fail
          refine (unhide HDe).mono ?_
          rintro e w2 ⟨v, rfl, ⟨va, vl, vc, rfl⟩, hb2, hcode, _⟩
          have hc2 := hcode rfl
          simp only at hc2
          rw [show errV (⟨0, 3 * q + j + 1, q + j, (l, 11)⟩ : Out (List Ins × Int)).e = .nilIface from errV_0]
          have HX := hide hc2; have HC2 := hide ((unhide HC1).below hb2); have HB2 := hide (Below.on (unhide HB1) hb2)
          clear hb2 hcode hc2 HC1 HB1 HDe
          simp only
          rw [show (((3 * q + j + 1 : Nat)) : Int) = (j : Int) + 3 * q + 1 by omega]
          go_wp2_with fail
          refine (count_any l _ _ _ (unhide HC2) (by have := unhide HCn; omega)).mono ?_
          rintro e w3 ⟨rfl, hb3⟩
          rw [show (((cnt l : Nat)) : Int) = (j : Int) + q by have := unhide HCn; omega]
          have HX3 := hide ((unhide HX).below hb3); have HC3 := hide ((unhide HC2).below hb3); have HB3 := hide (Below.on (unhide HB2) hb3)
          clear hb3 HX HC2 HB2
          go_wp2_with fail
          refine (same_any l l _ _ _ _ _ (unhide HX3) (unhide HC3) (by have := unhide HLl; have := unhide HLL; omega) (unhide HSz) (by have := unhide HLl; have := unhide HLL; omega) (unhide HSz)).mono ?_
          rintro e w4 ⟨rfl, hb4⟩
          rw [same_refl]
          have HB4 := hide (Below.on (unhide HB3) hb4)
          clear hb4 HX3 HC3 HB3
          go_wp2_with fail
          refine (sure_any _ ((unhide HT).below (unhide HB4)) ((unhide HE).below (Nat.le_refl _) (unhide HB4))).mono ?_
          rintro e w5 ⟨rfl, hb5⟩
          have HB5 := hide (Below.on (unhide HB4) hb5)
          clear hb5
          go_wp2
          go_ret
          exact ⟨rfl, unhide HB5⟩
end Ex
end Go.Proofs.YtjhmglefejclpaaDoor
