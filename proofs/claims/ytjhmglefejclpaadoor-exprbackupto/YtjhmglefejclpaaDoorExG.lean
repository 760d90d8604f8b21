/- The checker's inBounds and hasNoMore. -/
import Derived.Test.YtjhmglefejclpaaDoorExK
namespace Go.Proofs.YtjhmglefejclpaaDoor
open Go.RowKit
namespace Ex
set_option linter.unusedVariables false
set_option linter.unusedSimpArgs false

set_option maxRecDepth 100000 in
set_option maxHeartbeats 1600000 in
theorem inb_any (op n al of re : Int) (b e l : Option Addr) (lb cb le ce ll cl : Nat) (f : Int) (w : World) (hf : f = 0 ∨ f = 1 ∨ f = 2 ∨ f = 3 ∨ f = 4 ∨ f = 5 ∨ f = 6 ∨ f = 7 ∨ f = 8 ∨ f = 9) (hll : ll ≤ 1099511627776) :
    Calls Tryd.prog 60 #[.agg #[.int .u8 op, .int .i64 n, .int .u32 al, .int .u32 of, .int .u8 re, .slice b lb cb, .slice e le ce, .slice l ll cl], .int .i64 f] w fun r w' => r = .returned (.bool (bnd f n re ll)) ∧ Below w.heap.size w w' := by
  rcases hf with rfl | rfl | rfl | rfl | rfl | rfl | rfl | rfl | rfl | rfl
  · go_enter Tryd.func60, Tryd.ntmps60
    go_wp2
    go_ret
    exact ⟨ret_bool (by simp [bnd]), one_alloc _ _⟩
  · by_cases h1 : (-2147483648 : Int) ≤ n
    · by_cases h2 : n ≤ 2147483647
      · have HB := hide (show bnd 1 n re ll = true by simp [bnd]; try omega)
        go_enter Tryd.func60, Tryd.ntmps60
        go_wp2
        go_ret
        exact ⟨ret_bool (unhide HB).symm, one_alloc _ _⟩
      · have HB := hide (show bnd 1 n re ll = false by simp [bnd]; try omega)
        go_enter Tryd.func60, Tryd.ntmps60
        go_wp2
        go_ret
        exact ⟨ret_bool (unhide HB).symm, one_alloc _ _⟩
    · have HB := hide (show bnd 1 n re ll = false by simp [bnd]; try omega)
      go_enter Tryd.func60, Tryd.ntmps60
      go_wp2
      go_ret
      exact ⟨ret_bool (unhide HB).symm, one_alloc _ _⟩
  · go_enter Tryd.func60, Tryd.ntmps60
    go_wp2
    go_ret
    exact ⟨ret_bool (by simp [bnd]), one_alloc _ _⟩
  · by_cases h1 : (0 : Int) ≤ n
    · by_cases h2 : n ≤ 4294967295
      · have HB := hide (show bnd 3 n re ll = true by simp [bnd]; try omega)
        go_enter Tryd.func60, Tryd.ntmps60
        go_wp2
        go_ret
        exact ⟨ret_bool (unhide HB).symm, one_alloc _ _⟩
      · have HB := hide (show bnd 3 n re ll = false by simp [bnd]; try omega)
        go_enter Tryd.func60, Tryd.ntmps60
        go_wp2
        go_ret
        exact ⟨ret_bool (unhide HB).symm, one_alloc _ _⟩
    · have HB := hide (show bnd 3 n re ll = false by simp [bnd]; try omega)
      go_enter Tryd.func60, Tryd.ntmps60
      go_wp2
      go_ret
      exact ⟨ret_bool (unhide HB).symm, one_alloc _ _⟩
  · go_enter Tryd.func60, Tryd.ntmps60
    go_wp2
    go_ret
    exact ⟨ret_bool (by simp [bnd]), one_alloc _ _⟩
  · go_enter Tryd.func60, Tryd.ntmps60
    go_wp2
    go_ret
    exact ⟨ret_bool (by simp [bnd]), one_alloc _ _⟩
  · by_cases h1 : re = 0
    · subst h1
      go_enter Tryd.func60, Tryd.ntmps60
      go_wp2
      go_ret
      exact ⟨ret_bool (by simp [bnd]), one_alloc _ _⟩
    · by_cases h2 : re = 127
      · subst h2
        go_enter Tryd.func60, Tryd.ntmps60
        go_wp2
        go_ret
        exact ⟨ret_bool (by simp [bnd]), one_alloc _ _⟩
      · by_cases h3 : re = 126
        · subst h3
          go_enter Tryd.func60, Tryd.ntmps60
          go_wp2
          go_ret
          exact ⟨ret_bool (by simp [bnd]), one_alloc _ _⟩
        · have t1 : (re == 0) = false := by simpa using h1
          have t2 : (re == 127) = false := by simpa using h2
          have t3 : (re == 126) = false := by simpa using h3
          have hb : bnd 6 n re ll = false ∧ bnd 7 n re ll = false := by simp [bnd, h1, h2, h3]
          have HB := hide hb
          clear h1 h2 h3 hb
          go_enter Tryd.func60, Tryd.ntmps60
          go_wp2
          go_ret
          exact ⟨ret_bool (by first | exact (unhide HB).1.symm | exact (unhide HB).2.symm), one_alloc _ _⟩
  · by_cases h1 : re = 0
    · subst h1
      go_enter Tryd.func60, Tryd.ntmps60
      go_wp2
      go_ret
      exact ⟨ret_bool (by simp [bnd]), one_alloc _ _⟩
    · by_cases h2 : re = 127
      · subst h2
        go_enter Tryd.func60, Tryd.ntmps60
        go_wp2
        go_ret
        exact ⟨ret_bool (by simp [bnd]), one_alloc _ _⟩
      · by_cases h3 : re = 126
        · subst h3
          go_enter Tryd.func60, Tryd.ntmps60
          go_wp2
          go_ret
          exact ⟨ret_bool (by simp [bnd]), one_alloc _ _⟩
        · have t1 : (re == 0) = false := by simpa using h1
          have t2 : (re == 127) = false := by simpa using h2
          have t3 : (re == 126) = false := by simpa using h3
          have hb : bnd 6 n re ll = false ∧ bnd 7 n re ll = false := by simp [bnd, h1, h2, h3]
          have HB := hide hb
          clear h1 h2 h3 hb
          go_enter Tryd.func60, Tryd.ntmps60
          go_wp2
          go_ret
          exact ⟨ret_bool (by first | exact (unhide HB).1.symm | exact (unhide HB).2.symm), one_alloc _ _⟩
  · by_cases h1 : (1 : Int) ≤ (ll : Int)
    · by_cases h2 : (ll : Int) ≤ 257
      · have hb : bnd 8 n re ll = true := by simp [bnd]; omega
        have HB := hide hb; clear hb
        go_enter Tryd.func60, Tryd.ntmps60
        go_wp2
        go_ret
        exact ⟨ret_bool (unhide HB).symm, one_alloc _ _⟩
      · have hb : bnd 8 n re ll = false := by simp [bnd]; omega
        have HB := hide hb; clear hb
        go_enter Tryd.func60, Tryd.ntmps60
        go_wp2
        go_ret
        exact ⟨ret_bool (unhide HB).symm, one_alloc _ _⟩
    · have hb : bnd 8 n re ll = false := by simp [bnd]; omega
      have HB := hide hb; clear hb
      go_enter Tryd.func60, Tryd.ntmps60
      go_wp2
      go_ret
      exact ⟨ret_bool (unhide HB).symm, one_alloc _ _⟩
  · by_cases h1 : (0 : Int) ≤ n
    · by_cases h2 : n ≤ 4294967295
      · have HB := hide (show bnd 9 n re ll = true by simp [bnd]; try omega)
        go_enter Tryd.func60, Tryd.ntmps60
        go_wp2
        go_ret
        exact ⟨ret_bool (unhide HB).symm, one_alloc _ _⟩
      · have HB := hide (show bnd 9 n re ll = false by simp [bnd]; try omega)
        go_enter Tryd.func60, Tryd.ntmps60
        go_wp2
        go_ret
        exact ⟨ret_bool (unhide HB).symm, one_alloc _ _⟩
    · have HB := hide (show bnd 9 n re ll = false by simp [bnd]; try omega)
      go_enter Tryd.func60, Tryd.ntmps60
      go_wp2
      go_ret
      exact ⟨ret_bool (unhide HB).symm, one_alloc _ _⟩

/-- one instruction in a block of its own -/
theorem Code_one {w : World} {g : Nat → Prop} {Q c : Nat} {i : Ins} {vb ve vl : Value} (hb : Bx w Q (.int .u8 i.op) (.int .i64 i.n) (.int .u32 i.al) (.int .u32 i.of) (.int .u8 i.re) vb ve vl) (hg : g Q) (hc : 1 ≤ c) (h1 : Code w g i.body vb) (h2 : Code w g i.els ve) (h3 : Lies g i.ls.length (Lab w i.ls) vl) :
    Code w g [i] (.slice (some ⟨Q, 0, none⟩) 1 c) := by
  refine ⟨_, c, rfl, hc, by simp, fun _ => ⟨Q, 0, rfl, hg, ?_⟩⟩
  rw [Items_cons]
  obtain ⟨c0, c1, c2, c3, c4, c5, c6, c7⟩ := hb.cs
  exact ⟨⟨vb, ve, vl, ⟨c0, c1, c2, c3, c4, c5, c6, c7⟩, h1, h2, h3⟩, Items_nil _ _ _ _⟩
theorem same_one (i j : Ins) : same [i] [j] = sameI i j := by rw [same_cons, same_nil, Bool.and_true]
theorem same_nil_r (l : List Ins) : same l [] = (l.length == 0) := by
  cases l with
  | nil => rw [same_nil]; rfl
  | cons x r => rw [same_ne (by simp)]; rfl
theorem ls_nil_r (l : List Int) : (l == []) = (l.length == 0) := by cases l <;> rfl
/-- what hasNoMore leaves of an instruction -/
def bare (f : Int) (i : Ins) : Ins :=
  if f = 1 ∨ f = 2 ∨ f = 3 ∨ f = 9 then { i with n := 0 } else if f = 4 then { i with al := 0, of := 0 } else if f = 8 then { i with ls := [] }
  else if f = 7 then { i with els := [], re := 0, body := [] } else if f = 6 then { i with re := 0, body := [] } else i
theorem bare_alo (f : Int) (i : Ins) : same [bare f i] [plain i.op] = alo f i.n i.al i.of i.re i.body.length i.els.length i.ls.length := by
  rw [same_one, Bool.eq_iff_iff]
  obtain ⟨op, n, al, of, re, bo, el, ls⟩ := i
  unfold bare
  split
  · simp only [sameI, plain, alo, same_nil_r, ls_nil_r, Bool.and_eq_true, beq_iff_eq, decide_eq_true_eq]; (try simp only [true_and, and_true, List.length_nil]); constructor <;> intro h <;> omega
  · split
    · simp only [sameI, plain, alo, same_nil_r, ls_nil_r, Bool.and_eq_true, beq_iff_eq, decide_eq_true_eq]; (try simp only [true_and, and_true, List.length_nil]); constructor <;> intro h <;> omega
    · split
      · simp only [sameI, plain, alo, same_nil_r, ls_nil_r, Bool.and_eq_true, beq_iff_eq, decide_eq_true_eq]; (try simp only [true_and, and_true, List.length_nil]); constructor <;> intro h <;> omega
      · split
        · simp only [sameI, plain, alo, same_nil_r, ls_nil_r, Bool.and_eq_true, beq_iff_eq, decide_eq_true_eq]; (try simp only [true_and, and_true, List.length_nil]); constructor <;> intro h <;> omega
        · split
          · simp only [sameI, plain, alo, same_nil_r, ls_nil_r, Bool.and_eq_true, beq_iff_eq, decide_eq_true_eq]; (try simp only [true_and, and_true, List.length_nil]); constructor <;> intro h <;> omega
          · simp only [sameI, plain, alo, same_nil_r, ls_nil_r, Bool.and_eq_true, beq_iff_eq, decide_eq_true_eq]; (try simp only [true_and, and_true, List.length_nil]); constructor <;> intro h <;> omega
end Ex
end Go.Proofs.YtjhmglefejclpaaDoor
