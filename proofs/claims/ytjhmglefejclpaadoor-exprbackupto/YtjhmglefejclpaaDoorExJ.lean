/- The reader's list where something was wrong already; bodies; instr of the forms of blocks. -/
import Derived.Test.YtjhmglefejclpaaDoorExI
import Derived.Deep.LoopGhost
namespace Go.Proofs.YtjhmglefejclpaaDoor
open Go.RowKit
namespace Ex
set_option linter.unusedVariables false

/-- what the list's closure holds -/
structure LBox (w : World) (S N nest : Nat) (me : Bool) : Prop where
  x0 : w.heap[S]? = some (.cells #[.pointer (some ⟨N, 0, none⟩)] 102 (0, 0))
  x1 : w.heap[S + 1]? = some (.cells #[.int .i64 nest] 3 (0, 0))
  x2 : w.heap[S + 2]? = some (.cells #[.bool me] 4 (0, 0))
namespace LBox
variable {w : World} {S N nest : Nat} {me : Bool}
theorem c0 (h : LBox w S N nest me) : w.cell? ⟨S, 0, none⟩ = some (.pointer (some ⟨N, 0, none⟩)) := cell_of_row w S 0 _ _ _ h.x0
theorem c1 (h : LBox w S N nest me) : w.cell? ⟨S + 1, 0, none⟩ = some (.int .i64 nest) := cell_of_row w (S + 1) 0 _ _ _ h.x1
theorem c2 (h : LBox w S N nest me) : w.cell? ⟨S + 2, 0, none⟩ = some (.bool me) := cell_of_row w (S + 2) 0 _ _ _ h.x2
theorem keep (h : LBox w S N nest me) {w' : World} (hk : ∀ k, S ≤ k → k < S + 3 → w'.heap[k]? = w.heap[k]?) : LBox w' S N nest me :=
  ⟨(hk S (by omega) (by omega)).trans h.x0, (hk (S + 1) (by omega) (by omega)).trans h.x1, (hk (S + 2) (by omega) (by omega)).trans h.x2⟩
theorem lt (h : LBox w S N nest me) : S + 2 < w.heap.size := (Array.getElem?_eq_some_iff.1 h.x2).1
theorem tn (h : LBox w S N nest me) {w' : World} (ht : Tn N w w') (hN : N < S) : LBox w' S N nest me :=
  h.keep fun k h1 h2 => ht.block k (by have := h.lt; omega) (fun e => by cases e; omega)
theorem below (h : LBox w S N nest me) {w' : World} (hb : Below w.heap.size w w') : LBox w' S N nest me := h.keep fun k h1 h2 => hb.block k (by have := h.lt; omega)
end LBox
theorem three_boxes (w : World) (N nest : Nat) (me : Bool) :
    Below w.heap.size w (((w.alloc (.cells #[.pointer (some ⟨N, 0, none⟩)] 102)).alloc (.cells #[.int .i64 nest] 3)).alloc (.cells #[.bool me] 4)) ∧
    LBox (((w.alloc (.cells #[.pointer (some ⟨N, 0, none⟩)] 102)).alloc (.cells #[.int .i64 nest] 3)).alloc (.cells #[.bool me] 4)) w.heap.size N nest me ∧
    (((w.alloc (.cells #[.pointer (some ⟨N, 0, none⟩)] 102)).alloc (.cells #[.int .i64 nest] 3)).alloc (.cells #[.bool me] 4)).heap.size = w.heap.size + 3 := by
  refine ⟨Below.on (two_allocs _ _ _) (one_alloc _ _), ⟨?_, ?_, ?_⟩, by simp⟩
  · exact ((Below.on (one_alloc _ _) (one_alloc _ _)).block w.heap.size (by simp)).trans (heap_alloc_new w _)
  · have h1 := heap_alloc_new (w.alloc (.cells #[.pointer (some ⟨N, 0, none⟩)] 102)) (.cells #[.int .i64 nest] 3)
    have h2 : (w.alloc (.cells #[.pointer (some ⟨N, 0, none⟩)] 102)).heap.size = w.heap.size + 1 := by simp
    rw [h2] at h1
    exact ((one_alloc _ _).block (w.heap.size + 1) (by simp)).trans h1
  · have h1 := heap_alloc_new ((w.alloc (.cells #[.pointer (some ⟨N, 0, none⟩)] 102)).alloc (.cells #[.int .i64 nest] 3)) (.cells #[.bool me] 4)
    have h2 : ((w.alloc (.cells #[.pointer (some ⟨N, 0, none⟩)] 102)).alloc (.cells #[.int .i64 nest] 3)).heap.size = w.heap.size + 2 := by simp
    rw [h2] at h1
    exact h1

set_option maxRecDepth 100000 in
set_option maxHeartbeats 1600000 in
theorem list_err {N len cap p k nest : Nat} {a : Option Addr} {zs : List Int} {er : Int} {me : Bool} {w : World} (h : Rd w N a len cap zs p k er) (he : ¬ er = 0) :
    Calls Tryd.prog 35 #[.pointer (some ⟨N, 0, none⟩), .int .i64 nest, .bool me] w fun e w' => e = .returned (.tuple #[.slice none 0 0, .int .u8 0]) ∧ Rd w' N a len cap zs p k er ∧ Tn N w w' := by
  have HR := hide h; have HE := hide he; have HN := hide h.lt; clear h he
  go_enter Tryd.func35, Tryd.ntmps35
  go_wp2_with fail
  obtain ⟨hb0, hbx, hz⟩ := three_boxes w N nest me
  generalize ((w.alloc (.cells #[.pointer (some ⟨N, 0, none⟩)] 102)).alloc (.cells #[.int .i64 nest] 3)).alloc (.cells #[.bool me] 4) = w2 at *
  have hr := (unhide HR).below hb0
  have HR2 := hide hr; have HT2 := hide (Tn.of (N := N) hb0); have HX := hide hbx
  clear hr hb0 hbx hz HR
  generalize hS : w.heap.size = S at *
  go_loopw [8] (fun s wr => s = .slice none 0 0 ∧ wr = w2) (fun _ _ => 0)
  case atStart => exact ⟨rfl, rfl⟩
  case round =>
    obtain ⟨rfl, rfl⟩ := hrel
    have q0 := (unhide HX).c0; have q1 := (unhide HX).c1; have q2 := (unhide HX).c2
    go_wp2_with fail
    refine (obO_err (nest := nest) (me := me) (unhide HR2) (unhide HE)).mono ?_
    rintro e w3 ⟨rfl, hr3, ht3⟩
    have hx := (unhide HX).tn ht3 (by have := unhide HN; omega)
    have q0 := hx.c0
    have c3 := hr3.c3
    rw [errV_pos (unhide HE)] at c3
    have HR3 := hide hr3; have HT3 := hide (Tn.on (unhide HT2) ht3)
    clear hr3 ht3 hx q1 q2
    go_wp2
    go_ret2
    exact ⟨rfl, unhide HR3, unhide HT3⟩
theorem bod_err {N len cap p k nest : Nat} {a : Option Addr} {zs : List Int} {er : Int} {me : Bool} {w : World} (h : Rd w N a len cap zs p k er) (he : ¬ er = 0) :
    Calls Tryd.prog 70 #[.pointer (some ⟨N, 0, none⟩), .int .i64 nest, .bool me] w fun e w' => e = .returned (.tuple #[.slice none 0 0, .slice none 0 0]) ∧ Rd w' N a len cap zs p k er ∧ Tn N w w' := by
  have hl := list_err (nest := nest) (me := me) h he
  have HL := hide hl; clear hl h he
  go_enter Tryd.func70, Tryd.ntmps70
  go_wp2_with fail
  refine (unhide HL).mono ?_
  rintro e w1 ⟨rfl, hb⟩
  have HB := hide hb; clear hb
  go_wp2
  go_ret2
  exact ⟨rfl, unhide HB⟩

/-- how list comes back -/
def ListPost (w : World) (N : Nat) (a : Option Addr) (len cap : Nat) (zs : List Int) (R : Out (List Ins × Int)) (e : Ending) (w' : World) : Prop :=
  ∃ (v : Value) (c : Int), e = .returned (.tuple #[v, .int .u8 c]) ∧ IsSl v ∧ Rd w' N a len cap zs R.at_ R.k R.e ∧ Tn N w w' ∧ (R.e = 0 → c = R.v.2 ∧ Code w' (w.heap.size ≤ ·) R.v.1 v) ∧ (¬ R.e = 0 → c = 0)
def ListP (m : Nat) : Prop := ∀ (N len cap p k nest : Nat) (a : Option Addr) (zs : List Int) (me : Bool) (w : World), Rd w N a len cap zs p k 0 → Tb w → nest ≤ 64 → len - p < m →
  Calls Tryd.prog 35 #[.pointer (some ⟨N, 0, none⟩), .int .i64 nest, .bool me] w (ListPost w N a len cap zs (D zs p k nest me))
/-- a body, and an else -/
def pO (zs : List Int) (p k nest : Nat) (me : Bool) : Out (List Ins × List Ins) :=
  (D zs p k nest me).on ([], []) fun a2 k2 x => if x.2 = 5 then (D zs a2 k2 nest false).on ([], []) fun a3 k3 y => ⟨0, a3, k3, (x.1, y.1)⟩ else ⟨0, a2, k2, (x.1, [])⟩
def BodPost (w : World) (N : Nat) (a : Option Addr) (len cap : Nat) (zs : List Int) (R : Out (List Ins × List Ins)) (e : Ending) (w' : World) : Prop :=
  ∃ (vb ve : Value), e = .returned (.tuple #[vb, ve]) ∧ IsSl vb ∧ IsSl ve ∧ Rd w' N a len cap zs R.at_ R.k R.e ∧ Tn N w w' ∧ (R.e = 0 → Code w' (w.heap.size ≤ ·) R.v.1 vb ∧ Code w' (w.heap.size ≤ ·) R.v.2 ve)

set_option maxRecDepth 100000 in
set_option maxHeartbeats 1600000 in
theorem bod_any {m : Nat} (ih : ListP m) {N len cap p k nest : Nat} {a : Option Addr} {zs : List Int} {me : Bool} {w : World} (h : Rd w N a len cap zs p k 0) (hT : Tb w) (hn : nest ≤ 64) (hm : len - p < m) :
    Calls Tryd.prog 70 #[.pointer (some ⟨N, 0, none⟩), .int .i64 nest, .bool me] w (BodPost w N a len cap zs (pO zs p k nest me)) := by
  have hl := ih N len cap p k nest a zs me w h hT hn hm
  have hbd := D_bd zs p k nest me (by rw [h.zlen]; exact h.at_)
  have hzl := h.zlen
  unfold pO
  generalize D zs p k nest me = R at *
  have HL := hide hl; have HT := hide hT; have HR := hide h; clear hl hT h
  by_cases he : R.e = 0
  · rw [Out.on_ok he]
    by_cases h5 : R.v.2 = 5
    · rw [if_pos h5]
      have hl2 := fun (wx : World) (h2 : Rd wx N a len cap zs R.at_ R.k 0) (hT2 : Tb wx) => ih N len cap R.at_ R.k nest a zs false wx h2 hT2 hn (by have := hbd.1; omega)
      generalize hR2 : D zs R.at_ R.k nest false = R2 at *
      have HL2 := hide hl2; have HE := hide he; have H5 := hide h5; have HR2 := hide hR2
      clear hl2 he h5 hbd hR2 ih
      go_enter Tryd.func70, Tryd.ntmps70
      go_wp2_with fail
      refine (unhide HL).mono ?_
      rintro e w1 ⟨v, c, rfl, ⟨va, vl, vc, rfl⟩, hr1, ht1, ok, _⟩
      obtain ⟨hc, hcode⟩ := ok (unhide HE)
      rw [unhide H5] at hc
      subst hc
      rw [unhide HE] at hr1
      have HC := hide hcode; have HT1 := hide ht1; have HR1 := hide hr1; have HTb := hide (Tb.turn (unhide HT) (unhide HR) ht1)
      clear hcode ht1 hr1 ok
      go_wp2_with fail
      refine (unhide HL2 _ (unhide HR1) (unhide HTb)).mono ?_
      rintro e w2 ⟨v2, c2, rfl, ⟨va2, vl2, vc2, rfl⟩, hr2, ht2, ok2, _⟩
      have HK := hide ok2; have HT2 := hide ht2; have HR2' := hide hr2
      clear ok2 ht2 hr2
      go_wp2
      go_ret2
      refine ⟨_, _, rfl, ⟨_, _, _, rfl⟩, ⟨_, _, _, rfl⟩, ?_, Tn.on (unhide HT1) (unhide HT2), fun e2 => ?_⟩
      · by_cases e2 : R2.e = 0
        · rw [Out.on_ok e2]; have := unhide HR2'; rw [e2] at this; exact this
        · rw [Out.on_no e2]; exact unhide HR2'
      · have e3 : R2.e = 0 := by
          by_cases e3 : R2.e = 0
          · exact e3
          · rw [Out.on_no e3] at e2; exact e2
        rw [Out.on_ok e3]
        have hk := (unhide HK e3).2
        refine ⟨(unhide HC).move (moves_turn (unhide HR1) (unhide HT2) _), hk.any fun q hq hg => ?_⟩
        have := (unhide HT1).size
        exact Nat.le_trans this hg
    · rw [if_neg h5]
      have HE := hide he
      have t5 : (R.v.2 == 5) = false := by simpa using h5
      have HR5 := hide t5
      clear he hbd ih h5 t5
      go_enter Tryd.func70, Tryd.ntmps70
      go_wp2_with fail
      refine (unhide HL).mono ?_
      rintro e w1 ⟨v, c, rfl, ⟨va, vl, vc, rfl⟩, hr1, ht1, ok, _⟩
      obtain ⟨hc, hcode⟩ := ok (unhide HE)
      rw [unhide HE] at hr1
      have t5 : (c == 5) = false := by rw [hc]; exact unhide HR5
      have HC := hide hcode; have HT1 := hide ht1; have HR1 := hide hr1
      clear hcode ht1 hr1 ok hc
      go_wp2
      go_ret2
      exact ⟨_, _, rfl, ⟨_, _, _, rfl⟩, ⟨_, _, _, rfl⟩, unhide HR1, unhide HT1, fun _ => ⟨unhide HC, Code_nil _ _⟩⟩
  · rw [Out.on_no he]
    have HE := hide he
    clear he hbd ih
    go_enter Tryd.func70, Tryd.ntmps70
    go_wp2_with fail
    refine (unhide HL).mono ?_
    rintro e w1 ⟨v, c, rfl, ⟨va, vl, vc, rfl⟩, hr1, ht1, _, ok⟩
    have hc := ok (unhide HE)
    subst hc
    have HT1 := hide ht1; have HR1 := hide hr1
    clear ht1 hr1 ok
    go_wp2
    go_ret2
    exact ⟨_, _, rfl, ⟨_, _, _, rfl⟩, ⟨_, _, _, rfl⟩, unhide HR1, unhide HT1, fun e2 => absurd e2 (unhide HE)⟩

/-- the tables stay where a box of an instruction turns -/
theorem Tb.tn1 {w w' : World} {Q : Nat} {x0 x1 x2 x3 x4 x5 x6 x7 : Value} (h : Tb w) (hb : Bx w Q x0 x1 x2 x3 x4 x5 x6 x7) (ht : Tn Q w w') : Tb w' := by
  obtain ⟨⟨h1, t1, f1, e1⟩, ⟨h2, t2, f2, e2⟩⟩ := h
  have n1 : 2 ≠ Q := by
    rintro rfl
    have := e1.symm.trans hb
    simp only [Option.some.injEq, Obj.cells.injEq] at this
    have h := congrArg Array.size this.1
    have hla : fmV.toArray.size = 192 := rfl
    rw [hla] at h; simp at h
  have n2 : 1 ≠ Q := by
    rintro rfl
    have := e2.symm.trans hb
    simp only [Option.some.injEq, Obj.cells.injEq] at this
    have h := congrArg Array.size this.1
    have hla : flV.toArray.size = 14 := rfl
    rw [hla] at h; simp at h
  exact ⟨⟨Nat.lt_of_lt_of_le h1 ht.size, t1, f1, (ht.block _ h1 (fun e => n1 (Option.some.inj e))).trans e1⟩, ⟨Nat.lt_of_lt_of_le h2 ht.size, t2, f2, (ht.block _ h2 (fun e => n2 (Option.some.inj e))).trans e2⟩⟩
theorem pK_pO (zs : List Int) (a k nest : Nat) (op re : Int) : (pK (D zs) a k nest op re).e = (pO zs a k (nest + 1) (decide (fr op = 7))).e ∧ (pK (D zs) a k nest op re).at_ = (pO zs a k (nest + 1) (decide (fr op = 7))).at_ ∧
    (pK (D zs) a k nest op re).k = (pO zs a k (nest + 1) (decide (fr op = 7))).k ∧ ((pO zs a k (nest + 1) (decide (fr op = 7))).e = 0 → (pK (D zs) a k nest op re).v = { plain op with re := re, body := (pO zs a k (nest + 1) (decide (fr op = 7))).v.1, els := (pO zs a k (nest + 1) (decide (fr op = 7))).v.2 }) := by
  unfold pK pO
  generalize D zs a k (nest + 1) (decide (fr op = 7)) = R
  by_cases h : R.e = 0
  · rw [Out.on_ok h, Out.on_ok h]
    by_cases h5 : R.v.2 = 5
    · rw [if_pos h5, if_pos h5]
      generalize D zs R.at_ R.k (nest + 1) false = R2
      by_cases h2 : R2.e = 0
      · rw [Out.on_ok h2, Out.on_ok h2]; exact ⟨rfl, rfl, rfl, fun _ => rfl⟩
      · rw [Out.on_no h2, Out.on_no h2]; exact ⟨rfl, rfl, rfl, fun e => absurd e h2⟩
    · rw [if_neg h5, if_neg h5]; exact ⟨rfl, rfl, rfl, fun _ => rfl⟩
  · rw [Out.on_no h, Out.on_no h]; exact ⟨rfl, rfl, rfl, fun e => absurd e h⟩

set_option maxRecDepth 100000 in
set_option maxHeartbeats 3200000 in
theorem ins_6_ok {N len cap p k nest : Nat} {a : Option Addr} {zs : List Int} {w : World} (op : Nat) (hop : op < 256) (x : Fam) (hx : fam op = some x) (ho : x.o = 6) (h : Rd w N a len cap zs p k 0) (hT : Tb w) (hP : (pB zs p jK).e = 0) {m : Nat} (ih : ListP m) (hn : nest < 64) (hm : len - p < m) :
    Calls Tryd.prog 49 #[.pointer (some ⟨N, 0, none⟩), .int .u8 op, .int .i64 nest] w (InsPost w N a len cap zs (pI (D zs) zs p k nest op)) := by
  obtain ⟨x1, x2, o, x4, x5, x6⟩ := x
  simp only at ho
  subst ho
  have hfr := fr_of hx
  have hfm := fun wx hx => form_any op hop wx hx
  simp only [hx, formR, errV_0] at hfm
  obtain ⟨R, hI, hRe⟩ : ∃ R, pI (D zs) zs p k nest op = R ∧ R.e = (pO zs (pB zs p jK).at_ k (nest + 1) false).e ∧ R.at_ = (pO zs (pB zs p jK).at_ k (nest + 1) false).at_ ∧ R.k = (pO zs (pB zs p jK).at_ k (nest + 1) false).k ∧ ((pO zs (pB zs p jK).at_ k (nest + 1) false).e = 0 → R.v = { plain op with re := kV (pB zs p jK).v, body := (pO zs (pB zs p jK).at_ k (nest + 1) false).v.1, els := (pO zs (pB zs p jK).at_ k (nest + 1) false).v.2 }) := by
    refine ⟨pK (D zs) (pB zs p jK).at_ k nest op (kV (pB zs p jK).v), ?_, ?_⟩
    · unfold pI; rw [hfr, if_neg (by decide), if_neg (by decide), if_neg (by decide), if_neg (by decide), if_neg (by decide), if_neg (by decide), if_neg (by decide), if_pos (by decide), Part.on_ok hP]
    · have := pK_pO zs (pB zs p jK).at_ k nest op (kV (pB zs p jK).v)
      rw [hfr] at this; exact this
  rw [hI]
  have HE : Hid (R.e = (pO zs (pB zs p jK).at_ k (nest + 1) false).e) ∧ Hid (R.at_ = (pO zs (pB zs p jK).at_ k (nest + 1) false).at_) ∧ Hid (R.k = (pO zs (pB zs p jK).at_ k (nest + 1) false).k) ∧ Hid ((pO zs (pB zs p jK).at_ k (nest + 1) false).e = 0 → R.v = { plain op with re := kV (pB zs p jK).v, body := (pO zs (pB zs p jK).at_ k (nest + 1) false).v.1, els := (pO zs (pB zs p jK).at_ k (nest + 1) false).v.2 }) := hRe
  have hR := hI
  have hbd := pB_bd zs p jK (by rw [h.zlen]; exact h.at_)
  have hbo := fun (wx : World) (hx : Rd wx N a len cap zs (pB zs p jK).at_ k 0) (hTx : Tb wx) => bod_any ih (me := false) hx hTx (nest := nest + 1) (by omega) (by have := hbd.1; omega)
  rw [show (((nest + 1 : Nat)) : Int) = (nest : Int) + 1 by omega] at hbo
  have HBo := hide hbo; have HP := hide hP
  clear hI hRe hbd hbo hP ih
  have HF := hide hfm; have HR := hide h; have HT := hide hT; clear hfm h hT hx hR hfr
  go_enter Tryd.func49, Tryd.ntmps49
  go_wp2_with fail
  obtain ⟨hb0, b0, b1, hz⟩ := bx_two w (.int .u8 0) (.int .i64 0) (.int .u32 0) (.int .u32 0) (.int .u8 0) (.slice none 0 0) (.slice none 0 0) (.slice none 0 0) (.int .u8 op) (.int .i64 0) (.int .u32 0) (.int .u32 0) (.int .u8 0) (.slice none 0 0) (.slice none 0 0) (.slice none 0 0)
  generalize (w.alloc (.cells #[.int .u8 0, .int .i64 0, .int .u32 0, .int .u32 0, .int .u8 0, .slice none 0 0, .slice none 0 0, .slice none 0 0] 50)).alloc (.cells #[.int .u8 op, .int .i64 0, .int .u32 0, .int .u32 0, .int .u8 0, .slice none 0 0, .slice none 0 0, .slice none 0 0] 50) = w2 at *
  refine (unhide HF _ ((unhide HT).1.below hb0)).mono ?_
  rintro e w3 ⟨rfl, hb3⟩
  have hb := Below.on hb0 hb3
  have hr := (unhide HR).below hb
  have ht := Tn.of (N := N) hb
  have hT := (unhide HT).below hb
  have hN := (unhide HR).lt
  have hold := (unhide HR).old
  replace b0 := b0.below hb3
  replace b1 := b1.below hb3
  have hz3 : w.heap.size + 2 ≤ w3.heap.size := by have := hb3.size; omega
  clear hb0 hb3 hz hb HF HR HT w2
  have HR := hide hr; have HT := hide ht; have HTb := hide hT; have B0 := hide b0; have B1 := hide b1; have HN := hide hN; have HO := hide hold; have HZ := hide hz3
  clear hr ht hT b0 b1 hN hold hz3
  generalize hQ : w.heap.size = Q at *
  have HQ := hide hQ; clear hQ
  go_wp2_with fail
  refine (kd_any (unhide HR)).mono ?_
  rintro e w4 ⟨rfl, hr, ht⟩
  have HTb4 := hide (Tb.turn (unhide HTb) (unhide HR) ht)
  rw [unhide HP] at hr
  have b0 := (unhide B0).tn ht (by have := unhide HN; omega)
  have b1 := (unhide B1).tn ht (by have := unhide HN; omega)
  have ht2 := Tn.on (unhide HT) ht
  clear HR HT B0 B1
  have HR := hide hr; have HT := hide ht2; have B0 := hide b0; have B1 := hide b1
  clear hr ht ht2 b0 b1
  have HTb2 := hide (Tb.tn1 (unhide HTb4) (unhide B1) (Tn.set (Q + 1) 4 w4 (.int .u8 (kV (pB zs p jK).v))))
  obtain ⟨p0, p1, p2, p3, p4, p5, p6, p7⟩ := (unhide B1).cs
  have pz := (unhide B1).fz
  have hr := (unhide HR).tn (Tn.set (Q + 1) 4 w4 (.int .u8 (kV (pB zs p jK).v))) (by have := unhide HN; omega) (fun b o e hl => by have := unhide HO b o e hl; have := unhide HQ; omega)
  have ht := (unhide HT).new (Tn.set (Q + 1) 4 w4 (.int .u8 (kV (pB zs p jK).v))) (by have := unhide HQ; omega)
  have b1 := (unhide B1).set4 (.int .u8 (kV (pB zs p jK).v))
  have b0 := (unhide B0).tn (Tn.set (Q + 1) 4 w4 (.int .u8 (kV (pB zs p jK).v))) (by omega)
  clear HR HT B0 B1
  have HR := hide hr; have HT := hide ht; have B0 := hide b0; have B1 := hide b1
  clear hr ht b0 b1
  go_wp2_with fail
  generalize w4.setCell ⟨Q + 1, 4, none⟩ (.int .u8 (kV (pB zs p jK).v)) = w5 at *
  clear p0 p1 p2 p3 p4 p5 p6 p7 pz
  refine (unhide HBo _ (unhide HR) (unhide HTb2)).mono ?_
  rintro e w6 ⟨vb, ve, rfl, ⟨ab, lb, cb, rfl⟩, ⟨ae, le, ce, rfl⟩, hr, ht, hok⟩
  have HK := hide hok
  have b0 := (unhide B0).tn ht (by have := unhide HN; omega)
  have b1 := (unhide B1).tn ht (by have := unhide HN; omega)
  have ht2 := Tn.on (unhide HT) ht
  have hz5 : Q + 2 ≤ w5.heap.size := by have := (unhide B1).lt; omega
  have HZ5 := hide hz5
  clear HR HT B0 B1
  have HR := hide hr; have HT := hide ht2; have B0 := hide b0; have B1 := hide b1
  clear hr ht ht2 b0 b1 hok hz5
  obtain ⟨p0, p1, p2, p3, p4, p5, p6, p7⟩ := (unhide B1).cs
  have pz := (unhide B1).fz
  have hr := ((unhide HR).tn (Tn.set (Q + 1) 5 w6 (.slice ab lb cb)) (by have := unhide HN; omega) (fun b o e hl => by have := unhide HO b o e hl; have := unhide HQ; omega)).tn (Tn.set (Q + 1) 6 _ (.slice ae le ce)) (by have := unhide HN; omega) (fun b o e hl => by have := unhide HO b o e hl; have := unhide HQ; omega)
  have ht := ((unhide HT).new (Tn.set (Q + 1) 5 w6 (.slice ab lb cb)) (by have := unhide HQ; omega)).new (Tn.set (Q + 1) 6 _ (.slice ae le ce)) (by have := unhide HQ; omega)
  have b1 := ((unhide B1).set5 (.slice ab lb cb)).set6 (.slice ae le ce)
  have b0 := ((unhide B0).tn (Tn.set (Q + 1) 5 w6 (.slice ab lb cb)) (by omega)).tn (Tn.set (Q + 1) 6 _ (.slice ae le ce)) (by omega)
  clear HR HT B0 B1
  have HR := hide hr; have HT := hide ht; have B0 := hide b0; have B1 := hide b1
  clear hr ht b0 b1
  obtain ⟨c0, c1, c2, c3, c4, c5, c6, c7⟩ := (unhide B1).cs
  obtain ⟨d0, d1, d2, d3, d4, d5, d6, d7⟩ := (unhide B0).cs
  have cz := (unhide B0).fz
  have hq : Q < ((w6.setCell ⟨Q + 1, 5, none⟩ (.slice ab lb cb)).setCell ⟨Q + 1, 6, none⟩ (.slice ae le ce)).heap.size := (unhide B0).lt
  go_wp2
  have hb := put8_bx (unhide B0) (.int .u8 op) (.int .i64 0) (.int .u32 0) (.int .u32 0) (.int .u8 (kV (pB zs p jK).v)) (.slice ab lb cb) (.slice ae le ce) (.slice none 0 0)
  have hf := put8_tn ((w6.setCell ⟨Q + 1, 5, none⟩ (.slice ab lb cb)).setCell ⟨Q + 1, 6, none⟩ (.slice ae le ce)) Q (.int .u8 op) (.int .i64 0) (.int .u32 0) (.int .u32 0) (.int .u8 (kV (pB zs p jK).v)) (.slice ab lb cb) (.slice ae le ce) (.slice none 0 0)
  unfold put8 at hb hf
  clear c0 c1 c2 c3 c4 c5 c6 c7 d0 d1 d2 d3 d4 d5 d6 d7 cz hq p0 p1 p2 p3 p4 p5 p6 p7 pz
  generalize ((((((((((w6.setCell ⟨Q + 1, 5, none⟩ (.slice ab lb cb)).setCell ⟨Q + 1, 6, none⟩ (.slice ae le ce)).setCell ⟨Q, 0, none⟩ (.int .u8 op)).setCell ⟨Q, 1, none⟩ (.int .i64 0)).setCell ⟨Q, 2, none⟩ (.int .u32 0)).setCell ⟨Q, 3, none⟩ (.int .u32 0)).setCell ⟨Q, 4, none⟩ (.int .u8 (kV (pB zs p jK).v))).setCell ⟨Q, 5, none⟩ (.slice ab lb cb)).setCell ⟨Q, 6, none⟩ (.slice ae le ce)).setCell ⟨Q, 7, none⟩ (.slice none 0 0)) = wf at *
  obtain ⟨c0, c1, c2, c3, c4, c5, c6, c7⟩ := hb.cs
  obtain ⟨g1, g2⟩ := ins_end Q (unhide HR) (unhide HT) (by have := unhide HQ; omega) (by have := unhide HN; have := unhide HQ; omega) (fun b o e hl => by have := unhide HO b o e hl; have := unhide HQ; omega) hf
  refine bodyPost_ret (v := .agg #[.int .u8 op, .int .i64 0, .int .u32 0, .int .u32 0, .int .u8 (kV (pB zs p jK).v), .slice ab lb cb, .slice ae le ce, .slice none 0 0]) (by simp [results, Tryd.results49, go_sem, c0, c1, c2, c3, c4, c5, c6, c7]) rfl ?_
  refine ⟨⟨op, 0, 0, 0, kV (pB zs p jK).v, (pO zs (pB zs p jK).at_ k (nest + 1) false).v.1, (pO zs (pB zs p jK).at_ k (nest + 1) false).v.2, []⟩, .slice ab lb cb, .slice ae le ce, .slice none 0 0, rfl, ?_, g2, ⟨⟨_, _, _, rfl⟩, ⟨_, _, _, rfl⟩, ⟨_, _, _, rfl⟩⟩, fun he => ?_⟩
  · rw [unhide HE.1, unhide HE.2.1, unhide HE.2.2.1]; exact g1
  · have hv := unhide HE.2.2.2 (by rw [← unhide HE.1]; exact he)
    have hk := unhide HK (by rw [← unhide HE.1]; exact he)
    have mv : Moves w6 wf (w5.heap.size ≤ ·) (w.heap.size ≤ ·) := fun k' hk' _ hg => by
      have hz := unhide HZ5
      have hg' : w5.heap.size ≤ k' := hg
      have m1 := (Tn.set (Q + 1) 5 w6 (.slice ab lb cb)).block k' hk' (fun e => by cases e; omega)
      have m2 := (Tn.set (Q + 1) 6 (w6.setCell ⟨Q + 1, 5, none⟩ (.slice ab lb cb)) (.slice ae le ce)).block k' (Nat.lt_of_lt_of_le hk' (Tn.set (Q + 1) 5 w6 (.slice ab lb cb)).size) (fun e => by cases e; omega)
      have m3 := hf.block k' (Nat.lt_of_lt_of_le hk' (Nat.le_trans (Tn.set (Q + 1) 5 w6 (.slice ab lb cb)).size (Tn.set (Q + 1) 6 _ (.slice ae le ce)).size)) (fun e => by cases e; omega)
      exact ⟨by have := unhide HQ; show w.heap.size ≤ k'; omega, m3.trans (m2.trans m1)⟩
    exact ⟨hv.symm, hk.1.move mv, hk.2.move mv, Labs_nil _ _⟩

set_option maxRecDepth 100000 in
set_option maxHeartbeats 3200000 in
theorem ins_6_no {N len cap p k nest : Nat} {a : Option Addr} {zs : List Int} {w : World} (op : Nat) (hop : op < 256) (x : Fam) (hx : fam op = some x) (ho : x.o = 6) (h : Rd w N a len cap zs p k 0) (hT : Tb w) (hP : ¬ (pB zs p jK).e = 0) (hn : nest < 64) :
    Calls Tryd.prog 49 #[.pointer (some ⟨N, 0, none⟩), .int .u8 op, .int .i64 nest] w (InsPost w N a len cap zs (pI (D zs) zs p k nest op)) := by
  obtain ⟨x1, x2, o, x4, x5, x6⟩ := x
  simp only at ho
  subst ho
  have hfr := fr_of hx
  have hfm := fun wx hx => form_any op hop wx hx
  simp only [hx, formR, errV_0] at hfm
  obtain ⟨R, hR, hRe⟩ : ∃ R, pI (D zs) zs p k nest op = R ∧ R.e = (pB zs p jK).e ∧ R.at_ = (pB zs p jK).at_ ∧ R.k = k ∧ True := ⟨⟨(pB zs p jK).e, (pB zs p jK).at_, k, plain op⟩, by unfold pI; rw [hfr, if_neg (by decide), if_neg (by decide), if_neg (by decide), if_neg (by decide), if_neg (by decide), if_neg (by decide), if_neg (by decide), if_pos (by decide), Part.on_no hP], rfl, rfl, rfl, trivial⟩
  rw [hR]
  have HE : Hid (R.e = (pB zs p jK).e) ∧ Hid (R.at_ = (pB zs p jK).at_) ∧ Hid (R.k = k) ∧ Hid True := hRe
  clear hRe
  have HP := hide hP; clear hP
  have HF := hide hfm; have HR := hide h; have HT := hide hT; clear hfm h hT hx hR hfr
  go_enter Tryd.func49, Tryd.ntmps49
  go_wp2_with fail
  obtain ⟨hb0, b0, b1, hz⟩ := bx_two w (.int .u8 0) (.int .i64 0) (.int .u32 0) (.int .u32 0) (.int .u8 0) (.slice none 0 0) (.slice none 0 0) (.slice none 0 0) (.int .u8 op) (.int .i64 0) (.int .u32 0) (.int .u32 0) (.int .u8 0) (.slice none 0 0) (.slice none 0 0) (.slice none 0 0)
  generalize (w.alloc (.cells #[.int .u8 0, .int .i64 0, .int .u32 0, .int .u32 0, .int .u8 0, .slice none 0 0, .slice none 0 0, .slice none 0 0] 50)).alloc (.cells #[.int .u8 op, .int .i64 0, .int .u32 0, .int .u32 0, .int .u8 0, .slice none 0 0, .slice none 0 0, .slice none 0 0] 50) = w2 at *
  refine (unhide HF _ ((unhide HT).1.below hb0)).mono ?_
  rintro e w3 ⟨rfl, hb3⟩
  have hb := Below.on hb0 hb3
  have hr := (unhide HR).below hb
  have ht := Tn.of (N := N) hb
  have hT := (unhide HT).below hb
  have hN := (unhide HR).lt
  have hold := (unhide HR).old
  replace b0 := b0.below hb3
  replace b1 := b1.below hb3
  have hz3 : w.heap.size + 2 ≤ w3.heap.size := by have := hb3.size; omega
  clear hb0 hb3 hz hb HF HR HT w2
  have HR := hide hr; have HT := hide ht; have HTb := hide hT; have B0 := hide b0; have B1 := hide b1; have HN := hide hN; have HO := hide hold; have HZ := hide hz3
  clear hr ht hT b0 b1 hN hold hz3
  generalize hQ : w.heap.size = Q at *
  have HQ := hide hQ; clear hQ
  go_wp2_with fail
  refine (kd_any (unhide HR)).mono ?_
  rintro e w4 ⟨rfl, hr, ht⟩
  have b0 := (unhide B0).tn ht (by have := unhide HN; omega)
  have b1 := (unhide B1).tn ht (by have := unhide HN; omega)
  have ht2 := Tn.on (unhide HT) ht
  clear HR HT B0 B1
  have HR := hide hr; have HT := hide ht2; have B0 := hide b0; have B1 := hide b1
  clear hr ht ht2 b0 b1
  obtain ⟨p0, p1, p2, p3, p4, p5, p6, p7⟩ := (unhide B1).cs
  have pz := (unhide B1).fz
  have hr := (unhide HR).tn (Tn.set (Q + 1) 4 w4 (.int .u8 (kV (pB zs p jK).v))) (by have := unhide HN; omega) (fun b o e hl => by have := unhide HO b o e hl; have := unhide HQ; omega)
  have ht := (unhide HT).new (Tn.set (Q + 1) 4 w4 (.int .u8 (kV (pB zs p jK).v))) (by have := unhide HQ; omega)
  have b1 := (unhide B1).set4 (.int .u8 (kV (pB zs p jK).v))
  have b0 := (unhide B0).tn (Tn.set (Q + 1) 4 w4 (.int .u8 (kV (pB zs p jK).v))) (by omega)
  clear HR HT B0 B1
  have HR := hide hr; have HT := hide ht; have B0 := hide b0; have B1 := hide b1
  clear hr ht b0 b1
  go_wp2_with fail
  generalize w4.setCell ⟨Q + 1, 4, none⟩ (.int .u8 (kV (pB zs p jK).v)) = w5 at *
  clear p0 p1 p2 p3 p4 p5 p6 p7 pz
  go_wp2_with fail
  refine (bod_err (unhide HR) (unhide HP)).mono ?_
  rintro e w6 ⟨rfl, hr, ht⟩
  have b0 := (unhide B0).tn ht (by have := unhide HN; omega)
  have b1 := (unhide B1).tn ht (by have := unhide HN; omega)
  have ht2 := Tn.on (unhide HT) ht
  clear HR HT B0 B1
  have HR := hide hr; have HT := hide ht2; have B0 := hide b0; have B1 := hide b1
  clear hr ht ht2 b0 b1
  obtain ⟨p0, p1, p2, p3, p4, p5, p6, p7⟩ := (unhide B1).cs
  have pz := (unhide B1).fz
  have hr := ((unhide HR).tn (Tn.set (Q + 1) 5 w6 (.slice none 0 0)) (by have := unhide HN; omega) (fun b o e hl => by have := unhide HO b o e hl; have := unhide HQ; omega)).tn (Tn.set (Q + 1) 6 _ (.slice none 0 0)) (by have := unhide HN; omega) (fun b o e hl => by have := unhide HO b o e hl; have := unhide HQ; omega)
  have ht := ((unhide HT).new (Tn.set (Q + 1) 5 w6 (.slice none 0 0)) (by have := unhide HQ; omega)).new (Tn.set (Q + 1) 6 _ (.slice none 0 0)) (by have := unhide HQ; omega)
  have b1 := ((unhide B1).set5 (.slice none 0 0)).set6 (.slice none 0 0)
  have b0 := ((unhide B0).tn (Tn.set (Q + 1) 5 w6 (.slice none 0 0)) (by omega)).tn (Tn.set (Q + 1) 6 _ (.slice none 0 0)) (by omega)
  clear HR HT B0 B1
  have HR := hide hr; have HT := hide ht; have B0 := hide b0; have B1 := hide b1
  clear hr ht b0 b1
  obtain ⟨c0, c1, c2, c3, c4, c5, c6, c7⟩ := (unhide B1).cs
  obtain ⟨d0, d1, d2, d3, d4, d5, d6, d7⟩ := (unhide B0).cs
  have cz := (unhide B0).fz
  have hq : Q < ((w6.setCell ⟨Q + 1, 5, none⟩ (.slice none 0 0)).setCell ⟨Q + 1, 6, none⟩ (.slice none 0 0)).heap.size := (unhide B0).lt
  go_wp2
  have hb := put8_bx (unhide B0) (.int .u8 op) (.int .i64 0) (.int .u32 0) (.int .u32 0) (.int .u8 (kV (pB zs p jK).v)) (.slice none 0 0) (.slice none 0 0) (.slice none 0 0)
  have hf := put8_tn ((w6.setCell ⟨Q + 1, 5, none⟩ (.slice none 0 0)).setCell ⟨Q + 1, 6, none⟩ (.slice none 0 0)) Q (.int .u8 op) (.int .i64 0) (.int .u32 0) (.int .u32 0) (.int .u8 (kV (pB zs p jK).v)) (.slice none 0 0) (.slice none 0 0) (.slice none 0 0)
  unfold put8 at hb hf
  clear c0 c1 c2 c3 c4 c5 c6 c7 d0 d1 d2 d3 d4 d5 d6 d7 cz hq p0 p1 p2 p3 p4 p5 p6 p7 pz
  generalize ((((((((((w6.setCell ⟨Q + 1, 5, none⟩ (.slice none 0 0)).setCell ⟨Q + 1, 6, none⟩ (.slice none 0 0)).setCell ⟨Q, 0, none⟩ (.int .u8 op)).setCell ⟨Q, 1, none⟩ (.int .i64 0)).setCell ⟨Q, 2, none⟩ (.int .u32 0)).setCell ⟨Q, 3, none⟩ (.int .u32 0)).setCell ⟨Q, 4, none⟩ (.int .u8 (kV (pB zs p jK).v))).setCell ⟨Q, 5, none⟩ (.slice none 0 0)).setCell ⟨Q, 6, none⟩ (.slice none 0 0)).setCell ⟨Q, 7, none⟩ (.slice none 0 0)) = wf at *
  obtain ⟨c0, c1, c2, c3, c4, c5, c6, c7⟩ := hb.cs
  obtain ⟨g1, g2⟩ := ins_end Q (unhide HR) (unhide HT) (by have := unhide HQ; omega) (by have := unhide HN; have := unhide HQ; omega) (fun b o e hl => by have := unhide HO b o e hl; have := unhide HQ; omega) hf
  refine bodyPost_ret (v := .agg #[.int .u8 op, .int .i64 0, .int .u32 0, .int .u32 0, .int .u8 (kV (pB zs p jK).v), .slice none 0 0, .slice none 0 0, .slice none 0 0]) (by simp [results, Tryd.results49, go_sem, c0, c1, c2, c3, c4, c5, c6, c7]) rfl ?_
  refine ⟨⟨op, 0, 0, 0, kV (pB zs p jK).v, [], [], []⟩, .slice none 0 0, .slice none 0 0, .slice none 0 0, rfl, ?_, g2, ⟨⟨_, _, _, rfl⟩, ⟨_, _, _, rfl⟩, ⟨_, _, _, rfl⟩⟩, fun he => ?_⟩
  · rw [unhide HE.1, unhide HE.2.1, unhide HE.2.2.1]; exact g1
  · exact absurd (by rw [← unhide HE.1]; exact he) (unhide HP)

set_option maxRecDepth 100000 in
set_option maxHeartbeats 3200000 in
theorem ins_7_ok {N len cap p k nest : Nat} {a : Option Addr} {zs : List Int} {w : World} (op : Nat) (hop : op < 256) (x : Fam) (hx : fam op = some x) (ho : x.o = 7) (h : Rd w N a len cap zs p k 0) (hT : Tb w) (hP : (pB zs p jK).e = 0) {m : Nat} (ih : ListP m) (hn : nest < 64) (hm : len - p < m) :
    Calls Tryd.prog 49 #[.pointer (some ⟨N, 0, none⟩), .int .u8 op, .int .i64 nest] w (InsPost w N a len cap zs (pI (D zs) zs p k nest op)) := by
  obtain ⟨x1, x2, o, x4, x5, x6⟩ := x
  simp only at ho
  subst ho
  have hfr := fr_of hx
  have hfm := fun wx hx => form_any op hop wx hx
  simp only [hx, formR, errV_0] at hfm
  obtain ⟨R, hI, hRe⟩ : ∃ R, pI (D zs) zs p k nest op = R ∧ R.e = (pO zs (pB zs p jK).at_ k (nest + 1) true).e ∧ R.at_ = (pO zs (pB zs p jK).at_ k (nest + 1) true).at_ ∧ R.k = (pO zs (pB zs p jK).at_ k (nest + 1) true).k ∧ ((pO zs (pB zs p jK).at_ k (nest + 1) true).e = 0 → R.v = { plain op with re := kV (pB zs p jK).v, body := (pO zs (pB zs p jK).at_ k (nest + 1) true).v.1, els := (pO zs (pB zs p jK).at_ k (nest + 1) true).v.2 }) := by
    refine ⟨pK (D zs) (pB zs p jK).at_ k nest op (kV (pB zs p jK).v), ?_, ?_⟩
    · unfold pI; rw [hfr, if_neg (by decide), if_neg (by decide), if_neg (by decide), if_neg (by decide), if_neg (by decide), if_neg (by decide), if_neg (by decide), if_pos (by decide), Part.on_ok hP]
    · have := pK_pO zs (pB zs p jK).at_ k nest op (kV (pB zs p jK).v)
      rw [hfr] at this; exact this
  rw [hI]
  have HE : Hid (R.e = (pO zs (pB zs p jK).at_ k (nest + 1) true).e) ∧ Hid (R.at_ = (pO zs (pB zs p jK).at_ k (nest + 1) true).at_) ∧ Hid (R.k = (pO zs (pB zs p jK).at_ k (nest + 1) true).k) ∧ Hid ((pO zs (pB zs p jK).at_ k (nest + 1) true).e = 0 → R.v = { plain op with re := kV (pB zs p jK).v, body := (pO zs (pB zs p jK).at_ k (nest + 1) true).v.1, els := (pO zs (pB zs p jK).at_ k (nest + 1) true).v.2 }) := hRe
  have hR := hI
  have hbd := pB_bd zs p jK (by rw [h.zlen]; exact h.at_)
  have hbo := fun (wx : World) (hx : Rd wx N a len cap zs (pB zs p jK).at_ k 0) (hTx : Tb wx) => bod_any ih (me := true) hx hTx (nest := nest + 1) (by omega) (by have := hbd.1; omega)
  rw [show (((nest + 1 : Nat)) : Int) = (nest : Int) + 1 by omega] at hbo
  have HBo := hide hbo; have HP := hide hP
  clear hI hRe hbd hbo hP ih
  have HF := hide hfm; have HR := hide h; have HT := hide hT; clear hfm h hT hx hR hfr
  go_enter Tryd.func49, Tryd.ntmps49
  go_wp2_with fail
  obtain ⟨hb0, b0, b1, hz⟩ := bx_two w (.int .u8 0) (.int .i64 0) (.int .u32 0) (.int .u32 0) (.int .u8 0) (.slice none 0 0) (.slice none 0 0) (.slice none 0 0) (.int .u8 op) (.int .i64 0) (.int .u32 0) (.int .u32 0) (.int .u8 0) (.slice none 0 0) (.slice none 0 0) (.slice none 0 0)
  generalize (w.alloc (.cells #[.int .u8 0, .int .i64 0, .int .u32 0, .int .u32 0, .int .u8 0, .slice none 0 0, .slice none 0 0, .slice none 0 0] 50)).alloc (.cells #[.int .u8 op, .int .i64 0, .int .u32 0, .int .u32 0, .int .u8 0, .slice none 0 0, .slice none 0 0, .slice none 0 0] 50) = w2 at *
  refine (unhide HF _ ((unhide HT).1.below hb0)).mono ?_
  rintro e w3 ⟨rfl, hb3⟩
  have hb := Below.on hb0 hb3
  have hr := (unhide HR).below hb
  have ht := Tn.of (N := N) hb
  have hT := (unhide HT).below hb
  have hN := (unhide HR).lt
  have hold := (unhide HR).old
  replace b0 := b0.below hb3
  replace b1 := b1.below hb3
  have hz3 : w.heap.size + 2 ≤ w3.heap.size := by have := hb3.size; omega
  clear hb0 hb3 hz hb HF HR HT w2
  have HR := hide hr; have HT := hide ht; have HTb := hide hT; have B0 := hide b0; have B1 := hide b1; have HN := hide hN; have HO := hide hold; have HZ := hide hz3
  clear hr ht hT b0 b1 hN hold hz3
  generalize hQ : w.heap.size = Q at *
  have HQ := hide hQ; clear hQ
  go_wp2_with fail
  refine (kd_any (unhide HR)).mono ?_
  rintro e w4 ⟨rfl, hr, ht⟩
  have HTb4 := hide (Tb.turn (unhide HTb) (unhide HR) ht)
  rw [unhide HP] at hr
  have b0 := (unhide B0).tn ht (by have := unhide HN; omega)
  have b1 := (unhide B1).tn ht (by have := unhide HN; omega)
  have ht2 := Tn.on (unhide HT) ht
  clear HR HT B0 B1
  have HR := hide hr; have HT := hide ht2; have B0 := hide b0; have B1 := hide b1
  clear hr ht ht2 b0 b1
  have HTb2 := hide (Tb.tn1 (unhide HTb4) (unhide B1) (Tn.set (Q + 1) 4 w4 (.int .u8 (kV (pB zs p jK).v))))
  obtain ⟨p0, p1, p2, p3, p4, p5, p6, p7⟩ := (unhide B1).cs
  have pz := (unhide B1).fz
  have hr := (unhide HR).tn (Tn.set (Q + 1) 4 w4 (.int .u8 (kV (pB zs p jK).v))) (by have := unhide HN; omega) (fun b o e hl => by have := unhide HO b o e hl; have := unhide HQ; omega)
  have ht := (unhide HT).new (Tn.set (Q + 1) 4 w4 (.int .u8 (kV (pB zs p jK).v))) (by have := unhide HQ; omega)
  have b1 := (unhide B1).set4 (.int .u8 (kV (pB zs p jK).v))
  have b0 := (unhide B0).tn (Tn.set (Q + 1) 4 w4 (.int .u8 (kV (pB zs p jK).v))) (by omega)
  clear HR HT B0 B1
  have HR := hide hr; have HT := hide ht; have B0 := hide b0; have B1 := hide b1
  clear hr ht b0 b1
  go_wp2_with fail
  generalize w4.setCell ⟨Q + 1, 4, none⟩ (.int .u8 (kV (pB zs p jK).v)) = w5 at *
  clear p0 p1 p2 p3 p4 p5 p6 p7 pz
  refine (unhide HBo _ (unhide HR) (unhide HTb2)).mono ?_
  rintro e w6 ⟨vb, ve, rfl, ⟨ab, lb, cb, rfl⟩, ⟨ae, le, ce, rfl⟩, hr, ht, hok⟩
  have HK := hide hok
  have b0 := (unhide B0).tn ht (by have := unhide HN; omega)
  have b1 := (unhide B1).tn ht (by have := unhide HN; omega)
  have ht2 := Tn.on (unhide HT) ht
  have hz5 : Q + 2 ≤ w5.heap.size := by have := (unhide B1).lt; omega
  have HZ5 := hide hz5
  clear HR HT B0 B1
  have HR := hide hr; have HT := hide ht2; have B0 := hide b0; have B1 := hide b1
  clear hr ht ht2 b0 b1 hok hz5
  obtain ⟨p0, p1, p2, p3, p4, p5, p6, p7⟩ := (unhide B1).cs
  have pz := (unhide B1).fz
  have hr := ((unhide HR).tn (Tn.set (Q + 1) 5 w6 (.slice ab lb cb)) (by have := unhide HN; omega) (fun b o e hl => by have := unhide HO b o e hl; have := unhide HQ; omega)).tn (Tn.set (Q + 1) 6 _ (.slice ae le ce)) (by have := unhide HN; omega) (fun b o e hl => by have := unhide HO b o e hl; have := unhide HQ; omega)
  have ht := ((unhide HT).new (Tn.set (Q + 1) 5 w6 (.slice ab lb cb)) (by have := unhide HQ; omega)).new (Tn.set (Q + 1) 6 _ (.slice ae le ce)) (by have := unhide HQ; omega)
  have b1 := ((unhide B1).set5 (.slice ab lb cb)).set6 (.slice ae le ce)
  have b0 := ((unhide B0).tn (Tn.set (Q + 1) 5 w6 (.slice ab lb cb)) (by omega)).tn (Tn.set (Q + 1) 6 _ (.slice ae le ce)) (by omega)
  clear HR HT B0 B1
  have HR := hide hr; have HT := hide ht; have B0 := hide b0; have B1 := hide b1
  clear hr ht b0 b1
  obtain ⟨c0, c1, c2, c3, c4, c5, c6, c7⟩ := (unhide B1).cs
  obtain ⟨d0, d1, d2, d3, d4, d5, d6, d7⟩ := (unhide B0).cs
  have cz := (unhide B0).fz
  have hq : Q < ((w6.setCell ⟨Q + 1, 5, none⟩ (.slice ab lb cb)).setCell ⟨Q + 1, 6, none⟩ (.slice ae le ce)).heap.size := (unhide B0).lt
  go_wp2
  have hb := put8_bx (unhide B0) (.int .u8 op) (.int .i64 0) (.int .u32 0) (.int .u32 0) (.int .u8 (kV (pB zs p jK).v)) (.slice ab lb cb) (.slice ae le ce) (.slice none 0 0)
  have hf := put8_tn ((w6.setCell ⟨Q + 1, 5, none⟩ (.slice ab lb cb)).setCell ⟨Q + 1, 6, none⟩ (.slice ae le ce)) Q (.int .u8 op) (.int .i64 0) (.int .u32 0) (.int .u32 0) (.int .u8 (kV (pB zs p jK).v)) (.slice ab lb cb) (.slice ae le ce) (.slice none 0 0)
  unfold put8 at hb hf
  clear c0 c1 c2 c3 c4 c5 c6 c7 d0 d1 d2 d3 d4 d5 d6 d7 cz hq p0 p1 p2 p3 p4 p5 p6 p7 pz
  generalize ((((((((((w6.setCell ⟨Q + 1, 5, none⟩ (.slice ab lb cb)).setCell ⟨Q + 1, 6, none⟩ (.slice ae le ce)).setCell ⟨Q, 0, none⟩ (.int .u8 op)).setCell ⟨Q, 1, none⟩ (.int .i64 0)).setCell ⟨Q, 2, none⟩ (.int .u32 0)).setCell ⟨Q, 3, none⟩ (.int .u32 0)).setCell ⟨Q, 4, none⟩ (.int .u8 (kV (pB zs p jK).v))).setCell ⟨Q, 5, none⟩ (.slice ab lb cb)).setCell ⟨Q, 6, none⟩ (.slice ae le ce)).setCell ⟨Q, 7, none⟩ (.slice none 0 0)) = wf at *
  obtain ⟨c0, c1, c2, c3, c4, c5, c6, c7⟩ := hb.cs
  obtain ⟨g1, g2⟩ := ins_end Q (unhide HR) (unhide HT) (by have := unhide HQ; omega) (by have := unhide HN; have := unhide HQ; omega) (fun b o e hl => by have := unhide HO b o e hl; have := unhide HQ; omega) hf
  refine bodyPost_ret (v := .agg #[.int .u8 op, .int .i64 0, .int .u32 0, .int .u32 0, .int .u8 (kV (pB zs p jK).v), .slice ab lb cb, .slice ae le ce, .slice none 0 0]) (by simp [results, Tryd.results49, go_sem, c0, c1, c2, c3, c4, c5, c6, c7]) rfl ?_
  refine ⟨⟨op, 0, 0, 0, kV (pB zs p jK).v, (pO zs (pB zs p jK).at_ k (nest + 1) true).v.1, (pO zs (pB zs p jK).at_ k (nest + 1) true).v.2, []⟩, .slice ab lb cb, .slice ae le ce, .slice none 0 0, rfl, ?_, g2, ⟨⟨_, _, _, rfl⟩, ⟨_, _, _, rfl⟩, ⟨_, _, _, rfl⟩⟩, fun he => ?_⟩
  · rw [unhide HE.1, unhide HE.2.1, unhide HE.2.2.1]; exact g1
  · have hv := unhide HE.2.2.2 (by rw [← unhide HE.1]; exact he)
    have hk := unhide HK (by rw [← unhide HE.1]; exact he)
    have mv : Moves w6 wf (w5.heap.size ≤ ·) (w.heap.size ≤ ·) := fun k' hk' _ hg => by
      have hz := unhide HZ5
      have hg' : w5.heap.size ≤ k' := hg
      have m1 := (Tn.set (Q + 1) 5 w6 (.slice ab lb cb)).block k' hk' (fun e => by cases e; omega)
      have m2 := (Tn.set (Q + 1) 6 (w6.setCell ⟨Q + 1, 5, none⟩ (.slice ab lb cb)) (.slice ae le ce)).block k' (Nat.lt_of_lt_of_le hk' (Tn.set (Q + 1) 5 w6 (.slice ab lb cb)).size) (fun e => by cases e; omega)
      have m3 := hf.block k' (Nat.lt_of_lt_of_le hk' (Nat.le_trans (Tn.set (Q + 1) 5 w6 (.slice ab lb cb)).size (Tn.set (Q + 1) 6 _ (.slice ae le ce)).size)) (fun e => by cases e; omega)
      exact ⟨by have := unhide HQ; show w.heap.size ≤ k'; omega, m3.trans (m2.trans m1)⟩
    exact ⟨hv.symm, hk.1.move mv, hk.2.move mv, Labs_nil _ _⟩

set_option maxRecDepth 100000 in
set_option maxHeartbeats 3200000 in
theorem ins_7_no {N len cap p k nest : Nat} {a : Option Addr} {zs : List Int} {w : World} (op : Nat) (hop : op < 256) (x : Fam) (hx : fam op = some x) (ho : x.o = 7) (h : Rd w N a len cap zs p k 0) (hT : Tb w) (hP : ¬ (pB zs p jK).e = 0) (hn : nest < 64) :
    Calls Tryd.prog 49 #[.pointer (some ⟨N, 0, none⟩), .int .u8 op, .int .i64 nest] w (InsPost w N a len cap zs (pI (D zs) zs p k nest op)) := by
  obtain ⟨x1, x2, o, x4, x5, x6⟩ := x
  simp only at ho
  subst ho
  have hfr := fr_of hx
  have hfm := fun wx hx => form_any op hop wx hx
  simp only [hx, formR, errV_0] at hfm
  obtain ⟨R, hR, hRe⟩ : ∃ R, pI (D zs) zs p k nest op = R ∧ R.e = (pB zs p jK).e ∧ R.at_ = (pB zs p jK).at_ ∧ R.k = k ∧ True := ⟨⟨(pB zs p jK).e, (pB zs p jK).at_, k, plain op⟩, by unfold pI; rw [hfr, if_neg (by decide), if_neg (by decide), if_neg (by decide), if_neg (by decide), if_neg (by decide), if_neg (by decide), if_neg (by decide), if_pos (by decide), Part.on_no hP], rfl, rfl, rfl, trivial⟩
  rw [hR]
  have HE : Hid (R.e = (pB zs p jK).e) ∧ Hid (R.at_ = (pB zs p jK).at_) ∧ Hid (R.k = k) ∧ Hid True := hRe
  clear hRe
  have HP := hide hP; clear hP
  have HF := hide hfm; have HR := hide h; have HT := hide hT; clear hfm h hT hx hR hfr
  go_enter Tryd.func49, Tryd.ntmps49
  go_wp2_with fail
  obtain ⟨hb0, b0, b1, hz⟩ := bx_two w (.int .u8 0) (.int .i64 0) (.int .u32 0) (.int .u32 0) (.int .u8 0) (.slice none 0 0) (.slice none 0 0) (.slice none 0 0) (.int .u8 op) (.int .i64 0) (.int .u32 0) (.int .u32 0) (.int .u8 0) (.slice none 0 0) (.slice none 0 0) (.slice none 0 0)
  generalize (w.alloc (.cells #[.int .u8 0, .int .i64 0, .int .u32 0, .int .u32 0, .int .u8 0, .slice none 0 0, .slice none 0 0, .slice none 0 0] 50)).alloc (.cells #[.int .u8 op, .int .i64 0, .int .u32 0, .int .u32 0, .int .u8 0, .slice none 0 0, .slice none 0 0, .slice none 0 0] 50) = w2 at *
  refine (unhide HF _ ((unhide HT).1.below hb0)).mono ?_
  rintro e w3 ⟨rfl, hb3⟩
  have hb := Below.on hb0 hb3
  have hr := (unhide HR).below hb
  have ht := Tn.of (N := N) hb
  have hT := (unhide HT).below hb
  have hN := (unhide HR).lt
  have hold := (unhide HR).old
  replace b0 := b0.below hb3
  replace b1 := b1.below hb3
  have hz3 : w.heap.size + 2 ≤ w3.heap.size := by have := hb3.size; omega
  clear hb0 hb3 hz hb HF HR HT w2
  have HR := hide hr; have HT := hide ht; have HTb := hide hT; have B0 := hide b0; have B1 := hide b1; have HN := hide hN; have HO := hide hold; have HZ := hide hz3
  clear hr ht hT b0 b1 hN hold hz3
  generalize hQ : w.heap.size = Q at *
  have HQ := hide hQ; clear hQ
  go_wp2_with fail
  refine (kd_any (unhide HR)).mono ?_
  rintro e w4 ⟨rfl, hr, ht⟩
  have b0 := (unhide B0).tn ht (by have := unhide HN; omega)
  have b1 := (unhide B1).tn ht (by have := unhide HN; omega)
  have ht2 := Tn.on (unhide HT) ht
  clear HR HT B0 B1
  have HR := hide hr; have HT := hide ht2; have B0 := hide b0; have B1 := hide b1
  clear hr ht ht2 b0 b1
  obtain ⟨p0, p1, p2, p3, p4, p5, p6, p7⟩ := (unhide B1).cs
  have pz := (unhide B1).fz
  have hr := (unhide HR).tn (Tn.set (Q + 1) 4 w4 (.int .u8 (kV (pB zs p jK).v))) (by have := unhide HN; omega) (fun b o e hl => by have := unhide HO b o e hl; have := unhide HQ; omega)
  have ht := (unhide HT).new (Tn.set (Q + 1) 4 w4 (.int .u8 (kV (pB zs p jK).v))) (by have := unhide HQ; omega)
  have b1 := (unhide B1).set4 (.int .u8 (kV (pB zs p jK).v))
  have b0 := (unhide B0).tn (Tn.set (Q + 1) 4 w4 (.int .u8 (kV (pB zs p jK).v))) (by omega)
  clear HR HT B0 B1
  have HR := hide hr; have HT := hide ht; have B0 := hide b0; have B1 := hide b1
  clear hr ht b0 b1
  go_wp2_with fail
  generalize w4.setCell ⟨Q + 1, 4, none⟩ (.int .u8 (kV (pB zs p jK).v)) = w5 at *
  clear p0 p1 p2 p3 p4 p5 p6 p7 pz
  go_wp2_with fail
  refine (bod_err (unhide HR) (unhide HP)).mono ?_
  rintro e w6 ⟨rfl, hr, ht⟩
  have b0 := (unhide B0).tn ht (by have := unhide HN; omega)
  have b1 := (unhide B1).tn ht (by have := unhide HN; omega)
  have ht2 := Tn.on (unhide HT) ht
  clear HR HT B0 B1
  have HR := hide hr; have HT := hide ht2; have B0 := hide b0; have B1 := hide b1
  clear hr ht ht2 b0 b1
  obtain ⟨p0, p1, p2, p3, p4, p5, p6, p7⟩ := (unhide B1).cs
  have pz := (unhide B1).fz
  have hr := ((unhide HR).tn (Tn.set (Q + 1) 5 w6 (.slice none 0 0)) (by have := unhide HN; omega) (fun b o e hl => by have := unhide HO b o e hl; have := unhide HQ; omega)).tn (Tn.set (Q + 1) 6 _ (.slice none 0 0)) (by have := unhide HN; omega) (fun b o e hl => by have := unhide HO b o e hl; have := unhide HQ; omega)
  have ht := ((unhide HT).new (Tn.set (Q + 1) 5 w6 (.slice none 0 0)) (by have := unhide HQ; omega)).new (Tn.set (Q + 1) 6 _ (.slice none 0 0)) (by have := unhide HQ; omega)
  have b1 := ((unhide B1).set5 (.slice none 0 0)).set6 (.slice none 0 0)
  have b0 := ((unhide B0).tn (Tn.set (Q + 1) 5 w6 (.slice none 0 0)) (by omega)).tn (Tn.set (Q + 1) 6 _ (.slice none 0 0)) (by omega)
  clear HR HT B0 B1
  have HR := hide hr; have HT := hide ht; have B0 := hide b0; have B1 := hide b1
  clear hr ht b0 b1
  obtain ⟨c0, c1, c2, c3, c4, c5, c6, c7⟩ := (unhide B1).cs
  obtain ⟨d0, d1, d2, d3, d4, d5, d6, d7⟩ := (unhide B0).cs
  have cz := (unhide B0).fz
  have hq : Q < ((w6.setCell ⟨Q + 1, 5, none⟩ (.slice none 0 0)).setCell ⟨Q + 1, 6, none⟩ (.slice none 0 0)).heap.size := (unhide B0).lt
  go_wp2
  have hb := put8_bx (unhide B0) (.int .u8 op) (.int .i64 0) (.int .u32 0) (.int .u32 0) (.int .u8 (kV (pB zs p jK).v)) (.slice none 0 0) (.slice none 0 0) (.slice none 0 0)
  have hf := put8_tn ((w6.setCell ⟨Q + 1, 5, none⟩ (.slice none 0 0)).setCell ⟨Q + 1, 6, none⟩ (.slice none 0 0)) Q (.int .u8 op) (.int .i64 0) (.int .u32 0) (.int .u32 0) (.int .u8 (kV (pB zs p jK).v)) (.slice none 0 0) (.slice none 0 0) (.slice none 0 0)
  unfold put8 at hb hf
  clear c0 c1 c2 c3 c4 c5 c6 c7 d0 d1 d2 d3 d4 d5 d6 d7 cz hq p0 p1 p2 p3 p4 p5 p6 p7 pz
  generalize ((((((((((w6.setCell ⟨Q + 1, 5, none⟩ (.slice none 0 0)).setCell ⟨Q + 1, 6, none⟩ (.slice none 0 0)).setCell ⟨Q, 0, none⟩ (.int .u8 op)).setCell ⟨Q, 1, none⟩ (.int .i64 0)).setCell ⟨Q, 2, none⟩ (.int .u32 0)).setCell ⟨Q, 3, none⟩ (.int .u32 0)).setCell ⟨Q, 4, none⟩ (.int .u8 (kV (pB zs p jK).v))).setCell ⟨Q, 5, none⟩ (.slice none 0 0)).setCell ⟨Q, 6, none⟩ (.slice none 0 0)).setCell ⟨Q, 7, none⟩ (.slice none 0 0)) = wf at *
  obtain ⟨c0, c1, c2, c3, c4, c5, c6, c7⟩ := hb.cs
  obtain ⟨g1, g2⟩ := ins_end Q (unhide HR) (unhide HT) (by have := unhide HQ; omega) (by have := unhide HN; have := unhide HQ; omega) (fun b o e hl => by have := unhide HO b o e hl; have := unhide HQ; omega) hf
  refine bodyPost_ret (v := .agg #[.int .u8 op, .int .i64 0, .int .u32 0, .int .u32 0, .int .u8 (kV (pB zs p jK).v), .slice none 0 0, .slice none 0 0, .slice none 0 0]) (by simp [results, Tryd.results49, go_sem, c0, c1, c2, c3, c4, c5, c6, c7]) rfl ?_
  refine ⟨⟨op, 0, 0, 0, kV (pB zs p jK).v, [], [], []⟩, .slice none 0 0, .slice none 0 0, .slice none 0 0, rfl, ?_, g2, ⟨⟨_, _, _, rfl⟩, ⟨_, _, _, rfl⟩, ⟨_, _, _, rfl⟩⟩, fun he => ?_⟩
  · rw [unhide HE.1, unhide HE.2.1, unhide HE.2.2.1]; exact g1
  · exact absurd (by rw [← unhide HE.1]; exact he) (unhide HP)
end Ex
end Go.Proofs.YtjhmglefejclpaaDoor
