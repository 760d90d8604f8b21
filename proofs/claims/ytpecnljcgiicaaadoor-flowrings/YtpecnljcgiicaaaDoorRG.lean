/- flow: the statements' sure, walked. -/
import Derived.Test.YtpecnljcgiicaaaDoorRA
import Derived.Test.YtpecnljcgiicaaaDoorRD
import Derived.Test.YtpecnljcgiicaaaDoorRE
import Derived.Test.YtpecnljcgiicaaaDoorVcT
import Derived.Deep.CutRange

/- flow: code that was laid; the statements' sure. -/
namespace Go.Proofs.YtpecnljcgiicaaaDoor
open Go.RowKit
namespace Fw
set_option linter.unusedVariables false
set_option linter.unusedSimpArgs false
open Vc (NumsL Nums Lies LL Bls BlC InC Bl Co WfC WfB WfI chk siz Fms infoN infoBl own_base RowT cob cob_cells OwnL Its own)

/-- rows laid one behind another -/
def al (w : World) (os : List Obj) : World := os.foldl World.alloc w
theorem al_below (os : List Obj) : ∀ w, Below w.heap.size w (al w os) := by
  induction os with
  | nil => intro w; exact Below.refl _ _
  | cons o r ih => intro w; exact (Vc.one_alloc w o).trans ((ih (w.alloc o)).mono (by simp))
theorem al_size (os : List Obj) : ∀ w, (al w os).heap.size = w.heap.size + os.length := by
  induction os with
  | nil => intro w; rfl
  | cons o r ih => intro w; show (al (w.alloc o) r).heap.size = _; rw [ih]; simp; omega
theorem al_at (os : List Obj) : ∀ (w : World) (i : Nat) (o : Obj), os[i]? = some o → (al w os).heap[w.heap.size + i]? = some o := by
  induction os with
  | nil => intro w i o h; simp at h
  | cons o r ih =>
    intro w i x h
    show (al (w.alloc o) r).heap[w.heap.size + i]? = some x
    cases i with
    | zero =>
      simp only [List.getElem?_cons_zero, Option.some.injEq] at h
      subst h
      exact ((al_below r (w.alloc o)).block w.heap.size (by simp)).trans (heap_alloc_new w o)
    | succ i =>
      rw [List.getElem?_cons_succ] at h
      have := ih (w.alloc o) i x h
      rw [show (w.alloc o).heap.size + i = w.heap.size + (i + 1) by simp; omega] at this
      exact this
theorem nums_row {W : World} {b : Nat} {zs : List Int} {T : TypeId} (h : W.heap[b]? = some (.cells (iv zs).toArray T (0, 0))) {g : Nat → Prop} (hg : g b) : NumsL W g zs (.slice (some ⟨b, 0, none⟩) zs.length zs.length) :=
  ⟨_, _, rfl, Nat.le_refl _, (by intro h; cases h), fun h0 => ⟨b, 0, rfl, hg, fun j hj => by
    rw [Nat.zero_add, cell_of_row W b j _ _ _ h, List.getElem?_toArray, iv, List.getElem?_map, get?_getD _ _ 0 hj]; rfl⟩⟩
theorem nums_nil (W : World) (g : Nat → Prop) : NumsL W g [] (.slice none 0 0) := ⟨none, 0, rfl, Nat.le_refl _, fun _ => rfl, fun h => by simp at h⟩
theorem ll_row {α : Type} {It : World → (Nat → Prop) → α → List Value → Prop} {c : Nat} {W : World} {b : Nat} {l : List α} {xs : List Value} {T : TypeId} (h : W.heap[b]? = some (.cells xs.toArray T (0, 0))) {g : Nat → Prop} (hg : g b) (hi : Its (It W g) c l xs) : LL It c W g l (.slice (some ⟨b, 0, none⟩) l.length l.length) :=
  ⟨_, _, rfl, Nat.le_refl _, (by intro h; cases h), fun h0 => ⟨b, 0, rfl, hg, (Array.getElem?_eq_some_iff.1 h).1, fun i x hx => by
    obtain ⟨cs, h1, h2, h3⟩ := hi.2 i x hx
    refine ⟨cs, h1, h2, fun j u hu => ?_⟩
    rw [Nat.zero_add, cell_of_row W b _ _ _ _ h, List.getElem?_toArray, h3 j (by have := (List.getElem?_eq_some_iff.1 hu).1; omega)]; exact hu⟩⟩
/-- code in a box -/
def CoAt (w W : World) (P : Nat) (c : Co) : Prop := ∃ a cap, W.heap[P]? = some (.cells (cob c.pa c.re c.rs (.slice a c.bl.length cap)) 25 (0, 0)) ∧ Bls W (fun k => w.heap.size ≤ k ∧ k < W.heap.size ∧ k ≠ P) c.bl (.slice a c.bl.length cap) ∧ w.heap.size ≤ P ∧ Below w.heap.size w W

def brI : Vc.In := ⟨194, -1, [0], 0, 0⟩
def rtI : Vc.In := ⟨15, -1, [], 0, 0⟩
def sCo : Co := ⟨0, 1, false, [⟨[jmpI], [1], 0⟩, ⟨[brI], [1, 2], 0⟩, ⟨[rtI], [], 0⟩]⟩
def sObj (N : Nat) : List Obj := [.cells #[.int .u8 193, .int .i64 (-1), .slice none 0 0, .int .i64 0, .int .u32 0] 29, .cells #[.int .u8 193, .int .i64 (-1), .slice none 0 0, .int .i64 0, .int .u32 0] 29, .cells #[.int .i64 1] 3, .cells #[.int .i64 0] 3, .cells #[.int .u8 194, .int .i64 (-1), .slice (some ⟨N + 3, 0, none⟩) 1 1, .int .i64 0, .int .u32 0] 29, .cells #[.int .i64 1, .int .i64 2] 3, .cells #[.int .u8 15, .int .i64 (-1), .slice none 0 0, .int .i64 0, .int .u32 0] 29, .cells #[.slice (some ⟨N + 1, 0, none⟩) 1 1, .slice (some ⟨N + 2, 0, none⟩) 1 1, .int .i64 0, .slice (some ⟨N + 4, 0, none⟩) 1 1, .slice (some ⟨N + 5, 0, none⟩) 2 2, .int .i64 0, .slice (some ⟨N + 6, 0, none⟩) 1 1, .slice none 0 0, .int .i64 0] 32, .cells (cob 0 1 false (.slice (some ⟨N + 7, 0, none⟩) 3 3)) 25]
theorem one_its {W : World} {g : Nat → Prop} {y : Vc.In} {vs : Value} (h : NumsL W g y.src vs) : Its (InC W g) 5 [y] (Vc.inC y vs) := one_news (w5 := W) h
theorem sure_at (w : World) : CoAt w (al w (sObj w.heap.size)) (w.heap.size + 8) sCo := by
  obtain ⟨N, hN⟩ : ∃ N, N = w.heap.size := ⟨_, rfl⟩
  have hb := al_below (sObj w.heap.size) w
  have hz := al_size (sObj w.heap.size) w
  have ha := al_at (sObj w.heap.size) w
  rw [← hN] at hb hz ha
  have r1 := ha 1 _ rfl; have r2 := ha 2 _ rfl; have r3 := ha 3 _ rfl; have r4 := ha 4 _ rfl; have r5 := ha 5 _ rfl; have r6 := ha 6 _ rfl; have r7 := ha 7 _ rfl; have r8 := ha 8 _ rfl
  have hz9 : (al w (sObj N)).heap.size = N + 9 := hz
  unfold CoAt
  rw [← hN]
  generalize al w (sObj N) = W at *
  have hg : ∀ i, i < 8 → N ≤ N + i ∧ N + i < W.heap.size ∧ N + i ≠ N + 8 := fun i hi => by omega
  have n3 : NumsL W (fun k => N ≤ k ∧ k < W.heap.size ∧ k ≠ N + 8) [0] (.slice (some ⟨N + 3, 0, none⟩) 1 1) := nums_row (zs := [0]) r3 (hg 3 (by omega))
  have i1 : LL InC 5 W (fun k => N ≤ k ∧ k < W.heap.size ∧ k ≠ N + 8) [jmpI] (.slice (some ⟨N + 1, 0, none⟩) 1 1) := ll_row (xs := Vc.inC jmpI (.slice none 0 0)) r1 (hg 1 (by omega)) (one_its (nums_nil _ _))
  have i4 : LL InC 5 W (fun k => N ≤ k ∧ k < W.heap.size ∧ k ≠ N + 8) [brI] (.slice (some ⟨N + 4, 0, none⟩) 1 1) := ll_row (xs := Vc.inC brI (.slice (some ⟨N + 3, 0, none⟩) 1 1)) r4 (hg 4 (by omega)) (one_its n3)
  have i6 : LL InC 5 W (fun k => N ≤ k ∧ k < W.heap.size ∧ k ≠ N + 8) [rtI] (.slice (some ⟨N + 6, 0, none⟩) 1 1) := ll_row (xs := Vc.inC rtI (.slice none 0 0)) r6 (hg 6 (by omega)) (one_its (nums_nil _ _))
  have b0 : BlC W (fun k => N ≤ k ∧ k < W.heap.size ∧ k ≠ N + 8) ⟨[jmpI], [1], 0⟩ [.slice (some ⟨N + 1, 0, none⟩) 1 1, .slice (some ⟨N + 2, 0, none⟩) 1 1, .int .i64 0] := ⟨_, _, rfl, i1, nums_row (zs := [1]) r2 (hg 2 (by omega))⟩
  have b1 : BlC W (fun k => N ≤ k ∧ k < W.heap.size ∧ k ≠ N + 8) ⟨[brI], [1, 2], 0⟩ [.slice (some ⟨N + 4, 0, none⟩) 1 1, .slice (some ⟨N + 5, 0, none⟩) 2 2, .int .i64 0] := ⟨_, _, rfl, i4, nums_row (zs := [1, 2]) r5 (hg 5 (by omega))⟩
  have b2 : BlC W (fun k => N ≤ k ∧ k < W.heap.size ∧ k ≠ N + 8) ⟨[rtI], [], 0⟩ [.slice (some ⟨N + 6, 0, none⟩) 1 1, .slice none 0 0, .int .i64 0] := ⟨_, _, rfl, i6, nums_nil _ _⟩
  exact ⟨_, 3, r8, ll_row (It := BlC) (c := 3) (l := sCo.bl) r7 (hg 7 (by omega)) ((((Its.nil _ 3).snoc b0 rfl).snoc b1 rfl).snoc b2 rfl), by omega, hb⟩
/-- one loop, where it lies -/
theorem lp_one {w : World} {B : Nat} {u : Value} {h : Nat} {bs : List Nat} (hl : OwnL LpC 2 43 w B (fun q => B ≤ q) u [(h, bs)]) : ∃ gp cap a m, u = .slice (some ⟨gp, 0, none⟩) 1 cap ∧ w.cell? ⟨gp, 0, none⟩ = some (.int .i64 (h : Int)) ∧ w.cell? ⟨gp, 1, none⟩ = some (.slice a bs.length m) ∧ NumsL w (fun q => q < w.heap.size) (nz bs) (.slice a bs.length m) := by
  obtain ⟨xs, ho, hi⟩ := hl
  obtain ⟨cs, k1, ⟨v, rfl, k2⟩, k3⟩ := hi.2 0 _ rfl
  have hc := fun gp cap (e : u = .slice (some ⟨gp, 0, none⟩) 1 cap) => Vc.row_cells (g := gp) (cap := cap) (n := 1) (xs := xs) (by rw [← e]; exact ho)
  rcases ho.2 with ⟨-, e⟩ | ⟨g', cap, cur, rfl, -⟩
  · simp at e
  · have k2 : NumsL w (own (fun q => B ≤ q) (.slice (some ⟨g', 0, none⟩) 1 cap)) (nz bs) v := k2
    obtain ⟨a, m, rfl, h6, h7, h8⟩ := k2
    have hc2 := hc g' cap rfl
    have e0 := hc2 0 (.int .i64 (h : Int)) (by have := k3 0 (by omega); simpa using this)
    have e1 := hc2 1 (.slice a (nz bs).length m) (by have := k3 1 (by omega); simpa using this)
    rw [nz_len] at e1
    refine ⟨g', cap, a, m, rfl, e0, e1, a, m, by rw [nz_len], h6, h7, fun h0 => ?_⟩
    obtain ⟨b, o, e, hb, hp⟩ := h8 h0
    exact ⟨b, o, e, hp.lt h0, hp⟩
/-- the same sort, step by step: the kernel can reckon it -/
def ins1 (x : Int) : List Int → List Int
  | [] => [x]
  | y :: r => if x ≤ y then x :: y :: r else y :: ins1 x r
def isort (l : List Int) : List Int := l.foldr ins1 []
theorem ins1_perm (x : Int) : ∀ l, (ins1 x l).Perm (x :: l) := by
  intro l
  induction l with
  | nil => exact List.Perm.refl _
  | cons y r ih =>
    unfold ins1
    split
    · exact List.Perm.refl _
    · exact (ih.cons y).trans (List.Perm.swap x y r)
theorem isort_perm : ∀ l, (isort l).Perm l := by
  intro l
  induction l with
  | nil => exact List.Perm.refl _
  | cons x r ih => exact (ins1_perm x (isort r)).trans (ih.cons x)
theorem ins1_sorted (x : Int) : ∀ l, l.Pairwise (· ≤ ·) → (ins1 x l).Pairwise (· ≤ ·) := by
  intro l
  induction l with
  | nil => intro _; simp [ins1]
  | cons y r ih =>
    intro h
    rw [List.pairwise_cons] at h
    unfold ins1
    split
    · rename_i hxy
      rw [List.pairwise_cons, List.pairwise_cons]
      exact ⟨fun z hz => by rcases List.mem_cons.1 hz with rfl | hz2; exact hxy; exact Int.le_trans hxy (h.1 z hz2), h⟩
    · rename_i hxy
      rw [List.pairwise_cons]
      refine ⟨fun z hz => ?_, ih h.2⟩
      rcases List.mem_cons.1 ((ins1_perm x r).mem_iff.1 hz) with rfl | hz2
      · omega
      · exact h.1 z hz2
theorem isort_sorted : ∀ l, (isort l).Pairwise (· ≤ ·) := by
  intro l
  induction l with
  | nil => exact List.Pairwise.nil
  | cons x r ih => exact ins1_sorted x _ ih
theorem sorted_eq : ∀ (l r : List Int), l.Perm r → l.Pairwise (· ≤ ·) → r.Pairwise (· ≤ ·) → l = r := by
  intro l
  induction l with
  | nil => intro r h _ _; exact (List.Perm.nil_eq h)
  | cons a l ih =>
    intro r h h1 h2
    cases r with
    | nil => exact absurd h.length_eq (by simp)
    | cons b r =>
      rw [List.pairwise_cons] at h1 h2
      have hab : a = b := by
        have k1 : a ∈ b :: r := h.mem_iff.1 (List.mem_cons_self ..)
        have k2 : b ∈ a :: l := h.mem_iff.2 (List.mem_cons_self ..)
        rcases List.mem_cons.1 k1 with e | e
        · exact e
        · rcases List.mem_cons.1 k2 with e2 | e2
          · exact e2.symm
          · have := h1.1 b e2; have := h2.1 a e; omega
      subst hab
      rw [ih r (List.Perm.cons_inv h) h1.2 h2.2]
theorem srt_eq (l : List Int) : srt l = isort l := by
  have h : (srt l).Pairwise fun x y => decide (x ≤ y) = true := List.pairwise_mergeSort (fun a b c h1 h2 => by simp at h1 h2 ⊢; omega) (fun a b => by simp; omega) l
  exact sorted_eq _ _ ((List.mergeSort_perm l _).trans (isort_perm l).symm) (h.imp fun h => by simpa using h) (isort_sorted l)
def rchC (l : List Bl) : List Int := isort (nz (walk (nxs l)).ent)
def trimC (l : List Bl) : List Bl := (pick l (rchC l)).map (tellB (anw (rchC l) l.length (rchC l).length))
theorem trimC_eq (l : List Bl) : trimB l = trimC l := by unfold trimB trimC rch rchC; rw [srt_eq]
def joinC (l : List Bl) : List Bl := trimC (joinA (trimC l))
theorem joinC_eq (l : List Bl) : joinB l = joinC l := by unfold joinB joinC; rw [trimC_eq, trimC_eq]
theorem sCo_facts : chk sCo = true ∧ over (nxs sCo.bl) = [-1, 0, 1] ∧ loops (nxs sCo.bl) = [(1, [1])] ∧ Vc.sC ⟨sCo.pa, sCo.re, sCo.rs, trimB sCo.bl⟩ sCo = true := ⟨by decide +kernel, by decide +kernel, by decide +kernel, by rw [trimC_eq]; decide +kernel⟩
theorem sCo_wf : WfC sCo := by
  have hi : ∀ y : Vc.In, y = jmpI ∨ y = brI ∨ y = rtI → WfI y := by
    rintro y (rfl | rfl | rfl)
    · exact jmp_wf
    · exact ⟨by decide, by unfold Vc.i64 brI; decide, fun z hz => by simp [brI] at hz; subst hz; unfold Vc.i64; decide, by unfold Vc.i64 brI; decide, by decide, by decide, by decide⟩
    · exact ⟨by decide, by unfold Vc.i64 rtI; decide, fun z hz => by simp [rtI] at hz, by unfold Vc.i64 rtI; decide, by decide, by decide, by decide⟩
  refine ⟨by unfold Vc.i64 sCo; decide, by unfold Vc.i64 sCo; decide, fun b hb => ?_, by decide⟩
  simp only [sCo, List.mem_cons, List.not_mem_nil, or_false] at hb
  rcases hb with rfl | rfl | rfl
  · exact ⟨fun y hy => hi y (by simp at hy; exact .inl hy), fun z hz => by simp at hz; subst hz; unfold Vc.i64; decide, by unfold Vc.i64; decide, by decide, by decide⟩
  · exact ⟨fun y hy => hi y (by simp at hy; exact .inr (.inl hy)), fun z hz => by simp at hz; rcases hz with rfl | rfl <;> (unfold Vc.i64; decide), by unfold Vc.i64; decide, by decide, by decide⟩
  · exact ⟨fun y hy => hi y (by simp at hy; exact .inr (.inr hy)), fun z hz => by simp at hz, by unfold Vc.i64; decide, by decide, by decide⟩
end Fw
end Go.Proofs.YtpecnljcgiicaaaDoor

/- flow: the statements' sure, walked. -/
namespace Go.Proofs.YtpecnljcgiicaaaDoor
open Go.RowKit
namespace Fw
set_option linter.unusedVariables false
set_option linter.unusedSimpArgs false
open Vc (NumsL Nums Lies LL Bls BlC InC Bl Co WfC WfB WfI chk siz Fms infoN infoBl own_base RowT cob cob_cells OwnL Its own)

theorem CoAt.get {w W : World} {P : Nat} {c : Co} (h : CoAt w W P c) : ∃ a cap, (W.cell? ⟨P, 0, none⟩ = some (.int .i64 c.pa) ∧ W.cell? ⟨P, 1, none⟩ = some (.int .i64 c.re) ∧ W.cell? ⟨P, 2, none⟩ = some (.bool c.rs) ∧ W.cell? ⟨P, 3, none⟩ = some (.slice a c.bl.length cap)) ∧ P < W.heap.size ∧ Bls W (fun k => k < W.heap.size) c.bl (.slice a c.bl.length cap) := by
  obtain ⟨a, cap, h1, h2, h3, h4⟩ := h
  obtain ⟨c0, c1, c2, c3, cf, cl⟩ := cob_cells h1
  exact ⟨a, cap, ⟨c0, c1, c2, c3⟩, cl, h2.moved (fun k hk _ => ⟨hk, rfl⟩) (Nat.le_refl _)⟩

theorem CoAt.be {w W : World} {P : Nat} {c : Co} (h : CoAt w W P c) : Below w.heap.size w W := by
  obtain ⟨a, cap, h1, h2, h3, h4⟩ := h
  exact h4

set_option maxRecDepth 100000 in
set_option maxHeartbeats 3200000 in
theorem sure_any (w : World) (hT : Fms w) :
    Calls Tryd.prog 9 #[] w fun e w' => e = .returned (.bool true) ∧ Below w.heap.size w w' := by
  obtain ⟨hck, hov, hlp, hsm⟩ := sCo_facts
  have hwf := sCo_wf
  have hsa := sure_at w
  obtain ⟨c, hc⟩ : ∃ c, c = sCo := ⟨_, rfl⟩
  rw [← hc] at hck hov hlp hsm hwf hsa
  have HT := hide hT; have HSa0 := hide hsa
  have HCk := hide hck; have HOv := hide hov; have HLp := hide hlp; have HSm := hide hsm
  clear hT hck hov hlp hsm hsa hc
  go_enter Tryd.func9, Tryd.ntmps9
  go_upto_region 2 with fail
  go_cut [2] from 10 to 23 (fun p wx => ∃ P, p = .pointer (some ⟨P, 0, none⟩) ∧ CoAt w wx P c)
  case first =>
    go_wp2_with fail
    go_meet
    exact ⟨_, rfl, unhide HSa0⟩
  case rest =>
    obtain ⟨P, rfl, hco⟩ := hcut
    have hbe := hco.be
    obtain ⟨a, cap, ⟨c0, c1, c2, c3⟩, cl, hbl⟩ := hco.get
    obtain ⟨n, hn⟩ : ∃ n, n = c.bl.length := ⟨_, rfl⟩
    rw [← hn] at c3 hbl
    have hT := (unhide HT).below hbe
    have hB : ∀ W, Below wc.heap.size wc W → Bls W (fun k => k < wc.heap.size) c.bl (.slice a n cap) := fun W hW => bls_on hbl hW
    have K1 : ∀ W, Below wc.heap.size wc W → Calls Tryd.prog 25 #[.agg #[.int .i64 c.pa, .int .i64 c.re, .bool c.rs, .slice a n cap]] W fun e w' => ∃ u, e = .returned (.tuple #[u, .nilIface]) ∧ Ro w' W.heap.size u [-1, 0, 1] ∧ Below W.heap.size W w' := fun W hW => by
      have h := over_yes c hwf (unhide HCk) (fun k => k < wc.heap.size) (.slice a n cap) W (hT.below hW) (hB W hW) (fun k hk => Nat.lt_of_lt_of_le hk hW.size)
      rw [unhide HOv] at h; exact h
    have K2 : ∀ W, Below wc.heap.size wc W → Calls Tryd.prog 5 #[.agg #[.int .i64 c.pa, .int .i64 c.re, .bool c.rs, .slice a n cap]] W fun e w' => ∃ gp cp la lm, e = .returned (.tuple #[.slice (some ⟨gp, 0, none⟩) 1 cp, .nilIface]) ∧ (w'.cell? ⟨gp, 0, none⟩ = some (.int .i64 1) ∧ w'.cell? ⟨gp, 1, none⟩ = some (.slice la 1 lm) ∧ NumsL w' (fun q => q < w'.heap.size) [1] (.slice la 1 lm)) ∧ Below W.heap.size W w' := fun W hW => by
      have h := loops_yes c hwf (unhide HCk) (fun k => k < wc.heap.size) (.slice a n cap) W (hT.below hW) (hB W hW) (fun k hk => Nat.lt_of_lt_of_le hk hW.size)
      rw [unhide HLp] at h
      refine h.mono ?_
      rintro e w' ⟨u, rfl, h1, h2⟩
      obtain ⟨gp, cp, la, lm, rfl, e0, e1, e2⟩ := lp_one (h := 1) (bs := [1]) (B := W.heap.size) h1
      exact ⟨gp, cp, la, lm, rfl, ⟨e0, e1, e2⟩, h2⟩
    have K3 : ∀ W, Below wc.heap.size wc W → Calls Tryd.prog 26 #[.agg #[.int .i64 c.pa, .int .i64 c.re, .bool c.rs, .slice a n cap]] W fun e w' => ∃ ta tn tc, e = .returned (.tuple #[.agg #[.int .i64 c.pa, .int .i64 c.re, .bool c.rs, .slice ta tn tc], .nilIface]) ∧ Bls w' (fun k => k < w'.heap.size) (trimB c.bl) (.slice ta tn tc) ∧ Below W.heap.size W w' := fun W hW => by
      refine (trim_yes c hwf (unhide HCk) (fun k => k < wc.heap.size) (.slice a n cap) W (hT.below hW) (hB W hW) (fun k hk => Nat.lt_of_lt_of_le hk hW.size)).mono ?_
      rintro e w' ⟨u, rfl, h1, h2⟩
      obtain ⟨ta, tc, rfl, -, -, -⟩ := id h1
      exact ⟨ta, _, tc, rfl, h1.moved (fun k hk _ => ⟨hk, rfl⟩) (Nat.le_refl _), h2⟩
    have hkeep : ∀ W, Below wc.heap.size wc W → W.cell? ⟨P, 0, none⟩ = some (.int .i64 c.pa) ∧ W.cell? ⟨P, 1, none⟩ = some (.int .i64 c.re) ∧ W.cell? ⟨P, 2, none⟩ = some (.bool c.rs) ∧ W.cell? ⟨P, 3, none⟩ = some (.slice a n cap) := fun W hW => ⟨(hW.cell (p := ⟨P, 0, none⟩) cl).trans c0, (hW.cell (p := ⟨P, 1, none⟩) cl).trans c1, (hW.cell (p := ⟨P, 2, none⟩) cl).trans c2, (hW.cell (p := ⟨P, 3, none⟩) cl).trans c3⟩
    have hsame : ∀ W ta tn tc (G : Nat → Prop), Below wc.heap.size wc W → Bls W G (trimB c.bl) (.slice ta tn tc) → Calls Tryd.prog 8 #[.agg #[.int .i64 c.pa, .int .i64 c.re, .bool c.rs, .slice ta tn tc], .agg #[.int .i64 c.pa, .int .i64 c.re, .bool c.rs, .slice a n cap]] W fun e w' => e = .returned (.bool true) ∧ Below W.heap.size W w' := fun W ta tn tc G hW hb => by
      have h := Vc.same_any ⟨c.pa, c.re, c.rs, trimB c.bl⟩ c (wf_trim hwf (cok_of c (unhide HCk))) hwf W hb (hB W hW)
      rw [unhide HSm] at h; exact h
    have hint : ∀ (x y : List Int) (b : Nat) (va vb : Value) (W : World), x = y → x.length ≤ b → b ≤ 1099511627776 → NumsL W (fun k => k < W.heap.size) x va → NumsL W (fun k => k < W.heap.size) y vb → Calls Tryd.prog 27 #[va, vb] W fun e w' => e = .returned (.bool true) ∧ Below W.heap.size W w' := fun x y b va vb W e hx hb h1 h2 => by
      have h := ints_any x y (by omega) (by rw [← e]; omega) va vb W h1 h2
      rw [e, decide_eq_true (rfl : y = y)] at h; exact h
    have HK1 := hide K1; have HK2 := hide K2; have HK3 := hide K3; have HKp := hide hkeep; have HSa := hide hsame; have HIn := hide hint; have HBe := hide hbe; have HN := hide hn
    clear hbe hn cl K1 K2 K3 hkeep hsame hint hB hT hbl hco hwf HT HCk HOv HLp HSm
    go_upto_region 6 with (first
      | (go_at_call 25; refine (unhide HK1 _ (Below.refl _ _)).mono ?_; rintro e w1 ⟨u1, rfl, ho1, hb1⟩; obtain ⟨oa, oc, rfl, -⟩ := ho1.sl; obtain ⟨c0, c1, c2, c3⟩ := unhide HKp _ hb1; have HO1 := hide ho1; have HB1 := hide hb1; clear ho1 hb1)
      | (go_at_call 5; refine (unhide HK2 _ (unhide HB1)).mono ?_; rintro e w2 ⟨gp, cp, la, lm, rfl, hl2, hb2⟩; have hb2' := (unhide HB1).trans (hb2.mono (unhide HB1).size); obtain ⟨c0, c1, c2, c3⟩ := unhide HKp _ hb2'; have HL2 := hide hl2; have HBw2 := hide hb2; have HB2 := hide hb2'; clear hl2 hb2 hb2')
      | (go_at_call 26; refine (unhide HK3 _ (unhide HB2)).mono ?_; rintro e w3 ⟨ta, tn, tc, rfl, ht3, hb3⟩; have HT3 := hide ht3; have HBw3 := hide hb3; have HB3 := hide ((unhide HB2).trans (hb3.mono (unhide HB2).size)); clear ht3 hb3))
    have hb3 := unhide HB3
    have hb4 := hb3.trans ((Vc.one_alloc w3 (.cells (cob c.pa c.re c.rs (.slice ta tn tc)) 25)).mono hb3.size)
    have h34 := Vc.one_alloc w3 (.cells (cob c.pa c.re c.rs (.slice ta tn tc)) 25)
    have h24 := (unhide HBw3).trans (h34.mono (unhide HBw3).size)
    have h14 := (unhide HBw2).trans (h24.mono (unhide HBw2).size)
    have hrow := heap_alloc_new w3 (.cells (cob c.pa c.re c.rs (.slice ta tn tc)) 25)
    obtain ⟨W4, hW4⟩ : ∃ W4, W4 = w3.alloc (.cells (cob c.pa c.re c.rs (.slice ta tn tc)) 25) := ⟨_, rfl⟩
    rw [← hW4] at hb4 h34 h24 h14 hrow
    have n1 : NumsL W4 (fun k => k < W4.heap.size) [-1, 0, 1] (.slice oa ([-1, 0, 1] : List Int).length oc) := by
      have h := (unhide HO1).nums
      exact h.moved fun k hk _ => ⟨Nat.lt_of_lt_of_le hk h14.size, h14.block k hk⟩
    obtain ⟨p0, p1, n2⟩ := unhide HL2
    have n2' : NumsL W4 (fun k => k < W4.heap.size) [1] (.slice la 1 lm) := n2.moved fun k hk _ => ⟨Nat.lt_of_lt_of_le hk h24.size, h24.block k hk⟩
    have hbt : Bls W4 (fun k => k < W4.heap.size) (trimB c.bl) (.slice ta tn tc) := (unhide HT3).moved (fun k hk _ => ⟨Nat.lt_of_lt_of_le hk h34.size, h34.block k hk⟩) h34.size
    obtain ⟨b0, b1, b2, b3, -, bl⟩ := cob_cells hrow
    have q0 := (h24.cell (p := ⟨gp, 0, none⟩) (block_lt_of_cell p0)).trans p0
    have q1 := (h24.cell (p := ⟨gp, 1, none⟩) (block_lt_of_cell p1)).trans p1
    have hst : ∀ W, Below W4.heap.size W4 W → (W.cell? ⟨gp, 0, none⟩ = some (.int .i64 1) ∧ W.cell? ⟨gp, 1, none⟩ = some (.slice la 1 lm)) ∧ NumsL W (fun k => k < W.heap.size) [1] (.slice la 1 lm) ∧ (W.cell? ⟨w3.heap.size, 0, none⟩ = some (.int .i64 c.pa) ∧ W.cell? ⟨w3.heap.size, 1, none⟩ = some (.int .i64 c.re) ∧ W.cell? ⟨w3.heap.size, 2, none⟩ = some (.bool c.rs) ∧ W.cell? ⟨w3.heap.size, 3, none⟩ = some (.slice ta tn tc)) ∧ Bls W (fun k => k < W.heap.size) (trimB c.bl) (.slice ta tn tc) := fun W hW =>
      ⟨⟨(hW.cell (p := ⟨gp, 0, none⟩) (block_lt_of_cell q0)).trans q0, (hW.cell (p := ⟨gp, 1, none⟩) (block_lt_of_cell q1)).trans q1⟩, n2'.moved fun k hk _ => ⟨Nat.lt_of_lt_of_le hk hW.size, hW.block k hk⟩, ⟨(hW.cell (p := ⟨w3.heap.size, 0, none⟩) bl).trans b0, (hW.cell (p := ⟨w3.heap.size, 1, none⟩) bl).trans b1, (hW.cell (p := ⟨w3.heap.size, 2, none⟩) bl).trans b2, (hW.cell (p := ⟨w3.heap.size, 3, none⟩) bl).trans b3⟩, hbt.moved (fun k hk _ => ⟨Nat.lt_of_lt_of_le hk hW.size, hW.block k hk⟩) hW.size⟩
    have HSt := hide hst; have HB4 := hide hb4
    have ha5 := Vc.one_alloc W4 (.cells #[.int .i64 (-1), .int .i64 0, .int .i64 1] 3)
    have hi5 := unhide HIn [-1, 0, 1] [-1, 0, 1] 3 (.slice oa ([-1, 0, 1] : List Int).length oc) (.slice (some ⟨W4.heap.size, 0, none⟩) 3 3) (W4.alloc (.cells #[.int .i64 (-1), .int .i64 0, .int .i64 1] 3)) rfl (by decide) (by decide) (n1.moved fun k hk _ => ⟨Nat.lt_of_lt_of_le hk ha5.size, ha5.block k hk⟩) (nums_row (zs := [-1, 0, 1]) (heap_alloc_new W4 _) (by simp))
    have HI5 := hide hi5; have HA5 := hide ha5
    clear hst hb4 h34 h24 h14 hrow n1 n2 n2' hbt b0 b1 b2 b3 bl q0 q1 hb3 ha5 hi5 p0 p1 HO1 HL2 HT3 HBw2 HBw3 HK1 HK2 HK3 HB1 HB2
    rw [show w3.alloc (.cells #[.int .i64 c.pa, .int .i64 c.re, .bool c.rs, .slice ta tn tc] 25) = W4 from hW4.symm]
    clear hW4
    go_wp2_with (first
      | (go_at_call 8; refine (unhide HSa _ _ _ _ _ (unhide HB7) ((unhide HSt _ (unhide HC7)).2.2.2)).mono ?_; rintro e w8 ⟨rfl, hb8⟩; have HB8 := hide ((unhide HB7).trans (hb8.mono (unhide HB7).size)); clear hb8)
      | (go_at_call 27
         have ha6 := Vc.one_alloc w6 (.cells #[.int .i64 1] 3)
         have hc6 := (unhide HC6).trans (ha6.mono (unhide HC6).size)
         refine (unhide HIn [1] [1] 1 _ _ _ rfl (by decide) (by decide) ((unhide HSt _ hc6).2.1) (nums_row (zs := [1]) (heap_alloc_new w6 _) (by simp))).mono ?_
         rintro e w7 ⟨rfl, hb7⟩
         have hc7 := hc6.trans (hb7.mono hc6.size)
         have hb7' := (unhide HB4).trans (hc7.mono (unhide HB4).size)
         have HC7 := hide hc7; have HB7 := hide hb7'
         obtain ⟨c0, c1, c2, c3⟩ := unhide HKp _ hb7'
         obtain ⟨-, -, ⟨f0, f1, f2, f3⟩, -⟩ := unhide HSt _ hc7
         clear hb7 hc7 hb7' hc6 ha6)
      | (go_at_call 27; refine (unhide HI5).mono ?_; rintro e w6 ⟨rfl, hb6⟩; have HC6 := hide ((unhide HA5).trans (hb6.mono (unhide HA5).size)); obtain ⟨⟨g0, g1⟩, -⟩ := unhide HSt _ (unhide HC6); clear hb6))
    go_ret
    exact ⟨rfl, (unhide HBe).trans ((unhide HB8).mono (unhide HBe).size)⟩
end Fw
end Go.Proofs.YtpecnljcgiicaaaDoor
