/- ExprSame's walk. -/
import Derived.Test.YtjhmglefejclpaaDoorY1
import Derived.Test.YtjhmglefejclpaaDoorE1
import Derived.Test.YtjhmglefejclpaaDoorGC
import Derived.Deep.RegionHeld3
import Derived.Deep.AppendLies
import Derived.Deep.Cut

/- ExprSame's walk. -/
namespace Go.Proofs.YtjhmglefejclpaaDoor
open Go.RowKit
namespace Ex
set_option linter.unusedVariables false
set_option linter.unusedSimpArgs false

def zI : Ins := ⟨0, 0, 0, 0, 0, [], [], []⟩
theorem SzI_z (M : Nat) : SzI M zI := ⟨Nat.zero_le _, Nat.zero_le _, Nat.zero_le _, Sz_nil M, Sz_nil M⟩
theorem Sz_app {M : Nat} {l : List Ins} {i : Ins} (h : Sz M l) (hi : SzI M i) : Sz M (l ++ [i]) := Sz_of fun j hj => by
  rcases List.mem_append.1 hj with h1 | h1
  · exact Sz_get h j h1
  · simp at h1; subst h1; exact hi
theorem Sz_set {M : Nat} {l : List Ins} {k : Nat} {i : Ins} (h : Sz M l) (hi : SzI M i) : Sz M (l.set k i) := Sz_of fun j hj => by
  rcases List.mem_or_eq_of_mem_set hj with h1 | h1
  · exact Sz_get h j h1
  · subst h1; exact hi
theorem OwnC.code2 {w : World} {B : Nat} {G : Nat → Prop} {v : Value} {l : List Ins} (h : OwnC w B G v l) {g' : Nat → Prop} (hg : ∀ k, k < w.heap.size → G k → g' k) (hb : ∀ k, v.ownBlock = some k → g' k) : Code w g' l v := by
  obtain ⟨xs, hx, hi⟩ := h
  have hx0 := hx
  rcases hx.2 with ⟨rfl, h0⟩ | ⟨g, cap, cur, rfl, hg', hc, hn, _⟩
  · rw [List.eq_nil_of_length_eq_zero h0]; exact Code_nil _ _
  · refine ⟨_, cap, rfl, hn, by simp, fun hl => ⟨g, 0, rfl, hb g rfl, ?_⟩⟩
    have : Items w (own G (.slice (some ⟨g, 0, none⟩) l.length cap)) l g 0 := Its.items hi fun j u hj => by rw [Nat.zero_add]; exact row_cells hx0 j u hj
    exact Items.move (moves_below (Below.refl _ _) (fun k hk h => hg k hk h.2)) l g 0 rfl this
theorem OwnK.c1 {w w5 : World} {S k : Nat} {g : Nat → Prop} {v v1 v2 vl : Value} {x : Ins} {la lb : List Ins} {ys zs : List Value} {p q r : Nat} (h : OwnK w S g v k x la lb ys zs p q r v1 v2 vl) (hk : ∀ d, d < w.heap.size → (g d ∨ btw p q d) → w5.heap[d]? = w.heap[d]?) : Code w5 (fun _ => True) x.body v1 :=
  (h.o1.code2 (g' := fun d => g d ∨ btw p q d) (fun d _ hg => hg) (fun d hd => .inr (h.r1 d hd))).move fun d hd _ hg => ⟨trivial, hk d hd hg⟩
theorem OwnK.c2 {w w5 : World} {S k : Nat} {g : Nat → Prop} {v v1 v2 vl : Value} {x : Ins} {la lb : List Ins} {ys zs : List Value} {p q r : Nat} (h : OwnK w S g v k x la lb ys zs p q r v1 v2 vl) (hk : ∀ d, d < w.heap.size → (g d ∨ btw q r d) → w5.heap[d]? = w.heap[d]?) : Code w5 (fun _ => True) x.els v2 :=
  (h.o2.code2 (g' := fun d => g d ∨ btw q r d) (fun d _ hg => hg) (fun d hd => .inr (h.r2 d hd))).move fun d hd _ hg => ⟨trivial, hk d hd hg⟩
theorem OwnK.c3 {w w5 : World} {S k : Nat} {g : Nat → Prop} {v v1 v2 vl : Value} {x : Ins} {la lb : List Ins} {ys zs : List Value} {p q r : Nat} (h : OwnK w S g v k x la lb ys zs p q r v1 v2 vl) (hk : ∀ d, d < w.heap.size → g d → w5.heap[d]? = w.heap[d]?) : Lies (fun _ => True) x.ls.length (Lab w5 x.ls) vl :=
  Labs.move (fun d hd _ hg => ⟨trivial, hk d hd hg⟩) h.ls
theorem own32 (w : World) (z : Int) : (w.alloc (.cells #[.int .u32 z] 46)).ownsRow w.heap.size 46 1 (.slice (some ⟨w.heap.size, 0, none⟩) 1 1) 1 [.int .u32 z] := by
  refine ⟨rfl, .inr ⟨w.heap.size, 1, #[.int .u32 z], rfl, Nat.le_refl _, heap_alloc_new w _, Nat.le_refl _, ?_, ?_, ?_⟩⟩
  all_goals first | rfl | decide | (unfold maxLen; omega)
theorem lab_run (w : World) (ty : TypeId) (B : Nat) (v : Value) (n : Nat) (xs : List Int) (hown : w.ownsRow B 46 1 v n (xs.map (Value.int .u32))) (la : Option Addr) (lc : Nat) (zs : List Int) (g : Nat → Prop) (hl : Lies g zs.length (Lab w zs) (.slice la zs.length lc)) (hb : n + zs.length ≤ 1099511627776) (hB : B ≤ w.heap.size) :
    ∃ a' n' c' w', (Builtin.append_ #[48, 48] ty #[v, .slice la zs.length lc]).run Tryd.prog w = .ok (.slice a' n' c') w' ∧ w'.ownsRow B 46 1 (.slice a' n' c') (n + zs.length) ((xs ++ zs).map (Value.int .u32)) ∧ Below B w w' ∧ (∀ q, q < w.heap.size → v.ownBlock ≠ some q → w'.heap[q]? = w.heap[q]?) := by
  obtain ⟨i0, hi, hz0, hz1, hz2⟩ := info_parts infoU32
  obtain ⟨la', lc', e, h2, h3, h4⟩ := hl
  cases e
  cases la with
  | none =>
    have hm : zs.length = 0 := by
      rcases Nat.eq_zero_or_pos zs.length with h1 | h1
      · exact h1
      · obtain ⟨b, off, hc, _⟩ := h4 h1; cases hc
    have hzs : zs = [] := List.eq_nil_of_length_eq_zero hm
    subst hzs
    obtain rfl := h3 rfl
    have hrun := run_append_owned_none (P := Tryd.prog) (w := w) B 48 ty 46 i0 1 Tryd.underlying48 hi v n (xs.map (Value.int .u32)) hown
    obtain ⟨a', c', rfl⟩ := own_isSl hown
    exact ⟨a', n, c', w, hrun, by simpa using hown, Below.refl _ _, fun _ _ _ => rfl⟩
  | some ad =>
    obtain ⟨v', w', hrun, h1, hg, _⟩ := run_append_own (P := Tryd.prog) w B 48 ty 46 i0 (.int .u32 0) 1 4 Tryd.underlying48 hi hz0 hz1 hz2 rfl (by decide) v n (xs.map (Value.int .u32)) hown ad zs.length lc (zs.map (Value.int .u32)) (by simp) (by
      intro j u hj
      simp at hj
      obtain ⟨z, hz, rfl⟩ := hj
      have hj2 : j < zs.length := (List.getElem?_eq_some_iff.1 hz).1
      obtain ⟨b, off, he, _, hcell⟩ := h4 (by omega)
      simp at he; subst he
      rw [addr_add, hcell j hj2]; simp [List.getD, hz]) (by intro u hu; simp at hu; obtain ⟨z, _, rfl⟩ := hu; rfl) (by unfold maxLen; omega) (by omega) hB
    obtain ⟨a', c', rfl⟩ := own_isSl h1
    exact ⟨a', _, c', w', hrun, by rw [List.map_append]; exact h1, (Below.refl B w).grown hg hB (fun k hk => (hown.lt k hk).1), fun q hq hne => hg.block q hq (fun e => hne e.symm)⟩
theorem wpList_lab {ops : Array Oper} {rest : List Oper} {o : Oper} {a : Act} {Q : Exit → Act → World → Prop} (w : World) (hgd : o.guard = none) (s x : Operand)
    (ho : o.op = .call { callee := .builtin .append, args := #[s, x], argTypes := #[48, 48] })
    (B : Nat) (v : Value) (n : Nat) (xs : List Int) (hs : a.eval s = v) (hown : w.ownsRow B 46 1 v n (xs.map (Value.int .u32)))
    (la : Option Addr) (lc : Nat) (zs : List Int) (hx : a.eval x = .slice la zs.length lc) (g : Nat → Prop) (hl : Lies g zs.length (Lab w zs) (.slice la zs.length lc)) (hb : n + zs.length ≤ 1099511627776) (hB : B ≤ w.heap.size)
    (h : ∀ a' n' c' w', w'.ownsRow B 46 1 (.slice a' n' c') (n + zs.length) ((xs ++ zs).map (Value.int .u32)) → Below B w w' → (∀ q, q < w.heap.size → v.ownBlock ≠ some q → w'.heap[q]? = w.heap[q]?) → wpList Tryd.prog ops Q rest (a.put o.dst (.slice a' n' c')) w') : wpList Tryd.prog ops Q (o :: rest) a w := by
  obtain ⟨a', n', c', w', hrun, h1, h2, h3⟩ := lab_run w o.type B v n xs hown la lc zs g hl hb hB
  refine wpList_plain hgd fun _ hK => ?_
  unfold Oper.wp
  simp [execOp, ho, resolve, invoke, builtin, hs, hx, hrun, Result.andThen]
  exact hK _ _ (h a' n' c' w' h1 h2 h3)
/-- the uppermost statement's calls: what they are to tell -/
structure Tl (w : World) (l : List Ins) (n : Nat) (va vb : Value) (x' : Ins) (K : Nat) (wx : World) : Prop where
  ca : Code wx (fun _ => True) l va
  cb : Code wx (fun _ => True) (l.set K x') vb
  bel : Below w.heap.size w wx
theorem Tl.on {w wx wy : World} {l : List Ins} {n : Nat} {va vb : Value} {x' : Ins} {K : Nat} (h : Tl w l n va vb x' K wx) (hb : Below wx.heap.size wx wy) : Tl w l n va vb x' K wy := ⟨h.ca.below hb, h.cb.below hb, Below.on h.bel hb⟩
theorem row_keep {w : World} {b : Nat} {L : List Value} (h : ∀ j u, L[j]? = some u → w.cell? ⟨b, j, none⟩ = some u) (m : Nat) (u : Value) (hm : L[m]? = some u) : ∀ j u', L[j]? = some u' → (w.setCell ⟨b, m, none⟩ u).cell? ⟨b, j, none⟩ = some u' := by
  have e : L.set m u = L := by
    apply List.ext_getElem?
    intro i
    by_cases hi : i = m
    · subst hi; rw [List.getElem?_set_self', hm]; rfl
    · rw [List.getElem?_set_ne (fun e => hi e.symm)]
  have := row_set h m u
  rw [e] at this
  exact this
theorem setCell_id {w : World} {b o : Nat} {u : Value} (h : w.cell? ⟨b, o, none⟩ = some u) : w.setCell ⟨b, o, none⟩ u = w := by
  have hh : (w.setCell ⟨b, o, none⟩ u).heap = w.heap := by
    apply Array.ext_getElem?
    intro i
    simp only [World.setCell, Array.getElem?_modify]
    by_cases hi : b = i
    · subst hi
      simp only [World.cell?] at h
      cases hb : w.heap[b]? with
      | none => simp
      | some ob =>
        rw [hb] at h
        cases ob with
        | cells c e fr =>
          simp at h
          have hc : c.setIfInBounds o u = c := by
            apply Array.ext_getElem?
            intro j
            rw [Array.getElem?_setIfInBounds]
            by_cases hj : o = j
            · subst hj; rw [h]; simp [(Array.getElem?_eq_some_iff.1 h).1]
            · simp [hj]
          simp [hc]
        | _ => simp at h
    · simp [hi]
  cases w
  simp only [World.setCell] at hh ⊢
  rw [hh]
theorem setCell_id2 {w : World} {b o b' o' : Nat} {u v : Value} (hne : ¬ b' = b) (h : w.cell? ⟨b, o, none⟩ = some u) : (w.setCell ⟨b', o', none⟩ v).setCell ⟨b, o, none⟩ u = w.setCell ⟨b', o', none⟩ v :=
  setCell_id ((World.cell?_setCell_other _ _ _ _ (fun e => hne (congrArg Addr.block e))).trans h)
theorem nest_code {w A4 w4 w5 : World} {g : Nat → Prop} {lo hi : Nat} {v1 : Value} {L : List Ins} {xn : List Value} {H gg cp nb B : Nat} (hA : Below w.heap.size w A4) (hH : A4.heap.size = H) (hnb : L.length = nb)
    (hin : Its w (own (fun b => g b ∨ btw lo hi b) v1) L xn) (hxn : w.ownsRow lo 50 8 v1 nb xn) (hown : w4.ownsRow lo 50 8 (.slice (some ⟨gg, 0, none⟩) (nb + 1) cp) (nb + 1) (xn ++ cel zI (.slice none 0 0) (.slice none 0 0) (.slice none 0 0)))
    (hgrow : A4.grownBy w4 v1.ownBlock) (hat : v1.ownBlock = some gg ∨ gg = H) (hgB : ∀ d, g d → d ≠ B) (hbB : ¬ btw lo hi B) (hggB : ¬ gg = B) (hot : ∀ d, d ≠ B → w5.heap[d]? = w4.heap[d]?) :
    Code w5 (fun _ => True) (L ++ [zI]) (.slice (some ⟨gg, 0, none⟩) (nb + 1) cp) := by
  subst hnb
  have o4 := OwnC.snoc (i := zI) (own_turn hxn fun k hk => hA.block k (hxn.lt k hk).2) (Its.move (moves_below hA (fun _ _ h => h)) hin) (Code_nil _ _) (Code_nil _ _) (Labs_nil _ _) hown hgrow hat hH
  exact (o4.code2 (g' := fun d => d ≠ B) (fun d _ hg => by
      rcases hg with h | h
      · exact hgB d h
      · exact fun e => hbB (e ▸ h)) (fun d hd => by simp [Value.ownBlock] at hd; rw [← hd]; exact hggB)).move fun d _ _ hg => ⟨trivial, hot d hg⟩

set_option maxRecDepth 100000 in
set_option maxHeartbeats 20000000 in
theorem esame_any {v : Value} {l : List Ins} {w : World} (hv : Code w (fun _ => True) l v) (hwt : wt l ≤ 1048576) (at_ way : Int) (hE : ErrT w) (hT : Tb w) :
    Calls Tryd.prog 7 #[v, .int .i64 at_, .int .i64 way] w fun e w' => e = .returned (.bool true) ∧ Below w.heap.size w w' := by
  have hll : l.length ≤ 1048576 := by have := wt_len l; omega
  have hsz0 : Sz 1048576 l := Sz_wt l hwt
  have hsz : Sz 1099511627776 l := Sz_mono (by omega) l hsz0
  have hlg := large_any l _ v w hv (by omega) hsz
  have hsu := fun wx (hb : Below w.heap.size w wx) => sure_any wx (hT.below hb) (hE.below (Nat.le_refl _) hb)
  have hgv := fun wx (hb : Below w.heap.size w wx) => give_any l (· < wx.heap.size) v wx (fun k h => h) ((hv.below hb).any (fun k hk _ => hk)) (by omega) hsz
  have hgk := fun (K : Nat) (hK : K < l.length) (u : Value) (hu : Code w (fun _ => True) l u) wx (hb : Below w.heap.size w wx) => givek_any l K hK (· < wx.heap.size) u wx (fun k h => h) ((hu.below hb).any (fun k hk _ => hk)) (by omega) hsz
  have hsm := fun (m : List Ins) (u u2 : Value) (wx : World) (hc : Code wx (fun _ => True) l u) (hc2 : Code wx (fun _ => True) m u2) (hm : m.length ≤ 1099511627776) (hs : Sz 1099511627776 m) => same_any l m _ _ u u2 wx hc hc2 (by omega) hsz hm hs
  have hu0 : 0 ≤ IntKind.u64.wrap at_ := by rw [IntKind.wrap_u64]; omega
  have hu1 : 0 ≤ IntKind.u64.wrap way := by rw [IntKind.wrap_u64]; omega
  have HLg := hide hlg; have HSu := hide hsu; have HGv := hide hgv; have HGk := hide hgk; have HSm := hide hsm; have HSz := hide hsz; have HSz0 := hide hsz0
  have HU0 := hide hu0; have HU1 := hide hu1
  have HV := hide hv
  obtain ⟨va, vc, rfl, _⟩ := hv
  clear hlg hsu hgv hgk hsm hE hT hsz hwt hsz0 hu0 hu1
  obtain ⟨ln, hln⟩ : ∃ ln, l.length = ln := ⟨_, rfl⟩
  rw [hln] at HLg HGv HV hll ⊢
  have HLn := hide hln; clear hln
  go_enter Tryd.func7, Tryd.ntmps7
  go_wp2_with fail
  refine (unhide HLg).mono ?_
  rintro e w1 ⟨b, rfl, hb1⟩
  have HB1 := hide hb1; clear hb1 HLg
  cases b with
  | true =>
    go_wp2_with fail
    refine (unhide HSu _ (unhide HB1)).mono ?_
    rintro e w9 ⟨rfl, hb9⟩
    have HB9 := hide (Below.on (unhide HB1) hb9); clear hb9
    go_wp2
    go_ret
    exact ⟨rfl, unhide HB9⟩
  | false =>
    by_cases h0 : ln = 0
    · subst h0
      go_wp2_with fail
      refine (unhide HSu _ (unhide HB1)).mono ?_
      rintro e w9 ⟨rfl, hb9⟩
      have HB9 := hide (Below.on (unhide HB1) hb9); clear hb9
      go_wp2
      go_ret
      exact ⟨rfl, unhide HB9⟩
    obtain ⟨m, rfl⟩ : ∃ m, ln = m + 1 := ⟨ln - 1, by omega⟩
    have hne : (((m + 1 : Nat) : Int) == 0) = false := by simp; omega
    have hpos : (0 : Int) < ((m + 1 : Nat) : Int) := by omega
    obtain ⟨K, hK⟩ := Int.eq_ofNat_of_zero_le (show 0 ≤ (IntKind.u64.wrap at_).tmod ((m + 1 : Nat) : Int) by rw [Int.tmod_eq_emod_of_nonneg (unhide HU0)]; exact Int.emod_nonneg _ (by omega))
    have hKl : (K : Int) < ((m + 1 : Nat) : Int) := by rw [← hK, Int.tmod_eq_emod_of_nonneg (unhide HU0)]; exact Int.emod_lt_of_pos _ hpos
    obtain ⟨W, hW⟩ := Int.eq_ofNat_of_zero_le (show 0 ≤ (IntKind.u64.wrap way).tmod 7 by rw [Int.tmod_eq_emod_of_nonneg (unhide HU1)]; omega)
    have hWl : (W : Int) < 7 := by rw [← hW, Int.tmod_eq_emod_of_nonneg (unhide HU1)]; omega
    have hlnu : IntKind.u64.wrap ((m + 1 : Nat) : Int) = ((m + 1 : Nat) : Int) := by rw [IntKind.wrap_u64]; omega
    have hln1 : IntKind.i64.wrap (((m + 1 : Nat) : Int) - 1) = (m : Int) := by rw [wr64 _ (by omega)]; omega
    have hlnz : ¬ (((m + 1 : Nat) : Int) = 0) := by omega
    rw [show ((m + 1 : Nat) : Int) = (m : Int) + 1 by omega] at hK hKl hlnu hln1 hne hpos hlnz
    have hmb : (m : Int) + 1 ≤ 1048576 := by omega
    have hK0 : (0 : Int) ≤ (K : Int) := by omega
    clear h0
    go_wp2_with fail
    refine (unhide HGv _ (unhide HB1)).mono ?_
    rintro e w2 ⟨v2, rfl, hb2, hown2⟩
    have HB2 := hide (Below.on (unhide HB1) hb2)
    have hC2 : Code w2 (fun b => b < w2.heap.size) l v2 := hown2.code (g' := fun b => b < w2.heap.size) fun b hb _ => hb
    obtain ⟨xs2, hx2, _⟩ := hown2
    obtain ⟨A, ac, rfl, _, _, hac, _⟩ := own_blk hx2 (by have := unhide HLn; omega)
    have HC2 := hide hC2
    rw [unhide HLn] at HC2 hac ⊢
    clear hb2 hC2 hx2
    go_wp2_with fail
    refine (unhide HGk K (by rw [unhide HLn]; omega) _ (unhide HV) _ (unhide HB2)).mono ?_
    rintro e w3 ⟨v3, ys, zs, p, q, r, u1, u2, ul, rfl, hb3, hrow3, hO3⟩
    have HB3 := hide (Below.on (unhide HB2) hb3)
    have HC3 := hide ((unhide HC2).below hb3)
    have hyl : ys.length = K * 8 := by have := hO3.ha.len; rw [this]; simp; have := unhide HLn; omega
    obtain ⟨B, c, rfl, hB1, hB2, hnc, hcel, hfz⟩ := own_blk hrow3 (by have := unhide HLn; omega)
    have hKll : K < l.length := by have := unhide HLn; omega
    obtain ⟨x, hx⟩ : ∃ x, l[K] = x := ⟨_, rfl⟩
    rw [hx] at hrow3 hO3 hcel
    rw [unhide HLn] at hrow3 hO3 hnc ⊢
    have HX := hide hx; have HRow3 := hide hrow3; have HO3 := hide hO3; have HCel := hide hcel; have HYl := hide hyl; have HB23 := hide hb3; have HBB := hide (And.intro hB1 hB2); have HNc := hide hnc; have HKl := hide hKll
    have f := hfz
    have k0 : w3.cell? ⟨B, K * 8, none⟩ = some (.int .u8 x.op) := hcel _ _ (by have := cel_at (zs := zs) (x := x) (v1 := u1) (v2 := u2) (vl := ul) hyl 0 (by omega); rw [Nat.add_zero] at this; rw [this]; rfl)
    have k1 : w3.cell? ⟨B, K * 8 + 1, none⟩ = some (.int .i64 x.n) := hcel _ _ (by rw [cel_at hyl 1 (by omega)]; rfl)
    have k2 : w3.cell? ⟨B, K * 8 + 2, none⟩ = some (.int .u32 x.al) := hcel _ _ (by rw [cel_at hyl 2 (by omega)]; rfl)
    have k4 : w3.cell? ⟨B, K * 8 + 4, none⟩ = some (.int .u8 x.re) := hcel _ _ (by rw [cel_at hyl 4 (by omega)]; rfl)
    have k5 : w3.cell? ⟨B, K * 8 + 5, none⟩ = some u1 := hcel _ _ (by rw [cel_at hyl 5 (by omega)]; rfl)
    have k6 : w3.cell? ⟨B, K * 8 + 6, none⟩ = some u2 := hcel _ _ (by rw [cel_at hyl 6 (by omega)]; rfl)
    have k7 : w3.cell? ⟨B, K * 8 + 7, none⟩ = some ul := hcel _ _ (by rw [cel_at hyl 7 (by omega)]; rfl)
    -- a scalar of that item turned
    have hgen : ∀ (w4 : World) (i : Nat) (hi : i < 8) (u : Value) (x' : Ins) (t1 t2 tl : Value) (w5 : World), w3.heap.size ≤ w4.heap.size → Below w2.heap.size w3 w4 → (∀ d, d < w3.heap.size → ¬ btw p r d → w4.heap[d]? = w3.heap[d]?) → (cel x u1 u2 ul).set i u = cel x' t1 t2 tl → w5 = w4.setCell ⟨B, K * 8 + i, none⟩ u →
        Code w5 (fun _ => True) x'.body t1 → Code w5 (fun _ => True) x'.els t2 → Lies (fun _ => True) x'.ls.length (Lab w5 x'.ls) tl → Tl w l (m + 1) (.slice (some ⟨A, 0, none⟩) (m + 1) ac) (.slice (some ⟨B, 0, none⟩) (m + 1) c) x' K w5 := by
      intro w4 i hi u x' t1 t2 tl w5 hz4 hb4 hk4 hce hw5 g1 g2 g3
      have nBt : ¬ btw p r B := hO3.row B rfl
      have hbb : Below w2.heap.size w3 w5 := by rw [hw5]; exact hb4.setCell (p := ⟨B, K * 8 + i, none⟩) hB1 u
      have ot : ∀ d, d ≠ B → w5.heap[d]? = w4.heap[d]? := fun d hd => by rw [hw5]; exact heap_setCell_other w4 ⟨B, K * 8 + i, none⟩ d u hd
      have hcel4 : ∀ j y, (ys ++ cel x u1 u2 ul ++ zs)[j]? = some y → w4.cell? ⟨B, j, none⟩ = some y := fun j y hj => (World.cell?_of_block (a := ⟨B, j, none⟩) (hk4 B hB2 nBt)).trans (hcel j y hj)
      have hrow5 : ∀ j y, (ys ++ cel x' t1 t2 tl ++ zs)[j]? = some y → w5.cell? ⟨B, j, none⟩ = some y := by
        rw [hw5, ← hce, ← cel_set hyl i hi u]
        exact row_set hcel4 _ u
      have nG : ∀ d, d < w2.heap.size → d ≠ B ∧ ¬ btw p r d := fun d hd => ⟨fun e => by omega, fun hbt => by have := hbt.1; have := hO3.Sp; omega⟩
      refine ⟨(unhide HC3).move (fun d hd _ hg => ⟨trivial, (ot d (nG d hg).1).trans (hk4 d hd (nG d hg).2)⟩), ?_, (unhide HB3).trans (hbb.mono (by have := (unhide HB2).size; omega))⟩
      rw [← set_parts (by rw [unhide HLn]; omega) x']
      exact hO3.turned (x' := x') (u1 := t1) (u2 := t2) (ul := tl) (by simp; have := unhide HLn; omega) hnc hrow5 (fun d hd hg => (ot d (fun e => hg.1 (by rw [e]; rfl))).trans (hk4 d hd hg.2.2)) g1 g2 g3
    have hsc : ∀ (i : Nat) (hi : i < 8) (u : Value) (x' : Ins), (cel x u1 u2 ul).set i u = cel x' u1 u2 ul → x'.body = x.body → x'.els = x.els → x'.ls = x.ls → ∀ w5, w5 = w3.setCell ⟨B, K * 8 + i, none⟩ u → Tl w l (m + 1) (.slice (some ⟨A, 0, none⟩) (m + 1) ac) (.slice (some ⟨B, 0, none⟩) (m + 1) c) x' K w5 := by
      intro i hi u x' hce e1 e2 e3 w5 hw5
      have ot : ∀ d, d ≠ B → w5.heap[d]? = w3.heap[d]? := fun d hd => by rw [hw5]; exact heap_setCell_other w3 ⟨B, K * 8 + i, none⟩ d u hd
      have nG : ∀ d, d < w2.heap.size → d ≠ B := fun d hd e => by omega
      have nB : ∀ d, btw p r d → d ≠ B := fun d hd e => hO3.row B rfl (e ▸ hd)
      refine hgen w3 i hi u x' u1 u2 ul w5 (Nat.le_refl _) (Below.refl _ _) (fun _ _ _ => rfl) hce hw5 ?_ ?_ ?_
      · rw [e1]; exact hO3.c1 fun d hd hg => ot d (by rcases hg with h | h; exact nG d h; exact nB d ⟨h.1, by have := h.2; have := hO3.qr; omega⟩)
      · rw [e2]; exact hO3.c2 fun d hd hg => ot d (by rcases hg with h | h; exact nG d h; exact nB d ⟨by have := h.1; have := hO3.pq; omega, h.2⟩)
      · rw [e3]; exact hO3.c3 fun d hd hg => ot d (nG d hg)
    have HScal := hide hsc; have HGen := hide hgen
    clear hsc hgen hrow3 hO3 hcel hyl hb3 hB1 hB2 hnc hx hfz
    have k0x : True := trivial
    rcases (show W = 0 ∨ W = 1 ∨ W = 2 ∨ W = 3 ∨ W = 4 ∨ W = 5 ∨ W = 6 by omega) with rfl | rfl | rfl | rfl | rfl | rfl | rfl
    · clear k0x
      go_wp2_with fail
      obtain ⟨X', hX'⟩ : ∃ X' : Ins, X' = { x with op := (x.op + 1) % 256 } := ⟨_, rfl⟩
      have tl := unhide HScal 0 (by omega) (.int .u8 ((x.op + 1) % 256)) X' (by rw [hX']; rfl) (by rw [hX']) (by rw [hX']) (by rw [hX']) (w3.setCell ⟨B, K * 8, none⟩ (.int .u8 ((x.op + 1) % 256))) rfl
      generalize w3.setCell ⟨B, K * 8, none⟩ (.int .u8 ((x.op + 1) % 256)) = w5 at *
      have hXx : X' ≠ l[K]'(unhide HKl) := by
        rw [unhide HX, hX']
        intro e
        have h := congrArg Ins.op e
        simp only at h
        omega
      have hXs : SzI 1099511627776 X' := by
        have h := Sz_get (unhide HSz) (l[K]'(unhide HKl)) (List.getElem_mem _)
        rw [unhide HX] at h
        rw [hX']; exact h
      clear hX' k0 k1 k2 k4 k5 k6 k7 f
      have HNe := hide (set_ne' (unhide HKl) (x' := X') hXx)
      have HSz' := hide (Sz_set (k := K) (unhide HSz) (i := X') hXs)
      have HTl := hide tl
      clear tl
      generalize X' = X at *
      have q1 := unhide HSm l _ _ _ (unhide HTl).ca (unhide HTl).ca (by have := unhide HLn; omega) (unhide HSz)
      rw [same_refl] at q1
      refine q1.mono ?_
      clear q1
      rintro e wa ⟨rfl, hba⟩
      have HTa := hide ((unhide HTl).on hba)
      clear hba HTl
      go_wp2_with fail
      have q2 := unhide HSm _ _ _ _ (unhide HTa).ca (unhide HTa).cb (by rw [List.length_set]; have := unhide HLn; omega) (unhide HSz')
      rw [unhide HNe] at q2
      refine q2.mono ?_
      clear q2
      rintro e wb ⟨rfl, hbb⟩
      have HTb := hide ((unhide HTa).on hbb)
      clear hbb HTa
      go_wp2_with fail
      have q3 := unhide HSm (l.take m) _ (.slice (some ⟨A, 0, none⟩) m ac) _ (unhide HTb).ca ((unhide HTb).ca.short m (by have := unhide HLn; omega)) (by simp; have := unhide HLn; omega) (Sz_of fun i hi => Sz_get (unhide HSz) i (List.mem_of_mem_take hi))
      rw [show same l (l.take m) = false by have h := same_shorter (l := l) (by have := unhide HLn; omega); rw [unhide HLn] at h; exact h] at q3
      refine q3.mono ?_
      clear q3
      rintro e wd ⟨rfl, hbd⟩
      have HTd := hide ((unhide HTb).on hbd)
      clear hbd HTb
      go_wp2_with fail
      refine (unhide HSu _ (unhide HTd).bel).mono ?_
      rintro e we ⟨rfl, hbe⟩
      have HBe := hide (Below.on (unhide HTd).bel hbe)
      clear hbe
      go_wp2
      go_ret
      exact ⟨rfl, unhide HBe⟩
    · clear k0x
      go_wp2_with fail
      obtain ⟨X', hX'⟩ : ∃ X' : Ins, X' = { x with n := wrap64 (x.n + 1) } := ⟨_, rfl⟩
      have tl := unhide HScal 1 (by omega) (.int .i64 (wrap64 (x.n + 1))) X' (by rw [hX']; rfl) (by rw [hX']) (by rw [hX']) (by rw [hX']) (w3.setCell ⟨B, K * 8 + 1, none⟩ (.int .i64 (wrap64 (x.n + 1)))) rfl
      generalize w3.setCell ⟨B, K * 8 + 1, none⟩ (.int .i64 (wrap64 (x.n + 1))) = w5 at *
      have hXx : X' ≠ l[K]'(unhide HKl) := by
        rw [unhide HX, hX']
        intro e
        have h := congrArg Ins.n e
        simp only at h
        simp only [wrap64] at h
        omega
      have hXs : SzI 1099511627776 X' := by
        have h := Sz_get (unhide HSz) (l[K]'(unhide HKl)) (List.getElem_mem _)
        rw [unhide HX] at h
        rw [hX']; exact h
      clear hX' k0 k1 k2 k4 k5 k6 k7 f
      have HNe := hide (set_ne' (unhide HKl) (x' := X') hXx)
      have HSz' := hide (Sz_set (k := K) (unhide HSz) (i := X') hXs)
      have HTl := hide tl
      clear tl
      generalize X' = X at *
      have q1 := unhide HSm l _ _ _ (unhide HTl).ca (unhide HTl).ca (by have := unhide HLn; omega) (unhide HSz)
      rw [same_refl] at q1
      refine q1.mono ?_
      clear q1
      rintro e wa ⟨rfl, hba⟩
      have HTa := hide ((unhide HTl).on hba)
      clear hba HTl
      go_wp2_with fail
      have q2 := unhide HSm _ _ _ _ (unhide HTa).ca (unhide HTa).cb (by rw [List.length_set]; have := unhide HLn; omega) (unhide HSz')
      rw [unhide HNe] at q2
      refine q2.mono ?_
      clear q2
      rintro e wb ⟨rfl, hbb⟩
      have HTb := hide ((unhide HTa).on hbb)
      clear hbb HTa
      go_wp2_with fail
      have q3 := unhide HSm (l.take m) _ (.slice (some ⟨A, 0, none⟩) m ac) _ (unhide HTb).ca ((unhide HTb).ca.short m (by have := unhide HLn; omega)) (by simp; have := unhide HLn; omega) (Sz_of fun i hi => Sz_get (unhide HSz) i (List.mem_of_mem_take hi))
      rw [show same l (l.take m) = false by have h := same_shorter (l := l) (by have := unhide HLn; omega); rw [unhide HLn] at h; exact h] at q3
      refine q3.mono ?_
      clear q3
      rintro e wd ⟨rfl, hbd⟩
      have HTd := hide ((unhide HTb).on hbd)
      clear hbd HTb
      go_wp2_with fail
      refine (unhide HSu _ (unhide HTd).bel).mono ?_
      rintro e we ⟨rfl, hbe⟩
      have HBe := hide (Below.on (unhide HTd).bel hbe)
      clear hbe
      go_wp2
      go_ret
      exact ⟨rfl, unhide HBe⟩
    · clear k0x
      go_wp2_with fail
      obtain ⟨X', hX'⟩ : ∃ X' : Ins, X' = { x with al := (x.al + 1) % 4294967296 } := ⟨_, rfl⟩
      have tl := unhide HScal 2 (by omega) (.int .u32 ((x.al + 1) % 4294967296)) X' (by rw [hX']; rfl) (by rw [hX']) (by rw [hX']) (by rw [hX']) (w3.setCell ⟨B, K * 8 + 2, none⟩ (.int .u32 ((x.al + 1) % 4294967296))) rfl
      generalize w3.setCell ⟨B, K * 8 + 2, none⟩ (.int .u32 ((x.al + 1) % 4294967296)) = w5 at *
      have hXx : X' ≠ l[K]'(unhide HKl) := by
        rw [unhide HX, hX']
        intro e
        have h := congrArg Ins.al e
        simp only at h
        omega
      have hXs : SzI 1099511627776 X' := by
        have h := Sz_get (unhide HSz) (l[K]'(unhide HKl)) (List.getElem_mem _)
        rw [unhide HX] at h
        rw [hX']; exact h
      clear hX' k0 k1 k2 k4 k5 k6 k7 f
      have HNe := hide (set_ne' (unhide HKl) (x' := X') hXx)
      have HSz' := hide (Sz_set (k := K) (unhide HSz) (i := X') hXs)
      have HTl := hide tl
      clear tl
      generalize X' = X at *
      have q1 := unhide HSm l _ _ _ (unhide HTl).ca (unhide HTl).ca (by have := unhide HLn; omega) (unhide HSz)
      rw [same_refl] at q1
      refine q1.mono ?_
      clear q1
      rintro e wa ⟨rfl, hba⟩
      have HTa := hide ((unhide HTl).on hba)
      clear hba HTl
      go_wp2_with fail
      have q2 := unhide HSm _ _ _ _ (unhide HTa).ca (unhide HTa).cb (by rw [List.length_set]; have := unhide HLn; omega) (unhide HSz')
      rw [unhide HNe] at q2
      refine q2.mono ?_
      clear q2
      rintro e wb ⟨rfl, hbb⟩
      have HTb := hide ((unhide HTa).on hbb)
      clear hbb HTa
      go_wp2_with fail
      have q3 := unhide HSm (l.take m) _ (.slice (some ⟨A, 0, none⟩) m ac) _ (unhide HTb).ca ((unhide HTb).ca.short m (by have := unhide HLn; omega)) (by simp; have := unhide HLn; omega) (Sz_of fun i hi => Sz_get (unhide HSz) i (List.mem_of_mem_take hi))
      rw [show same l (l.take m) = false by have h := same_shorter (l := l) (by have := unhide HLn; omega); rw [unhide HLn] at h; exact h] at q3
      refine q3.mono ?_
      clear q3
      rintro e wd ⟨rfl, hbd⟩
      have HTd := hide ((unhide HTb).on hbd)
      clear hbd HTb
      go_wp2_with fail
      refine (unhide HSu _ (unhide HTd).bel).mono ?_
      rintro e we ⟨rfl, hbe⟩
      have HBe := hide (Below.on (unhide HTd).bel hbe)
      clear hbe
      go_wp2
      go_ret
      exact ⟨rfl, unhide HBe⟩
    · obtain ⟨i0, hi, hz0, hz1, hz2⟩ := info_parts infoI
      have hsh := (unhide HO3).o1.shape
      obtain ⟨na, nc, rfl, hnc2⟩ := hsh
      obtain ⟨xn, hxn, hin⟩ := (unhide HO3).o1
      have hxl : xn.length = x.body.length * 8 := hin.len
      have HXn := hide hxn; have HIn := hide hin; have HXl := hide hxl
      have HA4 := hide ((one_alloc w3 (.cells (cel zI (.slice none 0 0) (.slice none 0 0) (.slice none 0 0)).toArray 50)).drew)
      have hbsz : x.body.length ≤ 1048576 := by
        have h := Sz_get (unhide HSz0) (l[K]'(unhide HKl)) (List.getElem_mem _)
        rw [unhide HX] at h
        exact h.1
      have HBs := hide hbsz
      have nBz : ¬ B = w3.heap.size := by have := (unhide HBB).2; omega
      have hBz : B < w3.heap.size := (unhide HBB).2
      have hbz2 : (x.body.length : Int) ≤ 1048576 := by omega
      obtain ⟨nb, hnb⟩ : ∃ nb, x.body.length = nb := ⟨_, rfl⟩
      have HNb := hide hnb
      rw [hnb] at HXn HXl HBs hbz2 k5
      have hi1 : (nb : Int) < (nb : Int) + 1 := by omega
      have hi2 : (nb : Int) < ((nb + 1 : Nat) : Int) := by omega
      have hi0 : (0 : Int) ≤ (nb : Int) := by omega
      clear hnc2 hxn hin hxl hbsz hnb k0 k1 k2 k4 k6 k7
      go_upto_region 14 with fail
      go_region_law
        (first | (refine step_append_lies ((w3.alloc (.cells #[.int .u8 0, .int .i64 0, .int .u32 0, .int .u32 0, .int .u8 0, .slice none 0 0, .slice none 0 0, .slice none 0 0] 50)).drew) (by rfl) (.tmp 85) (.tmp 88) 25 (by rfl) p 50 i0 (.agg #[.int .u8 0, .int .i64 0, .int .u32 0, .int .u32 0, .int .u8 0, .slice none 0 0, .slice none 0 0, .slice none 0 0]) 8 104 Tryd.underlying25 hi hz0 hz1 hz2 rfl (by decide) (.slice na nb nc) nb xn (by rfl) (own_turn (unhide HXn) (fun d hd => (unhide HA4).block d ((unhide HXn).lt d hd).2)) ⟨w3.heap.size, 0, none⟩ 1 1 (cel zI (.slice none 0 0) (.slice none 0 0) (.slice none 0 0)) (by rfl) (by rfl) (fun j u hj => new_cel w3 zI _ _ _ _ j u hj) (cel_one zI ⟨_, _, _, rfl⟩ ⟨_, _, _, rfl⟩ ⟨_, _, _, rfl⟩) (by omega) (by have := unhide HBs; unfold maxLen; omega) (by have := unhide HBs; omega) (by have h1 := (unhide HO3).lt; have h2 := (unhide HO3).pq; have h3 := (unhide HO3).qr; have h4 := (unhide HA4).size; exact Nat.le_trans (by omega) h4) (w3.heap.size + 1) (by show (w3.alloc _).heap.size = _; simp) ?_
                  intro gg cp w4 hown4 hgrow hat4 hlt4
                  have hBne : (Value.slice na nb nc).ownBlock ≠ some B := fun e => (unhide HO3).row B rfl (by have h := (unhide HO3).r1 B (by rw [unhide HNb]; exact e); have := (unhide HO3).pq; have := (unhide HO3).qr; exact ⟨by have := h.1; omega, by have := h.2; omega⟩)
                  have hB4 : w4.heap[B]? = w3.heap[B]? := (hgrow.block B (Nat.lt_of_lt_of_le hBz (unhide HA4).size) (fun e => hBne e.symm)).trans ((unhide HA4).block B hBz)
                  have pk : w4.cell? ⟨B, K * 8 + 5, none⟩ = some (.slice na nb nc) := (World.cell?_of_block (a := ⟨B, K * 8 + 5, none⟩) hB4).trans k5
                  have pf : ∀ i, w4.frozen? ⟨B, i, none⟩ = false := fun i => by have := f i; simp only [World.frozen?, hB4] at this ⊢; exact this
                  have rk0 := row_cells hown4
                  have ngB : ¬ gg = B := fun e => by
                    rcases hat4 with h | h
                    · exact hBne (by rw [h, e])
                    · omega
                  have nBg : ¬ B = gg := fun e => ngB e.symm
                  have hgf : ∀ i, w4.frozen? ⟨gg, i, none⟩ = false := by
                    obtain ⟨b', c', e, _, _, _, _, hf⟩ := own_blk hown4 (by omega)
                    cases e
                    exact hf
                  have hxl := unhide HXl
                  have z0 : w4.cell? ⟨gg, nb * 8, none⟩ = some (.int .u8 0) := rk0 _ _ (by rw [List.getElem?_append_right (by omega), hxl]; simp [cel, zI])
                  have z1 : w4.cell? ⟨gg, nb * 8 + 1, none⟩ = some (.int .i64 0) := rk0 _ _ (by rw [List.getElem?_append_right (by omega), hxl]; simp [cel, zI])
                  have z2 : w4.cell? ⟨gg, nb * 8 + 2, none⟩ = some (.int .u32 0) := rk0 _ _ (by rw [List.getElem?_append_right (by omega), hxl]; simp [cel, zI])
                  have z3 : w4.cell? ⟨gg, nb * 8 + 3, none⟩ = some (.int .u32 0) := rk0 _ _ (by rw [List.getElem?_append_right (by omega), hxl]; simp [cel, zI])
                  have z4 : w4.cell? ⟨gg, nb * 8 + 4, none⟩ = some (.int .u8 0) := rk0 _ _ (by rw [List.getElem?_append_right (by omega), hxl]; simp [cel, zI])
                  have z5 : w4.cell? ⟨gg, nb * 8 + 5, none⟩ = some (.slice none 0 0) := rk0 _ _ (by rw [List.getElem?_append_right (by omega), hxl]; simp [cel, zI])
                  have z6 : w4.cell? ⟨gg, nb * 8 + 6, none⟩ = some (.slice none 0 0) := rk0 _ _ (by rw [List.getElem?_append_right (by omega), hxl]; simp [cel, zI])
                  have z7 : w4.cell? ⟨gg, nb * 8 + 7, none⟩ = some (.slice none 0 0) := rk0 _ _ (by rw [List.getElem?_append_right (by omega), hxl]; simp [cel, zI])
                  have HXl2 := hide hxl
                  have HOwn4 := hide hown4; have HGr := hide hgrow; have HAt := hide hat4
                  clear hown4 hgrow hat4 hlt4 hxl rk0)
               | fail)
      all_goals (
        obtain ⟨X', hX'⟩ : ∃ X' : Ins, X' = { x with body := x.body ++ [zI] } := ⟨_, rfl⟩
        have e0 := setCell_id z0
        have j0 := setCell_id2 (o' := K * 8 + 5) (v := (.slice (some ⟨gg, 0, none⟩) (nb + 1) cp)) nBg z0
        have e1 := setCell_id z1
        have j1 := setCell_id2 (o' := K * 8 + 5) (v := (.slice (some ⟨gg, 0, none⟩) (nb + 1) cp)) nBg z1
        have e2 := setCell_id z2
        have j2 := setCell_id2 (o' := K * 8 + 5) (v := (.slice (some ⟨gg, 0, none⟩) (nb + 1) cp)) nBg z2
        have e3 := setCell_id z3
        have j3 := setCell_id2 (o' := K * 8 + 5) (v := (.slice (some ⟨gg, 0, none⟩) (nb + 1) cp)) nBg z3
        have e4 := setCell_id z4
        have j4 := setCell_id2 (o' := K * 8 + 5) (v := (.slice (some ⟨gg, 0, none⟩) (nb + 1) cp)) nBg z4
        have e5 := setCell_id z5
        have j5 := setCell_id2 (o' := K * 8 + 5) (v := (.slice (some ⟨gg, 0, none⟩) (nb + 1) cp)) nBg z5
        have e6 := setCell_id z6
        have j6 := setCell_id2 (o' := K * 8 + 5) (v := (.slice (some ⟨gg, 0, none⟩) (nb + 1) cp)) nBg z6
        have e7 := setCell_id z7
        have j7 := setCell_id2 (o' := K * 8 + 5) (v := (.slice (some ⟨gg, 0, none⟩) (nb + 1) cp)) nBg z7
        simp only [e0, e1, e2, e3, e4, e5, e6, e7, j0, j1, j2, j3, j4, j5, j6, j7]
        clear e0 e1 e2 e3 e4 e5 e6 e7 j0 j1 j2 j3 j4 j5 j6 j7 z0 z1 z2 z3 z4 z5 z6 z7 pk pf hgf
        have hA4 : Below w3.heap.size w3 ((w3.alloc (.cells #[.int .u8 0, .int .i64 0, .int .u32 0, .int .u32 0, .int .u8 0, .slice none 0 0, .slice none 0 0, .slice none 0 0] 50)).drew) := unhide HA4
        have hH4 : ((w3.alloc (.cells #[.int .u8 0, .int .i64 0, .int .u32 0, .int .u32 0, .int .u8 0, .slice none 0 0, .slice none 0 0, .slice none 0 0] 50)).drew).heap.size = w3.heap.size + 1 := by show (w3.alloc _).heap.size = _; simp
        have hIn := unhide HIn
        rw [unhide HNb] at hIn
        have hrr : ∀ d, (Value.slice na nb nc).ownBlock = some d → btw p q d := fun d e => (unhide HO3).r1 d (by rw [unhide HNb]; exact e)
        have hpr : ∀ d, btw p q d → btw p r d := fun d h => by have := (unhide HO3).pq; have := (unhide HO3).qr; exact ⟨by have := h.1; omega, by have := h.2; omega⟩
        have hkk : ∀ d, d < w3.heap.size → ¬ btw p q d → w4.heap[d]? = w3.heap[d]? := fun d hd hn => ((unhide HGr).block d (Nat.lt_of_lt_of_le hd hA4.size) (fun e => hn (hrr d e.symm))).trans (hA4.block d hd)
        have hlo : w2.heap.size ≤ p := by have := (unhide HO3).pq; have := (unhide HO3).Sp; omega
        have hbb4 : Below w2.heap.size w3 w4 := (hA4.mono (unhide HB23).size).trans (((Below.refl p _).grown (unhide HGr) (by have := (unhide HO3).pq; have := (unhide HO3).qr; have := (unhide HO3).lt; rw [hH4]; omega) (fun k hk => ((unhide HXn).lt k hk).1)).mono hlo)
        have hgB : ∀ d, d < w2.heap.size → d ≠ B := fun d hd e => by have := (unhide HBB).1; omega
        have hbB : ¬ btw p r B := (unhide HO3).row B rfl
        have hot : ∀ d, d ≠ B → (w4.setCell ⟨B, K * 8 + 5, none⟩ (.slice (some ⟨gg, 0, none⟩) (nb + 1) cp)).heap[d]? = w4.heap[d]? := fun d hd => heap_setCell_other w4 ⟨B, K * 8 + 5, none⟩ d _ hd
        have gn : Code (w4.setCell ⟨B, K * 8 + 5, none⟩ (.slice (some ⟨gg, 0, none⟩) (nb + 1) cp)) (fun _ => True) (x.body ++ [zI]) (.slice (some ⟨gg, 0, none⟩) (nb + 1) cp) := nest_code hA4 hH4 (unhide HNb) hIn (unhide HXn) (unhide HOwn4) (unhide HGr) (unhide HAt) hgB (fun h => hbB (hpr B h)) ngB hot
        have go : Code (w4.setCell ⟨B, K * 8 + 5, none⟩ (.slice (some ⟨gg, 0, none⟩) (nb + 1) cp)) (fun _ => True) x.els u2 := (unhide HO3).c2 fun d hd hg => (hot d (by rcases hg with h | h; (exact hgB d h); (exact fun e => hbB (e ▸ ⟨by have := h.1; have := (unhide HO3).pq; omega, by have := h.2; have := (unhide HO3).qr; omega⟩)))).trans (hkk d hd (by rcases hg with h | h; (exact fun h2 => by have := h2.1; omega); (exact fun h2 => by have := h2.1; have := h2.2; have := h.1; have := h.2; omega)))
        have gl : Lies (fun _ => True) x.ls.length (Lab (w4.setCell ⟨B, K * 8 + 5, none⟩ (.slice (some ⟨gg, 0, none⟩) (nb + 1) cp)) x.ls) ul := (unhide HO3).c3 fun d hd hg => (hot d (hgB d hg)).trans (hkk d hd (fun h2 => by have := h2.1; have h3 : d < w2.heap.size := hg; omega))
        have tl := unhide HGen w4 5 (by omega) (.slice (some ⟨gg, 0, none⟩) (nb + 1) cp) X' (.slice (some ⟨gg, 0, none⟩) (nb + 1) cp) u2 ul (w4.setCell ⟨B, K * 8 + 5, none⟩ (.slice (some ⟨gg, 0, none⟩) (nb + 1) cp)) (Nat.le_trans hA4.size (unhide HGr).size) hbb4 (fun d hd hn => hkk d hd (fun h => hn (hpr d h))) (by rw [hX']; rfl) rfl (by rw [hX']; exact gn) (by rw [hX']; exact go) (by rw [hX']; exact gl)
        have hXx : X' ≠ l[K]'(unhide HKl) := by
          rw [unhide HX, hX']
          intro e
          have h := congrArg (fun i => i.body.length) e
          simp at h
        have hXs : SzI 1099511627776 X' := by
          have h := Sz_get (unhide HSz) (l[K]'(unhide HKl)) (List.getElem_mem _)
          rw [unhide HX] at h
          have h1 := unhide HBs; have h2 := unhide HNb
          rw [hX']; exact ⟨by simp; omega, h.2.1, h.2.2.1, Sz_app h.2.2.2.1 (SzI_z _), h.2.2.2.2⟩
        clear hX' hA4 hH4 hIn hrr hpr hkk hlo hbb4 hgB hbB hot gn go gl nBg ngB hBne hB4 HOwn4 HGr HAt HXl2 nBz hBz hi0 hi1 hi2 k5 f
        generalize w4.setCell ⟨B, K * 8 + 5, none⟩ (.slice (some ⟨gg, 0, none⟩) (nb + 1) cp) = w5 at *
        go_wp2_with fail
        have HNe := hide (set_ne' (unhide HKl) (x' := X') hXx)
        have HSz' := hide (Sz_set (k := K) (unhide HSz) (i := X') hXs)
        have HTl := hide tl
        clear tl
        generalize X' = X at *
        have q1 := unhide HSm l _ _ _ (unhide HTl).ca (unhide HTl).ca (by have := unhide HLn; omega) (unhide HSz)
        rw [same_refl] at q1
        refine q1.mono ?_
        clear q1
        rintro e wa ⟨rfl, hba⟩
        have HTa := hide ((unhide HTl).on hba)
        clear hba HTl
        go_wp2_with fail
        have q2 := unhide HSm _ _ _ _ (unhide HTa).ca (unhide HTa).cb (by rw [List.length_set]; have := unhide HLn; omega) (unhide HSz')
        rw [unhide HNe] at q2
        refine q2.mono ?_
        clear q2
        rintro e wb ⟨rfl, hbb⟩
        have HTb := hide ((unhide HTa).on hbb)
        clear hbb HTa
        go_wp2_with fail
        have q3 := unhide HSm (l.take m) _ (.slice (some ⟨A, 0, none⟩) m ac) _ (unhide HTb).ca ((unhide HTb).ca.short m (by have := unhide HLn; omega)) (by simp; have := unhide HLn; omega) (Sz_of fun i hi => Sz_get (unhide HSz) i (List.mem_of_mem_take hi))
        rw [show same l (l.take m) = false by have h := same_shorter (l := l) (by have := unhide HLn; omega); rw [unhide HLn] at h; exact h] at q3
        refine q3.mono ?_
        clear q3
        rintro e wd ⟨rfl, hbd⟩
        have HTd := hide ((unhide HTb).on hbd)
        clear hbd HTb
        go_wp2_with fail
        refine (unhide HSu _ (unhide HTd).bel).mono ?_
        rintro e we ⟨rfl, hbe⟩
        have HBe := hide (Below.on (unhide HTd).bel hbe)
        clear hbe
        go_wp2
        go_ret
        exact ⟨rfl, unhide HBe⟩
        )
    · obtain ⟨i0, hi, hz0, hz1, hz2⟩ := info_parts infoI
      have hsh := (unhide HO3).o2.shape
      obtain ⟨na, nc, rfl, hnc2⟩ := hsh
      obtain ⟨xn, hxn, hin⟩ := (unhide HO3).o2
      have hxl : xn.length = x.els.length * 8 := hin.len
      have HXn := hide hxn; have HIn := hide hin; have HXl := hide hxl
      have HA4 := hide ((one_alloc w3 (.cells (cel zI (.slice none 0 0) (.slice none 0 0) (.slice none 0 0)).toArray 50)).drew)
      have hbsz : x.els.length ≤ 1048576 := by
        have h := Sz_get (unhide HSz0) (l[K]'(unhide HKl)) (List.getElem_mem _)
        rw [unhide HX] at h
        exact h.2.1
      have HBs := hide hbsz
      have nBz : ¬ B = w3.heap.size := by have := (unhide HBB).2; omega
      have hBz : B < w3.heap.size := (unhide HBB).2
      have hbz2 : (x.els.length : Int) ≤ 1048576 := by omega
      obtain ⟨nb, hnb⟩ : ∃ nb, x.els.length = nb := ⟨_, rfl⟩
      have HNb := hide hnb
      rw [hnb] at HXn HXl HBs hbz2 k6
      have hi1 : (nb : Int) < (nb : Int) + 1 := by omega
      have hi2 : (nb : Int) < ((nb + 1 : Nat) : Int) := by omega
      have hi0 : (0 : Int) ≤ (nb : Int) := by omega
      clear hnc2 hxn hin hxl hbsz hnb k0 k1 k2 k4 k5 k7
      go_upto_region 16 with fail
      go_region_law
        (first | (refine step_append_lies ((w3.alloc (.cells #[.int .u8 0, .int .i64 0, .int .u32 0, .int .u32 0, .int .u8 0, .slice none 0 0, .slice none 0 0, .slice none 0 0] 50)).drew) (by rfl) (.tmp 99) (.tmp 102) 25 (by rfl) q 50 i0 (.agg #[.int .u8 0, .int .i64 0, .int .u32 0, .int .u32 0, .int .u8 0, .slice none 0 0, .slice none 0 0, .slice none 0 0]) 8 104 Tryd.underlying25 hi hz0 hz1 hz2 rfl (by decide) (.slice na nb nc) nb xn (by rfl) (own_turn (unhide HXn) (fun d hd => (unhide HA4).block d ((unhide HXn).lt d hd).2)) ⟨w3.heap.size, 0, none⟩ 1 1 (cel zI (.slice none 0 0) (.slice none 0 0) (.slice none 0 0)) (by rfl) (by rfl) (fun j u hj => new_cel w3 zI _ _ _ _ j u hj) (cel_one zI ⟨_, _, _, rfl⟩ ⟨_, _, _, rfl⟩ ⟨_, _, _, rfl⟩) (by omega) (by have := unhide HBs; unfold maxLen; omega) (by have := unhide HBs; omega) (by have h1 := (unhide HO3).lt; have h2 := (unhide HO3).pq; have h3 := (unhide HO3).qr; have h4 := (unhide HA4).size; exact Nat.le_trans (by omega) h4) (w3.heap.size + 1) (by show (w3.alloc _).heap.size = _; simp) ?_
                  intro gg cp w4 hown4 hgrow hat4 hlt4
                  have hBne : (Value.slice na nb nc).ownBlock ≠ some B := fun e => (unhide HO3).row B rfl (by have h := (unhide HO3).r2 B (by rw [unhide HNb]; exact e); have := (unhide HO3).pq; have := (unhide HO3).qr; exact ⟨by have := h.1; omega, by have := h.2; omega⟩)
                  have hB4 : w4.heap[B]? = w3.heap[B]? := (hgrow.block B (Nat.lt_of_lt_of_le hBz (unhide HA4).size) (fun e => hBne e.symm)).trans ((unhide HA4).block B hBz)
                  have pk : w4.cell? ⟨B, K * 8 + 6, none⟩ = some (.slice na nb nc) := (World.cell?_of_block (a := ⟨B, K * 8 + 6, none⟩) hB4).trans k6
                  have pf : ∀ i, w4.frozen? ⟨B, i, none⟩ = false := fun i => by have := f i; simp only [World.frozen?, hB4] at this ⊢; exact this
                  have rk0 := row_cells hown4
                  have ngB : ¬ gg = B := fun e => by
                    rcases hat4 with h | h
                    · exact hBne (by rw [h, e])
                    · omega
                  have nBg : ¬ B = gg := fun e => ngB e.symm
                  have hgf : ∀ i, w4.frozen? ⟨gg, i, none⟩ = false := by
                    obtain ⟨b', c', e, _, _, _, _, hf⟩ := own_blk hown4 (by omega)
                    cases e
                    exact hf
                  have hxl := unhide HXl
                  have z0 : w4.cell? ⟨gg, nb * 8, none⟩ = some (.int .u8 0) := rk0 _ _ (by rw [List.getElem?_append_right (by omega), hxl]; simp [cel, zI])
                  have z1 : w4.cell? ⟨gg, nb * 8 + 1, none⟩ = some (.int .i64 0) := rk0 _ _ (by rw [List.getElem?_append_right (by omega), hxl]; simp [cel, zI])
                  have z2 : w4.cell? ⟨gg, nb * 8 + 2, none⟩ = some (.int .u32 0) := rk0 _ _ (by rw [List.getElem?_append_right (by omega), hxl]; simp [cel, zI])
                  have z3 : w4.cell? ⟨gg, nb * 8 + 3, none⟩ = some (.int .u32 0) := rk0 _ _ (by rw [List.getElem?_append_right (by omega), hxl]; simp [cel, zI])
                  have z4 : w4.cell? ⟨gg, nb * 8 + 4, none⟩ = some (.int .u8 0) := rk0 _ _ (by rw [List.getElem?_append_right (by omega), hxl]; simp [cel, zI])
                  have z5 : w4.cell? ⟨gg, nb * 8 + 5, none⟩ = some (.slice none 0 0) := rk0 _ _ (by rw [List.getElem?_append_right (by omega), hxl]; simp [cel, zI])
                  have z6 : w4.cell? ⟨gg, nb * 8 + 6, none⟩ = some (.slice none 0 0) := rk0 _ _ (by rw [List.getElem?_append_right (by omega), hxl]; simp [cel, zI])
                  have z7 : w4.cell? ⟨gg, nb * 8 + 7, none⟩ = some (.slice none 0 0) := rk0 _ _ (by rw [List.getElem?_append_right (by omega), hxl]; simp [cel, zI])
                  have HXl2 := hide hxl
                  have HOwn4 := hide hown4; have HGr := hide hgrow; have HAt := hide hat4
                  clear hown4 hgrow hat4 hlt4 hxl rk0)
               | fail)
      all_goals (
        obtain ⟨X', hX'⟩ : ∃ X' : Ins, X' = { x with els := x.els ++ [zI] } := ⟨_, rfl⟩
        have e0 := setCell_id z0
        have j0 := setCell_id2 (o' := K * 8 + 6) (v := (.slice (some ⟨gg, 0, none⟩) (nb + 1) cp)) nBg z0
        have e1 := setCell_id z1
        have j1 := setCell_id2 (o' := K * 8 + 6) (v := (.slice (some ⟨gg, 0, none⟩) (nb + 1) cp)) nBg z1
        have e2 := setCell_id z2
        have j2 := setCell_id2 (o' := K * 8 + 6) (v := (.slice (some ⟨gg, 0, none⟩) (nb + 1) cp)) nBg z2
        have e3 := setCell_id z3
        have j3 := setCell_id2 (o' := K * 8 + 6) (v := (.slice (some ⟨gg, 0, none⟩) (nb + 1) cp)) nBg z3
        have e4 := setCell_id z4
        have j4 := setCell_id2 (o' := K * 8 + 6) (v := (.slice (some ⟨gg, 0, none⟩) (nb + 1) cp)) nBg z4
        have e5 := setCell_id z5
        have j5 := setCell_id2 (o' := K * 8 + 6) (v := (.slice (some ⟨gg, 0, none⟩) (nb + 1) cp)) nBg z5
        have e6 := setCell_id z6
        have j6 := setCell_id2 (o' := K * 8 + 6) (v := (.slice (some ⟨gg, 0, none⟩) (nb + 1) cp)) nBg z6
        have e7 := setCell_id z7
        have j7 := setCell_id2 (o' := K * 8 + 6) (v := (.slice (some ⟨gg, 0, none⟩) (nb + 1) cp)) nBg z7
        simp only [e0, e1, e2, e3, e4, e5, e6, e7, j0, j1, j2, j3, j4, j5, j6, j7]
        clear e0 e1 e2 e3 e4 e5 e6 e7 j0 j1 j2 j3 j4 j5 j6 j7 z0 z1 z2 z3 z4 z5 z6 z7 pk pf hgf
        have hA4 : Below w3.heap.size w3 ((w3.alloc (.cells #[.int .u8 0, .int .i64 0, .int .u32 0, .int .u32 0, .int .u8 0, .slice none 0 0, .slice none 0 0, .slice none 0 0] 50)).drew) := unhide HA4
        have hH4 : ((w3.alloc (.cells #[.int .u8 0, .int .i64 0, .int .u32 0, .int .u32 0, .int .u8 0, .slice none 0 0, .slice none 0 0, .slice none 0 0] 50)).drew).heap.size = w3.heap.size + 1 := by show (w3.alloc _).heap.size = _; simp
        have hIn := unhide HIn
        rw [unhide HNb] at hIn
        have hrr : ∀ d, (Value.slice na nb nc).ownBlock = some d → btw q r d := fun d e => (unhide HO3).r2 d (by rw [unhide HNb]; exact e)
        have hpr : ∀ d, btw q r d → btw p r d := fun d h => by have := (unhide HO3).pq; have := (unhide HO3).qr; exact ⟨by have := h.1; omega, by have := h.2; omega⟩
        have hkk : ∀ d, d < w3.heap.size → ¬ btw q r d → w4.heap[d]? = w3.heap[d]? := fun d hd hn => ((unhide HGr).block d (Nat.lt_of_lt_of_le hd hA4.size) (fun e => hn (hrr d e.symm))).trans (hA4.block d hd)
        have hlo : w2.heap.size ≤ q := by have := (unhide HO3).pq; have := (unhide HO3).Sp; omega
        have hbb4 : Below w2.heap.size w3 w4 := (hA4.mono (unhide HB23).size).trans (((Below.refl q _).grown (unhide HGr) (by have := (unhide HO3).pq; have := (unhide HO3).qr; have := (unhide HO3).lt; rw [hH4]; omega) (fun k hk => ((unhide HXn).lt k hk).1)).mono hlo)
        have hgB : ∀ d, d < w2.heap.size → d ≠ B := fun d hd e => by have := (unhide HBB).1; omega
        have hbB : ¬ btw p r B := (unhide HO3).row B rfl
        have hot : ∀ d, d ≠ B → (w4.setCell ⟨B, K * 8 + 6, none⟩ (.slice (some ⟨gg, 0, none⟩) (nb + 1) cp)).heap[d]? = w4.heap[d]? := fun d hd => heap_setCell_other w4 ⟨B, K * 8 + 6, none⟩ d _ hd
        have gn : Code (w4.setCell ⟨B, K * 8 + 6, none⟩ (.slice (some ⟨gg, 0, none⟩) (nb + 1) cp)) (fun _ => True) (x.els ++ [zI]) (.slice (some ⟨gg, 0, none⟩) (nb + 1) cp) := nest_code hA4 hH4 (unhide HNb) hIn (unhide HXn) (unhide HOwn4) (unhide HGr) (unhide HAt) hgB (fun h => hbB (hpr B h)) ngB hot
        have go : Code (w4.setCell ⟨B, K * 8 + 6, none⟩ (.slice (some ⟨gg, 0, none⟩) (nb + 1) cp)) (fun _ => True) x.body u1 := (unhide HO3).c1 fun d hd hg => (hot d (by rcases hg with h | h; (exact hgB d h); (exact fun e => hbB (e ▸ ⟨by have := h.1; have := (unhide HO3).pq; omega, by have := h.2; have := (unhide HO3).qr; omega⟩)))).trans (hkk d hd (by rcases hg with h | h; (exact fun h2 => by have := h2.1; omega); (exact fun h2 => by have := h2.1; have := h2.2; have := h.1; have := h.2; omega)))
        have gl : Lies (fun _ => True) x.ls.length (Lab (w4.setCell ⟨B, K * 8 + 6, none⟩ (.slice (some ⟨gg, 0, none⟩) (nb + 1) cp)) x.ls) ul := (unhide HO3).c3 fun d hd hg => (hot d (hgB d hg)).trans (hkk d hd (fun h2 => by have := h2.1; have h3 : d < w2.heap.size := hg; omega))
        have tl := unhide HGen w4 6 (by omega) (.slice (some ⟨gg, 0, none⟩) (nb + 1) cp) X' u1 (.slice (some ⟨gg, 0, none⟩) (nb + 1) cp) ul (w4.setCell ⟨B, K * 8 + 6, none⟩ (.slice (some ⟨gg, 0, none⟩) (nb + 1) cp)) (Nat.le_trans hA4.size (unhide HGr).size) hbb4 (fun d hd hn => hkk d hd (fun h => hn (hpr d h))) (by rw [hX']; rfl) rfl (by rw [hX']; exact go) (by rw [hX']; exact gn) (by rw [hX']; exact gl)
        have hXx : X' ≠ l[K]'(unhide HKl) := by
          rw [unhide HX, hX']
          intro e
          have h := congrArg (fun i => i.els.length) e
          simp at h
        have hXs : SzI 1099511627776 X' := by
          have h := Sz_get (unhide HSz) (l[K]'(unhide HKl)) (List.getElem_mem _)
          rw [unhide HX] at h
          have h1 := unhide HBs; have h2 := unhide HNb
          rw [hX']; exact ⟨h.1, by simp; omega, h.2.2.1, h.2.2.2.1, Sz_app h.2.2.2.2 (SzI_z _)⟩
        clear hX' hA4 hH4 hIn hrr hpr hkk hlo hbb4 hgB hbB hot gn go gl nBg ngB hBne hB4 HOwn4 HGr HAt HXl2 nBz hBz hi0 hi1 hi2 k6 f
        generalize w4.setCell ⟨B, K * 8 + 6, none⟩ (.slice (some ⟨gg, 0, none⟩) (nb + 1) cp) = w5 at *
        go_wp2_with fail
        have HNe := hide (set_ne' (unhide HKl) (x' := X') hXx)
        have HSz' := hide (Sz_set (k := K) (unhide HSz) (i := X') hXs)
        have HTl := hide tl
        clear tl
        generalize X' = X at *
        have q1 := unhide HSm l _ _ _ (unhide HTl).ca (unhide HTl).ca (by have := unhide HLn; omega) (unhide HSz)
        rw [same_refl] at q1
        refine q1.mono ?_
        clear q1
        rintro e wa ⟨rfl, hba⟩
        have HTa := hide ((unhide HTl).on hba)
        clear hba HTl
        go_wp2_with fail
        have q2 := unhide HSm _ _ _ _ (unhide HTa).ca (unhide HTa).cb (by rw [List.length_set]; have := unhide HLn; omega) (unhide HSz')
        rw [unhide HNe] at q2
        refine q2.mono ?_
        clear q2
        rintro e wb ⟨rfl, hbb⟩
        have HTb := hide ((unhide HTa).on hbb)
        clear hbb HTa
        go_wp2_with fail
        have q3 := unhide HSm (l.take m) _ (.slice (some ⟨A, 0, none⟩) m ac) _ (unhide HTb).ca ((unhide HTb).ca.short m (by have := unhide HLn; omega)) (by simp; have := unhide HLn; omega) (Sz_of fun i hi => Sz_get (unhide HSz) i (List.mem_of_mem_take hi))
        rw [show same l (l.take m) = false by have h := same_shorter (l := l) (by have := unhide HLn; omega); rw [unhide HLn] at h; exact h] at q3
        refine q3.mono ?_
        clear q3
        rintro e wd ⟨rfl, hbd⟩
        have HTd := hide ((unhide HTb).on hbd)
        clear hbd HTb
        go_wp2_with fail
        refine (unhide HSu _ (unhide HTd).bel).mono ?_
        rintro e we ⟨rfl, hbe⟩
        have HBe := hide (Below.on (unhide HTd).bel hbe)
        clear hbe
        go_wp2
        go_ret
        exact ⟨rfl, unhide HBe⟩
        )
    · have hls := (unhide HO3).ls
      have HLs := hide hls
      obtain ⟨la, lc, rfl, hlc, hlnil, _⟩ := hls
      have HA4 := hide (one_alloc w3 (.cells #[.int .u32 7] 46))
      have HOw := hide (own32 w3 7)
      have HLs4 := hide (Labs.below (unhide HLs) (unhide HA4))
      have hlsz : x.ls.length ≤ 1048576 := by
        have h := Sz_get (unhide HSz0) (l[K]'(unhide HKl)) (List.getElem_mem _)
        rw [unhide HX] at h
        exact h.2.2.1
      have HLsz := hide hlsz
      have nBz : ¬ B = w3.heap.size := by have := (unhide HBB).2; omega
      have hBz : B < w3.heap.size := (unhide HBB).2
      clear hlc hlnil hlsz
      go_wp2_with (at_builtin; refine wpList_lab _ rfl (.tmp 111) (.tmp 116) rfl w3.heap.size _ 1 [7] rfl (unhide HOw) la lc x.ls rfl _ (unhide HLs4) ?qa1 ?qb1 ?_)
      case qa1 => have := unhide HLsz; omega
      case qb1 => exact (unhide HA4).size
      intro a5 n5 c5 w4 hown4 hb4 hk4
      have hB4 : w4.heap[B]? = w3.heap[B]? := (hk4 B (by omega) (by intro e; simp [Value.ownBlock] at e; have := (unhide HBB).2; omega)).trans ((unhide HA4).block B (unhide HBB).2)
      have k7' : w4.cell? ⟨B, K * 8 + 7, none⟩ = some (.slice la x.ls.length lc) := (World.cell?_of_block (a := ⟨B, K * 8 + 7, none⟩) hB4).trans k7
      have f' : ∀ i, w4.frozen? ⟨B, i, none⟩ = false := fun i => by have := f i; simp only [World.frozen?, hB4] at this ⊢; exact this
      have hkk : ∀ d, d < w3.heap.size → w4.heap[d]? = w3.heap[d]? := fun d hd => (hk4 d (by omega) (by intro e; simp [Value.ownBlock] at e; omega)).trans ((unhide HA4).block d hd)
      have hz4 : w3.heap.size ≤ w4.heap.size := Nat.le_trans (unhide HA4).size hb4.size
      have hbb4 : Below w2.heap.size w3 w4 := ((unhide HA4).mono (unhide HB23).size).trans (hb4.mono (unhide HB23).size)
      obtain ⟨X', hX'⟩ : ∃ X' : Ins, X' = { x with ls := 7 :: x.ls } := ⟨_, rfl⟩
      have tl := unhide HGen w4 7 (by omega) (.slice a5 n5 c5) X' u1 u2 (.slice a5 n5 c5) (w4.setCell ⟨B, K * 8 + 7, none⟩ (.slice a5 n5 c5)) hz4 hbb4 (fun d hd _ => hkk d hd) (by rw [hX']; rfl) rfl (by
          rw [hX']
          exact (unhide HO3).c1 fun d hd hg => (heap_setCell_other w4 ⟨B, K * 8 + 7, none⟩ d _ (by rcases hg with h | h; (have := (unhide HBB).1; dsimp only; omega); (exact fun e => (unhide HO3).row B rfl (by have e' : d = B := e; rw [← e']; exact ⟨h.1, by have := h.2; have := (unhide HO3).qr; omega⟩)))).trans (hkk d hd)) (by
          rw [hX']
          exact (unhide HO3).c2 fun d hd hg => (heap_setCell_other w4 ⟨B, K * 8 + 7, none⟩ d _ (by rcases hg with h | h; (have := (unhide HBB).1; dsimp only; omega); (exact fun e => (unhide HO3).row B rfl (by have e' : d = B := e; rw [← e']; exact ⟨by have := h.1; have := (unhide HO3).pq; omega, h.2⟩)))).trans (hkk d hd)) (by
          rw [hX']
          have e : (7 :: x.ls).length = 1 + x.ls.length := by simp; omega
          have ho : (w4.setCell ⟨B, K * 8 + 7, none⟩ (.slice a5 n5 c5)).ownsRow w3.heap.size 46 1 (.slice a5 n5 c5) (7 :: x.ls).length ((7 :: x.ls).map (Value.int .u32)) := by
            rw [e]
            exact own_turn hown4 fun d hd => heap_setCell_other w4 ⟨B, K * 8 + 7, none⟩ d _ (by have := (hown4.lt d hd).1; have := (unhide HBB).2; dsimp only; omega)
          exact own_labs ho fun _ _ => trivial)
      have hXx : X' ≠ l[K]'(unhide HKl) := by
        rw [unhide HX, hX']
        intro e
        have h := congrArg (fun i => i.ls.length) e
        simp at h
      have hXs : SzI 1099511627776 X' := by
        have h := Sz_get (unhide HSz) (l[K]'(unhide HKl)) (List.getElem_mem _)
        rw [unhide HX] at h
        rw [hX']; exact ⟨h.1, h.2.1, by have := unhide HLsz; simp; omega, h.2.2.2.1, h.2.2.2.2⟩
      clear hX' k0 k1 k2 k4 k5 k6 k7 f hown4 hb4 hk4 hB4 hkk hz4 hbb4 nBz hBz
      go_wp2_with fail
      clear k7' f'
      generalize w4.setCell ⟨B, K * 8 + 7, none⟩ (.slice a5 n5 c5) = w5 at *
      have HNe := hide (set_ne' (unhide HKl) (x' := X') hXx)
      have HSz' := hide (Sz_set (k := K) (unhide HSz) (i := X') hXs)
      have HTl := hide tl
      clear tl
      generalize X' = X at *
      have q1 := unhide HSm l _ _ _ (unhide HTl).ca (unhide HTl).ca (by have := unhide HLn; omega) (unhide HSz)
      rw [same_refl] at q1
      refine q1.mono ?_
      clear q1
      rintro e wa ⟨rfl, hba⟩
      have HTa := hide ((unhide HTl).on hba)
      clear hba HTl
      go_wp2_with fail
      have q2 := unhide HSm _ _ _ _ (unhide HTa).ca (unhide HTa).cb (by rw [List.length_set]; have := unhide HLn; omega) (unhide HSz')
      rw [unhide HNe] at q2
      refine q2.mono ?_
      clear q2
      rintro e wb ⟨rfl, hbb⟩
      have HTb := hide ((unhide HTa).on hbb)
      clear hbb HTa
      go_wp2_with fail
      have q3 := unhide HSm (l.take m) _ (.slice (some ⟨A, 0, none⟩) m ac) _ (unhide HTb).ca ((unhide HTb).ca.short m (by have := unhide HLn; omega)) (by simp; have := unhide HLn; omega) (Sz_of fun i hi => Sz_get (unhide HSz) i (List.mem_of_mem_take hi))
      rw [show same l (l.take m) = false by have h := same_shorter (l := l) (by have := unhide HLn; omega); rw [unhide HLn] at h; exact h] at q3
      refine q3.mono ?_
      clear q3
      rintro e wd ⟨rfl, hbd⟩
      have HTd := hide ((unhide HTb).on hbd)
      clear hbd HTb
      go_wp2_with fail
      refine (unhide HSu _ (unhide HTd).bel).mono ?_
      rintro e we ⟨rfl, hbe⟩
      have HBe := hide (Below.on (unhide HTd).bel hbe)
      clear hbe
      go_wp2
      go_ret
      exact ⟨rfl, unhide HBe⟩
    · clear k0x
      go_wp2_with fail
      obtain ⟨X', hX'⟩ : ∃ X' : Ins, X' = { x with re := (x.re + 1) % 256 } := ⟨_, rfl⟩
      have tl := unhide HScal 4 (by omega) (.int .u8 ((x.re + 1) % 256)) X' (by rw [hX']; rfl) (by rw [hX']) (by rw [hX']) (by rw [hX']) (w3.setCell ⟨B, K * 8 + 4, none⟩ (.int .u8 ((x.re + 1) % 256))) rfl
      generalize w3.setCell ⟨B, K * 8 + 4, none⟩ (.int .u8 ((x.re + 1) % 256)) = w5 at *
      have hXx : X' ≠ l[K]'(unhide HKl) := by
        rw [unhide HX, hX']
        intro e
        have h := congrArg Ins.re e
        simp only at h
        omega
      have hXs : SzI 1099511627776 X' := by
        have h := Sz_get (unhide HSz) (l[K]'(unhide HKl)) (List.getElem_mem _)
        rw [unhide HX] at h
        rw [hX']; exact h
      clear hX' k0 k1 k2 k4 k5 k6 k7 f
      have HNe := hide (set_ne' (unhide HKl) (x' := X') hXx)
      have HSz' := hide (Sz_set (k := K) (unhide HSz) (i := X') hXs)
      have HTl := hide tl
      clear tl
      generalize X' = X at *
      have q1 := unhide HSm l _ _ _ (unhide HTl).ca (unhide HTl).ca (by have := unhide HLn; omega) (unhide HSz)
      rw [same_refl] at q1
      refine q1.mono ?_
      clear q1
      rintro e wa ⟨rfl, hba⟩
      have HTa := hide ((unhide HTl).on hba)
      clear hba HTl
      go_wp2_with fail
      have q2 := unhide HSm _ _ _ _ (unhide HTa).ca (unhide HTa).cb (by rw [List.length_set]; have := unhide HLn; omega) (unhide HSz')
      rw [unhide HNe] at q2
      refine q2.mono ?_
      clear q2
      rintro e wb ⟨rfl, hbb⟩
      have HTb := hide ((unhide HTa).on hbb)
      clear hbb HTa
      go_wp2_with fail
      have q3 := unhide HSm (l.take m) _ (.slice (some ⟨A, 0, none⟩) m ac) _ (unhide HTb).ca ((unhide HTb).ca.short m (by have := unhide HLn; omega)) (by simp; have := unhide HLn; omega) (Sz_of fun i hi => Sz_get (unhide HSz) i (List.mem_of_mem_take hi))
      rw [show same l (l.take m) = false by have h := same_shorter (l := l) (by have := unhide HLn; omega); rw [unhide HLn] at h; exact h] at q3
      refine q3.mono ?_
      clear q3
      rintro e wd ⟨rfl, hbd⟩
      have HTd := hide ((unhide HTb).on hbd)
      clear hbd HTb
      go_wp2_with fail
      refine (unhide HSu _ (unhide HTd).bel).mono ?_
      rintro e we ⟨rfl, hbe⟩
      have HBe := hide (Below.on (unhide HTd).bel hbe)
      clear hbe
      go_wp2
      go_ret
      exact ⟨rfl, unhide HBe⟩
end Ex
end Go.Proofs.YtjhmglefejclpaaDoor
