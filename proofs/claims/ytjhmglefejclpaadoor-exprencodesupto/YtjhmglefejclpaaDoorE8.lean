/- The statements' sameCode. -/
import Derived.Test.YtjhmglefejclpaaDoorE1
import Derived.Deep.RegionHeld3

/- The statements' sameCode. -/
namespace Go.Proofs.YtjhmglefejclpaaDoor
open Go.RowKit
namespace Ex
set_option linter.unusedVariables false
attribute [local go_sem ↓] Go.wp_at_zero Go.wp_at_succ

def ScP (a : List Ins) : Prop := ∀ (b : List Ins) (g g2 : Nat → Prop) (va vb : Value) (w : World), Code w g a va → Code w g2 b vb → a.length ≤ 1099511627776 → Sz 1099511627776 a → b.length ≤ 1099511627776 → Sz 1099511627776 b →
  Calls Tryd.prog 15 #[va, vb] w fun e w' => e = .returned (.bool (same a b)) ∧ Below w.heap.size w w'
theorem two_kinds (w : World) (a b : Array Value) (t u : TypeId) : Below w.heap.size w ((w.alloc (.cells a t)).alloc (.cells b u)) ∧ (∀ j : Nat, ((w.alloc (.cells a t)).alloc (.cells b u)).cell? ⟨w.heap.size, j, none⟩ = a[j]?) ∧
    (∀ j : Nat, ((w.alloc (.cells a t)).alloc (.cells b u)).cell? ⟨w.heap.size + 1, j, none⟩ = b[j]?) ∧ ((w.alloc (.cells a t)).alloc (.cells b u)).heap.size = w.heap.size + 2 :=
  ⟨two_allocs _ _ _, fun j => by simp, fun j => by simp, by simp⟩
theorem labs_eq {l r : List Int} (hl : l.length = r.length) (h : ∀ i, i < l.length → l.getD i 0 = r.getD i 0) : l = r := by
  refine List.ext_getElem hl fun i h1 h2 => ?_
  have := h i h1
  simpa [List.getD, List.getElem?_eq_getElem h1, List.getElem?_eq_getElem h2] using this
theorem bad_at {a b : List Ins} {j : Nat} {x y : Ins} (ja : j < a.length) (jb : j < b.length) (hx : a[j] = x) (hy : b[j] = y) (h : sameI x y = false) : same a b = false := same_not j ja jb (by rw [hx, hy]; exact h)

set_option maxRecDepth 100000 in
set_option maxHeartbeats 6400000 in
theorem sc_any (a : List Ins) : ScP a := by
  refine ind2 (P := ScP) (fun a ih => ?_) a
  intro b g g2 va vb w ha hb l1 z1 l2 z2
  obtain ⟨aa, ca, rfl, hca, _, hA⟩ := ha
  obtain ⟨ab, cb, rfl, hcb, _, hB⟩ := hb
  have HA := hide hA; have HB := hide hB; have HIh := hide ih; have HZ1 := hide (Sz_get z1); have HZ2 := hide (Sz_get z2)
  clear hA hB ih z1 z2
  by_cases hl : a.length = b.length
  · rw [← hl] at HB hcb l2 ⊢
    generalize hnn : a.length = nn at *
    have HN := hide hnn; have HL := hide hl; clear hnn hl
    go_enter Tryd.func15, Tryd.ntmps15
    go_wp2_with fail
    go_loopw [5] (fun c wr => ∃ j : Nat, c = .int .i64 j ∧ (j : Int) ≤ nn ∧ (∀ i (h1 : i < a.length) (h2 : i < b.length), i < j → sameI a[i] b[i] = true) ∧ Below w.heap.size w wr) (fun c _ => nn - (intOf c).toNat)
    case atStart => exact ⟨0, rfl, by omega, fun i _ _ h => absurd h (by omega), Below.refl _ _⟩
    case round =>
      obtain ⟨j, rfl, hj, hpre, hbel⟩ := hrel
      have HBel := hide hbel; have HPre := hide hpre
      by_cases hlt : (j : Int) < nn
      · have ja : j < a.length := by have := unhide HN; omega
        have jb : j < b.length := by have := unhide HL; have := unhide HN; omega
        obtain ⟨ba, oa, rfl, hga, hla⟩ := unhide HA (by have := unhide HN; omega)
        obtain ⟨bb, ob, rfl, hgb, hlb⟩ := unhide HB (by have := unhide HN; omega)
        have iA := ItemAt.move (moves_below hbel (fun _ _ h => h)) (hbel.block ba (Items_lt hla (by omega))) (Items_get hla j ja)
        have iB := ItemAt.move (moves_below hbel (fun _ _ h => h)) (hbel.block bb (Items_lt hlb (by omega))) (Items_get hlb j jb)
        have hI := unhide HIh a[j] (List.getElem_mem ja)
        have hZ1 := unhide HZ1 a[j] (List.getElem_mem ja)
        have hZ2 := unhide HZ2 b[j] (List.getElem_mem jb)
        have HJ := hide (And.intro ja jb)
        have bad := fun (x y : Ins) (hx : a[j] = x) (hy : b[j] = y) (h : sameI x y = false) => bad_at ja jb hx hy h
        have nxt := fun (h : sameI a[j] b[j] = true) => (show ∀ i (h1 : i < a.length) (h2 : i < b.length), i < j + 1 → sameI a[i] b[i] = true from fun i h1 h2 hi => by
          by_cases e : i = j
          · subst e; exact h
          · exact hpre i h1 h2 (by omega))
        generalize hx : a[j] = x at *
        generalize hy : b[j] = y at *
        have bad2 := bad x y rfl rfl
        have BAD := hide bad2; have NXT := hide nxt
        clear bad bad2 nxt hpre hla hlb hga hgb hx hy hbel ja jb
        obtain ⟨op, n, al, of, re, bo, el, ls⟩ := x
        obtain ⟨op2, n2, al2, of2, re2, bo2, el2, ls2⟩ := y
        obtain ⟨v1, v2, v3, hc, h1, h2, h3⟩ := iA
        obtain ⟨u1, u2, u3, hd, m1, m2, m3⟩ := iB
        simp only at *
        have H1 := hide h1; have H2 := hide h2; have H3 := hide h3; have M1 := hide m1; have M2 := hide m2; have M3 := hide m3; have SX := hide hZ1; have SY := hide hZ2; have HI := hide hI
        obtain ⟨c1, d1, rfl, _⟩ := h1
        obtain ⟨c2, d2, rfl, _⟩ := h2
        obtain ⟨c3, d3, rfl, _, _, _⟩ := h3
        obtain ⟨k1, e1, rfl, _⟩ := m1
        obtain ⟨k2, e2, rfl, _⟩ := m2
        obtain ⟨k3, e3, rfl, _⟩ := m3
        obtain ⟨p0, p1, p2, p3, p4, p5, p6, p7⟩ := hc
        obtain ⟨q0, q1, q2, q3, q4, q5, q6, q7⟩ := hd
        have hlls := hZ1.2.2.1
        simp only at p0 p1 p2 p3 p4 p5 p6 p7 q0 q1 q2 q3 q4 q5 q6 q7 hlls
        clear hZ1 hZ2 hI
        generalize hlb : bo.length = lb at *; generalize hlb2 : bo2.length = lb2 at *; generalize hle : el.length = le at *; generalize hle2 : el2.length = le2 at *; generalize hll : ls.length = ll at *; generalize hll2 : ls2.length = ll2 at *
        go_wp2_with fail
        go_region_held3 (fun w' => w'.cell? ⟨ba, oa + j * 8, none⟩ = some (.int .u8 op) ∧ w'.cell? ⟨ba, oa + j * 8 + 1, none⟩ = some (.int .i64 n) ∧ w'.cell? ⟨ba, oa + j * 8 + 2, none⟩ = some (.int .u32 al) ∧ w'.cell? ⟨ba, oa + j * 8 + 3, none⟩ = some (.int .u32 of) ∧ w'.cell? ⟨ba, oa + j * 8 + 4, none⟩ = some (.int .u8 re) ∧ w'.cell? ⟨ba, oa + j * 8 + 5, none⟩ = some (.slice c1 lb d1) ∧ w'.cell? ⟨ba, oa + j * 8 + 6, none⟩ = some (.slice c2 le d2) ∧ w'.cell? ⟨ba, oa + j * 8 + 7, none⟩ = some (.slice c3 ll d3) ∧
            w'.cell? ⟨bb, ob + j * 8, none⟩ = some (.int .u8 op2) ∧ w'.cell? ⟨bb, ob + j * 8 + 1, none⟩ = some (.int .i64 n2) ∧ w'.cell? ⟨bb, ob + j * 8 + 2, none⟩ = some (.int .u32 al2) ∧ w'.cell? ⟨bb, ob + j * 8 + 3, none⟩ = some (.int .u32 of2) ∧ w'.cell? ⟨bb, ob + j * 8 + 4, none⟩ = some (.int .u8 re2) ∧ w'.cell? ⟨bb, ob + j * 8 + 5, none⟩ = some (.slice k1 lb2 e1) ∧ w'.cell? ⟨bb, ob + j * 8 + 6, none⟩ = some (.slice k2 le2 e2) ∧ w'.cell? ⟨bb, ob + j * 8 + 7, none⟩ = some (.slice k3 ll2 e3))
          (first | go_keep) (fail)
        · obtain ⟨hb0, f0, f1, hz⟩ := two_kinds wr #[.int .u8 op, .int .i64 n, .int .u32 al, .int .u32 of, .int .u8 re, .slice c1 lb d1, .slice c2 le d2, .slice c3 ll d3] #[.int .u8 op2, .int .i64 n2, .int .u32 al2, .int .u32 of2, .int .u8 re2, .slice k1 lb2 e1, .slice k2 le2 e2, .slice k3 ll2 e3] 50 55
          clear p0 p1 p2 p3 p4 p5 p6 p7 q0 q1 q2 q3 q4 q5 q6 q7
          generalize ((wr.alloc (.cells #[.int .u8 op, .int .i64 n, .int .u32 al, .int .u32 of, .int .u8 re, .slice c1 lb d1, .slice c2 le d2, .slice c3 ll d3] 50)).alloc (.cells #[.int .u8 op2, .int .i64 n2, .int .u32 al2, .int .u32 of2, .int .u8 re2, .slice k1 lb2 e1, .slice k2 le2 e2, .slice k3 ll2 e3] 55)) = w1 at *
          have HB0 := hide (Below.on hb0 (below_drew w1)); have HZz := hide (show w1.drew.heap.size = wr.heap.size + 2 from hz)
          have x0 : w1.drew.cell? ⟨wr.heap.size, 0, none⟩ = some (.int .u8 op) := f0 0
          have y0 : w1.drew.cell? ⟨wr.heap.size + 1, 0, none⟩ = some (.int .u8 op2) := f1 0
          have x1 : w1.drew.cell? ⟨wr.heap.size, 1, none⟩ = some (.int .i64 n) := f0 1
          have y1 : w1.drew.cell? ⟨wr.heap.size + 1, 1, none⟩ = some (.int .i64 n2) := f1 1
          have x2 : w1.drew.cell? ⟨wr.heap.size, 2, none⟩ = some (.int .u32 al) := f0 2
          have y2 : w1.drew.cell? ⟨wr.heap.size + 1, 2, none⟩ = some (.int .u32 al2) := f1 2
          have x3 : w1.drew.cell? ⟨wr.heap.size, 3, none⟩ = some (.int .u32 of) := f0 3
          have y3 : w1.drew.cell? ⟨wr.heap.size + 1, 3, none⟩ = some (.int .u32 of2) := f1 3
          have x4 : w1.drew.cell? ⟨wr.heap.size, 4, none⟩ = some (.int .u8 re) := f0 4
          have y4 : w1.drew.cell? ⟨wr.heap.size + 1, 4, none⟩ = some (.int .u8 re2) := f1 4
          have x5 : w1.drew.cell? ⟨wr.heap.size, 5, none⟩ = some (.slice c1 lb d1) := f0 5
          have y5 : w1.drew.cell? ⟨wr.heap.size + 1, 5, none⟩ = some (.slice k1 lb2 e1) := f1 5
          have x6 : w1.drew.cell? ⟨wr.heap.size, 6, none⟩ = some (.slice c2 le d2) := f0 6
          have y6 : w1.drew.cell? ⟨wr.heap.size + 1, 6, none⟩ = some (.slice k2 le2 e2) := f1 6
          have x7 : w1.drew.cell? ⟨wr.heap.size, 7, none⟩ = some (.slice c3 ll d3) := f0 7
          have y7 : w1.drew.cell? ⟨wr.heap.size + 1, 7, none⟩ = some (.slice k3 ll2 e3) := f1 7
          clear f0 f1 hb0 hz
          generalize w1.drew = w2 at *
          have hlx : wr.heap.size < w2.heap.size ∧ wr.heap.size + 1 < w2.heap.size := by have := unhide HZz; omega
          generalize wr.heap.size + 1 = BY at x0 y0 x1 y1 x2 y2 x3 y3 x4 y4 x5 y5 x6 y6 x7 y7 hlx ⊢
          generalize wr.heap.size = BX at x0 y0 x1 y1 x2 y2 x3 y3 x4 y4 x5 y5 x6 y6 x7 y7 hlx ⊢
          have HLx := hide hlx
          clear hlx
          by_cases z0 : op = op2
          case neg =>
            have t : (op != op2) = true := by simpa using z0
            have HF := hide (unhide BAD (by simp [sameI, z0]))
            clear z0 BAD NXT HI SX SY
            go_wp2
            go_ret
            exact ⟨ret_bool (unhide HF).symm, Below.on (unhide HBel) (unhide HB0)⟩
          subst z0
          by_cases z1 : n = n2
          case neg =>
            have t : (n != n2) = true := by simpa using z1
            have HF := hide (unhide BAD (by simp [sameI, z1]))
            clear z1 BAD NXT HI SX SY
            go_wp2
            go_ret
            exact ⟨ret_bool (unhide HF).symm, Below.on (unhide HBel) (unhide HB0)⟩
          subst z1
          by_cases z2 : al = al2
          case neg =>
            have t : (al != al2) = true := by simpa using z2
            have HF := hide (unhide BAD (by simp [sameI, z2]))
            clear z2 BAD NXT HI SX SY
            go_wp2
            go_ret
            exact ⟨ret_bool (unhide HF).symm, Below.on (unhide HBel) (unhide HB0)⟩
          subst z2
          by_cases z3 : of = of2
          case neg =>
            have t : (of != of2) = true := by simpa using z3
            have HF := hide (unhide BAD (by simp [sameI, z3]))
            clear z3 BAD NXT HI SX SY
            go_wp2
            go_ret
            exact ⟨ret_bool (unhide HF).symm, Below.on (unhide HBel) (unhide HB0)⟩
          subst z3
          by_cases z4 : re = re2
          case neg =>
            have t : (re != re2) = true := by simpa using z4
            have HF := hide (unhide BAD (by simp [sameI, z4]))
            clear z4 BAD NXT HI SX SY
            go_wp2
            go_ret
            exact ⟨ret_bool (unhide HF).symm, Below.on (unhide HBel) (unhide HB0)⟩
          subst z4
          by_cases zl : ll = ll2
          case neg =>
            have zl2 : ¬ ((ll : Int) = ll2) := by omega
            have t : ((ll : Int) != ll2) = true := by simp; omega
            have HF := hide (unhide BAD (by have : ¬ ls = ls2 := fun e => zl (by rw [← hll, ← hll2, e]); simp [sameI, this]))
            clear zl BAD NXT HI SX SY hll hll2 hlb hlb2 hle hle2
            go_wp2
            go_ret
            exact ⟨ret_bool (unhide HF).symm, Below.on (unhide HBel) (unhide HB0)⟩
          subst zl
          have HLL := hide (And.intro hll hll2)
          have QB := hide ((unhide HI).1 bo2 g g2 (.slice c1 lb d1) (.slice k1 lb2 e1) w2 (Code.below (unhide H1) (unhide HB0)) (Code.below (unhide M1) (unhide HB0)) (unhide SX).1 (unhide SX).2.2.2.1 (unhide SY).1 (unhide SY).2.2.2.1)
          clear hll hll2 hlb hlb2 hle hle2
          go_wp2_with fail
          refine (unhide QB).mono ?_
          rintro e w3 ⟨rfl, hb3⟩
          have HB3 := hide (Below.on (unhide HB0) hb3)
          have HL3 := hide (show BX < w3.heap.size ∧ BY < w3.heap.size by have := unhide HLx; have := hb3.size; omega)
          have x6' := (fin_cell hb3 (unhide HLx).1 6).trans x6
          have y6' := (fin_cell hb3 (unhide HLx).2 6).trans y6
          have x7' := (fin_cell hb3 (unhide HLx).1 7).trans x7
          have y7' := (fin_cell hb3 (unhide HLx).2 7).trans y7
          clear x0 x1 x2 x3 x4 x5 x6 x7 y0 y1 y2 y3 y4 y5 y6 y7 hb3 QB HLx
          have QE := hide ((unhide HI).2 el2 g g2 (.slice c2 le d2) (.slice k2 le2 e2) w3 (Code.below (unhide H2) (unhide HB3)) (Code.below (unhide M2) (unhide HB3)) (unhide SX).2.1 (unhide SX).2.2.2.2 (unhide SY).2.1 (unhide SY).2.2.2.2)
          cases hbo : same bo bo2 with
          | false =>
            have HF := hide (unhide BAD (by simp [sameI, hbo]))
            clear hbo BAD NXT HI SX SY QE
            go_wp2
            go_ret
            exact ⟨ret_bool (unhide HF).symm, Below.on (unhide HBel) (unhide HB3)⟩
          | true =>
            have HBo := hide hbo
            clear hbo
            go_wp2_with fail
            refine (unhide QE).mono ?_
            rintro e w4 ⟨rfl, hb4⟩
            have HB4 := hide (Below.on (unhide HB3) hb4)
            have x7 := (fin_cell hb4 (unhide HL3).1 7).trans x7'
            have y7 := (fin_cell hb4 (unhide HL3).2 7).trans y7'
            clear x6' y6' x7' y7' hb4 QE HL3
            cases hel : same el el2 with
            | false =>
              have HF := hide (unhide BAD (by simp [sameI, hel]))
              clear hel BAD NXT HI SX SY
              go_wp2
              go_ret
              exact ⟨ret_bool (unhide HF).symm, Below.on (unhide HBel) (unhide HB4)⟩
            | true =>
              have HEl := hide hel
              clear hel HI SX SY
              go_wp2_with fail
              go_loopw [8] (fun c wx => ∃ t : Nat, c = .int .i64 t ∧ (t : Int) ≤ ll ∧ (∀ i, i < t → ls.getD i 0 = ls2.getD i 0) ∧ ∃ k, wx = w4.drewN k) (fun c _ => ll - (intOf c).toNat)
              case atStart => exact ⟨0, rfl, by omega, fun i hi => absurd hi (by omega), 0, rfl⟩
              case round =>
                obtain ⟨t, rfl, ht, hall, k, rfl⟩ := hrel
                have HAll := hide hall; clear hall
                by_cases htl : (t : Int) < ll
                · obtain ⟨a3, cp3, he3, _, _, hq3⟩ := unhide H3
                  obtain ⟨a4, cp4, he4, _, _, hq4⟩ := unhide M3
                  simp only [Value.slice.injEq] at he3 he4
                  obtain ⟨rfl, _, rfl⟩ := he3
                  obtain ⟨rfl, _, rfl⟩ := he4
                  obtain ⟨b3, o3, rfl, _, hl3⟩ := hq3 (by have := (unhide HLL).1; omega)
                  obtain ⟨b4, o4, rfl, _, hl4⟩ := hq4 (by have := (unhide HLL).2; omega)
                  have r1 := (fin_cell (unhide HB4) (Lab_lt hl3 (by have := (unhide HLL).1; omega)) _).trans (hl3 t (by have := (unhide HLL).1; omega))
                  have r2 := (fin_cell (unhide HB4) (Lab_lt hl4 (by have := (unhide HLL).2; omega)) _).trans (hl4 t (by have := (unhide HLL).2; omega))
                  clear hl3 hl4 hq3 hq4
                  generalize hx : ls.getD t 0 = x at *
                  generalize hy : ls2.getD t 0 = y at *
                  have HX := hide hx; have HY := hide hy; clear hx hy ht
                  by_cases he : x = y
                  · subst he
                    go_wp2_with fail
                    go_quiet (fail)
                    go_wp2
                    go_roundw
                    case rel => exact ⟨t + 1, by go_num, by omega, fun i hi => by
                      by_cases e : i = t
                      · subst e; rw [unhide HX, unhide HY]
                      · exact unhide HAll i (by omega), _, rfl⟩
                    case measure => simp [intOf]; omega
                  · have tt : (x != y) = true := by simpa using he
                    have HF := hide (unhide BAD (by have : ¬ ls = ls2 := (fun e => he (by rw [← unhide HX, ← unhide HY, e])); simp [sameI, this]))
                    clear he BAD NXT
                    go_wp2_with fail
                    go_quiet (fail)
                    go_wp2
                    go_ret
                    exact ⟨ret_bool (unhide HF).symm, Below.on (unhide HBel) (Below.on (unhide HB4) ⟨rfl, rfl, rfl, Nat.le_refl _, fun _ _ => rfl⟩)⟩
                · obtain rfl : t = ll := by omega
                  have hls := labs_eq (l := ls) (r := ls2) (by have := unhide HLL; omega) (fun i hi => unhide HAll i (by have := unhide HLL; omega))
                  have HN2 := hide (unhide NXT (by subst hls; simp [sameI, unhide HBo, unhide HEl]))
                  have HBB := hide (Below.on (unhide HBel) (Below.on (unhide HB4) (⟨rfl, rfl, rfl, Nat.le_refl _, fun _ _ => rfl⟩ : Below w4.heap.size w4 (w4.drewN k))))
                  clear hls ht htl NXT BAD HAll
                  go_wp2
                  go_roundw
                  case rel => exact ⟨j + 1, by go_num, by omega, unhide HN2, unhide HBB⟩
                  case measure => simp [intOf]; omega
        · obtain ⟨hb0, f0, f1, hz⟩ := two_kinds wr #[.int .u8 op2, .int .i64 n2, .int .u32 al2, .int .u32 of2, .int .u8 re2, .slice k1 lb2 e1, .slice k2 le2 e2, .slice k3 ll2 e3] #[.int .u8 op, .int .i64 n, .int .u32 al, .int .u32 of, .int .u8 re, .slice c1 lb d1, .slice c2 le d2, .slice c3 ll d3] 55 50
          clear p0 p1 p2 p3 p4 p5 p6 p7 q0 q1 q2 q3 q4 q5 q6 q7
          generalize ((wr.alloc (.cells #[.int .u8 op2, .int .i64 n2, .int .u32 al2, .int .u32 of2, .int .u8 re2, .slice k1 lb2 e1, .slice k2 le2 e2, .slice k3 ll2 e3] 55)).alloc (.cells #[.int .u8 op, .int .i64 n, .int .u32 al, .int .u32 of, .int .u8 re, .slice c1 lb d1, .slice c2 le d2, .slice c3 ll d3] 50)) = w1 at *
          have HB0 := hide (Below.on hb0 (below_drew w1)); have HZz := hide (show w1.drew.heap.size = wr.heap.size + 2 from hz)
          have x0 : w1.drew.cell? ⟨wr.heap.size + 1, 0, none⟩ = some (.int .u8 op) := f1 0
          have y0 : w1.drew.cell? ⟨wr.heap.size, 0, none⟩ = some (.int .u8 op2) := f0 0
          have x1 : w1.drew.cell? ⟨wr.heap.size + 1, 1, none⟩ = some (.int .i64 n) := f1 1
          have y1 : w1.drew.cell? ⟨wr.heap.size, 1, none⟩ = some (.int .i64 n2) := f0 1
          have x2 : w1.drew.cell? ⟨wr.heap.size + 1, 2, none⟩ = some (.int .u32 al) := f1 2
          have y2 : w1.drew.cell? ⟨wr.heap.size, 2, none⟩ = some (.int .u32 al2) := f0 2
          have x3 : w1.drew.cell? ⟨wr.heap.size + 1, 3, none⟩ = some (.int .u32 of) := f1 3
          have y3 : w1.drew.cell? ⟨wr.heap.size, 3, none⟩ = some (.int .u32 of2) := f0 3
          have x4 : w1.drew.cell? ⟨wr.heap.size + 1, 4, none⟩ = some (.int .u8 re) := f1 4
          have y4 : w1.drew.cell? ⟨wr.heap.size, 4, none⟩ = some (.int .u8 re2) := f0 4
          have x5 : w1.drew.cell? ⟨wr.heap.size + 1, 5, none⟩ = some (.slice c1 lb d1) := f1 5
          have y5 : w1.drew.cell? ⟨wr.heap.size, 5, none⟩ = some (.slice k1 lb2 e1) := f0 5
          have x6 : w1.drew.cell? ⟨wr.heap.size + 1, 6, none⟩ = some (.slice c2 le d2) := f1 6
          have y6 : w1.drew.cell? ⟨wr.heap.size, 6, none⟩ = some (.slice k2 le2 e2) := f0 6
          have x7 : w1.drew.cell? ⟨wr.heap.size + 1, 7, none⟩ = some (.slice c3 ll d3) := f1 7
          have y7 : w1.drew.cell? ⟨wr.heap.size, 7, none⟩ = some (.slice k3 ll2 e3) := f0 7
          clear f0 f1 hb0 hz
          generalize w1.drew = w2 at *
          have hlx : wr.heap.size + 1 < w2.heap.size ∧ wr.heap.size < w2.heap.size := by have := unhide HZz; omega
          generalize wr.heap.size + 1 = BX at x0 y0 x1 y1 x2 y2 x3 y3 x4 y4 x5 y5 x6 y6 x7 y7 hlx ⊢
          generalize wr.heap.size = BY at x0 y0 x1 y1 x2 y2 x3 y3 x4 y4 x5 y5 x6 y6 x7 y7 hlx ⊢
          have HLx := hide hlx
          clear hlx
          by_cases z0 : op = op2
          case neg =>
            have t : (op != op2) = true := by simpa using z0
            have HF := hide (unhide BAD (by simp [sameI, z0]))
            clear z0 BAD NXT HI SX SY
            go_wp2
            go_ret
            exact ⟨ret_bool (unhide HF).symm, Below.on (unhide HBel) (unhide HB0)⟩
          subst z0
          by_cases z1 : n = n2
          case neg =>
            have t : (n != n2) = true := by simpa using z1
            have HF := hide (unhide BAD (by simp [sameI, z1]))
            clear z1 BAD NXT HI SX SY
            go_wp2
            go_ret
            exact ⟨ret_bool (unhide HF).symm, Below.on (unhide HBel) (unhide HB0)⟩
          subst z1
          by_cases z2 : al = al2
          case neg =>
            have t : (al != al2) = true := by simpa using z2
            have HF := hide (unhide BAD (by simp [sameI, z2]))
            clear z2 BAD NXT HI SX SY
            go_wp2
            go_ret
            exact ⟨ret_bool (unhide HF).symm, Below.on (unhide HBel) (unhide HB0)⟩
          subst z2
          by_cases z3 : of = of2
          case neg =>
            have t : (of != of2) = true := by simpa using z3
            have HF := hide (unhide BAD (by simp [sameI, z3]))
            clear z3 BAD NXT HI SX SY
            go_wp2
            go_ret
            exact ⟨ret_bool (unhide HF).symm, Below.on (unhide HBel) (unhide HB0)⟩
          subst z3
          by_cases z4 : re = re2
          case neg =>
            have t : (re != re2) = true := by simpa using z4
            have HF := hide (unhide BAD (by simp [sameI, z4]))
            clear z4 BAD NXT HI SX SY
            go_wp2
            go_ret
            exact ⟨ret_bool (unhide HF).symm, Below.on (unhide HBel) (unhide HB0)⟩
          subst z4
          by_cases zl : ll = ll2
          case neg =>
            have zl2 : ¬ ((ll : Int) = ll2) := by omega
            have t : ((ll : Int) != ll2) = true := by simp; omega
            have HF := hide (unhide BAD (by have : ¬ ls = ls2 := fun e => zl (by rw [← hll, ← hll2, e]); simp [sameI, this]))
            clear zl BAD NXT HI SX SY hll hll2 hlb hlb2 hle hle2
            go_wp2
            go_ret
            exact ⟨ret_bool (unhide HF).symm, Below.on (unhide HBel) (unhide HB0)⟩
          subst zl
          have HLL := hide (And.intro hll hll2)
          have QB := hide ((unhide HI).1 bo2 g g2 (.slice c1 lb d1) (.slice k1 lb2 e1) w2 (Code.below (unhide H1) (unhide HB0)) (Code.below (unhide M1) (unhide HB0)) (unhide SX).1 (unhide SX).2.2.2.1 (unhide SY).1 (unhide SY).2.2.2.1)
          clear hll hll2 hlb hlb2 hle hle2
          go_wp2_with fail
          refine (unhide QB).mono ?_
          rintro e w3 ⟨rfl, hb3⟩
          have HB3 := hide (Below.on (unhide HB0) hb3)
          have HL3 := hide (show BX < w3.heap.size ∧ BY < w3.heap.size by have := unhide HLx; have := hb3.size; omega)
          have x6' := (fin_cell hb3 (unhide HLx).1 6).trans x6
          have y6' := (fin_cell hb3 (unhide HLx).2 6).trans y6
          have x7' := (fin_cell hb3 (unhide HLx).1 7).trans x7
          have y7' := (fin_cell hb3 (unhide HLx).2 7).trans y7
          clear x0 x1 x2 x3 x4 x5 x6 x7 y0 y1 y2 y3 y4 y5 y6 y7 hb3 QB HLx
          have QE := hide ((unhide HI).2 el2 g g2 (.slice c2 le d2) (.slice k2 le2 e2) w3 (Code.below (unhide H2) (unhide HB3)) (Code.below (unhide M2) (unhide HB3)) (unhide SX).2.1 (unhide SX).2.2.2.2 (unhide SY).2.1 (unhide SY).2.2.2.2)
          cases hbo : same bo bo2 with
          | false =>
            have HF := hide (unhide BAD (by simp [sameI, hbo]))
            clear hbo BAD NXT HI SX SY QE
            go_wp2
            go_ret
            exact ⟨ret_bool (unhide HF).symm, Below.on (unhide HBel) (unhide HB3)⟩
          | true =>
            have HBo := hide hbo
            clear hbo
            go_wp2_with fail
            refine (unhide QE).mono ?_
            rintro e w4 ⟨rfl, hb4⟩
            have HB4 := hide (Below.on (unhide HB3) hb4)
            have x7 := (fin_cell hb4 (unhide HL3).1 7).trans x7'
            have y7 := (fin_cell hb4 (unhide HL3).2 7).trans y7'
            clear x6' y6' x7' y7' hb4 QE HL3
            cases hel : same el el2 with
            | false =>
              have HF := hide (unhide BAD (by simp [sameI, hel]))
              clear hel BAD NXT HI SX SY
              go_wp2
              go_ret
              exact ⟨ret_bool (unhide HF).symm, Below.on (unhide HBel) (unhide HB4)⟩
            | true =>
              have HEl := hide hel
              clear hel HI SX SY
              go_wp2_with fail
              go_loopw [8] (fun c wx => ∃ t : Nat, c = .int .i64 t ∧ (t : Int) ≤ ll ∧ (∀ i, i < t → ls.getD i 0 = ls2.getD i 0) ∧ ∃ k, wx = w4.drewN k) (fun c _ => ll - (intOf c).toNat)
              case atStart => exact ⟨0, rfl, by omega, fun i hi => absurd hi (by omega), 0, rfl⟩
              case round =>
                obtain ⟨t, rfl, ht, hall, k, rfl⟩ := hrel
                have HAll := hide hall; clear hall
                by_cases htl : (t : Int) < ll
                · obtain ⟨a3, cp3, he3, _, _, hq3⟩ := unhide H3
                  obtain ⟨a4, cp4, he4, _, _, hq4⟩ := unhide M3
                  simp only [Value.slice.injEq] at he3 he4
                  obtain ⟨rfl, _, rfl⟩ := he3
                  obtain ⟨rfl, _, rfl⟩ := he4
                  obtain ⟨b3, o3, rfl, _, hl3⟩ := hq3 (by have := (unhide HLL).1; omega)
                  obtain ⟨b4, o4, rfl, _, hl4⟩ := hq4 (by have := (unhide HLL).2; omega)
                  have r1 := (fin_cell (unhide HB4) (Lab_lt hl3 (by have := (unhide HLL).1; omega)) _).trans (hl3 t (by have := (unhide HLL).1; omega))
                  have r2 := (fin_cell (unhide HB4) (Lab_lt hl4 (by have := (unhide HLL).2; omega)) _).trans (hl4 t (by have := (unhide HLL).2; omega))
                  clear hl3 hl4 hq3 hq4
                  generalize hx : ls.getD t 0 = x at *
                  generalize hy : ls2.getD t 0 = y at *
                  have HX := hide hx; have HY := hide hy; clear hx hy ht
                  by_cases he : x = y
                  · subst he
                    go_wp2_with fail
                    go_quiet (fail)
                    go_wp2
                    go_roundw
                    case rel => exact ⟨t + 1, by go_num, by omega, fun i hi => by
                      by_cases e : i = t
                      · subst e; rw [unhide HX, unhide HY]
                      · exact unhide HAll i (by omega), _, rfl⟩
                    case measure => simp [intOf]; omega
                  · have tt : (x != y) = true := by simpa using he
                    have HF := hide (unhide BAD (by have : ¬ ls = ls2 := (fun e => he (by rw [← unhide HX, ← unhide HY, e])); simp [sameI, this]))
                    clear he BAD NXT
                    go_wp2_with fail
                    go_quiet (fail)
                    go_wp2
                    go_ret
                    exact ⟨ret_bool (unhide HF).symm, Below.on (unhide HBel) (Below.on (unhide HB4) ⟨rfl, rfl, rfl, Nat.le_refl _, fun _ _ => rfl⟩)⟩
                · obtain rfl : t = ll := by omega
                  have hls := labs_eq (l := ls) (r := ls2) (by have := unhide HLL; omega) (fun i hi => unhide HAll i (by have := unhide HLL; omega))
                  have HN2 := hide (unhide NXT (by subst hls; simp [sameI, unhide HBo, unhide HEl]))
                  have HBB := hide (Below.on (unhide HBel) (Below.on (unhide HB4) (⟨rfl, rfl, rfl, Nat.le_refl _, fun _ _ => rfl⟩ : Below w4.heap.size w4 (w4.drewN k))))
                  clear hls ht htl NXT BAD HAll
                  go_wp2
                  go_roundw
                  case rel => exact ⟨j + 1, by go_num, by omega, unhide HN2, unhide HBB⟩
                  case measure => simp [intOf]; omega
      · obtain rfl : j = nn := by omega
        clear hj hlt
        have HF := hide (same_upto (a := a) (b := b) (unhide HL |> fun h => (unhide HN).trans h) fun i h1 h2 => unhide HPre i h1 h2 (by have := unhide HN; omega))
        clear hpre hbel
        go_wp2
        go_ret
        exact ⟨ret_bool (unhide HF).symm, unhide HBel⟩
  · have hf := hide (same_len hl)
    have hl2 : ¬ ((a.length : Int) = b.length) := by omega
    generalize a.length = nn at *
    generalize b.length = n2 at *
    clear hl
    go_enter Tryd.func15, Tryd.ntmps15
    go_wp2
    go_ret
    exact ⟨ret_bool (unhide hf).symm, Below.refl _ _⟩
end Ex
end Go.Proofs.YtjhmglefejclpaaDoor
