/- The document's Store. -/
import Derived.Test.YtdeblcbdapggnaaMemR
import Derived.Test.YtdeblcbdapggnaaMemT
namespace Go.Proofs.Ytdeblcbdapggnaa
open Go.RowKit Mm
set_option linter.unusedVariables false

theorem LRow.of {w : World} {B : Nat} {v : Value} {zs : List Int} (h : w.ownsRow B 49 2 v (nz zs 0).length (cl (nz zs 0))) (hl : zs.length ≤ 65536) (hby : ∀ z ∈ zs, 0 ≤ z ∧ z ≤ 255) : LRow w B v (nz zs 0) := by
  refine ⟨h, Nat.le_trans (nz_len zs 0) hl, fun x hx => ?_⟩
  obtain ⟨j, h1, h2, h3⟩ := nz_mem zs 0 x hx
  have := bytes_at hby j
  rw [h2, h3]
  omega
/-- three cells of a box written anew -/
theorem box3 {w : World} {b : Nat} {t : TypeId} {x y z : Value} (h : w.heap[b]? = some (.cells #[x, y, z] t (0, 0))) (x' y' z' : Value) :
    (((w.setCell ⟨b, 0, none⟩ x').setCell ⟨b, 1, none⟩ y').setCell ⟨b, 2, none⟩ z').heap[b]? = some (.cells #[x', y', z'] t (0, 0)) ∧
      w.grownBy (((w.setCell ⟨b, 0, none⟩ x').setCell ⟨b, 1, none⟩ y').setCell ⟨b, 2, none⟩ z') (some b) ∧
      (((w.setCell ⟨b, 0, none⟩ x').setCell ⟨b, 1, none⟩ y').setCell ⟨b, 2, none⟩ z').heap.size = w.heap.size := by
  have h1 := heap_setCell_same w b 0 _ _ x' h
  have h2 := heap_setCell_same _ b 1 _ _ y' h1
  have h3 := heap_setCell_same _ b 2 _ _ z' h2
  refine ⟨by rw [h3]; rfl, ⟨rfl, rfl, rfl, by simp [World.setCell], fun k hk hne => ?_⟩, by simp [World.setCell]⟩
  have hn : k ≠ b := fun e => hne (by rw [e])
  rw [heap_setCell_other _ _ k _ (by simpa using hn), heap_setCell_other _ _ k _ (by simpa using hn), heap_setCell_other _ _ k _ (by simpa using hn)]
theorem LRow.box {w w' : World} {B b : Nat} {v : Value} {L : List (Int × Int)} {cs : Array Value} (h : LRow w B v L) (hb : w.heap[b]? = some (.cells cs 31 (0, 0))) (hg : w.grownBy w' (some b)) : LRow w' B v L := by
  refine h.keep hg ?_
  rcases h.own.2 with ⟨rfl, _⟩ | ⟨g', cap', cur, rfl, hg', hb', _⟩
  · left; rfl
  · right
    simp only [Value.ownBlock]
    intro e
    cases e
    have := hb.symm.trans hb'
    simp at this
theorem grown_below {w w0 w' : World} {S b : Nat} (h : Below S w0 w) (hg : w.grownBy w' (some b)) (hS : S ≤ w.heap.size) (hb : S ≤ b) : Below S w0 w' := h.grown hg hS (fun k e => by cases e; exact hb)

set_option maxHeartbeats 2000000 in
theorem refStore_yes {w : World} {B P : Nat} {r : Value} {zs : List Int} (h : LRow w B r (nz zs 0)) (hB : B ≤ w.heap.size) (hlen : zs.length = P * 4096) (hby : ∀ z ∈ zs, 0 ≤ z ∧ z ≤ 255) (k a o s v : Int) (hP : P ≤ 16) (ha : U64 a) (ho : U64 o) (hv : U64 v) (hf : fits (P * 4096) a o s = true) :
    Calls Try.prog 10 #[.agg #[.int .i64 P, .int .i64 k, r], .int .u64 a, .int .u64 o, .int .i64 s, .int .u64 v] w fun e w' => ∃ ad m cap,
      e = .returned (.tuple #[.agg #[.int .i64 P, .int .i64 k, .slice ad m cap], .bool true]) ∧ LRow w' B (.slice ad m cap) (nz (stZ zs (a + o).toNat s.toNat v) 0) ∧ Below w.heap.size w w' := by
  obtain ⟨ad, cap, rfl, hc1, hc2, _⟩ := h.shape
  obtain ⟨h1, h2⟩ := fits_iff.1 hf
  have hhas := fun wx => has_any P cap (nz zs 0).length ad k a o s wx hP ha ho
  rw [hf] at hhas
  obtain ⟨a0, a1⟩ := ha
  obtain ⟨o0, o1⟩ := ho
  obtain ⟨f, hfe⟩ := Int.eq_ofNat_of_zero_le (show 0 ≤ a + o by omega)
  obtain ⟨s', rfl⟩ := Int.eq_ofNat_of_zero_le (show 0 ≤ s by omega)
  rw [hfe]
  simp only [Int.toNat_natCast]
  have hs8 : s' ≤ 8 := by omega
  have hfn : f + s' ≤ P * 4096 := by omega
  obtain ⟨W, hW⟩ : ∃ W, (w.alloc (.cells #[.int .i64 P, .int .i64 k, .slice ad (nz zs 0).length cap] 31)).alloc (.cells #[.int .i64 0, .int .i64 0, .slice none 0 0] 31) = W := ⟨_, rfl⟩
  have hW1 : Below w.heap.size w W := by rw [← hW]; exact ((Below.refl _ _).alloc (Nat.le_refl _) _).alloc (by simp) _
  have hWs : W.heap.size = w.heap.size + 2 := by rw [← hW]; simp
  have hW0 : W.heap[w.heap.size]? = some (.cells #[.int .i64 P, .int .i64 k, .slice ad (nz zs 0).length cap] 31 (0, 0)) := by
    rw [← hW, Below.heap_alloc _ _ _ (by simp)]; exact heap_alloc_new _ _
  have hW2 : W.heap[w.heap.size + 1]? = some (.cells #[.int .i64 0, .int .i64 0, .slice none 0 0] 31 (0, 0)) := by
    rw [← hW]; have := heap_alloc_new (w.alloc (.cells #[.int .i64 P, .int .i64 k, .slice ad (nz zs 0).length cap] 31)) (.cells #[.int .i64 0, .int .i64 0, .slice none 0 0] 31); simpa using this
  have H := hide h; have HW := hide hW; have H1 := hide hW1; have HS := hide hWs; have H0 := hide hW0; have H2 := hide hW2; have HH := hide hhas; have HE := hide hfe; have HV := hide hv
  clear h hf hhas h1 h2 hfe hc1 hc2 hW hW1 hWs hW0 hW2 hv
  generalize hn : (nz zs 0).length = n at *
  have HN := hide hn; clear hn
  go_enter Try.func10, Try.ntmps10
  go_wp2_with fail
  rw [unhide HW]
  refine (unhide HH _).mono ?_
  rintro e w1 ⟨rfl, hb1⟩
  have hB1 := (unhide H1).trans (hb1.mono (by rw [unhide HS]; omega))
  have hx0 := (hb1.block w.heap.size (by rw [unhide HS]; omega)).trans (unhide H0)
  have hx1 := (hb1.block (w.heap.size + 1) (by rw [unhide HS]; omega)).trans (unhide H2)
  have hL1 := (unhide H).below (hB1)
  have HB := hide hB1; have HX0 := hide hx0; have HX1 := hide hx1; have HL := hide hL1
  clear hb1 hB1 hx0 hx1 hL1 HW H1 HS H0 H2 HH H
  go_wp2_with fail
  go_loopw [4, 12] (fun x i wr => ∃ (j : Nat) (y : Int) (ys : List Int) (ad : Option Addr) (n cap : Nat), j ≤ s' ∧ i = .int .i64 j ∧ x = .int .u64 y ∧ U64 y ∧ ys.length = P * 4096 ∧ (∀ z ∈ ys, 0 ≤ z ∧ z ≤ 255) ∧ stZ ys (f + j) (s' - j) y = stZ zs f s' v ∧
    LRow wr B (.slice ad n cap) (nz ys 0) ∧ Below w.heap.size w wr ∧ wr.heap[w.heap.size]? = some (.cells #[.int .i64 P, .int .i64 k, .slice ad n cap] 31 (0, 0)) ∧ wr.heap[w.heap.size + 1]? = some (.cells #[.int .i64 0, .int .i64 0, .slice none 0 0] 31 (0, 0))) (fun _ i _ => (s' - intOf i).toNat)
  case atStart => exact ⟨0, v, zs, ad, n, cap, by omega, rfl, rfl, unhide HV, hlen, hby, rfl, unhide HL, unhide HB, unhide HX0, unhide HX1⟩
  case round =>
    obtain ⟨j, y, ys, ad, n, cap, hj, rfl, rfl, ⟨y0, y1⟩, hyl, hyb, hst, hL, hbr, hx0, hx1⟩ := hrel
    clear HB HX0 HX1 HL HN
    have q0 : wr.cell? ⟨w.heap.size, 0, none⟩ = some (.int .i64 P) := by rw [cell_of_row wr _ 0 _ _ _ hx0]; rfl
    have q1 : wr.cell? ⟨w.heap.size, 1, none⟩ = some (.int .i64 k) := by rw [cell_of_row wr _ 1 _ _ _ hx0]; rfl
    have q2 : wr.cell? ⟨w.heap.size, 2, none⟩ = some (.slice ad n cap) := by rw [cell_of_row wr _ 2 _ _ _ hx0]; rfl
    by_cases hlt : j < s'
    · have hset := set_any hL P k ((f + j : Nat) : Int) (y % 256) (by omega) (by omega)
      rw [nz_set ys 0 (f + j) (y % 256) (by omega) (by rw [hyl]; omega), Nat.sub_zero] at hset
      have hst2 : stZ (ys.set (f + j) (y % 256)) (f + (j + 1)) (s' - (j + 1)) (y / 256) = stZ zs f s' v := by
        rw [← hst, show s' - j = (s' - (j + 1)) + 1 from by omega, stZ]; rfl
      have hyl2 : (ys.set (f + j) (y % 256)).length = P * 4096 := by simpa using hyl
      have hyb2 : ∀ z ∈ ys.set (f + j) (y % 256), 0 ≤ z ∧ z ≤ 255 := fun z hz => by
        rcases List.mem_or_eq_of_mem_set hz with h | h
        · exact hyb z h
        · omega
      generalize ys.set (f + j) (y % 256) = ys2 at *
      have hfe := unhide HE
      have eadd : a + o + (j : Int) = ((f + j : Nat) : Int) := by omega
      have hao : a + o ≤ 65536 := by omega
      have hj8 : (j : Int) ≤ 7 := by omega
      have hjs : (j : Int) < s' := by omega
      have hw0 : w.heap.size < wr.heap.size := (Array.getElem?_eq_some_iff.1 hx0).1
      have hw1 : w.heap.size + 1 < wr.heap.size := (Array.getElem?_eq_some_iff.1 hx1).1
      have HB := hide hbr; have HX0 := hide hx0; have HX1 := hide hx1; have HG := hide hset; have HST := hide hst2; have HYL := hide hyl2; have HYB := hide hyb2; have HA := hide eadd
      clear hbr hx0 hx1 hset hst hst2 hyl hyl2 hyb hyb2 hL hfe eadd hlt hj
      go_wp2_with fail
      rw [unhide HA]
      refine (unhide HG).mono ?_
      rintro e w2 ⟨ad2, cap2, rfl, hown2, hb2⟩
      have hx0 := (hb2.block w.heap.size hw0).trans (unhide HX0)
      have hx1 := (hb2.block (w.heap.size + 1) hw1).trans (unhide HX1)
      have hB2 := Below.on (unhide HB) hb2
      generalize hn2 : (nz ys2 0).length = n2 at *
      have hL2 : LRow w2 B (.slice ad2 n2 cap2) (nz ys2 0) := (LRow.of (by rw [hn2]; exact hown2) (by rw [unhide HYL]; omega) (unhide HYB)).base (by omega)
      have hw2 : w.heap.size < w2.heap.size := (Array.getElem?_eq_some_iff.1 hx0).1
      obtain ⟨k1, k2, k3⟩ := box3 hx0 (.int .i64 P) (.int .i64 k) (.slice ad2 n2 cap2)
      have hL3 := hL2.box hx0 k2
      have hB3 := grown_below hB2 k2 (by omega) (Nat.le_refl _)
      have hx13 := (k2.block (w.heap.size + 1) (Array.getElem?_eq_some_iff.1 hx1).1 (by simp)).trans hx1
      have q0 : w2.cell? ⟨w.heap.size, 0, none⟩ = some (.int .i64 P) := by rw [cell_of_row w2 _ 0 _ _ _ hx0]; rfl
      have q1 : w2.cell? ⟨w.heap.size, 1, none⟩ = some (.int .i64 k) := by rw [cell_of_row w2 _ 1 _ _ _ hx0]; rfl
      have q2 : w2.cell? ⟨w.heap.size, 2, none⟩ = some (.slice ad n cap) := by rw [cell_of_row w2 _ 2 _ _ _ hx0]; rfl
      have f0 := frozen_of_row w2 w.heap.size 0 _ _ hx0
      have f1 := frozen_of_row w2 w.heap.size 1 _ _ hx0
      have f2 := frozen_of_row w2 w.heap.size 2 _ _ hx0
      have K1 := hide k1; have KL := hide hL3; have KB := hide hB3; have KX := hide hx13
      clear HB HX0 HX1 HG hb2 hB2 hx0 hx1 hown2 hL2 k1 k2 k3 hL3 hB3 hx13 hn2
      go_wp2
      go_roundw
      case rel => exact ⟨j + 1, y / 256, ys2, ad2, n2, cap2, by omega, by go_num, by go_num, ⟨by omega, by omega⟩, unhide HYL, unhide HYB, unhide HST, unhide KL, unhide KB, unhide K1, unhide KX⟩
      case measure => simp [intOf]; omega
    · obtain rfl : j = s' := by omega
      rw [Nat.sub_self, stZ] at hst
      obtain ⟨k1, k2, k3⟩ := box3 hx1 (.int .i64 P) (.int .i64 k) (.slice ad n cap)
      have hL3 := hL.box hx1 k2
      have hw1 : w.heap.size + 1 < wr.heap.size := (Array.getElem?_eq_some_iff.1 hx1).1
      have hB3 := grown_below hbr k2 (by omega) (by omega)
      rw [hst] at hL3
      have r0 : wr.cell? ⟨w.heap.size + 1, 0, none⟩ = some (.int .i64 0) := by rw [cell_of_row wr _ 0 _ _ _ hx1]; rfl
      have r1 : wr.cell? ⟨w.heap.size + 1, 1, none⟩ = some (.int .i64 0) := by rw [cell_of_row wr _ 1 _ _ _ hx1]; rfl
      have r2 : wr.cell? ⟨w.heap.size + 1, 2, none⟩ = some (.slice none 0 0) := by rw [cell_of_row wr _ 2 _ _ _ hx1]; rfl
      have g0 := frozen_of_row wr (w.heap.size + 1) 0 _ _ hx1
      have g1 := frozen_of_row wr (w.heap.size + 1) 1 _ _ hx1
      have g2 := frozen_of_row wr (w.heap.size + 1) 2 _ _ hx1
      have KL := hide hL3; have KB := hide hB3
      clear hL3 hB3 k1 k2 k3 hx0 hx1 hL hbr hst hyl hyb hj hlt
      go_wp2
      exact bodyPost_ret (v := .tuple #[.agg #[.int .i64 P, .int .i64 k, .slice ad n cap], .bool true]) (by simp [results, Try.results10, go_sem, r0, r1, r2]) rfl ⟨_, _, _, rfl, unhide KL, unhide KB⟩

set_option maxHeartbeats 1000000 in
theorem refStore_no (P cap m : Nat) (ad : Option Addr) (k a o s v : Int) (w : World) (hP : P ≤ 16) (ha : U64 a) (ho : U64 o) (hf : fits (P * 4096) a o s = false) :
    Calls Try.prog 10 #[.agg #[.int .i64 P, .int .i64 k, .slice ad m cap], .int .u64 a, .int .u64 o, .int .i64 s, .int .u64 v] w fun e w' =>
      e = .returned (.tuple #[.agg #[.int .i64 P, .int .i64 k, .slice ad m cap], .bool false]) ∧ Below w.heap.size w w' := by
  have hhas := fun wx => has_any P cap m ad k a o s wx hP ha ho
  rw [hf] at hhas
  obtain ⟨W, hW⟩ : ∃ W, (w.alloc (.cells #[.int .i64 P, .int .i64 k, .slice ad m cap] 31)).alloc (.cells #[.int .i64 0, .int .i64 0, .slice none 0 0] 31) = W := ⟨_, rfl⟩
  have hW1 : Below w.heap.size w W := by rw [← hW]; exact ((Below.refl _ _).alloc (Nat.le_refl _) _).alloc (by simp) _
  have hWs : W.heap.size = w.heap.size + 2 := by rw [← hW]; simp
  have hW0 : W.heap[w.heap.size]? = some (.cells #[.int .i64 P, .int .i64 k, .slice ad m cap] 31 (0, 0)) := by
    rw [← hW, Below.heap_alloc _ _ _ (by simp)]; exact heap_alloc_new _ _
  have hW2 : W.heap[w.heap.size + 1]? = some (.cells #[.int .i64 0, .int .i64 0, .slice none 0 0] 31 (0, 0)) := by
    rw [← hW]; have := heap_alloc_new (w.alloc (.cells #[.int .i64 P, .int .i64 k, .slice ad m cap] 31)) (.cells #[.int .i64 0, .int .i64 0, .slice none 0 0] 31); simpa using this
  have HW := hide hW; have H1 := hide hW1; have HS := hide hWs; have H0 := hide hW0; have H2 := hide hW2; have HH := hide hhas
  clear hhas hf ha ho hW hW1 hWs hW0 hW2
  go_enter Try.func10, Try.ntmps10
  go_wp2_with fail
  rw [unhide HW]
  refine (unhide HH _).mono ?_
  rintro e w1 ⟨rfl, hb1⟩
  have hB1 := (unhide H1).trans (hb1.mono (by rw [unhide HS]; omega))
  have hx0 := (hb1.block w.heap.size (by rw [unhide HS]; omega)).trans (unhide H0)
  have hx1 := (hb1.block (w.heap.size + 1) (by rw [unhide HS]; omega)).trans (unhide H2)
  have q0 : w1.cell? ⟨w.heap.size, 0, none⟩ = some (.int .i64 P) := by rw [cell_of_row w1 _ 0 _ _ _ hx0]; rfl
  have q1 : w1.cell? ⟨w.heap.size, 1, none⟩ = some (.int .i64 k) := by rw [cell_of_row w1 _ 1 _ _ _ hx0]; rfl
  have q2 : w1.cell? ⟨w.heap.size, 2, none⟩ = some (.slice ad m cap) := by rw [cell_of_row w1 _ 2 _ _ _ hx0]; rfl
  obtain ⟨k1, k2, k3⟩ := box3 hx1 (.int .i64 P) (.int .i64 k) (.slice ad m cap)
  have hw1 : w.heap.size + 1 < w1.heap.size := (Array.getElem?_eq_some_iff.1 hx1).1
  have hB3 := grown_below hB1 k2 (by omega) (by omega)
  have r0 : w1.cell? ⟨w.heap.size + 1, 0, none⟩ = some (.int .i64 0) := by rw [cell_of_row w1 _ 0 _ _ _ hx1]; rfl
  have r1 : w1.cell? ⟨w.heap.size + 1, 1, none⟩ = some (.int .i64 0) := by rw [cell_of_row w1 _ 1 _ _ _ hx1]; rfl
  have r2 : w1.cell? ⟨w.heap.size + 1, 2, none⟩ = some (.slice none 0 0) := by rw [cell_of_row w1 _ 2 _ _ _ hx1]; rfl
  have g0 := frozen_of_row w1 (w.heap.size + 1) 0 _ _ hx1
  have g1 := frozen_of_row w1 (w.heap.size + 1) 1 _ _ hx1
  have g2 := frozen_of_row w1 (w.heap.size + 1) 2 _ _ hx1
  have KB := hide hB3
  clear hB3 k1 k2 k3 hx0 hx1 hb1 hB1
  go_wp2
  exact bodyPost_ret (v := .tuple #[.agg #[.int .i64 P, .int .i64 k, .slice ad m cap], .bool false]) (by simp [results, Try.results10, go_sem, r0, r1, r2]) rfl ⟨rfl, unhide KB⟩
end Go.Proofs.Ytdeblcbdapggnaa
