/- OpsForms: its walk. -/
import Derived.Test.YtenbpmbaiddafaaDoorOpL
import Derived.Test.YtenbpmbaiddafaaDoorOpFm
import Derived.Test.YtenbpmbaiddafaaDoorNum
import Derived.BigQuiet
namespace Go.Proofs.YtenbpmbaiddafaaDoor
open Go.RowKit
set_option linter.unusedVariables false

/-- a slice that holds these numbers -/
def RowOf (w : World) (a : Option Addr) (m cap : Nat) (zs : List Int) : Prop := zs.length = m ∧ m ≤ cap ∧ ∀ j z, zs[j]? = some z → ∃ g, a = some ⟨g, 0, none⟩ ∧ g < w.heap.size ∧ w.cell? ⟨g, j, none⟩ = some (.int .u8 z)
theorem RowOf.below {w w' : World} {a : Option Addr} {m cap : Nat} {zs : List Int} (h : RowOf w a m cap zs) (hb : Below w.heap.size w w') : RowOf w' a m cap zs :=
  ⟨h.1, h.2.1, fun j z hj => by
    obtain ⟨g, e, hg, hc⟩ := h.2.2 j z hj
    exact ⟨g, e, Nat.lt_of_lt_of_le hg hb.size, (hb.cell (p := ⟨g, j, none⟩) hg).trans hc⟩⟩
theorem row_own {w : World} {B : Nat} {e : TypeId} {v : Value} {zs : List Int} (h : w.ownsRow B e 1 v zs.length (zs.map (Value.int .u8))) : ∃ a cap, v = .slice a zs.length cap ∧ RowOf w a zs.length cap zs := by
  rcases h.2 with ⟨rfl, h0⟩ | ⟨g, cap, cur, rfl, hg, hb, hc, _⟩
  · refine ⟨none, 0, by rw [h0], rfl, by omega, fun j z hj => ?_⟩
    have := (List.getElem?_eq_some_iff.1 hj).1
    omega
  · refine ⟨_, cap, rfl, rfl, hc, fun j z hj => ⟨g, rfl, (Array.getElem?_eq_some_iff.1 hb).1, ?_⟩⟩
    have hl := (List.getElem?_eq_some_iff.1 hj).1
    have := h.cellAt j (by omega)
    rw [this]
    simp [hj]
structure St (w wx : World) (T : Nat) (a a' : Option Addr) (m cap cap' : Nat) (r : Int) (zs : List Int) : Prop where
  bel : Below w.heap.size w wx
  tb : Tb wx
  er : ErrT wx
  box : wx.heap[T]? = some (.cells #[.slice a m cap, .int .u8 r] 40 (0, 0))
  rv : RowOf wx a m cap zs
  rv' : RowOf wx a' m cap' zs
namespace St
variable {w wx wy : World} {T : Nat} {a a' : Option Addr} {m cap cap' : Nat} {r : Int} {zs : List Int}
theorem lt (h : St w wx T a a' m cap cap' r zs) : T < wx.heap.size := (Array.getElem?_eq_some_iff.1 h.box).1
theorem below (h : St w wx T a a' m cap cap' r zs) (hb : Below wx.heap.size wx wy) : St w wy T a a' m cap cap' r zs :=
  ⟨Below.on h.bel hb, h.tb.below hb, h.er.below (Nat.le_refl _) hb, (hb.block T h.lt).trans h.box, h.rv.below hb, h.rv'.below hb⟩
theorem c0 (h : St w wx T a a' m cap cap' r zs) : wx.cell? ⟨T, 0, none⟩ = some (.slice a m cap) := by rw [cell_of_row wx _ 0 _ _ _ h.box]; rfl
theorem c1 (h : St w wx T a a' m cap cap' r zs) : wx.cell? ⟨T, 1, none⟩ = some (.int .u8 r) := by rw [cell_of_row wx _ 1 _ _ _ h.box]; rfl
theorem make {w1 w4 : World} (hb1 : Below w.heap.size w w1) (tb : Tb w1) (er : ErrT w1) (rv : RowOf w1 a m cap zs)
    (hb : Below (w1.alloc (.cells #[.slice a m cap, .int .u8 r] 40)).heap.size (w1.alloc (.cells #[.slice a m cap, .int .u8 r] 40)) w4) (rv' : RowOf w4 a' m cap' zs) : St w w4 w1.heap.size a a' m cap cap' r zs := by
  have h1 : Below w1.heap.size w1 (w1.alloc (.cells #[.slice a m cap, .int .u8 r] 40)) := (Below.refl _ _).alloc (Nat.le_refl _) _
  have h2 : Below w1.heap.size w1 w4 := Below.on h1 hb
  refine ⟨Below.on hb1 h2, tb.below h2, er.below (Nat.le_refl _) h2, ?_, rv.below h2, rv'⟩
  rw [hb.block w1.heap.size (by show w1.heap.size < (w1.heap.push _).size; rw [Array.size_push]; omega)]
  show (w1.heap.push _)[w1.heap.size]? = _
  rw [Array.getElem?_push_size]
end St
set_option maxRecDepth 100000 in
set_option maxHeartbeats 6400000 in
theorem forms_000 (n : Nat) (hn : n < 256) (f r k : Int) (s : Bool) (zs : List Int) (m : Nat) (hm : m ≤ 2) (w : World) (hTb : Tb w) (hEr : ErrT w) (hr : 0 ≤ r ∧ r ≤ 255)
    (hF : ∀ wx, Tb wx → Calls Tryd.prog 15 #[.int .u8 n] wx fun e w' => e = .returned (.tuple #[.int .i64 f, .iface 53 (.int .i64 1)]) ∧ Below wx.heap.size wx w')
    (hFr : ∀ wx, Calls Tryd.prog 16 #[.int .u8 n] wx fun e w' => e = .returned (.tuple #[.int .i64 f, .bool false]) ∧ Below wx.heap.size wx w')
    (hS : ∀ wx, Tb wx → Calls Tryd.prog 17 #[.int .u8 n] wx fun e w' => ∃ a cap, e = .returned (.tuple #[.agg #[.slice a m cap, .int .u8 r], .iface 53 (.int .i64 1)]) ∧ RowOf w' a m cap zs ∧ Below wx.heap.size wx w')
    (hSr : ∀ wx, Calls Tryd.prog 18 #[.int .u8 n] wx fun e w' => ∃ a cap, e = .returned (.tuple #[.slice a m cap, .int .u8 r, .bool false]) ∧ RowOf w' a m cap zs ∧ Below wx.heap.size wx w')
    (hY : ∀ wx, Tb wx → Calls Tryd.prog 19 #[.int .u8 n] wx fun e w' => e = .returned (.tuple #[.int .i64 k, .bool s, .iface 53 (.int .i64 1)]) ∧ Below wx.heap.size wx w')
    (hYr : ∀ wx, Calls Tryd.prog 20 #[.int .u8 n] wx fun e w' => e = .returned (.tuple #[.int .i64 k, .bool s, .bool false]) ∧ Below wx.heap.size wx w') :
    Calls Tryd.prog 4 #[.int .u8 n] w fun e w' => e = .returned (.bool true) ∧ Below w.heap.size w w' := by
  have hU := fun wx (h : Tb wx) => sure_any wx h
  have hN := fun wx (h : ErrT wx) => num_any 1 wx h
  simp only [errV_1] at hN
  have HF := hide hF; have HFr := hide hFr; have HS := hide hS; have HSr := hide hSr; have HY := hide hY; have HYr := hide hYr; have HU := hide hU; have HN := hide hN
  have HT := hide hTb; have HE := hide hEr
  clear hF hFr hS hSr hY hYr hU hN hTb hEr
  obtain ⟨r0, r1⟩ := hr
  go_enter Tryd.func4, Tryd.ntmps4
  go_wp2_with fail
  refine (unhide HF _ (unhide HT)).mono ?_
  rintro e w1 ⟨rfl, hb1⟩
  have HB1 := hide hb1; clear hb1
  go_wp2_with fail
  refine (unhide HFr _).mono ?_
  rintro e w2 ⟨rfl, hb2⟩
  have HB2 := hide (Below.on (unhide HB1) hb2); clear hb2 HB1
  go_wp2_with fail
  refine (unhide HS _ ((unhide HT).below (unhide HB2))).mono ?_
  rintro e w3 ⟨a, cap, rfl, hrow, hb3⟩
  have HB3 := hide (Below.on (unhide HB2) hb3); have HRow := hide hrow; clear hb3 HB2 hrow
  go_wp2_with fail
  refine (unhide HSr _).mono ?_
  rintro e w4 ⟨a', cap', rfl, hrow', hb4⟩
  have hs4 := St.make (unhide HB3) ((unhide HT).below (unhide HB3)) ((unhide HE).below (Nat.le_refl _) (unhide HB3)) (unhide HRow) hb4 hrow'
  have HS4 := hide hs4; clear hs4 hb4 hrow' HB3 HRow HT HE
  generalize w3.heap.size = T at *
  go_wp2_with fail
  refine (unhide HY _ (unhide HS4).tb).mono ?_
  rintro e w5 ⟨rfl, hb5⟩
  have HS5 := hide ((unhide HS4).below hb5); clear hb5 HS4
  go_wp2_with fail
  refine (unhide HYr _).mono ?_
  rintro e w6 ⟨rfl, hb6⟩
  have HS6 := hide ((unhide HS5).below hb6); clear hb6 HS5
  go_wp2_with fail
  refine (unhide HN _ (unhide HS6).er).mono ?_
  rintro e w7 ⟨rfl, hb7⟩
  have HS7 := hide ((unhide HS6).below hb7); clear hb7 HS6
  go_wp2_with fail
  refine (unhide HN _ (unhide HS7).er).mono ?_
  rintro e w8 ⟨rfl, hb8⟩
  have HS8 := hide ((unhide HS7).below hb8); clear hb8 HS7
  go_wp2_with fail
  refine (unhide HN _ (unhide HS8).er).mono ?_
  rintro e w9 ⟨rfl, hb9⟩
  have HS9 := hide ((unhide HS8).below hb9); clear hb9 HS8
  have c0 := (unhide HS9).c0; have c1 := (unhide HS9).c1; have hT := (unhide HS9).lt
  go_wp2_with fail
  clear c0 c1 hT
  go_loopw [18] (fun c wr => ∃ (j : Nat), c = .int .i64 j ∧ (j : Int) ≤ m ∧ St w wr T a a' m cap cap' r zs) (fun c _ => (m - intOf c).toNat)
  case atStart => exact ⟨0, rfl, by omega, unhide HS9⟩
  case round =>
    obtain ⟨j, rfl, hj, hst⟩ := hrel
    have HSt := hide hst
    by_cases hlt : (j : Int) < m
    · obtain ⟨q1, q2, q3⟩ := hst.rv
      obtain ⟨q4, q5, q6⟩ := hst.rv'
      have hz : j < zs.length := by omega
      obtain ⟨g, rfl, g1, g2⟩ := q3 j _ (List.getElem?_eq_getElem hz)
      obtain ⟨g', rfl, g3, g4⟩ := q6 j _ (List.getElem?_eq_getElem hz)
      have c0 := hst.c0; have hT := hst.lt
      generalize zs[j] = z at *
      clear hst q1 q3 q4 q6 hj hz
      go_wp2_with fail
      go_quiet (fail)
      go_wp2
      go_roundw
      case rel => exact ⟨j + 1, by go_num, by omega, (unhide HSt).below (Below.drewn _ nq)⟩
      case measure => simp [intOf]; omega
    · obtain rfl : j = m := by omega
      clear hst hj hlt
      go_wp2_with fail
      refine (unhide HU _ (unhide HSt).tb).mono ?_
      rintro e wz ⟨rfl, hbz⟩
      have HBz := hide (Below.on (unhide HSt).bel hbz); clear hbz
      go_wp2
      go_ret
      exact ⟨rfl, unhide HBz⟩
set_option maxRecDepth 100000 in
set_option maxHeartbeats 6400000 in
theorem forms_100 (n : Nat) (hn : n < 256) (f r k : Int) (s : Bool) (zs : List Int) (m : Nat) (hm : m ≤ 2) (w : World) (hTb : Tb w) (hEr : ErrT w) (hr : 0 ≤ r ∧ r ≤ 255)
    (hF : ∀ wx, Tb wx → Calls Tryd.prog 15 #[.int .u8 n] wx fun e w' => e = .returned (.tuple #[.int .i64 f, .nilIface]) ∧ Below wx.heap.size wx w')
    (hFr : ∀ wx, Calls Tryd.prog 16 #[.int .u8 n] wx fun e w' => e = .returned (.tuple #[.int .i64 f, .bool true]) ∧ Below wx.heap.size wx w')
    (hS : ∀ wx, Tb wx → Calls Tryd.prog 17 #[.int .u8 n] wx fun e w' => ∃ a cap, e = .returned (.tuple #[.agg #[.slice a m cap, .int .u8 r], .iface 53 (.int .i64 1)]) ∧ RowOf w' a m cap zs ∧ Below wx.heap.size wx w')
    (hSr : ∀ wx, Calls Tryd.prog 18 #[.int .u8 n] wx fun e w' => ∃ a cap, e = .returned (.tuple #[.slice a m cap, .int .u8 r, .bool false]) ∧ RowOf w' a m cap zs ∧ Below wx.heap.size wx w')
    (hY : ∀ wx, Tb wx → Calls Tryd.prog 19 #[.int .u8 n] wx fun e w' => e = .returned (.tuple #[.int .i64 k, .bool s, .iface 53 (.int .i64 1)]) ∧ Below wx.heap.size wx w')
    (hYr : ∀ wx, Calls Tryd.prog 20 #[.int .u8 n] wx fun e w' => e = .returned (.tuple #[.int .i64 k, .bool s, .bool false]) ∧ Below wx.heap.size wx w') :
    Calls Tryd.prog 4 #[.int .u8 n] w fun e w' => e = .returned (.bool true) ∧ Below w.heap.size w w' := by
  have hU := fun wx (h : Tb wx) => sure_any wx h
  have hN := fun wx (h : ErrT wx) => num_any 1 wx h
  simp only [errV_1] at hN
  have HF := hide hF; have HFr := hide hFr; have HS := hide hS; have HSr := hide hSr; have HY := hide hY; have HYr := hide hYr; have HU := hide hU; have HN := hide hN
  have HT := hide hTb; have HE := hide hEr
  clear hF hFr hS hSr hY hYr hU hN hTb hEr
  obtain ⟨r0, r1⟩ := hr
  go_enter Tryd.func4, Tryd.ntmps4
  go_wp2_with fail
  refine (unhide HF _ (unhide HT)).mono ?_
  rintro e w1 ⟨rfl, hb1⟩
  have HB1 := hide hb1; clear hb1
  go_wp2_with fail
  refine (unhide HFr _).mono ?_
  rintro e w2 ⟨rfl, hb2⟩
  have HB2 := hide (Below.on (unhide HB1) hb2); clear hb2 HB1
  go_wp2_with fail
  refine (unhide HS _ ((unhide HT).below (unhide HB2))).mono ?_
  rintro e w3 ⟨a, cap, rfl, hrow, hb3⟩
  have HB3 := hide (Below.on (unhide HB2) hb3); have HRow := hide hrow; clear hb3 HB2 hrow
  go_wp2_with fail
  refine (unhide HSr _).mono ?_
  rintro e w4 ⟨a', cap', rfl, hrow', hb4⟩
  have hs4 := St.make (unhide HB3) ((unhide HT).below (unhide HB3)) ((unhide HE).below (Nat.le_refl _) (unhide HB3)) (unhide HRow) hb4 hrow'
  have HS4 := hide hs4; clear hs4 hb4 hrow' HB3 HRow HT HE
  generalize w3.heap.size = T at *
  go_wp2_with fail
  refine (unhide HY _ (unhide HS4).tb).mono ?_
  rintro e w5 ⟨rfl, hb5⟩
  have HS5 := hide ((unhide HS4).below hb5); clear hb5 HS4
  go_wp2_with fail
  refine (unhide HYr _).mono ?_
  rintro e w6 ⟨rfl, hb6⟩
  have HS6 := hide ((unhide HS5).below hb6); clear hb6 HS5
  go_wp2_with fail
  refine (unhide HN _ (unhide HS6).er).mono ?_
  rintro e w7 ⟨rfl, hb7⟩
  have HS7 := hide ((unhide HS6).below hb7); clear hb7 HS6
  go_wp2_with fail
  refine (unhide HN _ (unhide HS7).er).mono ?_
  rintro e w8 ⟨rfl, hb8⟩
  have HS8 := hide ((unhide HS7).below hb8); clear hb8 HS7
  have c0 := (unhide HS8).c0; have c1 := (unhide HS8).c1; have hT := (unhide HS8).lt
  go_wp2_with fail
  clear c0 c1 hT
  go_loopw [18] (fun c wr => ∃ (j : Nat), c = .int .i64 j ∧ (j : Int) ≤ m ∧ St w wr T a a' m cap cap' r zs) (fun c _ => (m - intOf c).toNat)
  case atStart => exact ⟨0, rfl, by omega, unhide HS8⟩
  case round =>
    obtain ⟨j, rfl, hj, hst⟩ := hrel
    have HSt := hide hst
    by_cases hlt : (j : Int) < m
    · obtain ⟨q1, q2, q3⟩ := hst.rv
      obtain ⟨q4, q5, q6⟩ := hst.rv'
      have hz : j < zs.length := by omega
      obtain ⟨g, rfl, g1, g2⟩ := q3 j _ (List.getElem?_eq_getElem hz)
      obtain ⟨g', rfl, g3, g4⟩ := q6 j _ (List.getElem?_eq_getElem hz)
      have c0 := hst.c0; have hT := hst.lt
      generalize zs[j] = z at *
      clear hst q1 q3 q4 q6 hj hz
      go_wp2_with fail
      go_quiet (fail)
      go_wp2
      go_roundw
      case rel => exact ⟨j + 1, by go_num, by omega, (unhide HSt).below (Below.drewn _ nq)⟩
      case measure => simp [intOf]; omega
    · obtain rfl : j = m := by omega
      clear hst hj hlt
      go_wp2_with fail
      refine (unhide HU _ (unhide HSt).tb).mono ?_
      rintro e wz ⟨rfl, hbz⟩
      have HBz := hide (Below.on (unhide HSt).bel hbz); clear hbz
      go_wp2
      go_ret
      exact ⟨rfl, unhide HBz⟩
set_option maxRecDepth 100000 in
set_option maxHeartbeats 6400000 in
theorem forms_110 (n : Nat) (hn : n < 256) (f r k : Int) (s : Bool) (zs : List Int) (m : Nat) (hm : m ≤ 2) (w : World) (hTb : Tb w) (hEr : ErrT w) (hr : 0 ≤ r ∧ r ≤ 255)
    (hF : ∀ wx, Tb wx → Calls Tryd.prog 15 #[.int .u8 n] wx fun e w' => e = .returned (.tuple #[.int .i64 f, .nilIface]) ∧ Below wx.heap.size wx w')
    (hFr : ∀ wx, Calls Tryd.prog 16 #[.int .u8 n] wx fun e w' => e = .returned (.tuple #[.int .i64 f, .bool true]) ∧ Below wx.heap.size wx w')
    (hS : ∀ wx, Tb wx → Calls Tryd.prog 17 #[.int .u8 n] wx fun e w' => ∃ a cap, e = .returned (.tuple #[.agg #[.slice a m cap, .int .u8 r], .nilIface]) ∧ RowOf w' a m cap zs ∧ Below wx.heap.size wx w')
    (hSr : ∀ wx, Calls Tryd.prog 18 #[.int .u8 n] wx fun e w' => ∃ a cap, e = .returned (.tuple #[.slice a m cap, .int .u8 r, .bool true]) ∧ RowOf w' a m cap zs ∧ Below wx.heap.size wx w')
    (hY : ∀ wx, Tb wx → Calls Tryd.prog 19 #[.int .u8 n] wx fun e w' => e = .returned (.tuple #[.int .i64 k, .bool s, .iface 53 (.int .i64 1)]) ∧ Below wx.heap.size wx w')
    (hYr : ∀ wx, Calls Tryd.prog 20 #[.int .u8 n] wx fun e w' => e = .returned (.tuple #[.int .i64 k, .bool s, .bool false]) ∧ Below wx.heap.size wx w') :
    Calls Tryd.prog 4 #[.int .u8 n] w fun e w' => e = .returned (.bool true) ∧ Below w.heap.size w w' := by
  have hU := fun wx (h : Tb wx) => sure_any wx h
  have hN := fun wx (h : ErrT wx) => num_any 1 wx h
  simp only [errV_1] at hN
  have HF := hide hF; have HFr := hide hFr; have HS := hide hS; have HSr := hide hSr; have HY := hide hY; have HYr := hide hYr; have HU := hide hU; have HN := hide hN
  have HT := hide hTb; have HE := hide hEr
  clear hF hFr hS hSr hY hYr hU hN hTb hEr
  obtain ⟨r0, r1⟩ := hr
  go_enter Tryd.func4, Tryd.ntmps4
  go_wp2_with fail
  refine (unhide HF _ (unhide HT)).mono ?_
  rintro e w1 ⟨rfl, hb1⟩
  have HB1 := hide hb1; clear hb1
  go_wp2_with fail
  refine (unhide HFr _).mono ?_
  rintro e w2 ⟨rfl, hb2⟩
  have HB2 := hide (Below.on (unhide HB1) hb2); clear hb2 HB1
  go_wp2_with fail
  refine (unhide HS _ ((unhide HT).below (unhide HB2))).mono ?_
  rintro e w3 ⟨a, cap, rfl, hrow, hb3⟩
  have HB3 := hide (Below.on (unhide HB2) hb3); have HRow := hide hrow; clear hb3 HB2 hrow
  go_wp2_with fail
  refine (unhide HSr _).mono ?_
  rintro e w4 ⟨a', cap', rfl, hrow', hb4⟩
  have hs4 := St.make (unhide HB3) ((unhide HT).below (unhide HB3)) ((unhide HE).below (Nat.le_refl _) (unhide HB3)) (unhide HRow) hb4 hrow'
  have HS4 := hide hs4; clear hs4 hb4 hrow' HB3 HRow HT HE
  generalize w3.heap.size = T at *
  go_wp2_with fail
  refine (unhide HY _ (unhide HS4).tb).mono ?_
  rintro e w5 ⟨rfl, hb5⟩
  have HS5 := hide ((unhide HS4).below hb5); clear hb5 HS4
  go_wp2_with fail
  refine (unhide HYr _).mono ?_
  rintro e w6 ⟨rfl, hb6⟩
  have HS6 := hide ((unhide HS5).below hb6); clear hb6 HS5
  go_wp2_with fail
  refine (unhide HN _ (unhide HS6).er).mono ?_
  rintro e w7 ⟨rfl, hb7⟩
  have HS7 := hide ((unhide HS6).below hb7); clear hb7 HS6
  have c0 := (unhide HS7).c0; have c1 := (unhide HS7).c1; have hT := (unhide HS7).lt
  go_wp2_with fail
  clear c0 c1 hT
  go_loopw [18] (fun c wr => ∃ (j : Nat), c = .int .i64 j ∧ (j : Int) ≤ m ∧ St w wr T a a' m cap cap' r zs) (fun c _ => (m - intOf c).toNat)
  case atStart => exact ⟨0, rfl, by omega, unhide HS7⟩
  case round =>
    obtain ⟨j, rfl, hj, hst⟩ := hrel
    have HSt := hide hst
    by_cases hlt : (j : Int) < m
    · obtain ⟨q1, q2, q3⟩ := hst.rv
      obtain ⟨q4, q5, q6⟩ := hst.rv'
      have hz : j < zs.length := by omega
      obtain ⟨g, rfl, g1, g2⟩ := q3 j _ (List.getElem?_eq_getElem hz)
      obtain ⟨g', rfl, g3, g4⟩ := q6 j _ (List.getElem?_eq_getElem hz)
      have c0 := hst.c0; have hT := hst.lt
      generalize zs[j] = z at *
      clear hst q1 q3 q4 q6 hj hz
      go_wp2_with fail
      go_quiet (fail)
      go_wp2
      go_roundw
      case rel => exact ⟨j + 1, by go_num, by omega, (unhide HSt).below (Below.drewn _ nq)⟩
      case measure => simp [intOf]; omega
    · obtain rfl : j = m := by omega
      clear hst hj hlt
      go_wp2_with fail
      refine (unhide HU _ (unhide HSt).tb).mono ?_
      rintro e wz ⟨rfl, hbz⟩
      have HBz := hide (Below.on (unhide HSt).bel hbz); clear hbz
      go_wp2
      go_ret
      exact ⟨rfl, unhide HBz⟩
set_option maxRecDepth 100000 in
set_option maxHeartbeats 6400000 in
theorem forms_111 (n : Nat) (hn : n < 256) (f r k : Int) (s : Bool) (zs : List Int) (m : Nat) (hm : m ≤ 2) (w : World) (hTb : Tb w) (hEr : ErrT w) (hr : 0 ≤ r ∧ r ≤ 255)
    (hF : ∀ wx, Tb wx → Calls Tryd.prog 15 #[.int .u8 n] wx fun e w' => e = .returned (.tuple #[.int .i64 f, .nilIface]) ∧ Below wx.heap.size wx w')
    (hFr : ∀ wx, Calls Tryd.prog 16 #[.int .u8 n] wx fun e w' => e = .returned (.tuple #[.int .i64 f, .bool true]) ∧ Below wx.heap.size wx w')
    (hS : ∀ wx, Tb wx → Calls Tryd.prog 17 #[.int .u8 n] wx fun e w' => ∃ a cap, e = .returned (.tuple #[.agg #[.slice a m cap, .int .u8 r], .nilIface]) ∧ RowOf w' a m cap zs ∧ Below wx.heap.size wx w')
    (hSr : ∀ wx, Calls Tryd.prog 18 #[.int .u8 n] wx fun e w' => ∃ a cap, e = .returned (.tuple #[.slice a m cap, .int .u8 r, .bool true]) ∧ RowOf w' a m cap zs ∧ Below wx.heap.size wx w')
    (hY : ∀ wx, Tb wx → Calls Tryd.prog 19 #[.int .u8 n] wx fun e w' => e = .returned (.tuple #[.int .i64 k, .bool s, .nilIface]) ∧ Below wx.heap.size wx w')
    (hYr : ∀ wx, Calls Tryd.prog 20 #[.int .u8 n] wx fun e w' => e = .returned (.tuple #[.int .i64 k, .bool s, .bool true]) ∧ Below wx.heap.size wx w') :
    Calls Tryd.prog 4 #[.int .u8 n] w fun e w' => e = .returned (.bool true) ∧ Below w.heap.size w w' := by
  have hU := fun wx (h : Tb wx) => sure_any wx h
  have hN := fun wx (h : ErrT wx) => num_any 1 wx h
  simp only [errV_1] at hN
  have HF := hide hF; have HFr := hide hFr; have HS := hide hS; have HSr := hide hSr; have HY := hide hY; have HYr := hide hYr; have HU := hide hU; have HN := hide hN
  have HT := hide hTb; have HE := hide hEr
  clear hF hFr hS hSr hY hYr hU hN hTb hEr
  obtain ⟨r0, r1⟩ := hr
  go_enter Tryd.func4, Tryd.ntmps4
  go_wp2_with fail
  refine (unhide HF _ (unhide HT)).mono ?_
  rintro e w1 ⟨rfl, hb1⟩
  have HB1 := hide hb1; clear hb1
  go_wp2_with fail
  refine (unhide HFr _).mono ?_
  rintro e w2 ⟨rfl, hb2⟩
  have HB2 := hide (Below.on (unhide HB1) hb2); clear hb2 HB1
  go_wp2_with fail
  refine (unhide HS _ ((unhide HT).below (unhide HB2))).mono ?_
  rintro e w3 ⟨a, cap, rfl, hrow, hb3⟩
  have HB3 := hide (Below.on (unhide HB2) hb3); have HRow := hide hrow; clear hb3 HB2 hrow
  go_wp2_with fail
  refine (unhide HSr _).mono ?_
  rintro e w4 ⟨a', cap', rfl, hrow', hb4⟩
  have hs4 := St.make (unhide HB3) ((unhide HT).below (unhide HB3)) ((unhide HE).below (Nat.le_refl _) (unhide HB3)) (unhide HRow) hb4 hrow'
  have HS4 := hide hs4; clear hs4 hb4 hrow' HB3 HRow HT HE
  generalize w3.heap.size = T at *
  go_wp2_with fail
  refine (unhide HY _ (unhide HS4).tb).mono ?_
  rintro e w5 ⟨rfl, hb5⟩
  have HS5 := hide ((unhide HS4).below hb5); clear hb5 HS4
  go_wp2_with fail
  refine (unhide HYr _).mono ?_
  rintro e w6 ⟨rfl, hb6⟩
  have HS6 := hide ((unhide HS5).below hb6); clear hb6 HS5
  have c0 := (unhide HS6).c0; have c1 := (unhide HS6).c1; have hT := (unhide HS6).lt
  go_wp2_with fail
  clear c0 c1 hT
  go_loopw [18] (fun c wr => ∃ (j : Nat), c = .int .i64 j ∧ (j : Int) ≤ m ∧ St w wr T a a' m cap cap' r zs) (fun c _ => (m - intOf c).toNat)
  case atStart => exact ⟨0, rfl, by omega, unhide HS6⟩
  case round =>
    obtain ⟨j, rfl, hj, hst⟩ := hrel
    have HSt := hide hst
    by_cases hlt : (j : Int) < m
    · obtain ⟨q1, q2, q3⟩ := hst.rv
      obtain ⟨q4, q5, q6⟩ := hst.rv'
      have hz : j < zs.length := by omega
      obtain ⟨g, rfl, g1, g2⟩ := q3 j _ (List.getElem?_eq_getElem hz)
      obtain ⟨g', rfl, g3, g4⟩ := q6 j _ (List.getElem?_eq_getElem hz)
      have c0 := hst.c0; have hT := hst.lt
      generalize zs[j] = z at *
      clear hst q1 q3 q4 q6 hj hz
      go_wp2_with fail
      go_quiet (fail)
      go_wp2
      go_roundw
      case rel => exact ⟨j + 1, by go_num, by omega, (unhide HSt).below (Below.drewn _ nq)⟩
      case measure => simp [intOf]; omega
    · obtain rfl : j = m := by omega
      clear hst hj hlt
      go_wp2_with fail
      refine (unhide HU _ (unhide HSt).tb).mono ?_
      rintro e wz ⟨rfl, hbz⟩
      have HBz := hide (Below.on (unhide HSt).bel hbz); clear hbz
      go_wp2
      go_ret
      exact ⟨rfl, unhide HBz⟩
theorem sign_row (n : Nat) (hn : n < 256) (h36 : 36 < n) (x : Fam) (hx : fam n = some x) (wx : World) (h : Tb wx) :
    Calls Tryd.prog 17 #[.int .u8 n] wx fun e w' => ∃ a cap, e = .returned (.tuple #[.agg #[.slice a (pk x.x x.y 2).length cap, .int .u8 x.g], .nilIface]) ∧ RowOf w' a (pk x.x x.y 2).length cap (pk x.x x.y 2) ∧ Below wx.heap.size wx w' := by
  refine (sign_yes n hn wx h.2.1 x hx (by omega)).mono ?_
  rintro e w1 ⟨v, rfl, ho, hb⟩
  obtain ⟨a, cap, rfl, hr⟩ := row_own (zs := pk x.x x.y 2) ho
  exact ⟨a, cap, by rw [errV_0], hr, hb⟩
theorem signr_row (n : Nat) (zs : List Int) (r : Int) (b : Bool) (h : SignIs n zs r b) (wx : World) :
    Calls Tryd.prog 18 #[.int .u8 n] wx fun e w' => ∃ a cap, e = .returned (.tuple #[.slice a zs.length cap, .int .u8 r, .bool b]) ∧ RowOf w' a zs.length cap zs ∧ Below wx.heap.size wx w' := by
  refine (h wx).mono ?_
  rintro e w1 ⟨v, rfl, ho, hb⟩
  obtain ⟨a, cap, rfl, hr⟩ := row_own ho
  exact ⟨a, cap, rfl, hr, hb⟩
theorem row_nil (w : World) : RowOf w none 0 0 [] := ⟨rfl, Nat.le_refl _, fun j z hj => by simp at hj⟩
theorem sign_err (n : Nat) (hn : n < 256) (h : fam n = none ∨ (∃ x, fam n = some x) ∧ n ≤ 36) (wx : World) (hT : Tb wx) :
    Calls Tryd.prog 17 #[.int .u8 n] wx fun e w' => ∃ a cap, e = .returned (.tuple #[.agg #[.slice a 0 cap, .int .u8 0], .iface 53 (.int .i64 1)]) ∧ RowOf w' a 0 cap [] ∧ Below wx.heap.size wx w' := by
  have key : Calls Tryd.prog 17 #[.int .u8 n] wx fun e w' => e = .returned (.tuple #[.agg #[.slice none 0 0, .int .u8 0], errV 1]) ∧ Below wx.heap.size wx w' := by
    rcases h with h | ⟨⟨x, hx⟩, h⟩
    · exact sign_none n hn wx hT.2.1 h
    · exact sign_low n hn wx hT.2.1 x hx (by omega)
  refine key.mono ?_
  rintro e w1 ⟨rfl, hb⟩
  exact ⟨none, 0, by rw [errV_1], row_nil _, hb⟩
theorem bytes_err (n : Nat) (hn : n < 256) (h : ab n = 0) (wx : World) (hT : Tb wx) :
    Calls Tryd.prog 19 #[.int .u8 n] wx fun e w' => e = .returned (.tuple #[.int .i64 0, .bool false, .iface 53 (.int .i64 1)]) ∧ Below wx.heap.size wx w' := by
  refine (bytes_no n hn wx hT.2.2 h).mono ?_
  rintro e w1 ⟨rfl, rfl⟩
  exact ⟨by rw [errV_1], Below.refl _ _⟩
theorem forms_any (n : Nat) (hn : n < 256) (w : World) (hTb : Tb w) (hEr : ErrT w) :
    Calls Tryd.prog 4 #[.int .u8 n] w fun e w' => e = .returned (.bool true) ∧ Below w.heap.size w w' := by
  by_cases he : nm n = []
  · obtain ⟨h1, h2⟩ := ok_none n hn he
    refine forms_000 n hn 0 0 0 false [] 0 (by omega) w hTb hEr (by omega) ?_ (formr_no n hn he) (sign_err n hn (.inl h1)) (signr_row n _ _ _ (signr_no n hn (.inl he))) (bytes_err n hn h2) (bytesr_no n hn h2)
    intro wx h
    have := form_any n hn wx h.2.1
    rw [h1, formR, errV_1] at this
    exact this
  obtain ⟨x, e1, e2, e3, e4, e5, e6, e7, e8⟩ := ok_some n hn he
  have hF : ∀ wx, Tb wx → Calls Tryd.prog 15 #[.int .u8 n] wx fun e w' => e = .returned (.tuple #[.int .i64 x.o, .nilIface]) ∧ Below wx.heap.size wx w' := by
    intro wx h
    have := form_any n hn wx h.2.1
    rw [e1, formR, errV_0] at this
    exact this
  have hFr := formr_at n hn he x e1
  by_cases h36 : n ≤ 36
  · exact forms_100 n hn x.o 0 0 false [] 0 (by omega) w hTb hEr (by omega) hF hFr (sign_err n hn (.inr ⟨⟨x, e1⟩, h36⟩)) (signr_row n _ _ _ (signr_no n hn (.inr h36))) (bytes_err n hn (e8 h36)) (bytesr_no n hn (e8 h36))
  have h36' : 36 < n := by omega
  obtain ⟨_, _, bg⟩ := fms_bd x (List.mem_of_find?_eq_some e1)
  have hlen : (pk x.x x.y 2).length ≤ 2 := by unfold pk; exact Nat.le_trans (List.length_filter_le _ _) (by rw [List.length_take]; omega)
  have hSr := signr_row n _ _ _ (signr_at n hn h36' he x e1)
  by_cases ha : ab n = 0
  · exact forms_110 n hn x.o x.g 0 false (pk x.x x.y 2) _ hlen w hTb hEr bg hF hFr (sign_row n hn h36' x e1) hSr (bytes_err n hn ha) (bytesr_no n hn ha)
  · have hl : n < 63 := by
      by_cases hl : n < abs'.length
      · exact hl
      · exact absurd (by unfold ab; simp [List.getD, hl]) ha
    refine forms_111 n hn x.o x.g (ab n) (sfx (nm n)) (pk x.x x.y 2) _ hlen w hTb hEr bg hF hFr (sign_row n hn h36' x e1) hSr ?_ (bytesr_at n ha)
    intro wx h
    refine (bytes_yes n hl wx h.2.2 h.1 ha).mono ?_
    rintro e w1 ⟨rfl, k, rfl⟩
    exact ⟨by rw [errV_0], Below.drewn _ _⟩
end Go.Proofs.YtenbpmbaiddafaaDoor
