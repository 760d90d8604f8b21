/- The statements' give: the same instructions, in a list of its own. -/
import Derived.Test.YtcpknafaocdjdaaGreatDoorAux9
import Derived.Deep.RegionLaw
import Derived.Deep.DrawnRows
import Derived.Deep.RegionHeld3
import Derived.Deep.AppendLies
namespace Go.Proofs.YtcpknafaocdjdaaGreatDoor
open Go.RowKit
namespace Ex
set_option linter.unusedVariables false
attribute [local go_sem ↓] Go.wp_at_zero Go.wp_at_succ

/-- old blocks that g lets, and those from S on -/
def gor (g : Nat → Prop) (S : Nat) : Nat → Prop := fun k => g k ∨ S ≤ k
def GiveP (l : List Ins) : Prop := ∀ (g : Nat → Prop) (v : Value) (w : World), (∀ k, g k → k < w.heap.size) → Code w g l v → l.length ≤ 1099511627776 → Sz 1099511627776 l →
  Calls Tryz.prog 21 #[v] w fun e w' => ∃ v', e = .returned v' ∧ Below w.heap.size w w' ∧ OwnC w' w.heap.size (gor g w.heap.size) v' l

theorem fin_cell {wa wb : World} {N : Nat} (hb : Below wa.heap.size wa wb) (hlt : N < wa.heap.size) (o : Nat) : wb.cell? ⟨N, o, none⟩ = wa.cell? ⟨N, o, none⟩ := hb.cell (p := ⟨N, o, none⟩) hlt
/-- a round's end -/
theorem give_step {g : Nat → Prop} {wr w3 w4 w5 : World} {S B3 B4 blk cap : Nat} {s v1 v2 vl : Value} {acc : List Ins} {xs : List Value} {i : Ins} (hgS : ∀ k, g k → k < S)
    (hx : wr.ownsRow S 63 8 s acc.length xs) (hit : Its wr (own (gor g S) s) acc xs) (hs : ∀ k, s.ownBlock = some k → S ≤ k ∧ k < wr.heap.size) (hSw : S ≤ wr.heap.size)
    (h13 : Below wr.heap.size wr w3) (h34 : Below w3.heap.size w3 w4) (hB3 : wr.heap.size ≤ B3) (hB4 : wr.heap.size ≤ B4) (o3 : OwnC w3 B3 (gor g B3) v1 i.body) (o4 : OwnC w4 B4 (gor g B4) v2 i.els) (hl : Lies g i.ls.length (Lab wr i.ls) vl)
    (hown : w5.ownsRow S 63 8 (.slice (some ⟨blk, 0, none⟩) (acc.length + 1) cap) (acc.length + 1) (xs ++ cel i v1 v2 vl)) (hgrow : (w4.alloc (.cells (cel i v1 v2 vl).toArray 63)).grownBy w5 s.ownBlock) (hat : s.ownBlock = some blk ∨ blk = w4.heap.size + 1) :
    OwnC w5 S (gor g S) (.slice (some ⟨blk, 0, none⟩) (acc.length + 1) cap) (acc ++ [i]) := by
  have h14 : Below wr.heap.size wr w4 := Below.on h13 h34
  have hal := one_alloc w4 (.cells (cel i v1 v2 vl).toArray 63)
  have h1a := Below.on h14 hal
  have go : ∀ k, gor g wr.heap.size k → own (gor g S) s k := by
    intro k hk
    rcases hk with hk | hk
    · exact ⟨fun e => by have := (hs k e).1; have := hgS k hk; omega, .inl hk⟩
    · exact ⟨fun e => by have := (hs k e).2; omega, .inr (by omega)⟩
  have c3 : Code w3 (gor g wr.heap.size) i.body v1 := o3.code fun k _ hk => by
    rcases hk with (hk | hk) | hk
    · exact .inl hk
    · exact .inr (by omega)
    · exact .inr (by omega)
  have c4 : Code w4 (gor g wr.heap.size) i.els v2 := o4.code fun k _ hk => by
    rcases hk with (hk | hk) | hk
    · exact .inl hk
    · exact .inr (by omega)
    · exact .inr (by omega)
  refine OwnC.snoc (w := w4.alloc (.cells (cel i v1 v2 vl).toArray 63)) (H := w4.heap.size + 1) (ownsRow_below hx h1a) (Its.move (moves_below h1a fun _ _ h => h) hit) ?_ ?_ ?_ hown hgrow hat (by simp)
  · exact ((c3.below h34).below hal).any fun k _ hk => go k hk
  · exact (c4.below hal).any fun k _ hk => go k hk
  · exact Labs.any (Labs.below hl h1a) fun k _ hk => go k (.inl hk)

set_option maxRecDepth 100000 in
set_option maxHeartbeats 3200000 in
theorem give_any (l : List Ins) : GiveP l := by
  refine ind2 (P := GiveP) (fun l ih => ?_) l
  intro g v w hgS hv hm hsz
  obtain ⟨i0, hi, hz0, hz1, hz2⟩ := info_parts infoI
  obtain ⟨a, ca, rfl, hca, _, hA⟩ := hv
  have HA := hide hA; have HIh := hide ih; have HSz := hide (Sz_get hsz); have HG := hide hgS
  clear hA ih hsz hgS
  generalize hn : l.length = n at *
  have HN := hide hn; clear hn
  go_enter Tryz.func21, Tryz.ntmps21
  go_wp2_with fail
  go_loopw [3, 4] (fun s c wr => ∃ j : Nat, c = .int .i64 j ∧ (j : Int) ≤ n ∧ OwnC wr w.heap.size (gor g w.heap.size) s (l.take j) ∧ Below w.heap.size w wr) (fun _ c _ => n - (intOf c).toNat)
  case atStart => exact ⟨0, rfl, by omega, by simpa using OwnC_nil _ _ _, Below.refl _ _⟩
  case round =>
    obtain ⟨j, rfl, hj, hown, hbel⟩ := hrel
    have HBel := hide hbel; have HOwn := hide hown
    by_cases hlt : (j : Int) < n
    · have ja : j < l.length := by have := unhide HN; omega
      have hjl : (l.take j).length = j := by rw [List.length_take]; omega
      obtain ⟨ba, oa, rfl, hga, hla⟩ := unhide HA (by have := unhide HN; omega)
      have hmA : Moves w wr g g := moves_below hbel (fun _ _ h => h)
      have iA := ItemAt.move hmA (hbel.block ba (Items_lt hla (by omega))) (Items_get hla j ja)
      have hI := unhide HIh l[j] (List.getElem_mem ja)
      have hZ := unhide HSz l[j] (List.getElem_mem ja)
      have htk : l.take (j + 1) = l.take j ++ [l[j]] := List.take_succ_eq_append_getElem ja
      obtain ⟨sa, sc, rfl, _⟩ := hown.shape
      obtain ⟨xs, hx, hit⟩ := hown
      have hs := (unhide HOwn).lt
      rw [hjl] at *
      generalize hxx : l[j] = x at *
      obtain ⟨vb, ve, vl, hc, h1, h2, h3⟩ := iA
      have H1 := hide h1; have H2 := hide h2; have H3 := hide h3; have HTk := hide htk; have HX := hide hx; have HIt := hide hit; have HI := hide hI; have HZ := hide hZ; have HS := hide hs
      obtain ⟨c1, cb1, rfl, _⟩ := h1
      obtain ⟨c2, cb2, rfl, _⟩ := h2
      obtain ⟨c3, cb3, rfl, _⟩ := h3
      obtain ⟨e0, e1, e2, e3, e4, e5, e6, e7⟩ := hc
      have hb0 := one_alloc wr (.cells #[.int .u8 x.op, .int .i64 x.n, .int .u32 x.al, .int .u32 x.of, .int .u8 x.re, .slice c1 x.body.length cb1, .slice c2 x.els.length cb2, .slice c3 x.ls.length cb3] 69)
      have HB0 := hide hb0
      have HW := hide hbel.size
      clear hmA hla hga hI hZ htk hx hit hs hjl hbel hb0 hxx
      have hl0 : x.body.length ≤ 1099511627776 ∧ x.els.length ≤ 1099511627776 := ⟨(unhide HZ).1, (unhide HZ).2.1⟩
      go_wp2_with fail
      generalize hw2 : wr.alloc (.cells #[.int .u8 x.op, .int .i64 x.n, .int .u32 x.al, .int .u32 x.of, .int .u8 x.re, .slice c1 x.body.length cb1, .slice c2 x.els.length cb2, .slice c3 x.ls.length cb3] 69) = w2 at *
      have g0 : w2.cell? ⟨wr.heap.size, 0, none⟩ = some (.int .u8 x.op) := by rw [← hw2]; simp
      have g1 : w2.cell? ⟨wr.heap.size, 1, none⟩ = some (.int .i64 x.n) := by rw [← hw2]; simp
      have g2 : w2.cell? ⟨wr.heap.size, 2, none⟩ = some (.int .u32 x.al) := by rw [← hw2]; simp
      have g3 : w2.cell? ⟨wr.heap.size, 3, none⟩ = some (.int .u32 x.of) := by rw [← hw2]; simp
      have g4 : w2.cell? ⟨wr.heap.size, 4, none⟩ = some (.int .u8 x.re) := by rw [← hw2]; simp
      have g5 : w2.cell? ⟨wr.heap.size, 5, none⟩ = some (.slice c1 x.body.length cb1) := by rw [← hw2]; simp
      have g6 : w2.cell? ⟨wr.heap.size, 6, none⟩ = some (.slice c2 x.els.length cb2) := by rw [← hw2]; simp
      have g7 : w2.cell? ⟨wr.heap.size, 7, none⟩ = some (.slice c3 x.ls.length cb3) := by rw [← hw2]; simp
      have hz : w2.heap.size = wr.heap.size + 1 := by rw [← hw2]; simp
      have HZ2 := hide hz
      clear hw2 e0 e1 e2 e3 e4 e5 e6 e7 hz
      have qb : ∀ wx, Below w2.heap.size w2 wx → Calls Tryz.prog 21 #[.slice c1 x.body.length cb1] wx fun e w' => ∃ v', e = .returned v' ∧ Below wx.heap.size wx w' ∧ OwnC w' wx.heap.size (gor g wx.heap.size) v' x.body := fun wx hwx =>
        (unhide HI).1 g _ wx (fun k hk => by have := unhide HG k hk; have := hwx.size; have := unhide HZ2; have := unhide HW; omega) ((unhide H1).below (Below.on (unhide HB0) hwx)) (unhide HZ).1 (unhide HZ).2.2.2.1
      have qe : ∀ wx, Below w2.heap.size w2 wx → Calls Tryz.prog 21 #[.slice c2 x.els.length cb2] wx fun e w' => ∃ v', e = .returned v' ∧ Below wx.heap.size wx w' ∧ OwnC w' wx.heap.size (gor g wx.heap.size) v' x.els := fun wx hwx =>
        (unhide HI).2 g _ wx (fun k hk => by have := unhide HG k hk; have := hwx.size; have := unhide HZ2; have := unhide HW; omega) ((unhide H2).below (Below.on (unhide HB0) hwx)) (unhide HZ).2.1 (unhide HZ).2.2.2.2
      have QB := hide qb; have QE := hide qe
      clear qb qe
      generalize hN : wr.heap.size = N at g0 g1 g2 g3 g4 g5 g6 g7 HZ2 ⊢
      have HNN := hide hN; clear hN
      go_region_held3 (fun w' => w'.cell? ⟨N, 0, none⟩ = some (.int .u8 x.op) ∧ w'.cell? ⟨N, 1, none⟩ = some (.int .i64 x.n) ∧ w'.cell? ⟨N, 2, none⟩ = some (.int .u32 x.al) ∧ w'.cell? ⟨N, 3, none⟩ = some (.int .u32 x.of) ∧ w'.cell? ⟨N, 4, none⟩ = some (.int .u8 x.re) ∧ w'.cell? ⟨N, 5, none⟩ = some (.slice c1 x.body.length cb1) ∧ w'.cell? ⟨N, 6, none⟩ = some (.slice c2 x.els.length cb2) ∧ w'.cell? ⟨N, 7, none⟩ = some (.slice c3 x.ls.length cb3))
        (first | go_keep | exact ⟨(hk 0).trans g0, (hk 1).trans g1, (hk 2).trans g2, (hk 3).trans g3, (hk 4).trans g4, (hk 5).trans g5, (hk 6).trans g6, (hk 7).trans g7⟩)
        (first
          | (go_at_call_of 21 (Value.slice c1 x.body.length cb1); refine (unhide QB _ (below_drew w2)).mono ?_; rintro e w3 ⟨v1, rfl, hb3, ho3⟩; obtain ⟨s1, t1, rfl, _⟩ := ho3.shape; have HB3 := hide (Below.on (below_drew w2) hb3); have HO3 := hide ho3; clear ho3 hb3; have hk : ∀ o, w3.cell? ⟨N, o, none⟩ = w2.cell? ⟨N, o, none⟩ := fun o => fin_cell (unhide HB3) (by have := unhide HZ2; omega) o)
          | (go_at_call_of 21 (Value.slice c2 x.els.length cb2); refine (unhide QE _ (unhide HB3)).mono ?_; rintro e w4 ⟨v2, rfl, hb4, ho4⟩; obtain ⟨s2, t2, rfl, _⟩ := ho4.shape; have HB34 := hide hb4; have HB4 := hide (Below.on (unhide HB3) hb4); have HB5 := hide (Below.on (unhide HB0) (Below.on (unhide HB4) (one_alloc w4 (.cells (cel x (.slice s1 x.body.length t1) (.slice s2 x.els.length t2) (.slice c3 x.ls.length cb3)).toArray 63)))); have HO4 := hide ho4; clear ho4 hb4; have hk : ∀ o, w4.cell? ⟨N, o, none⟩ = w2.cell? ⟨N, o, none⟩ := fun o => fin_cell (unhide HB4) (by have := unhide HZ2; omega) o)
          | (refine step_append_lies _ (by rfl) _ _ _ (by rfl) w.heap.size 63 i0 (.agg #[.int .u8 0, .int .i64 0, .int .u32 0, .int .u32 0, .int .u8 0, .slice none 0 0, .slice none 0 0, .slice none 0 0]) 8 104 Tryz.underlying58 hi hz0 hz1 hz2 rfl (by decide) (.slice sa j sc) j xs (by rfl) (ownsRow_below (unhide HX) (unhide HB5)) ⟨w4.heap.size, 0, none⟩ 1 1 (cel x (.slice s1 x.body.length t1) (.slice s2 x.els.length t2) (.slice c3 x.ls.length cb3)) (by rfl) (by rfl) (new_cel w4 x _ _ _ _) (cel_one x ⟨_, _, _, rfl⟩ ⟨_, _, _, rfl⟩ ⟨_, _, _, rfl⟩) (by omega) (by unfold maxLen; omega) (by omega) (Nat.le_trans (unhide HW) (unhide HB5).size) (w4.heap.size + 1) (by simp) ?_; intro gg capn w5 hown5 hgrow hat5 hlt5; have hk : ∀ o, w5.cell? ⟨N, o, none⟩ = w2.cell? ⟨N, o, none⟩ := fun o => (World.cell?_of_block (a := ⟨N, o, none⟩) (hgrow.block N (by have := (unhide HB5).size; have := unhide HNN; have := (unhide HB4).size; have := unhide HZ2; simp; omega) (fun e => by have := (unhide HS N e.symm).2; have := unhide HNN; omega))).trans ((fin_cell (one_alloc w4 _) (by have := (unhide HB4).size; have := unhide HZ2; omega) o).trans (fin_cell (unhide HB4) (by have := unhide HZ2; omega) o))))
      have hjl : (l.take j).length = j := by rw [List.length_take]; have := unhide HN; omega
      have hst := give_step (s := .slice sa j sc) (acc := l.take j) (i := x) (unhide HG) (by rw [hjl]; exact unhide HX) (unhide HIt) (unhide HS) (unhide HW) (Below.on (unhide HB0) (unhide HB3)) (unhide HB34) (by have := (unhide HB0).size; exact this) (by have := (unhide HB0).size; have := (unhide HB3).size; omega) (unhide HO3) (unhide HO4) (unhide H3) (by rw [hjl]; exact hown5) hgrow hat5
      rw [hjl, ← unhide HTk] at hst
      have hbb : Below w.heap.size w w5 := (Below.on (unhide HBel) (unhide HB5)).grown hgrow (Below.on (unhide HBel) (unhide HB5)).size fun k hk => (unhide HS k hk).1
      have HSt := hide hst; have HBB := hide hbb
      clear hjl hst hbb hk hown5 hgrow hat5 hlt5 g0 g1 g2 g3 g4 g5 g6 g7
      go_wp2
      go_roundw
      case rel => exact ⟨j + 1, by go_num, by omega, unhide HSt, unhide HBB⟩
      case measure => simp [intOf]; omega
    · obtain rfl : j = n := by omega
      clear hj hlt
      obtain ⟨sa, sc, rfl, _⟩ := hown.shape
      clear hown hbel
      go_wp2
      go_ret
      have : l.take j = l := by rw [← unhide HN]; exact List.take_length
      have q := unhide HOwn
      rw [this] at q
      refine ⟨.slice sa (l.take j).length sc, rfl, unhide HBel, ?_⟩
      rw [this]; exact q
end Ex
end Go.Proofs.YtcpknafaocdjdaaGreatDoor
