/- E1: what follows, part by part: each part tells what it holds. -/
import Derived.Test.YtjhmglefejclpaaDoorGD
import Derived.Deep.RegionHeld3
import Derived.Deep.AppendLies
import Derived.Test.YtjhmglefejclpaaDoorGA
import Derived.Test.YtjhmglefejclpaaDoorGC
import Derived.Deep.Cut

/- The statements' give: the same instructions, in a list of its own. -/
namespace Go.Proofs.YtjhmglefejclpaaDoor
open Go.RowKit
namespace Ex
set_option linter.unusedVariables false
attribute [local go_sem ↓] Go.wp_at_zero Go.wp_at_succ

/-- old blocks that g lets, and those from S on -/
def gor (g : Nat → Prop) (S : Nat) : Nat → Prop := fun k => g k ∨ S ≤ k
def GiveP (l : List Ins) : Prop := ∀ (g : Nat → Prop) (v : Value) (w : World), (∀ k, g k → k < w.heap.size) → Code w g l v → l.length ≤ 1099511627776 → Sz 1099511627776 l →
  Calls Tryd.prog 11 #[v] w fun e w' => ∃ v', e = .returned v' ∧ Below w.heap.size w w' ∧ OwnC w' w.heap.size (gor g w.heap.size) v' l

theorem fin_cell {wa wb : World} {N : Nat} (hb : Below wa.heap.size wa wb) (hlt : N < wa.heap.size) (o : Nat) : wb.cell? ⟨N, o, none⟩ = wa.cell? ⟨N, o, none⟩ := hb.cell (p := ⟨N, o, none⟩) hlt
/-- a round's end -/
theorem give_step {g : Nat → Prop} {wr w3 w4 w5 : World} {S B3 B4 blk cap : Nat} {s v1 v2 vl : Value} {acc : List Ins} {xs : List Value} {i : Ins} (hgS : ∀ k, g k → k < S)
    (hx : wr.ownsRow S 50 8 s acc.length xs) (hit : Its wr (own (gor g S) s) acc xs) (hs : ∀ k, s.ownBlock = some k → S ≤ k ∧ k < wr.heap.size) (hSw : S ≤ wr.heap.size)
    (h13 : Below wr.heap.size wr w3) (h34 : Below w3.heap.size w3 w4) (hB3 : wr.heap.size ≤ B3) (hB4 : wr.heap.size ≤ B4) (o3 : OwnC w3 B3 (gor g B3) v1 i.body) (o4 : OwnC w4 B4 (gor g B4) v2 i.els) (hl : Lies g i.ls.length (Lab wr i.ls) vl)
    (hown : w5.ownsRow S 50 8 (.slice (some ⟨blk, 0, none⟩) (acc.length + 1) cap) (acc.length + 1) (xs ++ cel i v1 v2 vl)) (hgrow : (w4.alloc (.cells (cel i v1 v2 vl).toArray 50)).grownBy w5 s.ownBlock) (hat : s.ownBlock = some blk ∨ blk = w4.heap.size + 1) :
    OwnC w5 S (gor g S) (.slice (some ⟨blk, 0, none⟩) (acc.length + 1) cap) (acc ++ [i]) := by
  have h14 : Below wr.heap.size wr w4 := Below.on h13 h34
  have hal := one_alloc w4 (.cells (cel i v1 v2 vl).toArray 50)
  have h1a := Below.on h14 hal
  have go : ∀ k, gor g wr.heap.size k → own (gor g S) s k := by
    intro k hk
    rcases hk with hk | hk
    · exact ⟨fun e => by have := (hs k e).1; have := hgS k hk; omega, .inl hk⟩
    · exact ⟨fun e => by have := (hs k e).2; omega, .inr (by omega)⟩
  have c3 : Code w3 (gor g wr.heap.size) i.body v1 := o3.code fun k _ hk => by
    rcases hk with (hk | hk) | hk
    · exact .inl hk
    · exact .inr (by omega)
    · exact .inr (by omega)
  have c4 : Code w4 (gor g wr.heap.size) i.els v2 := o4.code fun k _ hk => by
    rcases hk with (hk | hk) | hk
    · exact .inl hk
    · exact .inr (by omega)
    · exact .inr (by omega)
  refine OwnC.snoc (w := w4.alloc (.cells (cel i v1 v2 vl).toArray 50)) (H := w4.heap.size + 1) (ownsRow_below hx h1a) (Its.move (moves_below h1a fun _ _ h => h) hit) ?_ ?_ ?_ hown hgrow hat (by simp)
  · exact ((c3.below h34).below hal).any fun k _ hk => go k hk
  · exact (c4.below hal).any fun k _ hk => go k hk
  · exact Labs.any (Labs.below hl h1a) fun k _ hk => go k (.inl hk)

set_option maxRecDepth 100000 in
set_option maxHeartbeats 3200000 in
theorem give_any (l : List Ins) : GiveP l := by
  refine ind2 (P := GiveP) (fun l ih => ?_) l
  intro g v w hgS hv hm hsz
  obtain ⟨i0, hi, hz0, hz1, hz2⟩ := info_parts infoI
  obtain ⟨a, ca, rfl, hca, _, hA⟩ := hv
  have HA := hide hA; have HIh := hide ih; have HSz := hide (Sz_get hsz); have HG := hide hgS
  clear hA ih hsz hgS
  generalize hn : l.length = n at *
  have HN := hide hn; clear hn
  go_enter Tryd.func11, Tryd.ntmps11
  go_wp2_with fail
  go_loopw [3, 4] (fun s c wr => ∃ j : Nat, c = .int .i64 j ∧ (j : Int) ≤ n ∧ OwnC wr w.heap.size (gor g w.heap.size) s (l.take j) ∧ Below w.heap.size w wr) (fun _ c _ => n - (intOf c).toNat)
  case atStart => exact ⟨0, rfl, by omega, by simpa using OwnC_nil _ _ _, Below.refl _ _⟩
  case round =>
    obtain ⟨j, rfl, hj, hown, hbel⟩ := hrel
    have HBel := hide hbel; have HOwn := hide hown
    by_cases hlt : (j : Int) < n
    · have ja : j < l.length := by have := unhide HN; omega
      have hjl : (l.take j).length = j := by rw [List.length_take]; omega
      obtain ⟨ba, oa, rfl, hga, hla⟩ := unhide HA (by have := unhide HN; omega)
      have hmA : Moves w wr g g := moves_below hbel (fun _ _ h => h)
      have iA := ItemAt.move hmA (hbel.block ba (Items_lt hla (by omega))) (Items_get hla j ja)
      have hI := unhide HIh l[j] (List.getElem_mem ja)
      have hZ := unhide HSz l[j] (List.getElem_mem ja)
      have htk : l.take (j + 1) = l.take j ++ [l[j]] := List.take_succ_eq_append_getElem ja
      obtain ⟨sa, sc, rfl, _⟩ := hown.shape
      obtain ⟨xs, hx, hit⟩ := hown
      have hs := (unhide HOwn).lt
      rw [hjl] at *
      generalize hxx : l[j] = x at *
      obtain ⟨vb, ve, vl, hc, h1, h2, h3⟩ := iA
      have H1 := hide h1; have H2 := hide h2; have H3 := hide h3; have HTk := hide htk; have HX := hide hx; have HIt := hide hit; have HI := hide hI; have HZ := hide hZ; have HS := hide hs
      obtain ⟨c1, cb1, rfl, _⟩ := h1
      obtain ⟨c2, cb2, rfl, _⟩ := h2
      obtain ⟨c3, cb3, rfl, _⟩ := h3
      obtain ⟨e0, e1, e2, e3, e4, e5, e6, e7⟩ := hc
      have hb0 := one_alloc wr (.cells #[.int .u8 x.op, .int .i64 x.n, .int .u32 x.al, .int .u32 x.of, .int .u8 x.re, .slice c1 x.body.length cb1, .slice c2 x.els.length cb2, .slice c3 x.ls.length cb3] 55)
      have HB0 := hide hb0
      have HW := hide hbel.size
      clear hmA hla hga hI hZ htk hx hit hs hjl hbel hb0 hxx
      have hl0 : x.body.length ≤ 1099511627776 ∧ x.els.length ≤ 1099511627776 := ⟨(unhide HZ).1, (unhide HZ).2.1⟩
      go_wp2_with fail
      generalize hw2 : wr.alloc (.cells #[.int .u8 x.op, .int .i64 x.n, .int .u32 x.al, .int .u32 x.of, .int .u8 x.re, .slice c1 x.body.length cb1, .slice c2 x.els.length cb2, .slice c3 x.ls.length cb3] 55) = w2 at *
      have g0 : w2.cell? ⟨wr.heap.size, 0, none⟩ = some (.int .u8 x.op) := by rw [← hw2]; simp
      have g1 : w2.cell? ⟨wr.heap.size, 1, none⟩ = some (.int .i64 x.n) := by rw [← hw2]; simp
      have g2 : w2.cell? ⟨wr.heap.size, 2, none⟩ = some (.int .u32 x.al) := by rw [← hw2]; simp
      have g3 : w2.cell? ⟨wr.heap.size, 3, none⟩ = some (.int .u32 x.of) := by rw [← hw2]; simp
      have g4 : w2.cell? ⟨wr.heap.size, 4, none⟩ = some (.int .u8 x.re) := by rw [← hw2]; simp
      have g5 : w2.cell? ⟨wr.heap.size, 5, none⟩ = some (.slice c1 x.body.length cb1) := by rw [← hw2]; simp
      have g6 : w2.cell? ⟨wr.heap.size, 6, none⟩ = some (.slice c2 x.els.length cb2) := by rw [← hw2]; simp
      have g7 : w2.cell? ⟨wr.heap.size, 7, none⟩ = some (.slice c3 x.ls.length cb3) := by rw [← hw2]; simp
      have hz : w2.heap.size = wr.heap.size + 1 := by rw [← hw2]; simp
      have HZ2 := hide hz
      clear hw2 e0 e1 e2 e3 e4 e5 e6 e7 hz
      have qb : ∀ wx, Below w2.heap.size w2 wx → Calls Tryd.prog 11 #[.slice c1 x.body.length cb1] wx fun e w' => ∃ v', e = .returned v' ∧ Below wx.heap.size wx w' ∧ OwnC w' wx.heap.size (gor g wx.heap.size) v' x.body := fun wx hwx =>
        (unhide HI).1 g _ wx (fun k hk => by have := unhide HG k hk; have := hwx.size; have := unhide HZ2; have := unhide HW; omega) ((unhide H1).below (Below.on (unhide HB0) hwx)) (unhide HZ).1 (unhide HZ).2.2.2.1
      have qe : ∀ wx, Below w2.heap.size w2 wx → Calls Tryd.prog 11 #[.slice c2 x.els.length cb2] wx fun e w' => ∃ v', e = .returned v' ∧ Below wx.heap.size wx w' ∧ OwnC w' wx.heap.size (gor g wx.heap.size) v' x.els := fun wx hwx =>
        (unhide HI).2 g _ wx (fun k hk => by have := unhide HG k hk; have := hwx.size; have := unhide HZ2; have := unhide HW; omega) ((unhide H2).below (Below.on (unhide HB0) hwx)) (unhide HZ).2.1 (unhide HZ).2.2.2.2
      have QB := hide qb; have QE := hide qe
      clear qb qe
      generalize hN : wr.heap.size = N at g0 g1 g2 g3 g4 g5 g6 g7 HZ2 ⊢
      have HNN := hide hN; clear hN
      go_region_held3 (fun w' => w'.cell? ⟨N, 0, none⟩ = some (.int .u8 x.op) ∧ w'.cell? ⟨N, 1, none⟩ = some (.int .i64 x.n) ∧ w'.cell? ⟨N, 2, none⟩ = some (.int .u32 x.al) ∧ w'.cell? ⟨N, 3, none⟩ = some (.int .u32 x.of) ∧ w'.cell? ⟨N, 4, none⟩ = some (.int .u8 x.re) ∧ w'.cell? ⟨N, 5, none⟩ = some (.slice c1 x.body.length cb1) ∧ w'.cell? ⟨N, 6, none⟩ = some (.slice c2 x.els.length cb2) ∧ w'.cell? ⟨N, 7, none⟩ = some (.slice c3 x.ls.length cb3))
        (first | go_keep | exact ⟨(hk 0).trans g0, (hk 1).trans g1, (hk 2).trans g2, (hk 3).trans g3, (hk 4).trans g4, (hk 5).trans g5, (hk 6).trans g6, (hk 7).trans g7⟩)
        (first
          | (go_at_call_of 11 (Value.slice c1 x.body.length cb1); refine (unhide QB _ (below_drew w2)).mono ?_; rintro e w3 ⟨v1, rfl, hb3, ho3⟩; obtain ⟨s1, t1, rfl, _⟩ := ho3.shape; have HB3 := hide (Below.on (below_drew w2) hb3); have HO3 := hide ho3; clear ho3 hb3; have hk : ∀ o, w3.cell? ⟨N, o, none⟩ = w2.cell? ⟨N, o, none⟩ := fun o => fin_cell (unhide HB3) (by have := unhide HZ2; omega) o)
          | (go_at_call_of 11 (Value.slice c2 x.els.length cb2); refine (unhide QE _ (unhide HB3)).mono ?_; rintro e w4 ⟨v2, rfl, hb4, ho4⟩; obtain ⟨s2, t2, rfl, _⟩ := ho4.shape; have HB34 := hide hb4; have HB4 := hide (Below.on (unhide HB3) hb4); have HB5 := hide (Below.on (unhide HB0) (Below.on (unhide HB4) (one_alloc w4 (.cells (cel x (.slice s1 x.body.length t1) (.slice s2 x.els.length t2) (.slice c3 x.ls.length cb3)).toArray 50)))); have HO4 := hide ho4; clear ho4 hb4; have hk : ∀ o, w4.cell? ⟨N, o, none⟩ = w2.cell? ⟨N, o, none⟩ := fun o => fin_cell (unhide HB4) (by have := unhide HZ2; omega) o)
          | (refine step_append_lies _ (by rfl) _ _ _ (by rfl) w.heap.size 50 i0 (.agg #[.int .u8 0, .int .i64 0, .int .u32 0, .int .u32 0, .int .u8 0, .slice none 0 0, .slice none 0 0, .slice none 0 0]) 8 104 Tryd.underlying25 hi hz0 hz1 hz2 rfl (by decide) (.slice sa j sc) j xs (by rfl) (ownsRow_below (unhide HX) (unhide HB5)) ⟨w4.heap.size, 0, none⟩ 1 1 (cel x (.slice s1 x.body.length t1) (.slice s2 x.els.length t2) (.slice c3 x.ls.length cb3)) (by rfl) (by rfl) (new_cel w4 x _ _ _ _) (cel_one x ⟨_, _, _, rfl⟩ ⟨_, _, _, rfl⟩ ⟨_, _, _, rfl⟩) (by omega) (by unfold maxLen; omega) (by omega) (Nat.le_trans (unhide HW) (unhide HB5).size) (w4.heap.size + 1) (by simp) ?_; intro gg capn w5 hown5 hgrow hat5 hlt5; have hk : ∀ o, w5.cell? ⟨N, o, none⟩ = w2.cell? ⟨N, o, none⟩ := fun o => (World.cell?_of_block (a := ⟨N, o, none⟩) (hgrow.block N (by have := (unhide HB5).size; have := unhide HNN; have := (unhide HB4).size; have := unhide HZ2; simp; omega) (fun e => by have := (unhide HS N e.symm).2; have := unhide HNN; omega))).trans ((fin_cell (one_alloc w4 _) (by have := (unhide HB4).size; have := unhide HZ2; omega) o).trans (fin_cell (unhide HB4) (by have := unhide HZ2; omega) o))))
      have hjl : (l.take j).length = j := by rw [List.length_take]; have := unhide HN; omega
      have hst := give_step (s := .slice sa j sc) (acc := l.take j) (i := x) (unhide HG) (by rw [hjl]; exact unhide HX) (unhide HIt) (unhide HS) (unhide HW) (Below.on (unhide HB0) (unhide HB3)) (unhide HB34) (by have := (unhide HB0).size; exact this) (by have := (unhide HB0).size; have := (unhide HB3).size; omega) (unhide HO3) (unhide HO4) (unhide H3) (by rw [hjl]; exact hown5) hgrow hat5
      rw [hjl, ← unhide HTk] at hst
      have hbb : Below w.heap.size w w5 := (Below.on (unhide HBel) (unhide HB5)).grown hgrow (Below.on (unhide HBel) (unhide HB5)).size fun k hk => (unhide HS k hk).1
      have HSt := hide hst; have HBB := hide hbb
      clear hjl hst hbb hk hown5 hgrow hat5 hlt5 g0 g1 g2 g3 g4 g5 g6 g7
      go_wp2
      go_roundw
      case rel => exact ⟨j + 1, by go_num, by omega, unhide HSt, unhide HBB⟩
      case measure => simp [intOf]; omega
    · obtain rfl : j = n := by omega
      clear hj hlt
      obtain ⟨sa, sc, rfl, _⟩ := hown.shape
      clear hown hbel
      go_wp2
      go_ret
      have : l.take j = l := by rw [← unhide HN]; exact List.take_length
      have q := unhide HOwn
      rw [this] at q
      refine ⟨.slice sa (l.take j).length sc, rfl, unhide HBel, ?_⟩
      rw [this]; exact q
end Ex
end Go.Proofs.YtjhmglefejclpaaDoor

/- The statements' count and large: a number, whatever the list; nothing old turns. -/
namespace Go.Proofs.YtjhmglefejclpaaDoor
open Go.RowKit
namespace Ex
set_option linter.unusedVariables false
attribute [local go_sem ↓] Go.wp_at_zero Go.wp_at_succ

def CtP (l : List Ins) : Prop := ∀ (g : Nat → Prop) (v : Value) (m d : Int) (w : World), Code w g l v → l.length ≤ 1099511627776 →  Sz 1099511627776 l →
  Calls Tryd.prog 23 #[v, .int .i64 m, .int .i64 d] w fun e w' => ∃ n, e = .returned (.int .i64 n) ∧ Below w.heap.size w w'

set_option maxRecDepth 100000 in
set_option maxHeartbeats 3200000 in
theorem ct_any (l : List Ins) : CtP l := by
  refine ind2 (P := CtP) (fun l ih => ?_) l
  intro g v m d w hv hm hsz
  obtain ⟨a, ca, rfl, hca, _, hA⟩ := hv
  have HA := hide hA; have HIh := hide ih; have HSz := hide (Sz_get hsz)
  clear hA ih hsz
  generalize hn : l.length = n at *
  have HN := hide hn; clear hn
  go_enter Tryd.func23, Tryd.ntmps23
  by_cases h1 : (n : Int) > m
  · go_wp2
    go_ret
    first | exact ⟨⟨_, rfl⟩, Below.refl _ _⟩ | exact ⟨_, rfl, Below.refl _ _⟩ | exact Below.refl _ _
  by_cases h2 : d > 80
  · go_wp2
    go_ret
    first | exact ⟨⟨_, rfl⟩, Below.refl _ _⟩ | exact ⟨_, rfl, Below.refl _ _⟩ | exact Below.refl _ _
  go_wp2_with fail
  clear h1 h2
  go_loopw [7, 8] (fun s c wr => ∃ (j : Nat) (k : Int), c = .int .i64 j ∧ s = .int .i64 k ∧ (j : Int) ≤ n ∧ Below w.heap.size w wr) (fun _ c _ => n - (intOf c).toNat)
  case atStart => exact ⟨0, n, rfl, rfl, by omega, Below.refl _ _⟩
  case round =>
    obtain ⟨j, k, rfl, rfl, hj, hbel⟩ := hrel
    have HBel := hide hbel
    by_cases hlt : (j : Int) < n
    · by_cases hk : k < m
      · have ja : j < l.length := by have := unhide HN; omega
        obtain ⟨ba, oa, rfl, hga, hla⟩ := unhide HA (by have := unhide HN; omega)
        have hmA : Moves w wr g g := moves_below hbel (fun _ _ h => h)
        have hba : ba < wr.heap.size := by have := Items_lt hla (by omega); have := hbel.size; omega
        have iA := ItemAt.move hmA (hbel.block ba (Items_lt hla (by omega))) (Items_get hla j ja)
        have hI := unhide HIh l[j] (List.getElem_mem ja)
        have hZ := unhide HSz l[j] (List.getElem_mem ja)
        generalize l[j] = x at *
        obtain ⟨vb, ve, vl, hc, h1, h2, h3⟩ := iA
        have H1 := hide h1; have H2 := hide h2
        obtain ⟨c1, cb1, rfl, _⟩ := h1
        obtain ⟨c2, cb2, rfl, _⟩ := h2
        obtain ⟨c3, cb3, rfl, _⟩ := h3
        obtain ⟨e0, e1, e2, e3, e4, e5, e6, e7⟩ := hc
        have qb : ∀ wx m d, Below wr.heap.size wr wx → Calls Tryd.prog 23 #[.slice c1 x.body.length cb1, .int .i64 m, .int .i64 d] wx fun e w' => ∃ n, e = .returned (.int .i64 n) ∧ Below wx.heap.size wx w' := fun wx m d hwx =>
          hI.1 g _ m d wx ((unhide H1).below hwx) hZ.1 hZ.2.2.2.1
        have qe : ∀ wx m d, Below wr.heap.size wr wx → Calls Tryd.prog 23 #[.slice c2 x.els.length cb2, .int .i64 m, .int .i64 d] wx fun e w' => ∃ n, e = .returned (.int .i64 n) ∧ Below wx.heap.size wx w' := fun wx m d hwx =>
          hI.2 g _ m d wx ((unhide H2).below hwx) hZ.2.1 hZ.2.2.2.2
        have QB := hide qb; have QE := hide qe; have HBa := hide hba
        have hll := hZ.2.2.1
        clear hmA hla hga hI hZ hbel qb qe hba e0 e1 e2 e3 e4 H1 H2
        generalize x.body.length = lb at *
        generalize x.els.length = le at *
        generalize x.ls.length = ll at *
        go_wp2_with fail
        go_region_held3 (fun w' => w'.cell? ⟨ba, oa + j * 8 + 5, none⟩ = some (.slice c1 lb cb1) ∧ w'.cell? ⟨ba, oa + j * 8 + 6, none⟩ = some (.slice c2 le cb2) ∧ w'.cell? ⟨ba, oa + j * 8 + 7, none⟩ = some (.slice c3 ll cb3))
          (first | go_keep | exact ⟨(hk2 _).trans e5, (hk2 _).trans e6, (hk2 _).trans e7⟩)
          (first
            | (go_at_call_of 23 (Value.slice c1 lb cb1); refine (unhide QB _ _ _ (below_drew wr)).mono ?_; rintro e w3 ⟨k1, rfl, hb3⟩; have HB3 := hide (Below.on (below_drew wr) hb3); clear hb3; have hk2 : ∀ o, w3.cell? ⟨ba, o, none⟩ = wr.cell? ⟨ba, o, none⟩ := fun o => fin_cell (unhide HB3) (unhide HBa) o)
            | (go_at_call_of 23 (Value.slice c2 le cb2); refine (unhide QE _ _ _ (unhide HB3)).mono ?_; rintro e w4 ⟨k2, rfl, hb4⟩; have HB4 := hide (Below.on (unhide HB3) hb4); clear hb4; have hk2 : ∀ o, w4.cell? ⟨ba, o, none⟩ = wr.cell? ⟨ba, o, none⟩ := fun o => fin_cell (unhide HB4) (unhide HBa) o))
        have HBB := hide (Below.on (unhide HBel) (unhide HB4))
        clear hk2 e5 e6 e7 HB3 HB4
        go_wp2
        go_roundw
        case rel => exact ⟨j + 1, _, by go_num, rfl, by omega, unhide HBB⟩
        case measure => simp [intOf]; omega
      · go_wp2
        go_ret
        first | exact ⟨⟨_, rfl⟩, unhide HBel⟩ | exact ⟨_, rfl, unhide HBel⟩ | exact unhide HBel
    · go_wp2
      go_ret
      first | exact ⟨⟨_, rfl⟩, unhide HBel⟩ | exact ⟨_, rfl, unhide HBel⟩ | exact unhide HBel
theorem large_any (l : List Ins) (g : Nat → Prop) (v : Value) (w : World) (hv : Code w g l v) (hm : l.length ≤ 1099511627776) (hs : Sz 1099511627776 l) :
    Calls Tryd.prog 9 #[v] w fun e w' => ∃ b, e = .returned (.bool b) ∧ Below w.heap.size w w' := by
  have q := fun m d => ct_any l g v m d w hv hm hs
  have Q := hide q
  obtain ⟨a, ca, rfl, hca, _, hA⟩ := hv
  clear hA q
  go_enter Tryd.func9, Tryd.ntmps9
  go_wp2_with fail
  refine (unhide Q _ _).mono ?_
  rintro e w3 ⟨k1, rfl, hb3⟩
  go_wp2
  go_ret
  first | exact ⟨⟨_, rfl⟩, hb3⟩ | exact ⟨_, rfl, hb3⟩ | exact hb3
end Ex
end Go.Proofs.YtjhmglefejclpaaDoor

/- The document's own group and bit. -/
namespace Go.Proofs.YtjhmglefejclpaaDoor
set_option maxRecDepth 100000
open Go.RowKit
set_option linter.unusedVariables false

/-- the k-th bit of groups -/
def bt (gs : List Int) (k : Nat) : Bool := decide (Leb.jn gs / 2 ^ k % 2 = 1)

theorem bt_out (gs : List Int) (k : Nat) (h : gs.length ≤ k / 7) (hg : ∀ g ∈ gs, 0 ≤ g ∧ g < 128) : bt gs k = false := by
  unfold bt
  rw [← Leb.bt_jn gs k hg, List.getD, List.getElem?_eq_none h]; simp
theorem bt_in (gs : List Int) (k : Nat) (hg : ∀ g ∈ gs, 0 ≤ g ∧ g < 128) : bt gs k = (gs.getD (k / 7) 0 / 2 ^ (k % 7) % 2 == 1) := by
  unfold bt
  rw [← Leb.bt_jn gs k hg]; rfl

set_option maxHeartbeats 400000 in
theorem bit_any (a : Option Addr) (len cap : Nat) (gs : List Int) (k : Nat) (w : World) (hrow : Row w a len gs) (hg : ∀ g ∈ gs, 0 ≤ g ∧ g < 128) (hk : k ≤ 1000) (hl : len ≤ 1000) :
    Calls Tryd.prog 95 #[.slice a len cap, .int .i64 k] w fun e w' => e = .returned (.bool (bt gs k)) ∧ w = w' := by
  by_cases h : k / 7 < len
  · obtain ⟨b, off, rfl, hb, hc⟩ := hrow.2.2 (by omega)
    have hck := hc (k / 7) h
    have hbt := bt_in gs k hg
    have hlen := hrow.1
    have hgk := hg (gs.getD (k / 7) 0) (by rw [List.getD, List.getElem?_eq_getElem (by omega)]; simp)
    generalize gs.getD (k / 7) 0 = g at *
    have HBT := hide hbt; clear hbt hc hrow hg hlen
    obtain ⟨q, r, hr, rfl⟩ : ∃ q r : Nat, r < 7 ∧ k = 7 * q + r := ⟨k / 7, k % 7, by omega, by omega⟩
    have e1 : (7 * q + r) / 7 = q := by omega
    have e2 : (7 * q + r) % 7 = r := by omega
    rw [e1] at hck h
    have i1 : ((7 * q + r : Nat) : Int) / 7 = q := by omega
    have i2 : ((7 * q + r : Nat) : Int) % 7 = r := by omega
    rw [e2] at HBT
    generalize hkk : 7 * q + r = k at *
    have HK := hide hkk; clear hkk e1 e2
    go_enter Tryd.func95, Tryd.ntmps95
    go_wp2_with fail
    go_ret
    have h0 : 0 ≤ g / 2 ^ r := Int.ediv_nonneg hgk.1 (Int.le_of_lt (Int.pow_pos (by omega)))
    refine ⟨?_, rfl⟩
    rw [unhide HBT, ← Int.tmod_eq_emod_of_nonneg h0]; rfl
  · have hbt := bt_out gs k (by have := hrow.1; omega) hg
    have HBT := hide hbt; clear hbt hrow hg
    have hq : (len : Int) ≤ (k : Int) / 7 := by omega
    go_enter Tryd.func95, Tryd.ntmps95
    go_wp2_with fail
    go_ret
    exact ⟨by rw [unhide HBT]; rfl, rfl⟩

theorem gs_mod (l : List Int) : ∀ g ∈ l.map (· % 128), (0 : Int) ≤ g ∧ g < 128 := by
  intro g hg
  obtain ⟨z, _, rfl⟩ := List.mem_map.1 hg
  omega
theorem take_mod_snoc (zs : List Int) (k : Nat) (h : k < zs.length) (z : Int) (hz : zs.getD k 0 = z) : (zs.take k).map (· % 128) ++ [z % 128] = (zs.take (k + 1)).map (· % 128) := by
  rw [Leb.take_snoc zs k h, hz]; simp

set_option maxHeartbeats 400000 in
theorem group_arg (a : Option Addr) (len cap : Nat) (n : Int) (w : World) (h : n < 1 ∨ 64 < n) :
    Calls Tryd.prog 94 #[.slice a len cap, .int .i64 n] w fun e w' => e = .returned (.tuple #[.slice none 0 0, .int .i64 1]) ∧ Below w.heap.size w w' := by
  rcases h with h | h
  · go_enter Tryd.func94, Tryd.ntmps94
    go_wp2
    go_ret2
    exact ⟨rfl, Below.refl _ _⟩
  · have h' : ¬ n < 1 := by omega
    go_enter Tryd.func94, Tryd.ntmps94
    go_wp2
    go_ret2
    exact ⟨rfl, Below.refl _ _⟩

/-- what group gives: the groups, or the error -/
def GroupPost (zs : List Int) (n : Int) (w : World) (e : Ending) (w' : World) : Prop :=
  Below w.heap.size w w' ∧ ((Leb.cntE zs n ≠ 0 ∧ e = .returned (.tuple #[.slice none 0 0, .int .i64 (Leb.cntE zs n)])) ∨
    (Leb.cntE zs n = 0 ∧ ∃ g cap, e = .returned (.tuple #[.slice (some ⟨g, 0, none⟩) (Leb.lead zs + 1) cap, .int .i64 0]) ∧ Row w' (some ⟨g, 0, none⟩) (Leb.lead zs + 1) ((zs.take (Leb.lead zs + 1)).map (· % 128))))

set_option maxHeartbeats 1000000 in
theorem group_in (a : Option Addr) (len cap : Nat) (zs : List Int) (n : Int) (w : World) (hrow : Row w a len zs) (h1 : 1 ≤ n) (h2 : n ≤ 64) (hreach : len ≤ 9223372036854775807) :
    Calls Tryd.prog 94 #[.slice a len cap, .int .i64 n] w fun e w' => GroupPost zs n w e w' := by
  have HR := hide hrow; clear hrow
  obtain ⟨i0, hi, hz0, hz1, hz2⟩ := info_parts Tryd.info5
  have hM : 1 ≤ (n + 6) / 7 ∧ (n + 6) / 7 ≤ 10 := by omega
  go_enter Tryd.func94, Tryd.ntmps94
  go_wp2_with fail
  generalize hm : (n + 6) / 7 = M at *
  have HM := hide (show Leb.mb n = M from hm); clear hm
  generalize hB : w.heap.size = B at *
  have HB := hide hB; clear hB
  go_loopw [7, 8] (fun s c wr => ∃ (k : Nat), c = .int .i64 k ∧ (k : Int) ≤ M ∧ k ≤ Leb.lead zs ∧ wr.ownsRow B 5 1 s k (((zs.take k).map (· % 128)).map (Value.int .u8)) ∧ Below B w wr ∧ B ≤ wr.heap.size) (fun _ c _ => (M - intOf c).toNat)
  case atStart => exact ⟨0, rfl, by omega, Nat.zero_le _, World.ownsRow_nil _ _ _ _, Below.refl _ _, by rw [unhide HB]; exact Nat.le_refl _⟩
  case round =>
    obtain ⟨k, rfl, hkM, hkl, hown, hbel, hBs⟩ := hrel
    have hle := Leb.lead_le zs
    have hzl := (unhide HR).1
    have HO := hide hown; have HBe := hide hbel; have HBs := hide hBs; have HKL := hide hkl; have HLE := hide hle; have HZL := hide hzl
    clear hown hbel hBs hkl hle hzl
    by_cases hlt : (k : Int) < M
    · by_cases hend : k = len
      · have hfin := Leb.cnt_end zs n h1 h2 (by rw [unhide HM]; have := unhide HKL; have := unhide HLE; have := unhide HZL; omega) (by have := unhide HKL; have := unhide HLE; have := unhide HZL; omega)
        have HF := hide hfin; clear hfin
        subst hend
        go_wp2
        go_ret2
        exact ⟨by rw [unhide HB]; exact unhide HBe, .inl ⟨by rw [(unhide HF).1]; decide, by rw [(unhide HF).1]; rfl⟩⟩
      · have hkn : k < len := by have := unhide HKL; have := unhide HLE; have := unhide HZL; omega
        obtain ⟨b, off, rfl, hb, hc⟩ := ((unhide HR).below (by rw [unhide HB]; exact Nat.le_refl _) (unhide HBe)).2.2 (by omega)
        have hck := hc k hkn
        have hby := (unhide HR).2.1 (zs.getD k 0) (by rw [List.getD, List.getElem?_eq_getElem (by have := unhide HZL; omega)]; simp)
        have hne : ¬ (len : Int) ≤ (k : Int) := by omega
        have hbw : b < w.heap.size := by
          obtain ⟨b2, off2, hbo, hb2, _⟩ := (unhide HR).2.2 (by omega)
          simp at hbo; omega
        clear hc hb
        generalize hz : zs.getD k 0 = z at *
        have hsn := take_mod_snoc zs k (by have := unhide HZL; omega) z hz
        have HSN := hide hsn; have HZd := hide hz; clear hsn hz
        go_wp2_with (at_builtin; refine wpList_append_own _ rfl (.tmp 27) (.tmp 33) 27 rfl B 5 i0 (.int .u8 0) 1 1 Tryd.underlying27 hi hz0 hz1 hz2 rfl (by decide) u7 k _ rfl ((unhide HO).alloc _) ⟨wr.heap.size, 0, none⟩ 1 1 [.int .u8 (z % 128)] rfl rfl ?c1 ?c2 ?c3 ?c4 ?c5 ?_)
        case c2 => first | rfl | (intro u hu; simp at hu; subst hu; rfl)
        case c3 => unfold maxLen; omega
        case c4 => omega
        case c5 => have := unhide HBs; simp; omega
        intro v' w2 hown2 hgrow _
        have hb2 : Below B w w2 := ((unhide HBe).alloc (unhide HBs) _).grown hgrow (by have := unhide HBs; simp; omega) (fun j hj => ((unhide HO).lt j hj).1)
        have ho2 : w2.ownsRow B 5 1 v' (k + 1) (((zs.take (k + 1)).map (· % 128)).map (Value.int .u8)) := by
          rw [← unhide HSN]; simpa using hown2
        have hck2 : w2.cell? ⟨b, off + k, none⟩ = some (.int .u8 z) := by
          have e1 := hb2.cell (p := ⟨b, off + k, none⟩) (by have := unhide HB; simp; omega)
          have e2 := (unhide HBe).cell (p := ⟨b, off + k, none⟩) (by have := unhide HB; simp; omega)
          rw [e1, ← e2]; exact hck
        have HB2 := hide hb2; have HO2 := hide ho2; have HBs2 := hide (show B ≤ w2.heap.size by have := hb2.size; have := unhide HB; omega)
        clear hown2 hgrow hb2 ho2 HO hck
        by_cases h128 : 128 ≤ z
        · have hmore := Leb.lead_more zs k (unhide HKL) (by have := unhide HZL; omega) (by rw [unhide HZd]; exact h128)
          have HMo := hide hmore; clear hmore
          go_wp2
          go_roundw
          case rel => exact ⟨k + 1, by go_num, by omega, unhide HMo, unhide HO2, unhide HB2, unhide HBs2⟩
          case measure => simp [intOf]; omega
        · have heq := Leb.lead_eq zs k (unhide HKL) (by have := unhide HZL; omega) (by rw [unhide HZd]; omega)
          have hfin := Leb.cnt_ok zs n h1 h2 (by rw [unhide HM]; omega) (by have := unhide HZL; omega)
          obtain ⟨g5, c5, hv5, hrow5, hc5, hg5⟩ := own_shape (unhide HO2) (by omega) (fun z hz => by have := gs_mod _ z hz; omega)
          have HF := hide hfin; have HEq := hide heq; have HR5 := hide hrow5; clear hfin heq hrow5 hc5 hg5
          rw [hv5]; clear hv5
          go_wp2
          go_ret2
          exact ⟨by rw [unhide HB]; exact unhide HB2, .inr ⟨(unhide HF).1, g5, c5, by rw [unhide HEq]; rfl, by rw [unhide HEq]; exact unhide HR5⟩⟩
    · have hfin := Leb.cnt_mal zs n h1 h2 (by rw [unhide HM]; have := unhide HKL; omega)
      have HF := hide hfin; clear hfin
      go_wp2
      go_ret2
      exact ⟨by rw [unhide HB]; exact unhide HBe, .inl ⟨by rw [(unhide HF).1]; decide, by rw [(unhide HF).1]; rfl⟩⟩

theorem group_any (a : Option Addr) (len cap : Nat) (zs : List Int) (n : Int) (w : World) (hrow : Row w a len zs) (hreach : len ≤ 9223372036854775807) :
    Calls Tryd.prog 94 #[.slice a len cap, .int .i64 n] w fun e w' => GroupPost zs n w e w' := by
  by_cases h : n < 1 ∨ 64 < n
  · refine (group_arg a len cap n w h).mono fun e w' ⟨he, hb⟩ => ?_
    have := (Leb.cnt_arg zs n h).1
    exact ⟨hb, .inl ⟨by rw [this]; decide, by rw [this]; exact he⟩⟩
  · exact group_in a len cap zs n w hrow (by omega) (by omega) hreach
end Go.Proofs.YtjhmglefejclpaaDoor

/- The document's own TakeU. -/
namespace Go.Proofs.YtjhmglefejclpaaDoor
set_option maxRecDepth 100000
open Go.RowKit
set_option linter.unusedVariables false

theorem pw_step (k : Nat) : IntKind.u64.wrap (2 * (2 ^ k % 18446744073709551616)) = 2 ^ (k + 1) % 18446744073709551616 := by
  rw [IntKind.wrap_u64, Int.pow_succ]; omega
theorem v_step1 (J : Int) (k : Nat) (h : J / 2 ^ k % 2 = 1) : IntKind.u64.wrap (J % 2 ^ k % 18446744073709551616 + 2 ^ k % 18446744073709551616) = J % 2 ^ (k + 1) % 18446744073709551616 := by
  rw [IntKind.wrap_u64, Leb.mod_step J k, h]; omega
theorem v_step0 (J : Int) (k : Nat) (h : ¬ J / 2 ^ k % 2 = 1) : J % 2 ^ (k + 1) = J % 2 ^ k := by
  rw [Leb.mod_step J k, show J / 2 ^ k % 2 = 0 from by omega]; omega
theorem pow_mono (a b : Nat) (h : a ≤ b) : (2 : Int) ^ a ≤ 2 ^ b := by
  obtain ⟨j, rfl⟩ : ∃ j, b = a + j := ⟨b - a, by omega⟩
  have hp : (0 : Int) < 2 ^ a := Int.pow_pos (by omega)
  have hq : (0 : Int) < 2 ^ j := Int.pow_pos (by omega)
  rw [Int.pow_add]
  have : (2 : Int) ^ a * 1 ≤ 2 ^ a * 2 ^ j := Int.mul_le_mul_of_nonneg_left (by omega) (by omega)
  omega

theorem start_lt (J : Int) (m : Nat) : J % 2 ^ 0 < 2 ^ m := by
  have : (0 : Int) < 2 ^ m := Int.pow_pos (by omega)
  simp; omega
theorem tu_out (J : Int) (k m : Nat) (h0 : 0 ≤ J) (hb : J / 2 ^ k % 2 = 1) (hm : m ≤ k) : ¬ J / 2 ^ m = 0 := by
  intro h
  have h1 : J < 2 ^ m := by
    have hp : (0 : Int) < 2 ^ m := Int.pow_pos (by omega)
    rcases Int.lt_or_le J (2 ^ m) with h1 | h1
    · exact h1
    · have := (Int.le_ediv_iff_mul_le hp (a := 1) (b := J)).2 (by omega); omega
  have h2 := pow_mono m k hm
  rw [Int.ediv_eq_zero_of_lt h0 (by omega)] at hb
  omega
theorem low_step (J : Int) (k m : Nat) (hm : k < m) : J % 2 ^ (k + 1) < 2 ^ m := by
  have hp : (0 : Int) < 2 ^ (k + 1) := Int.pow_pos (by omega)
  have := Int.emod_lt_of_pos J hp
  have := pow_mono (k + 1) m hm
  omega

set_option maxHeartbeats 400000 in
theorem refTakeU_err (a : Option Addr) (len cap : Nat) (zs : List Int) (n : Int) (w : World) (hrow : Row w a len zs) (hreach : len ≤ 9223372036854775807) (k : Int) (hk : Leb.cntE zs n = k) (hk0 : k ≠ 0) :
    Calls Tryd.prog 84 #[.slice a len cap, .int .i64 n] w fun e w' => e = .returned (.tuple #[.int .u64 0, .int .i64 0, .int .i64 k]) ∧ Below w.heap.size w w' := by
  have HR := hide hrow; have HK := hide hk; clear hrow hk
  have hb : (k != 0) = true := bne_iff_ne.2 hk0
  have HK0 := hide hk0; clear hk0
  go_enter Tryd.func84, Tryd.ntmps84
  go_wp2_with fail
  refine (group_any a len cap zs n _ (unhide HR) hreach).mono ?_
  rintro e w1 ⟨hb1, h | h⟩
  · rw [h.2, unhide HK]
    have HB1 := hide hb1; clear hb1 h
    go_wp2
    go_ret3
    exact ⟨rfl, unhide HB1⟩
  · exact absurd (h.1.symm.trans (unhide HK)).symm (unhide HK0)

set_option maxHeartbeats 1000000 in
theorem refTakeU_in (a : Option Addr) (len cap : Nat) (zs : List Int) (m : Nat) (w : World) (hrow : Row w a len zs) (hreach : len ≤ 9223372036854775807) (hk : Leb.cntE zs m = 0) :
    Calls Tryd.prog 84 #[.slice a len cap, .int .i64 m] w fun e w' => e = .returned (.tuple #[.int .u64 (Leb.tuV zs m), .int .i64 (Leb.tuN zs m), .int .i64 (Leb.tuE zs m)]) ∧ Below w.heap.size w w' := by
  obtain ⟨h1, h2, h3, h4⟩ := Leb.cnt_0 zs m hk
  have hc0 := (hrow.2.1 (zs.getD (Leb.lead zs) 0) (by rw [List.getD, List.getElem?_eq_getElem h4]; simp)).1
  have hE := Leb.tuE_iff zs m hk hc0
  have hL : Leb.lead zs ≤ 9 := by unfold Leb.mb at h3; omega
  have hm64 : m ≤ 64 := by omega
  have HR := hide hrow; have HK := hide hk; have HE := hide hE; clear hrow hk hE h3 h4 hc0
  go_enter Tryd.func84, Tryd.ntmps84
  go_wp2_with fail
  refine (group_any a len cap zs m _ (unhide HR) hreach).mono ?_
  rintro e w1 ⟨hb1, h | ⟨_, g, gc, rfl, hgrow⟩⟩
  · exact absurd (unhide HK) h.1
  · have hgs := gs_mod (zs.take (Leb.lead zs + 1))
    have hjn : Leb.jn ((zs.take (Leb.lead zs + 1)).map (· % 128)) = Leb.JJ zs := Leb.jn_map _
    have hJb := Leb.jn_bd ((zs.take (Leb.lead zs + 1)).map (· % 128))
    have hglen := hgrow.1
    generalize (zs.take (Leb.lead zs + 1)).map (· % 128) = gs at *
    rw [hjn, hglen] at hJb
    have hV : Leb.tuV zs m = if Leb.tuE zs m = 0 then Leb.JJ zs % 18446744073709551616 else 0 := rfl
    have hNn : Leb.tuN zs m = if Leb.tuE zs m = 0 then (Leb.lead zs : Int) + 1 else 0 := rfl
    generalize Leb.lead zs = L at *
    generalize hJ : Leb.JJ zs = J at *
    have HV := hide hV; have HN := hide hNn; have HJN := hide hjn; have HJB := hide hJb; have HGs := hide hgs; have HGr := hide hgrow; have HB1 := hide hb1; have HGl := hide hglen
    clear hV hNn hjn hJb hgs hgrow hb1 hglen hJ
    go_wp2_with fail
    go_loop [9, 10, 11] (fun v p c => ∃ (k : Nat), c = .int .i64 k ∧ k ≤ 7 * (L + 1) ∧ v = .int .u64 (J % 2 ^ k % 18446744073709551616) ∧ p = .int .u64 (2 ^ k % 18446744073709551616) ∧ J % 2 ^ k < 2 ^ m) (fun _ _ c => 7 * (L + 1) - (intOf c).toNat)
    case atStart => exact ⟨0, rfl, by omega, by simp, rfl, start_lt J m⟩
    case round =>
      obtain ⟨k, rfl, hk7, rfl, rfl, hlow⟩ := hrel
      have HLow := hide hlow; clear hlow
      by_cases hlt : k < 7 * (L + 1)
      · by_cases hbit : J / 2 ^ k % 2 = 1
        · have hbt : bt gs k = true := by unfold bt; rw [unhide HJN]; exact decide_eq_true hbit
          have HBT := hide hbt; have hv := v_step1 J k hbit; have hp := pw_step k
          have HV1 := hide hv; have HP1 := hide hp; have HBit := hide hbit; clear hbt hv hp hbit
          have hvb : 0 ≤ J % 2 ^ k % 18446744073709551616 ∧ J % 2 ^ k % 18446744073709551616 < 18446744073709551616 := by omega
          have hpb : 0 ≤ (2 : Int) ^ k % 18446744073709551616 ∧ (2 : Int) ^ k % 18446744073709551616 < 18446744073709551616 := by omega
          generalize J % 2 ^ k % 18446744073709551616 = V at *
          generalize (2 : Int) ^ k % 18446744073709551616 = P at *
          by_cases hkm : m ≤ k
          · go_wp2_with (go_at_call 95; refine (bit_any _ _ gc gs k _ (unhide HGr) (unhide HGs) (by omega) (by omega)).mono ?_; rintro e w9 ⟨rfl, rfl⟩; rw [unhide HBT])
            go_ret3
            have hno := tu_out J k m (unhide HJB).1 (unhide HBit) hkm
            have h6 : Leb.tuE zs m = 6 := by rw [unhide HE, if_neg hno]
            refine ⟨?_, unhide HB1⟩
            rw [unhide HV, unhide HN, h6]; rfl
          · go_wp2_with (go_at_call 95; refine (bit_any _ _ gc gs k _ (unhide HGr) (unhide HGs) (by omega) (by omega)).mono ?_; rintro e w9 ⟨rfl, rfl⟩; rw [unhide HBT])
            go_round
            case rel => exact ⟨k + 1, by go_num, by omega, by rw [unhide HV1], by rw [unhide HP1], low_step J k m (by omega)⟩
            case measure => simp [intOf]; omega
        · have hbt : bt gs k = false := by unfold bt; rw [unhide HJN]; exact decide_eq_false hbit
          have HBT := hide hbt; have hv := v_step0 J k hbit; have hp := pw_step k
          have HV1 := hide hv; have HP1 := hide hp; clear hbt hv hp hbit
          have hpb : 0 ≤ (2 : Int) ^ k % 18446744073709551616 ∧ (2 : Int) ^ k % 18446744073709551616 < 18446744073709551616 := by omega
          generalize hVe : J % 2 ^ k % 18446744073709551616 = V at *
          have HVe := hide hVe; clear hVe
          generalize (2 : Int) ^ k % 18446744073709551616 = P at *
          go_wp2_with (go_at_call 95; refine (bit_any _ _ gc gs k _ (unhide HGr) (unhide HGs) (by omega) (by omega)).mono ?_; rintro e w9 ⟨rfl, rfl⟩; rw [unhide HBT])
          go_round
          case rel => exact ⟨k + 1, by go_num, by omega, by rw [unhide HV1, unhide HVe], by rw [unhide HP1], by rw [unhide HV1]; exact unhide HLow⟩
          case measure => simp [intOf]; omega
      · have hk8 : k = 7 * (L + 1) := by omega
        subst hk8
        have hmod : J % 2 ^ (7 * (L + 1)) = J := by
          have := unhide HJB
          rw [Leb.pow7]; exact Int.emod_eq_of_lt this.1 this.2
        have h0 : J / 2 ^ m = 0 := Int.ediv_eq_zero_of_lt (unhide HJB).1 (by have := unhide HLow; rw [hmod] at this; exact this)
        have hE0 : Leb.tuE zs m = 0 := by rw [unhide HE, if_pos h0]
        have HM := hide hmod; have HE0 := hide hE0; clear hmod h0 hE0
        go_wp2
        go_ret3
        refine ⟨?_, unhide HB1⟩
        rw [unhide HV, unhide HN, unhide HE0, if_pos rfl, if_pos rfl]
        exact ret3 (by rw [unhide HM]) rfl rfl

theorem refTakeU_any (a : Option Addr) (len cap : Nat) (zs : List Int) (n : Int) (w : World) (hrow : Row w a len zs) (hreach : len ≤ 9223372036854775807) :
    Calls Tryd.prog 84 #[.slice a len cap, .int .i64 n] w fun e w' => e = .returned (.tuple #[.int .u64 (Leb.tuV zs n), .int .i64 (Leb.tuN zs n), .int .i64 (Leb.tuE zs n)]) ∧ Below w.heap.size w w' := by
  by_cases hk : Leb.cntE zs n = 0
  · obtain ⟨m, rfl⟩ : ∃ m : Nat, n = m := ⟨n.toNat, by have := (Leb.cnt_0 zs n hk).1; omega⟩
    exact refTakeU_in a len cap zs m w hrow hreach hk
  · have e : Leb.tuE zs n = Leb.cntE zs n := by unfold Leb.tuE; rw [if_neg hk]
    unfold Leb.tuV Leb.tuN
    rw [e, if_neg hk, if_neg hk]
    exact refTakeU_err a len cap zs n w hrow hreach _ rfl hk
end Go.Proofs.YtjhmglefejclpaaDoor

/- The document's own TakeS. -/
namespace Go.Proofs.YtjhmglefejclpaaDoor
set_option maxRecDepth 100000
open Go.RowKit
set_option linter.unusedVariables false

set_option maxHeartbeats 400000 in
theorem refTakeS_err (a : Option Addr) (len cap : Nat) (zs : List Int) (n : Int) (w : World) (hrow : Row w a len zs) (hreach : len ≤ 9223372036854775807) (k : Int) (hk : Leb.cntE zs n = k) (hk0 : k ≠ 0) :
    Calls Tryd.prog 83 #[.slice a len cap, .int .i64 n] w fun e w' => e = .returned (.tuple #[.int .i64 0, .int .i64 0, .int .i64 k]) ∧ Below w.heap.size w w' := by
  have HR := hide hrow; have HK := hide hk; clear hrow hk
  have hb : (k != 0) = true := bne_iff_ne.2 hk0
  have HK0 := hide hk0; clear hk0
  go_enter Tryd.func83, Tryd.ntmps83
  go_wp2_with fail
  refine (group_any a len cap zs n _ (unhide HR) hreach).mono ?_
  rintro e w1 ⟨hb1, h | h⟩
  · rw [h.2, unhide HK]
    have HB1 := hide hb1; clear hb1 h
    go_wp2
    go_ret3
    exact ⟨rfl, unhide HB1⟩
  · exact absurd (h.1.symm.trans (unhide HK)).symm (unhide HK0)

/-- the number of the bits from the 63rd down to the k-th -/
def top (X : Int) (k : Nat) : Int := X / 2 ^ k % 2 ^ (64 - k)
theorem top_64 (X : Int) : top X 64 = 0 := by unfold top; simp
theorem top_0 (X : Int) : top X 0 = X % 18446744073709551616 := by unfold top; simp
theorem mod_two (q r : Int) (j : Nat) (hr : 0 ≤ r ∧ r < 2) : (2 * q + r) % (2 ^ j * 2) = 2 * (q % 2 ^ j) + r := by
  have hp : (0 : Int) < 2 ^ j := Int.pow_pos (by omega)
  have h1 : q = 2 ^ j * (q / 2 ^ j) + q % 2 ^ j := (Int.mul_ediv_add_emod q (2 ^ j)).symm
  have h2 : 0 ≤ q % 2 ^ j := Int.emod_nonneg _ (by omega)
  have h3 : q % 2 ^ j < 2 ^ j := Int.emod_lt_of_pos _ hp
  have h4 : 2 * q + r = (2 * (q % 2 ^ j) + r) + 2 ^ j * 2 * (q / 2 ^ j) := by
    have := congrArg (fun x => 2 * x) h1
    simp only [Int.mul_add] at this
    rw [show 2 ^ j * 2 * (q / 2 ^ j) = 2 * (2 ^ j * (q / 2 ^ j)) from by rw [Int.mul_comm (2 ^ j) 2, Int.mul_assoc]]
    omega
  rw [h4, Int.add_mul_emod_self_left, Int.emod_eq_of_lt (by omega) (by omega)]
theorem top_step (X : Int) (k : Nat) (h : k < 64) : top X k = 2 * top X (k + 1) + X / 2 ^ k % 2 := by
  unfold top
  obtain ⟨j, hj⟩ : ∃ j, 64 - k = j + 1 := ⟨63 - k, by omega⟩
  have e : 64 - (k + 1) = j := by omega
  have hd := Leb.div_step X k
  have hr : 0 ≤ X / 2 ^ k % 2 ∧ X / 2 ^ k % 2 < 2 := by omega
  rw [hj, e]
  generalize X / 2 ^ (k + 1) = q at *
  generalize X / 2 ^ k % 2 = r at *
  rw [hd, Int.pow_succ]
  exact mod_two q r j hr
theorem wrap64_0 : wrap64 0 = 0 := by unfold wrap64; omega
theorem wrap_step (a b : Int) : wrap64 (wrap64 (2 * wrap64 a) + b) = wrap64 (2 * a + b) := by unfold wrap64; omega
theorem wrap_step0 (a : Int) : wrap64 (2 * wrap64 a) = wrap64 (2 * a) := by unfold wrap64; omega
/-- what the document's two loops tell apart -/
theorem same_bits (X s : Int) (m : Nat) : ∀ N, m ≤ N → X / 2 ^ N = -s → (∀ i, m ≤ i → i < N → X / 2 ^ i % 2 = s) → X / 2 ^ m = -s := by
  intro N
  induction N with
  | zero =>
    intro h1 h2 _
    have e : m = 0 := Nat.le_zero.1 h1
    rw [e]; exact h2
  | succ N ih =>
    intro h1 h2 h3
    by_cases h : m ≤ N
    · refine ih h ?_ (fun i hi hj => h3 i hi (by omega))
      have a := Leb.div_step X N
      have b := h3 N h (by omega)
      rw [a, h2, b]; omega
    · obtain rfl : m = N + 1 := by omega
      exact h2
theorem high_const (X s : Int) (m : Nat) (h : X / 2 ^ m = -s) (hs : s = 0 ∨ s = 1) : ∀ d, X / 2 ^ (m + d) = -s := by
  intro d
  induction d with
  | zero => exact h
  | succ d ih =>
    have a := Leb.div_step X (m + d)
    rw [ih] at a
    rw [show m + (d + 1) = m + d + 1 from by omega]
    rcases hs with rfl | rfl <;> omega
theorem high_bits (X s : Int) (m i : Nat) (h : X / 2 ^ m = -s) (hs : s = 0 ∨ s = 1) (hi : m ≤ i) : X / 2 ^ i % 2 = s := by
  have h1 := high_const X s m h hs (i - m)
  rw [show m + (i - m) = i from by omega] at h1
  rw [h1]
  rcases hs with rfl | rfl <;> omega

theorem wrap_top0 (X : Int) : wrap64 (top X 0) = IntKind.i64.wrap X := by rw [top_0, IntKind.wrap_i64]; unfold wrap64; omega

theorem not_same (X s : Int) (m k N : Nat) (h : X / 2 ^ N = -s) (hm : m ≤ k) (hk : k < N) (hne : ¬ X / 2 ^ k % 2 = s) : ¬ (X / 2 ^ m = 0 ∨ X / 2 ^ m = -1) := by
  rintro (h0 | h0)
  · have a := high_const X 0 m (by rw [h0]; rfl) (.inl rfl) (N - m)
    rw [show m + (N - m) = N from by omega, h] at a
    have b := high_bits X 0 m k (by rw [h0]; rfl) (.inl rfl) hm
    omega
  · have a := high_const X 1 m h0 (.inr rfl) (N - m)
    rw [show m + (N - m) = N from by omega, h] at a
    have b := high_bits X 1 m k h0 (.inr rfl) hm
    omega
theorem all_same (X s : Int) (m k N : Nat) (h : X / 2 ^ N = -s) (hs : s = 0 ∨ s = 1) (hm : m ≤ k) (hk : k ≤ N ∨ k = m) (hkN : N ≤ k) (hall : ∀ i, m ≤ i → i < k → X / 2 ^ i % 2 = s) : X / 2 ^ m = 0 ∨ X / 2 ^ m = -1 := by
  have e : X / 2 ^ m = -s := by
    by_cases hmN : m ≤ N
    · exact same_bits X s m N hmN h (fun i h1 h2 => hall i h1 (by omega))
    · have := high_const X s N h hs (m - N)
      rwa [show N + (m - N) = m from by omega] at this
  rcases hs with rfl | rfl
  · exact .inl (by rw [e]; rfl)
  · exact .inr e

set_option maxHeartbeats 2000000 in
theorem refTakeS_in (a : Option Addr) (len cap : Nat) (zs : List Int) (m : Nat) (w : World) (hrow : Row w a len zs) (hreach : len ≤ 9223372036854775807) (hk : Leb.cntE zs (m + 1 : Nat) = 0) :
    Calls Tryd.prog 83 #[.slice a len cap, .int .i64 (m + 1 : Nat)] w fun e w' => e = .returned (.tuple #[.int .i64 (Leb.tsV zs (m + 1 : Nat)), .int .i64 (Leb.tsN zs (m + 1 : Nat)), .int .i64 (Leb.tsE zs (m + 1 : Nat))]) ∧ Below w.heap.size w w' := by
  obtain ⟨h1, h2, h3, h4⟩ := Leb.cnt_0 zs _ hk
  have hc0 := (hrow.2.1 (zs.getD (Leb.lead zs) 0) (by rw [List.getD, List.getElem?_eq_getElem h4]; simp)).1
  have hE := Leb.tsE_iff zs m hk hc0
  have hTop := Leb.top_XX zs h4 hc0
  have hSign := Leb.sign_bit zs h4 hc0
  have hBX := Leb.bit_XX zs
  have hL : Leb.lead zs ≤ 9 := by unfold Leb.mb at h3; omega
  have hm63 : m ≤ 63 := by omega
  have HR := hide hrow; have HK := hide hk; have HE := hide hE; clear hrow hk hE h3 h4 hc0 h1 h2
  go_enter Tryd.func83, Tryd.ntmps83
  go_wp2_with fail
  refine (group_any a len cap zs _ _ (unhide HR) hreach).mono ?_
  rintro e w1 ⟨hb1, h | ⟨_, g, gc, rfl, hgrow⟩⟩
  · exact absurd (unhide HK) h.1
  · have hgs := gs_mod (zs.take (Leb.lead zs + 1))
    have hjn : Leb.jn ((zs.take (Leb.lead zs + 1)).map (· % 128)) = Leb.JJ zs := Leb.jn_map _
    generalize (zs.take (Leb.lead zs + 1)).map (· % 128) = gs at *
    have hV : Leb.tsV zs (m + 1 : Nat) = if Leb.tsE zs (m + 1 : Nat) = 0 then IntKind.i64.wrap (Leb.XX zs) else 0 := rfl
    have hNn : Leb.tsN zs (m + 1 : Nat) = if Leb.tsE zs (m + 1 : Nat) = 0 then (Leb.lead zs : Int) + 1 else 0 := rfl
    obtain ⟨bl, hbl⟩ : ∃ bl : Bool, bl = decide (Leb.sg (zs.getD (Leb.lead zs) 0) < 0) := ⟨_, rfl⟩
    obtain ⟨s, hs⟩ : ∃ s : Int, s = if bl = true then 1 else 0 := ⟨_, rfl⟩
    have hs01 : s = 0 ∨ s = 1 := by rw [hs]; split <;> simp
    have hblt : bl = true ↔ s = 1 := by rw [hs]; cases bl <;> simp
    have hTop2 : Leb.XX zs / 2 ^ (7 * (Leb.lead zs + 1)) = -s := by
      rw [hTop, hs, hbl]
      generalize Leb.sg (zs.getD (Leb.lead zs) 0) = q
      by_cases hn : q < 0
      · rw [if_pos hn, if_pos (decide_eq_true hn)]
      · rw [if_neg hn, if_neg (by rw [decide_eq_false hn]; decide)]; rfl
    have hSign2 : bt gs (7 * (Leb.lead zs + 1) - 1) = bl := by
      unfold bt
      rw [hjn, hSign, hbl]
      generalize Leb.sg (zs.getD (Leb.lead zs) 0) = q
      by_cases hn : q < 0
      · rw [if_pos hn, decide_eq_true hn]; rfl
      · rw [if_neg hn, decide_eq_false hn]; rfl
    have hbits : ∀ i, i < 7 * (Leb.lead zs + 1) → (bt gs i = true ↔ Leb.XX zs / 2 ^ i % 2 = 1) := by
      intro i hi
      unfold bt
      rw [hjn, ← hBX i hi]; simp
    clear hTop hSign hBX hbl hs
    generalize Leb.lead zs = L at *
    generalize Leb.XX zs = X at *
    have HV := hide hV; have HN := hide hNn; have HGs := hide hgs; have HGr := hide hgrow; have HB1 := hide hb1; have HTop := hide hTop2; have HSign := hide hSign2; have HBits := hide hbits; have HS01 := hide hs01; have HBl := hide hblt
    clear hV hNn hjn hgs hgrow hb1 hTop2 hSign2 hbits hs01 hblt
    go_wp2_with fail
    rw [show (7 * ((L : Int) + 1) - 1) = ((7 * (L + 1) - 1 : Nat) : Int) from by omega]
    refine (bit_any _ _ gc gs _ _ (unhide HGr) (unhide HGs) (by omega) (by omega)).mono ?_
    rintro e w9 ⟨rfl, rfl⟩
    rw [unhide HSign]
    go_wp2_with fail
    go_loop [11] (fun c => ∃ (k : Nat), c = .int .i64 k ∧ m ≤ k ∧ (k ≤ 7 * (L + 1) ∨ k = m) ∧ ∀ i, m ≤ i → i < k → X / 2 ^ i % 2 = s) (fun c => 7 * (L + 1) - (intOf c).toNat)
    case atStart => exact ⟨m, rfl, Nat.le_refl _, .inr rfl, fun i h1 h2 => by omega⟩
    case round =>
      obtain ⟨k, rfl, hmk, hk7, hall⟩ := hrel
      have HAll := hide hall; clear hall
      by_cases hlt : k < 7 * (L + 1)
      · have hbi := unhide HBits k hlt
        have hr : X / 2 ^ k % 2 = 0 ∨ X / 2 ^ k % 2 = 1 := by omega
        by_cases hsame : X / 2 ^ k % 2 = s
        · have hbt : bt gs k = bl := by
            have h1 := unhide HBl
            cases hb : bt gs k <;> cases hc : bl <;> simp [hb, hc] at hbi h1 ⊢ <;> (rcases unhide HS01 with h | h <;> omega)
          have HBT := hide hbt; have HSame := hide hsame; clear hbi hr hbt hsame
          go_wp2_with (go_at_call 95; refine (bit_any _ _ gc gs k _ (unhide HGr) (unhide HGs) (by omega) (by omega)).mono ?_; rintro e w9 ⟨rfl, rfl⟩; rw [unhide HBT])
          go_round
          case rel =>
            refine ⟨k + 1, by go_num, by omega, .inl (by omega), fun i h1 h2 => ?_⟩
            by_cases hik : i = k
            · rw [hik]; exact unhide HSame
            · exact unhide HAll i h1 (by omega)
          case measure => simp [intOf]; omega
        · have hbt : bt gs k = !bl := by
            have h1 := unhide HBl
            cases hb : bt gs k <;> cases hc : bl <;> simp [hb, hc] at hbi h1 ⊢ <;> (rcases unhide HS01 with h | h <;> omega)
          have h6 : Leb.tsE zs (m + 1 : Nat) = 6 := by rw [unhide HE, if_neg (not_same X s m k _ (unhide HTop) hmk hlt hsame)]
          have HBT := hide hbt; have H6 := hide h6; clear hbi hr hbt hsame h6
          have hnb : (!bl != bl) = true := by cases bl <;> rfl
          go_wp2_with (go_at_call 95; refine (bit_any _ _ gc gs k _ (unhide HGr) (unhide HGs) (by omega) (by omega)).mono ?_; rintro e w9 ⟨rfl, rfl⟩; rw [unhide HBT])
          go_ret3
          refine ⟨?_, unhide HB1⟩
          rw [unhide HV, unhide HN, unhide H6]; rfl
      · have h0 : Leb.tsE zs (m + 1 : Nat) = 0 := by rw [unhide HE, if_pos (all_same X s m k _ (unhide HTop) (unhide HS01) hmk hk7 (by omega) (unhide HAll))]
        have H0 := hide h0; clear h0 HAll
        go_wp2_with fail
        go_loop [12, 13] (fun v c => ∃ (k : Nat) (c' : Int), c = .int .i64 c' ∧ c' = (k : Int) - 1 ∧ k ≤ 64 ∧ v = .int .i64 (wrap64 (top X k))) (fun _ c => (intOf c + 1).toNat)
        case atStart => exact ⟨64, 63, rfl, by omega, Nat.le_refl _, by rw [top_64, wrap64_0]⟩
        case round =>
          obtain ⟨k2, c', rfl, hc', hk64, rfl⟩ := hrel
          rcases Nat.eq_zero_or_pos k2 with hz | hpos
          · subst hz
            obtain rfl : c' = -1 := by omega
            clear hc' hk64
            have hw := wrap_top0 X
            generalize wrap64 (top X 0) = T at *
            have HW := hide hw; clear hw
            go_wp2
            go_ret3
            refine ⟨?_, unhide HB1⟩
            rw [show ((m : Int) + 1) = ((m + 1 : Nat) : Int) from by omega, unhide HV, unhide HN, unhide H0, if_pos rfl, if_pos rfl, ← unhide HW]; rfl
          · obtain ⟨j, rfl⟩ : ∃ j, k2 = j + 1 := ⟨k2 - 1, by omega⟩
            obtain rfl : c' = (j : Int) := by omega
            clear hc'
            have hst := top_step X j (by omega)
            have w1s := wrap_step (top X (j + 1)) 1
            have w0s := wrap_step0 (top X (j + 1))
            have hTb : -9223372036854775808 ≤ wrap64 (top X (j + 1)) ∧ wrap64 (top X (j + 1)) ≤ 9223372036854775807 := by unfold wrap64; omega
            rcases (show (j < 7 * (L + 1) ∧ X / 2 ^ j % 2 = 1) ∨ (j < 7 * (L + 1) ∧ X / 2 ^ j % 2 = 0) ∨ (7 * (L + 1) ≤ j ∧ X / 2 ^ j % 2 = 1) ∨ (7 * (L + 1) ≤ j ∧ X / 2 ^ j % 2 = 0) from by omega) with ⟨hj, hb⟩ | ⟨hj, hb⟩ | ⟨hj, hb⟩ | ⟨hj, hb⟩
            · have hbt : bt gs j = true := (unhide HBits j hj).2 hb
              rw [hb] at hst
              rw [← hst] at w1s
              have HBT := hide hbt; have HW1 := hide w1s; clear hbt w1s w0s hst hb
              generalize wrap64 (top X (j + 1)) = T at *
              have hji : decide (7 * ((L : Int) + 1) ≤ (j : Int)) = false := by simp; omega
              go_wp2_with (go_at_call 95; refine (bit_any _ _ gc gs j _ (unhide HGr) (unhide HGs) (by omega) (by omega)).mono ?_; rintro e w9 ⟨rfl, rfl⟩; rw [unhide HBT])
              go_round
              case rel => exact ⟨j, _, rfl, rfl, by omega, by rw [unhide HW1]⟩
              case measure => simp [intOf] <;> omega
            · have hbt : bt gs j = false := by
                have := unhide HBits j hj
                rcases Bool.eq_false_or_eq_true (bt gs j) with h | h
                · have := this.1 h; omega
                · exact h
              rw [hb, Int.add_zero] at hst
              rw [← hst] at w0s
              have HBT := hide hbt; have HW1 := hide w0s; clear hbt w1s w0s hst hb
              generalize wrap64 (top X (j + 1)) = T at *
              have hji : decide (7 * ((L : Int) + 1) ≤ (j : Int)) = false := by simp; omega
              go_wp2_with (go_at_call 95; refine (bit_any _ _ gc gs j _ (unhide HGr) (unhide HGs) (by omega) (by omega)).mono ?_; rintro e w9 ⟨rfl, rfl⟩; rw [unhide HBT])
              go_round
              case rel => exact ⟨j, _, rfl, rfl, by omega, by rw [unhide HW1]⟩
              case measure => simp [intOf] <;> omega
            · have hbl : bl = true := by
                have := high_bits X s _ j (unhide HTop) (unhide HS01) hj
                exact (unhide HBl).2 (by omega)
              rw [hb] at hst
              rw [← hst] at w1s
              have HW1 := hide w1s; clear w1s w0s hst hb
              generalize wrap64 (top X (j + 1)) = T at *
              have hji : decide ((j : Int) < 7 * ((L : Int) + 1)) = false := by simp; omega
              go_wp2
              go_round
              case rel => exact ⟨j, rfl, by omega, unhide HW1⟩
              case measure => simp [intOf] <;> omega
            · have hbl : bl = false := by
                have := high_bits X s _ j (unhide HTop) (unhide HS01) hj
                cases h : bl
                · rfl
                · have := (unhide HBl).1 h; omega
              rw [hb, Int.add_zero] at hst
              rw [← hst] at w0s
              have HW1 := hide w0s; clear w1s w0s hst hb
              generalize wrap64 (top X (j + 1)) = T at *
              have hji : decide ((j : Int) < 7 * ((L : Int) + 1)) = false := by simp; omega
              go_wp2
              go_round
              case rel => exact ⟨j, rfl, by omega, unhide HW1⟩
              case measure => simp [intOf] <;> omega

theorem refTakeS_any (a : Option Addr) (len cap : Nat) (zs : List Int) (n : Int) (w : World) (hrow : Row w a len zs) (hreach : len ≤ 9223372036854775807) :
    Calls Tryd.prog 83 #[.slice a len cap, .int .i64 n] w fun e w' => e = .returned (.tuple #[.int .i64 (Leb.tsV zs n), .int .i64 (Leb.tsN zs n), .int .i64 (Leb.tsE zs n)]) ∧ Below w.heap.size w w' := by
  by_cases hk : Leb.cntE zs n = 0
  · obtain ⟨m, rfl⟩ : ∃ m : Nat, n = (m + 1 : Nat) := ⟨n.toNat - 1, by have := (Leb.cnt_0 zs n hk).1; omega⟩
    exact refTakeS_in a len cap zs m w hrow hreach hk
  · have e : Leb.tsE zs n = Leb.cntE zs n := by unfold Leb.tsE; rw [if_neg hk]
    unfold Leb.tsV Leb.tsN
    rw [e, if_neg hk, if_neg hk]
    exact refTakeS_err a len cap zs n w hrow hreach _ rfl hk
end Go.Proofs.YtjhmglefejclpaaDoor

/- The document's reader: number, signed. -/
namespace Go.Proofs.YtjhmglefejclpaaDoor
open Go.RowKit
namespace Ex
set_option linter.unusedVariables false
set_option linter.unusedSimpArgs false

/-- the document's reader, as a value -/
abbrev RV (a : Option Addr) (len cap p k : Nat) (e : Int) : Value := .agg #[.slice a len cap, .int .i64 p, .int .i64 k, .int .i64 e]
theorem row_from {w : World} {a : Option Addr} {len : Nat} {zs : List Int} (h : Row w a len zs) (p : Nat) (hp : p ≤ len) : Row w (Option.map (fun x => x.add p) a) (len - p) (zs.drop p) := by
  by_cases h1 : p < len
  · obtain ⟨b, o, rfl, hlt, hc⟩ := h.2.2 (by omega)
    have := row_drop h p h1
    by_cases h0 : p = 0
    · subst h0; simpa [Addr.add] using this
    · simpa [Addr.add, h0] using this
  · have e : len - p = 0 := by omega
    rw [e, List.drop_eq_nil_of_le (by rw [h.1]; omega)]
    exact row_none w _
theorem row_full {w : World} {a : Option Addr} {len : Nat} {zs : List Int} (h : Row w a len zs) (p : Nat) (hp : len ≤ p) : Row w a (len - p) (zs.drop p) := by
  have e : len - p = 0 := by omega
  rw [e, List.drop_eq_nil_of_le (by rw [h.1]; omega)]
  exact row_none w _
/-- the two boxes of a function that takes a reader and gives one -/
theorem boxes2 {w w3 : World} {A B : Array Value} {t u : TypeId} (hb : Below ((w.alloc (.cells A t)).alloc (.cells B u)).heap.size ((w.alloc (.cells A t)).alloc (.cells B u)) w3) :
    (∀ j : Nat, w3.cell? ⟨w.heap.size, j, none⟩ = A[j]?) ∧ (∀ j : Nat, w3.cell? ⟨w.heap.size + 1, j, none⟩ = B[j]?) ∧ (∀ j : Nat, w3.frozen? ⟨w.heap.size, j, none⟩ = false) ∧ (∀ j : Nat, w3.frozen? ⟨w.heap.size + 1, j, none⟩ = false) ∧ w.heap.size + 2 ≤ w3.heap.size := by
  have hz : ((w.alloc (.cells A t)).alloc (.cells B u)).heap.size = w.heap.size + 2 := by simp
  have hs := hb.size
  have b0 := hb.block w.heap.size (by omega)
  have b1 := hb.block (w.heap.size + 1) (by omega)
  refine ⟨fun j => ?_, fun j => ?_, fun j => ?_, fun j => ?_, by omega⟩
  · rw [World.cell?_of_block (a := ⟨w.heap.size, j, none⟩) b0]; simp
  · rw [World.cell?_of_block (a := ⟨w.heap.size + 1, j, none⟩) b1]; simp
  · have e : ((w.alloc (.cells A t)).alloc (.cells B u)).heap[w.heap.size]? = some (.cells A t) := (Below.heap_alloc _ _ _ (by simp)).trans (heap_alloc_new w _)
    simp [World.frozen?, b0.trans e]
  · have e : ((w.alloc (.cells A t)).alloc (.cells B u)).heap[w.heap.size + 1]? = some (.cells B u) := by have := heap_alloc_new (w.alloc (.cells A t)) (.cells B u); simpa using this
    simp [World.frozen?, b1.trans e]
theorem pU_tu {zs : List Int} {p : Nat} (hz : ∀ z ∈ zs, 0 ≤ z ∧ z ≤ 255) (hp : p ≤ zs.length) : Leb.tuV (zs.drop p) 32 = (pU zs p 4294967295).v ∧ Leb.tuN (zs.drop p) 32 = ((pU zs p 4294967295).at_ : Int) - p ∧ Leb.tuE (zs.drop p) 32 = (pU zs p 4294967295).e ∧
    0 ≤ (pU zs p 4294967295).v ∧ (pU zs p 4294967295).v < 4294967296 ∧ p ≤ (pU zs p 4294967295).at_ ∧ (pU zs p 4294967295).at_ ≤ zs.length := by
  have hby : ∀ z ∈ zs.drop p, 0 ≤ z ∧ z ≤ 255 := fun z h => hz z (List.mem_of_mem_drop h)
  by_cases he : Leb.tuE (zs.drop p) 32 = 0
  · have hv := tuV_32 hby he
    have hb := tu_bd _ _ he
    rw [List.length_drop] at hb
    rw [pU_ok he (by omega)]
    refine ⟨rfl, ?_, he, hv.1, hv.2, ?_, ?_⟩
    · simp only; omega
    · simp only; omega
    · simp only; omega
  · rw [pU_bad he, (tuV_no he).1, (tuV_no he).2]
    exact ⟨rfl, by simp, rfl, by simp, by simp, by simp, hp⟩

set_option maxRecDepth 100000 in
set_option maxHeartbeats 1600000 in
theorem number_ok (a : Option Addr) (len cap p k : Nat) (zs : List Int) (w : World) (hrow : Row w a len zs) (hl : len ≤ 3000) (hp : p ≤ len) (hc : len ≤ cap) :
    Calls Tryd.prog 72 #[RV a len cap p k 0] w fun e w' => e = .returned (.tuple #[RV a len cap (pU zs p 4294967295).at_ k (pU zs p 4294967295).e, .int .u32 (pU zs p 4294967295).v]) ∧ Below w.heap.size w w' := by
  obtain ⟨t1, t2, t3, t4, t5, t6, t7⟩ := pU_tu hrow.2.1 (show p ≤ zs.length by rw [hrow.1]; exact hp)
  have hq := fun (wx : World) (hb : Below w.heap.size w wx) (a' : Option Addr) (c' : Nat) (hr : Row w a' (len - p) (zs.drop p)) => refTakeU_any a' (len - p) c' (zs.drop p) 32 wx (hr.below (Nat.le_refl _) hb) (by omega)
  rw [t1, t2, t3] at hq
  rw [hrow.1] at t7
  clear t1 t2 t3
  generalize pU zs p 4294967295 = P at *
  have HQ := hide hq; have HRow := hide hrow
  clear hq hrow
  have w32 : IntKind.u32.wrap P.v = P.v := by rw [IntKind.wrap_u32]; omega
  have w64 : IntKind.i64.wrap ((p : Int) + ((P.at_ : Int) - p)) = (P.at_ : Int) := by rw [wr64 _ (by omega)]; omega
  have hb2 := two_allocs w (.cells #[.slice a len cap, .int .i64 p, .int .i64 k, .int .i64 0] 80) (.cells #[.slice none 0 0, .int .i64 0, .int .i64 0, .int .i64 0] 80)
  have HB2 := hide hb2
  by_cases hcp : cap = p
  · subst hcp
    have HR2 := hide (row_full (unhide HRow) cap hc)
    clear hc hb2
    go_enter Tryd.func72, Tryd.ntmps72
    go_wp2_with fail
    refine (unhide HQ _ (unhide HB2) _ _ (unhide HR2)).mono ?_
    rintro e w3 ⟨rfl, hb3⟩
    have hbx := boxes2 hb3
    have c0 : w3.cell? ⟨w.heap.size, 0, none⟩ = some (.slice a len cap) := hbx.1 0
    have c1 : w3.cell? ⟨w.heap.size, 1, none⟩ = some (.int .i64 cap) := hbx.1 1
    have c2 : w3.cell? ⟨w.heap.size, 2, none⟩ = some (.int .i64 k) := hbx.1 2
    have c3 : w3.cell? ⟨w.heap.size, 3, none⟩ = some (.int .i64 0) := hbx.1 3
    have d0 : w3.cell? ⟨w.heap.size + 1, 0, none⟩ = some (.slice none 0 0) := hbx.2.1 0
    have d1 : w3.cell? ⟨w.heap.size + 1, 1, none⟩ = some (.int .i64 0) := hbx.2.1 1
    have d2 : w3.cell? ⟨w.heap.size + 1, 2, none⟩ = some (.int .i64 0) := hbx.2.1 2
    have d3 : w3.cell? ⟨w.heap.size + 1, 3, none⟩ = some (.int .i64 0) := hbx.2.1 3
    have f0 := hbx.2.2.1 0; have f1 := hbx.2.2.1 1; have f2 := hbx.2.2.1 2; have f3 := hbx.2.2.1 3
    have g0 := hbx.2.2.2.1 0; have g1 := hbx.2.2.2.1 1; have g2 := hbx.2.2.2.1 2; have g3 := hbx.2.2.2.1 3
    have HB3 := hide (Below.on (unhide HB2) hb3); have HSz := hide hbx.2.2.2.2
    clear hbx hb3
    generalize hN : w.heap.size = N at *
    go_wp2_with fail
    refine bodyPost_ret (v := .tuple #[RV a len cap P.at_ k P.e, .int .u32 P.v]) (by simp [results, Tryd.results72, go_sem, c0, c1, c2, c3, d0, d1, d2, d3, f0, f1, f2, f3, g0, g1, g2, g3]) rfl ?_
    refine ⟨rfl, ?_⟩
    rw [hN]
    exact (((((unhide HB3).setCell (p := ⟨N, 1, none⟩) (Nat.le_refl _) _).setCell (p := ⟨N, 3, none⟩) (Nat.le_refl _) _).setCell (p := ⟨N + 1, 0, none⟩) (Nat.le_succ _) _).setCell (p := ⟨N + 1, 1, none⟩) (Nat.le_succ _) _).setCell (p := ⟨N + 1, 2, none⟩) (Nat.le_succ _) _ |>.setCell (p := ⟨N + 1, 3, none⟩) (Nat.le_succ _) _
  · have HR2 := hide (row_from (unhide HRow) p hp)
    have hcq : ¬ p = cap := fun e => hcp e.symm
    clear hb2
    go_enter Tryd.func72, Tryd.ntmps72
    go_wp2_with fail
    refine (unhide HQ _ (unhide HB2) _ _ (unhide HR2)).mono ?_
    rintro e w3 ⟨rfl, hb3⟩
    have hbx := boxes2 hb3
    have c0 : w3.cell? ⟨w.heap.size, 0, none⟩ = some (.slice a len cap) := hbx.1 0
    have c1 : w3.cell? ⟨w.heap.size, 1, none⟩ = some (.int .i64 p) := hbx.1 1
    have c2 : w3.cell? ⟨w.heap.size, 2, none⟩ = some (.int .i64 k) := hbx.1 2
    have c3 : w3.cell? ⟨w.heap.size, 3, none⟩ = some (.int .i64 0) := hbx.1 3
    have d0 : w3.cell? ⟨w.heap.size + 1, 0, none⟩ = some (.slice none 0 0) := hbx.2.1 0
    have d1 : w3.cell? ⟨w.heap.size + 1, 1, none⟩ = some (.int .i64 0) := hbx.2.1 1
    have d2 : w3.cell? ⟨w.heap.size + 1, 2, none⟩ = some (.int .i64 0) := hbx.2.1 2
    have d3 : w3.cell? ⟨w.heap.size + 1, 3, none⟩ = some (.int .i64 0) := hbx.2.1 3
    have f0 := hbx.2.2.1 0; have f1 := hbx.2.2.1 1; have f2 := hbx.2.2.1 2; have f3 := hbx.2.2.1 3
    have g0 := hbx.2.2.2.1 0; have g1 := hbx.2.2.2.1 1; have g2 := hbx.2.2.2.1 2; have g3 := hbx.2.2.2.1 3
    have HB3 := hide (Below.on (unhide HB2) hb3); have HSz := hide hbx.2.2.2.2
    clear hbx hb3
    generalize hN : w.heap.size = N at *
    go_wp2_with fail
    refine bodyPost_ret (v := .tuple #[RV a len cap P.at_ k P.e, .int .u32 P.v]) (by simp [results, Tryd.results72, go_sem, c0, c1, c2, c3, d0, d1, d2, d3, f0, f1, f2, f3, g0, g1, g2, g3]) rfl ?_
    refine ⟨rfl, ?_⟩
    rw [hN]
    exact (((((unhide HB3).setCell (p := ⟨N, 1, none⟩) (Nat.le_refl _) _).setCell (p := ⟨N, 3, none⟩) (Nat.le_refl _) _).setCell (p := ⟨N + 1, 0, none⟩) (Nat.le_succ _) _).setCell (p := ⟨N + 1, 1, none⟩) (Nat.le_succ _) _).setCell (p := ⟨N + 1, 2, none⟩) (Nat.le_succ _) _ |>.setCell (p := ⟨N + 1, 3, none⟩) (Nat.le_succ _) _
theorem pS_ts (bits : Int) {zs : List Int} {p : Nat} (hp : p ≤ zs.length) : Leb.tsV (zs.drop p) bits = (pS zs p bits).v ∧ Leb.tsN (zs.drop p) bits = ((pS zs p bits).at_ : Int) - p ∧ Leb.tsE (zs.drop p) bits = (pS zs p bits).e ∧
    p ≤ (pS zs p bits).at_ ∧ (pS zs p bits).at_ ≤ zs.length := by
  by_cases he : Leb.tsE (zs.drop p) bits = 0
  · have hb := ts_bd _ _ he
    rw [List.length_drop] at hb
    rw [pS_ok he]
    refine ⟨rfl, ?_, he, ?_, ?_⟩
    · simp only; omega
    · simp only; omega
    · simp only; omega
  · rw [pS_bad he, (tsV_no he).1, (tsV_no he).2]
    exact ⟨rfl, by simp, rfl, by simp, hp⟩
set_option maxRecDepth 100000 in
set_option maxHeartbeats 1600000 in
theorem signed_ok (bits : Int) (hbits : bits = 32 ∨ bits = 64) (a : Option Addr) (len cap p k : Nat) (zs : List Int) (w : World) (hrow : Row w a len zs) (hl : len ≤ 3000) (hp : p ≤ len) (hc : len ≤ cap) :
    Calls Tryd.prog 71 #[RV a len cap p k 0, .int .i64 bits] w fun e w' => e = .returned (.tuple #[RV a len cap (pS zs p bits).at_ k (pS zs p bits).e, .int .i64 (pS zs p bits).v]) ∧ Below w.heap.size w w' := by
  obtain ⟨t1, t2, t3, t6, t7⟩ := pS_ts bits (show p ≤ zs.length by rw [hrow.1]; exact hp)
  have hq := fun (wx : World) (hb : Below w.heap.size w wx) (a' : Option Addr) (c' : Nat) (hr : Row w a' (len - p) (zs.drop p)) => refTakeS_any a' (len - p) c' (zs.drop p) bits wx (hr.below (Nat.le_refl _) hb) (by omega)
  rw [t1, t2, t3] at hq
  rw [hrow.1] at t7
  clear t1 t2 t3
  generalize pS zs p bits = P at *
  have HQ := hide hq; have HRow := hide hrow
  clear hq hrow
  have w64 : IntKind.i64.wrap ((p : Int) + ((P.at_ : Int) - p)) = (P.at_ : Int) := by rw [wr64 _ (by omega)]; omega
  have hb2 := two_allocs w (.cells #[.slice a len cap, .int .i64 p, .int .i64 k, .int .i64 0] 80) (.cells #[.slice none 0 0, .int .i64 0, .int .i64 0, .int .i64 0] 80)
  have HB2 := hide hb2
  by_cases hcp : cap = p
  · subst hcp
    have HR2 := hide (row_full (unhide HRow) cap hc)
    clear hc hb2
    go_enter Tryd.func71, Tryd.ntmps71
    go_wp2_with fail
    refine (unhide HQ _ (unhide HB2) _ _ (unhide HR2)).mono ?_
    rintro e w3 ⟨rfl, hb3⟩
    have hbx := boxes2 hb3
    have c0 : w3.cell? ⟨w.heap.size, 0, none⟩ = some (.slice a len cap) := hbx.1 0
    have c1 : w3.cell? ⟨w.heap.size, 1, none⟩ = some (.int .i64 cap) := hbx.1 1
    have c2 : w3.cell? ⟨w.heap.size, 2, none⟩ = some (.int .i64 k) := hbx.1 2
    have c3 : w3.cell? ⟨w.heap.size, 3, none⟩ = some (.int .i64 0) := hbx.1 3
    have d0 : w3.cell? ⟨w.heap.size + 1, 0, none⟩ = some (.slice none 0 0) := hbx.2.1 0
    have d1 : w3.cell? ⟨w.heap.size + 1, 1, none⟩ = some (.int .i64 0) := hbx.2.1 1
    have d2 : w3.cell? ⟨w.heap.size + 1, 2, none⟩ = some (.int .i64 0) := hbx.2.1 2
    have d3 : w3.cell? ⟨w.heap.size + 1, 3, none⟩ = some (.int .i64 0) := hbx.2.1 3
    have f0 := hbx.2.2.1 0; have f1 := hbx.2.2.1 1; have f2 := hbx.2.2.1 2; have f3 := hbx.2.2.1 3
    have g0 := hbx.2.2.2.1 0; have g1 := hbx.2.2.2.1 1; have g2 := hbx.2.2.2.1 2; have g3 := hbx.2.2.2.1 3
    have HB3 := hide (Below.on (unhide HB2) hb3); have HSz := hide hbx.2.2.2.2
    clear hbx hb3
    generalize hN : w.heap.size = N at *
    go_wp2_with fail
    refine bodyPost_ret (v := .tuple #[RV a len cap P.at_ k P.e, .int .i64 P.v]) (by simp [results, Tryd.results71, go_sem, c0, c1, c2, c3, d0, d1, d2, d3, f0, f1, f2, f3, g0, g1, g2, g3]) rfl ?_
    refine ⟨rfl, ?_⟩
    rw [hN]
    exact (((((unhide HB3).setCell (p := ⟨N, 1, none⟩) (Nat.le_refl _) _).setCell (p := ⟨N, 3, none⟩) (Nat.le_refl _) _).setCell (p := ⟨N + 1, 0, none⟩) (Nat.le_succ _) _).setCell (p := ⟨N + 1, 1, none⟩) (Nat.le_succ _) _).setCell (p := ⟨N + 1, 2, none⟩) (Nat.le_succ _) _ |>.setCell (p := ⟨N + 1, 3, none⟩) (Nat.le_succ _) _
  · have HR2 := hide (row_from (unhide HRow) p hp)
    have hcq : ¬ p = cap := fun e => hcp e.symm
    clear hb2
    go_enter Tryd.func71, Tryd.ntmps71
    go_wp2_with fail
    refine (unhide HQ _ (unhide HB2) _ _ (unhide HR2)).mono ?_
    rintro e w3 ⟨rfl, hb3⟩
    have hbx := boxes2 hb3
    have c0 : w3.cell? ⟨w.heap.size, 0, none⟩ = some (.slice a len cap) := hbx.1 0
    have c1 : w3.cell? ⟨w.heap.size, 1, none⟩ = some (.int .i64 p) := hbx.1 1
    have c2 : w3.cell? ⟨w.heap.size, 2, none⟩ = some (.int .i64 k) := hbx.1 2
    have c3 : w3.cell? ⟨w.heap.size, 3, none⟩ = some (.int .i64 0) := hbx.1 3
    have d0 : w3.cell? ⟨w.heap.size + 1, 0, none⟩ = some (.slice none 0 0) := hbx.2.1 0
    have d1 : w3.cell? ⟨w.heap.size + 1, 1, none⟩ = some (.int .i64 0) := hbx.2.1 1
    have d2 : w3.cell? ⟨w.heap.size + 1, 2, none⟩ = some (.int .i64 0) := hbx.2.1 2
    have d3 : w3.cell? ⟨w.heap.size + 1, 3, none⟩ = some (.int .i64 0) := hbx.2.1 3
    have f0 := hbx.2.2.1 0; have f1 := hbx.2.2.1 1; have f2 := hbx.2.2.1 2; have f3 := hbx.2.2.1 3
    have g0 := hbx.2.2.2.1 0; have g1 := hbx.2.2.2.1 1; have g2 := hbx.2.2.2.1 2; have g3 := hbx.2.2.2.1 3
    have HB3 := hide (Below.on (unhide HB2) hb3); have HSz := hide hbx.2.2.2.2
    clear hbx hb3
    generalize hN : w.heap.size = N at *
    go_wp2_with fail
    refine bodyPost_ret (v := .tuple #[RV a len cap P.at_ k P.e, .int .i64 P.v]) (by simp [results, Tryd.results71, go_sem, c0, c1, c2, c3, d0, d1, d2, d3, f0, f1, f2, f3, g0, g1, g2, g3]) rfl ?_
    refine ⟨rfl, ?_⟩
    rw [hN]
    exact (((((unhide HB3).setCell (p := ⟨N, 1, none⟩) (Nat.le_refl _) _).setCell (p := ⟨N, 3, none⟩) (Nat.le_refl _) _).setCell (p := ⟨N + 1, 0, none⟩) (Nat.le_succ _) _).setCell (p := ⟨N + 1, 1, none⟩) (Nat.le_succ _) _).setCell (p := ⟨N + 1, 2, none⟩) (Nat.le_succ _) _ |>.setCell (p := ⟨N + 1, 3, none⟩) (Nat.le_succ _) _
set_option maxRecDepth 100000 in
set_option maxHeartbeats 1600000 in
theorem number_err (a : Option Addr) (len cap p k : Nat) (er : Int) (he : ¬ er = 0) (w : World) :
    Calls Tryd.prog 72 #[RV a len cap p k er] w fun e w' => e = .returned (.tuple #[RV a len cap p k er, .int .u32 0]) ∧ Below w.heap.size w w' := by
  have t : (er != 0) = true := by simpa using he
  clear he
  have HB2 := hide (two_allocs w (.cells #[.slice a len cap, .int .i64 p, .int .i64 k, .int .i64 er] 80) (.cells #[.slice a len cap, .int .i64 p, .int .i64 k, .int .i64 er] 80))
  go_enter Tryd.func72, Tryd.ntmps72
  go_wp2_with fail
  refine bodyPost_ret (v := .tuple #[RV a len cap p k er, .int .u32 0]) (by simp [results, Tryd.results72, go_sem]) rfl ?_
  exact ⟨rfl, unhide HB2⟩
end Ex
end Go.Proofs.YtjhmglefejclpaaDoor

/- The document's reader: nought, kind. -/
namespace Go.Proofs.YtjhmglefejclpaaDoor
open Go.RowKit
namespace Ex
set_option linter.unusedVariables false
set_option linter.unusedSimpArgs false

theorem below1 {w w' : World} {N : Nat} (h : Below N w w') (o : Nat) (v : Value) : Below N w (w'.setCell ⟨N, o, none⟩ v) := h.setCell (p := ⟨N, o, none⟩) (Nat.le_refl _) _
theorem row_byte {w : World} {a : Option Addr} {len : Nat} {zs : List Int} (h : Row w a len zs) {p : Nat} (hp : p < len) : ∃ b o, a = some ⟨b, o, none⟩ ∧ b < w.heap.size ∧ w.cell? ⟨b, o + p, none⟩ = some (.int .u8 (zs.getD p 0)) := by
  obtain ⟨b, o, e, hb, hc⟩ := h.2.2 (by omega)
  exact ⟨b, o, e, hb, hc p hp⟩
set_option maxRecDepth 100000 in
set_option maxHeartbeats 1600000 in
theorem nought_err (a : Option Addr) (len cap p k : Nat) (w : World) (er : Int) (he : ¬ er = 0) :
    Calls Tryd.prog 73 #[RV a len cap p k er] w fun e w' => e = .returned (RV a len cap p k er) ∧ Below w.heap.size w w' := by
  have t : (er != 0) = true := by simpa using he
  clear he
  go_enter Tryd.func73, Tryd.ntmps73
  go_wp2_with fail
  refine bodyPost_ret (v := RV a len cap p k er) (by simp [results, Tryd.results73, go_sem]) rfl ?_
  refine ⟨rfl, ?_⟩
  exact two_allocs _ _ _
set_option maxRecDepth 100000 in
set_option maxHeartbeats 1600000 in
theorem nought_end (a : Option Addr) (len cap p k : Nat) (w : World) (hp : len ≤ p) :
    Calls Tryd.prog 73 #[RV a len cap p k 0] w fun e w' => e = .returned (RV a len cap p k 4) ∧ Below w.heap.size w w' := by
  have hp2 : (len : Int) ≤ p := by omega
  go_enter Tryd.func73, Tryd.ntmps73
  go_wp2_with fail
  refine bodyPost_ret (v := RV a len cap p k 4) (by simp [results, Tryd.results73, go_sem]) rfl ?_
  refine ⟨rfl, ?_⟩
  exact two_allocs _ _ _
set_option maxRecDepth 100000 in
set_option maxHeartbeats 1600000 in
theorem nought_bad (a : Option Addr) (len cap p k : Nat) (w : World) (b o : Nat) (ha : a = some ⟨b, o, none⟩) (z : Int) (hz : w.cell? ⟨b, o + p, none⟩ = some (.int .u8 z)) (hb : b < w.heap.size) (hp : p < len) (hc : len ≤ cap) (hl : len ≤ 3000) (he : ¬ z = 0) :
    Calls Tryd.prog 73 #[RV a len cap p k 0] w fun e w' => e = .returned (RV a len cap p k 6) ∧ Below w.heap.size w w' := by
  subst ha
  have hp2 : (p : Int) < len := by omega
  have n1 : ¬ b = w.heap.size := by omega
  have n2 : ¬ b = w.heap.size + 1 := by omega
  have w1 : IntKind.i64.wrap ((p : Int) + 1) = (p : Int) + 1 := by rw [wr64 _ (by omega)]
  have t : (z != 0) = true := by simpa using he
  clear he
  go_enter Tryd.func73, Tryd.ntmps73
  go_wp2_with fail
  refine bodyPost_ret (v := RV (some ⟨b, o, none⟩) len cap p k 6) (by simp [results, Tryd.results73, go_sem]) rfl ?_
  refine ⟨rfl, ?_⟩
  exact two_allocs _ _ _
set_option maxRecDepth 100000 in
set_option maxHeartbeats 1600000 in
theorem nought_yes (a : Option Addr) (len cap p k : Nat) (w : World) (b o : Nat) (ha : a = some ⟨b, o, none⟩) (z : Int) (hz : w.cell? ⟨b, o + p, none⟩ = some (.int .u8 z)) (hb : b < w.heap.size) (hp : p < len) (hc : len ≤ cap) (hl : len ≤ 3000) (he : z = 0) :
    Calls Tryd.prog 73 #[RV a len cap p k 0] w fun e w' => e = .returned (RV a len cap (p + 1) k 0) ∧ Below w.heap.size w w' := by
  subst ha
  have hp2 : (p : Int) < len := by omega
  have n1 : ¬ b = w.heap.size := by omega
  have n2 : ¬ b = w.heap.size + 1 := by omega
  have w1 : IntKind.i64.wrap ((p : Int) + 1) = (p : Int) + 1 := by rw [wr64 _ (by omega)]
  subst he
  go_enter Tryd.func73, Tryd.ntmps73
  go_wp2_with fail
  refine bodyPost_ret (v := RV (some ⟨b, o, none⟩) len cap (p + 1) k 0) (by simp [results, Tryd.results73, go_sem]) rfl ?_
  refine ⟨rfl, ?_⟩
  exact two_allocs _ _ _
set_option maxRecDepth 100000 in
set_option maxHeartbeats 1600000 in
theorem kind_end (a : Option Addr) (len cap p k : Nat) (w : World) (hp : len ≤ p) :
    Calls Tryd.prog 75 #[RV a len cap p k 0] w fun e w' => e = .returned (.tuple #[RV a len cap p k 4, .int .u8 0]) ∧ Below w.heap.size w w' := by
  have hp2 : (len : Int) ≤ p := by omega
  go_enter Tryd.func75, Tryd.ntmps75
  go_wp2_with fail
  refine bodyPost_ret (v := .tuple #[RV a len cap p k 4, .int .u8 0]) (by simp [results, Tryd.results75, go_sem]) rfl ?_
  refine ⟨rfl, ?_⟩
  exact two_allocs _ _ _
set_option maxRecDepth 100000 in
set_option maxHeartbeats 1600000 in
theorem kind_127 (a : Option Addr) (len cap p k : Nat) (w : World) (b o : Nat) (ha : a = some ⟨b, o, none⟩) (z : Int) (hz : w.cell? ⟨b, o + p, none⟩ = some (.int .u8 z)) (hb : b < w.heap.size) (hp : p < len) (hc : len ≤ cap) (hl : len ≤ 3000) (he : z = 127) :
    Calls Tryd.prog 75 #[RV a len cap p k 0] w fun e w' => e = .returned (.tuple #[RV a len cap (p + 1) k 0, .int .u8 127]) ∧ Below w.heap.size w w' := by
  subst ha
  have hp2 : (p : Int) < len := by omega
  have n1 : ¬ b = w.heap.size := by omega
  have n2 : ¬ b = w.heap.size + 1 := by omega
  have w1 : IntKind.i64.wrap ((p : Int) + 1) = (p : Int) + 1 := by rw [wr64 _ (by omega)]
  subst he
  go_enter Tryd.func75, Tryd.ntmps75
  go_wp2_with fail
  refine bodyPost_ret (v := .tuple #[RV (some ⟨b, o, none⟩) len cap (p + 1) k 0, .int .u8 127]) (by simp [results, Tryd.results75, go_sem]) rfl ?_
  refine ⟨rfl, ?_⟩
  exact two_allocs _ _ _
set_option maxRecDepth 100000 in
set_option maxHeartbeats 1600000 in
theorem kind_126 (a : Option Addr) (len cap p k : Nat) (w : World) (b o : Nat) (ha : a = some ⟨b, o, none⟩) (z : Int) (hz : w.cell? ⟨b, o + p, none⟩ = some (.int .u8 z)) (hb : b < w.heap.size) (hp : p < len) (hc : len ≤ cap) (hl : len ≤ 3000) (he : z = 126) :
    Calls Tryd.prog 75 #[RV a len cap p k 0] w fun e w' => e = .returned (.tuple #[RV a len cap (p + 1) k 0, .int .u8 126]) ∧ Below w.heap.size w w' := by
  subst ha
  have hp2 : (p : Int) < len := by omega
  have n1 : ¬ b = w.heap.size := by omega
  have n2 : ¬ b = w.heap.size + 1 := by omega
  have w1 : IntKind.i64.wrap ((p : Int) + 1) = (p : Int) + 1 := by rw [wr64 _ (by omega)]
  subst he
  go_enter Tryd.func75, Tryd.ntmps75
  go_wp2_with fail
  refine bodyPost_ret (v := .tuple #[RV (some ⟨b, o, none⟩) len cap (p + 1) k 0, .int .u8 126]) (by simp [results, Tryd.results75, go_sem]) rfl ?_
  refine ⟨rfl, ?_⟩
  exact two_allocs _ _ _
set_option maxRecDepth 100000 in
set_option maxHeartbeats 1600000 in
theorem kind_64 (a : Option Addr) (len cap p k : Nat) (w : World) (b o : Nat) (ha : a = some ⟨b, o, none⟩) (z : Int) (hz : w.cell? ⟨b, o + p, none⟩ = some (.int .u8 z)) (hb : b < w.heap.size) (hp : p < len) (hc : len ≤ cap) (hl : len ≤ 3000) (he : z = 64) :
    Calls Tryd.prog 75 #[RV a len cap p k 0] w fun e w' => e = .returned (.tuple #[RV a len cap (p + 1) k 0, .int .u8 0]) ∧ Below w.heap.size w w' := by
  subst ha
  have hp2 : (p : Int) < len := by omega
  have n1 : ¬ b = w.heap.size := by omega
  have n2 : ¬ b = w.heap.size + 1 := by omega
  have w1 : IntKind.i64.wrap ((p : Int) + 1) = (p : Int) + 1 := by rw [wr64 _ (by omega)]
  subst he
  go_enter Tryd.func75, Tryd.ntmps75
  go_wp2_with fail
  refine bodyPost_ret (v := .tuple #[RV (some ⟨b, o, none⟩) len cap (p + 1) k 0, .int .u8 0]) (by simp [results, Tryd.results75, go_sem]) rfl ?_
  refine ⟨rfl, ?_⟩
  exact two_allocs _ _ _
set_option maxRecDepth 100000 in
set_option maxHeartbeats 1600000 in
theorem kind_125 (a : Option Addr) (len cap p k : Nat) (w : World) (b o : Nat) (ha : a = some ⟨b, o, none⟩) (z : Int) (hz : w.cell? ⟨b, o + p, none⟩ = some (.int .u8 z)) (hb : b < w.heap.size) (hp : p < len) (hc : len ≤ cap) (hl : len ≤ 3000) (he : z = 125) :
    Calls Tryd.prog 75 #[RV a len cap p k 0] w fun e w' => e = .returned (.tuple #[RV a len cap p k 8, .int .u8 0]) ∧ Below w.heap.size w w' := by
  subst ha
  have hp2 : (p : Int) < len := by omega
  have n1 : ¬ b = w.heap.size := by omega
  have n2 : ¬ b = w.heap.size + 1 := by omega
  have w1 : IntKind.i64.wrap ((p : Int) + 1) = (p : Int) + 1 := by rw [wr64 _ (by omega)]
  subst he
  go_enter Tryd.func75, Tryd.ntmps75
  go_wp2_with fail
  refine bodyPost_ret (v := .tuple #[RV (some ⟨b, o, none⟩) len cap p k 8, .int .u8 0]) (by simp [results, Tryd.results75, go_sem]) rfl ?_
  refine ⟨rfl, ?_⟩
  exact two_allocs _ _ _
set_option maxRecDepth 100000 in
set_option maxHeartbeats 1600000 in
theorem kind_124 (a : Option Addr) (len cap p k : Nat) (w : World) (b o : Nat) (ha : a = some ⟨b, o, none⟩) (z : Int) (hz : w.cell? ⟨b, o + p, none⟩ = some (.int .u8 z)) (hb : b < w.heap.size) (hp : p < len) (hc : len ≤ cap) (hl : len ≤ 3000) (he : z = 124) :
    Calls Tryd.prog 75 #[RV a len cap p k 0] w fun e w' => e = .returned (.tuple #[RV a len cap p k 8, .int .u8 0]) ∧ Below w.heap.size w w' := by
  subst ha
  have hp2 : (p : Int) < len := by omega
  have n1 : ¬ b = w.heap.size := by omega
  have n2 : ¬ b = w.heap.size + 1 := by omega
  have w1 : IntKind.i64.wrap ((p : Int) + 1) = (p : Int) + 1 := by rw [wr64 _ (by omega)]
  subst he
  go_enter Tryd.func75, Tryd.ntmps75
  go_wp2_with fail
  refine bodyPost_ret (v := .tuple #[RV (some ⟨b, o, none⟩) len cap p k 8, .int .u8 0]) (by simp [results, Tryd.results75, go_sem]) rfl ?_
  refine ⟨rfl, ?_⟩
  exact two_allocs _ _ _
set_option maxRecDepth 100000 in
set_option maxHeartbeats 1600000 in
theorem kind_bad (a : Option Addr) (len cap p k : Nat) (w : World) (b o : Nat) (ha : a = some ⟨b, o, none⟩) (z : Int) (hz : w.cell? ⟨b, o + p, none⟩ = some (.int .u8 z)) (hb : b < w.heap.size) (hp : p < len) (hc : len ≤ cap) (hl : len ≤ 3000) (h127 : ¬ z = 127) (h126 : ¬ z = 126) (h64 : ¬ z = 64) (h125 : ¬ z = 125) (h124 : ¬ z = 124) :
    Calls Tryd.prog 75 #[RV a len cap p k 0] w fun e w' => e = .returned (.tuple #[RV a len cap p k 6, .int .u8 0]) ∧ Below w.heap.size w w' := by
  subst ha
  have hp2 : (p : Int) < len := by omega
  have n1 : ¬ b = w.heap.size := by omega
  have n2 : ¬ b = w.heap.size + 1 := by omega
  have w1 : IntKind.i64.wrap ((p : Int) + 1) = (p : Int) + 1 := by rw [wr64 _ (by omega)]
  have t127 : (z == 127) = false := by simpa using h127
  have t126 : (z == 126) = false := by simpa using h126
  have t64 : (z == 64) = false := by simpa using h64
  have t125 : (z == 125) = false := by simpa using h125
  have t124 : (z == 124) = false := by simpa using h124
  clear h127 h126 h64 h125 h124
  go_enter Tryd.func75, Tryd.ntmps75
  go_wp2_with fail
  refine bodyPost_ret (v := .tuple #[RV (some ⟨b, o, none⟩) len cap p k 6, .int .u8 0]) (by simp [results, Tryd.results75, go_sem]) rfl ?_
  refine ⟨rfl, ?_⟩
  exact two_allocs _ _ _
theorem nought_any (a : Option Addr) (len cap p k : Nat) (zs : List Int) (w : World) (hrow : Row w a len zs) (hl : len ≤ 3000) (hc : len ≤ cap) :
    Calls Tryd.prog 73 #[RV a len cap p k 0] w fun e w' => e = .returned (RV a len cap (pB zs p jZ).at_ k (pB zs p jZ).e) ∧ Below w.heap.size w w' := by
  unfold pB
  rw [hrow.1]
  by_cases h : len ≤ p
  · rw [if_pos h]; exact nought_end a len cap p k w h
  · rw [if_neg h]
    obtain ⟨b, o, ha, hb, hz⟩ := row_byte hrow (p := p) (by omega)
    by_cases hj : jZ (zs.getD p 0) = 0
    · rw [if_pos hj]
      exact nought_yes a len cap p k w b o ha _ hz hb (by omega) hc hl (by unfold jZ at hj; split at hj; assumption; omega)
    · rw [if_neg hj]
      have h0 : ¬ zs.getD p 0 = 0 := fun e => hj (by rw [e]; rfl)
      have h6 : jZ (zs.getD p 0) = 6 := by unfold jZ; rw [if_neg h0]
      rw [h6]
      exact nought_bad a len cap p k w b o ha _ hz hb (by omega) hc hl h0
theorem kind_any (a : Option Addr) (len cap p k : Nat) (zs : List Int) (w : World) (hrow : Row w a len zs) (hl : len ≤ 3000) (hc : len ≤ cap) :
    Calls Tryd.prog 75 #[RV a len cap p k 0] w fun e w' => e = .returned (.tuple #[RV a len cap (pB zs p jK).at_ k (pB zs p jK).e, .int .u8 (kV (pB zs p jK).v)]) ∧ Below w.heap.size w w' := by
  unfold pB
  rw [hrow.1]
  by_cases h : len ≤ p
  · rw [if_pos h]; exact kind_end a len cap p k w h
  · rw [if_neg h]
    obtain ⟨b, o, ha, hb, hz⟩ := row_byte hrow (p := p) (by omega)
    generalize zs.getD p 0 = z at *
    by_cases h1 : z = 127
    · subst h1; exact kind_127 a len cap p k w b o ha _ hz hb (by omega) hc hl rfl
    by_cases h2 : z = 126
    · subst h2; exact kind_126 a len cap p k w b o ha _ hz hb (by omega) hc hl rfl
    by_cases h3 : z = 64
    · subst h3; exact kind_64 a len cap p k w b o ha _ hz hb (by omega) hc hl rfl
    by_cases h4 : z = 125
    · subst h4; exact kind_125 a len cap p k w b o ha _ hz hb (by omega) hc hl rfl
    by_cases h5 : z = 124
    · subst h5; exact kind_124 a len cap p k w b o ha _ hz hb (by omega) hc hl rfl
    have h6 : jK z = 6 := by unfold jK; rw [if_neg (by rintro (e | e | e); exact h3 e; exact h1 e; exact h2 e), if_neg (by rintro (e | e); exact h4 e; exact h5 e)]
    rw [h6, if_neg (by decide)]
    exact kind_bad a len cap p k w b o ha _ hz hb (by omega) hc hl h1 h2 h3 h4 h5
end Ex
end Go.Proofs.YtjhmglefejclpaaDoor

/- The document's labels. -/
namespace Go.Proofs.YtjhmglefejclpaaDoor
open Go.RowKit
namespace Ex
set_option linter.unusedVariables false
set_option linter.unusedSimpArgs false

set_option maxRecDepth 100000 in
set_option maxHeartbeats 1600000 in
theorem labels_no (a : Option Addr) (len cap p k : Nat) (zs : List Int) (w : World) (hrow : Row w a len zs) (hl : len ≤ 3000) (hp : p ≤ len) (hc : len ≤ cap) (he : ¬ (pU zs p 4294967295).e = 0) :
    Calls Tryd.prog 74 #[RV a len cap p k 0] w fun e w' => e = .returned (.tuple #[RV a len cap (pU zs p 4294967295).at_ k (pU zs p 4294967295).e, .slice none 0 0]) ∧ Below w.heap.size w w' := by
  have hq := fun (wx : World) (hb : Below w.heap.size w wx) => number_ok a len cap p k zs wx (hrow.below (Nat.le_refl _) hb) hl hp hc
  obtain ⟨t1, t2, t3, t4, t5, t6, t7⟩ := pU_tu hrow.2.1 (show p ≤ zs.length by rw [hrow.1]; exact hp)
  clear t1 t2 t3
  generalize pU zs p 4294967295 = P at *
  have t : (P.e != 0) = true := by simpa using he
  clear he
  have HQ := hide hq; have HRow := hide hrow
  clear hq hrow
  have HB2 := hide (two_allocs w (.cells #[.slice a len cap, .int .i64 p, .int .i64 k, .int .i64 0] 80) (.cells #[.slice none 0 0, .int .i64 0, .int .i64 0, .int .i64 0] 80))
  go_enter Tryd.func74, Tryd.ntmps74
  go_wp2_with fail
  refine (unhide HQ _ (unhide HB2)).mono ?_
  rintro e w3 ⟨rfl, hb3⟩
  have hbx := boxes2 hb3
  have c0 : w3.cell? ⟨w.heap.size, 0, none⟩ = some (.slice a len cap) := hbx.1 0
  have c1 : w3.cell? ⟨w.heap.size, 1, none⟩ = some (.int .i64 p) := hbx.1 1
  have c2 : w3.cell? ⟨w.heap.size, 2, none⟩ = some (.int .i64 k) := hbx.1 2
  have c3 : w3.cell? ⟨w.heap.size, 3, none⟩ = some (.int .i64 0) := hbx.1 3
  have d0 : w3.cell? ⟨w.heap.size + 1, 0, none⟩ = some (.slice none 0 0) := hbx.2.1 0
  have d1 : w3.cell? ⟨w.heap.size + 1, 1, none⟩ = some (.int .i64 0) := hbx.2.1 1
  have d2 : w3.cell? ⟨w.heap.size + 1, 2, none⟩ = some (.int .i64 0) := hbx.2.1 2
  have d3 : w3.cell? ⟨w.heap.size + 1, 3, none⟩ = some (.int .i64 0) := hbx.2.1 3
  have f0 := hbx.2.2.1 0; have f1 := hbx.2.2.1 1; have f2 := hbx.2.2.1 2; have f3 := hbx.2.2.1 3
  have g0 := hbx.2.2.2.1 0; have g1 := hbx.2.2.2.1 1; have g2 := hbx.2.2.2.1 2; have g3 := hbx.2.2.2.1 3
  have HB3 := hide (Below.on (unhide HB2) hb3)
  clear hbx hb3
  generalize hN : w.heap.size = N at *
  go_wp2_with fail
  refine bodyPost_ret (v := .tuple #[RV a len cap P.at_ k P.e, .slice none 0 0]) (by simp [results, Tryd.results74, go_sem, c0, c1, c2, c3, d0, d1, d2, d3, f0, f1, f2, f3, g0, g1, g2, g3]) rfl ?_
  refine ⟨rfl, ?_⟩
  rw [hN]
  have h3 := unhide HB3
  repeat' (with_reducible refine Below.setCell ?_ ?_ _)
  all_goals first | with_reducible assumption | exact Nat.le_refl _ | exact Nat.le_succ _
end Ex
end Go.Proofs.YtjhmglefejclpaaDoor

/- Lists of the document's instructions, of the call's own. -/
namespace Go.Proofs.YtjhmglefejclpaaDoor
open Go.RowKit
namespace Ex
set_option linter.unusedVariables false

def OwnR (w : World) (B : Nat) (G : Nat → Prop) (v : Value) (l : List Ins) : Prop := ∃ xs, w.ownsRow B 55 8 v l.length xs ∧ Its w (own G v) l xs
theorem OwnR_nil (w : World) (B : Nat) (G : Nat → Prop) : OwnR w B G (.slice none 0 0) [] := ⟨[], World.ownsRow_nil _ _ _ _, rfl⟩
theorem OwnR.code {w : World} {B : Nat} {G : Nat → Prop} {v : Value} {l : List Ins} (h : OwnR w B G v l) {g' : Nat → Prop} (hg' : ∀ k, k < w.heap.size → G k ∨ B ≤ k → g' k) : Code w g' l v := by
  obtain ⟨xs, hx, hi⟩ := h
  have hx0 := hx
  rcases hx.2 with ⟨rfl, h0⟩ | ⟨g, cap, cur, rfl, hg, hc, hn, _⟩
  · rw [List.eq_nil_of_length_eq_zero h0]; exact Code_nil _ _
  · have hlt : g < w.heap.size := (Array.getElem?_eq_some_iff.1 hc).1
    refine ⟨_, cap, rfl, hn, by simp, fun hl => ⟨g, 0, rfl, hg' g hlt (.inr hg), ?_⟩⟩
    have : Items w (own G (.slice (some ⟨g, 0, none⟩) l.length cap)) l g 0 := Its.items hi fun j u hj => by rw [Nat.zero_add]; exact row_cells hx0 j u hj
    exact Items.move (moves_below (Below.refl _ _) (fun k hk h => hg' k hk (.inl h.2))) l g 0 rfl this
theorem OwnR.shape {w : World} {B : Nat} {G : Nat → Prop} {v : Value} {l : List Ins} (h : OwnR w B G v l) : ∃ a cap, v = .slice a l.length cap ∧ l.length ≤ cap := by
  obtain ⟨xs, hx, hi⟩ := h
  rcases hx.2 with ⟨rfl, h0⟩ | ⟨g, cap, cur, rfl, hg, hc, hn, _⟩
  · exact ⟨none, 0, by rw [h0], by omega⟩
  · exact ⟨_, cap, rfl, hn⟩
/-- behind calls that turn none of it -/
theorem OwnR.move {w w' : World} {B : Nat} {G : Nat → Prop} {v : Value} {l : List Ins} (h : OwnR w B G v l) (ho : ∀ k, v.ownBlock = some k → w'.heap[k]? = w.heap[k]?) (hm : Moves w w' (own G v) (own G v)) : OwnR w' B G v l := by
  obtain ⟨xs, hx, hi⟩ := h
  rcases hx.2 with ⟨rfl, h0⟩ | ⟨g, cap, cur, rfl, hg, hc, hn, h5⟩
  · have hl : l = [] := List.eq_nil_of_length_eq_zero h0
    subst hl
    exact OwnR_nil _ _ _
  · exact ⟨xs, ⟨hx.1, .inr ⟨g, cap, cur, rfl, hg, (ho g rfl).trans hc, hn, h5⟩⟩, Its.move hm hi⟩
theorem OwnR.lt {w : World} {B : Nat} {G : Nat → Prop} {v : Value} {l : List Ins} (h : OwnR w B G v l) : ∀ k, v.ownBlock = some k → B ≤ k ∧ k < w.heap.size := by
  obtain ⟨xs, hx, hi⟩ := h
  exact hx.lt
theorem OwnR.below {w w' : World} {B : Nat} {G : Nat → Prop} {v : Value} {l : List Ins} (h : OwnR w B G v l) (hb : Below w.heap.size w w') : OwnR w' B G v l :=
  h.move (fun k hk => hb.block k (h.lt k hk).2) (moves_below hb (fun _ _ h => h))
/-- the block of such a list -/
theorem OwnR.block {w : World} {B : Nat} {G : Nat → Prop} {v : Value} {l : List Ins} (h : OwnR w B G v l) : ∀ k, v.ownBlock = some k → ∃ cur, w.heap[k]? = some (.cells cur 55 (0, 0)) := by
  obtain ⟨xs, hx, hi⟩ := h
  intro k hk
  rcases hx.2 with ⟨rfl, h0⟩ | ⟨g, cap, cur, rfl, hg, hc, hn, h5⟩
  · cases hk
  · cases hk; exact ⟨cur, hc⟩
/-- one more -/
theorem OwnR.snoc {w w1 : World} {B H : Nat} {G : Nat → Prop} {v : Value} {l : List Ins} {xs : List Value} {i : Ins} {vb ve vl : Value} {g cap : Nat}
    (hx : w.ownsRow B 55 8 v l.length xs) (hi : Its w (own G v) l xs) (h1 : Code w (own G v) i.body vb) (h2 : Code w (own G v) i.els ve) (h3 : Lies (own G v) i.ls.length (Lab w i.ls) vl)
    (hown : w1.ownsRow B 55 8 (.slice (some ⟨g, 0, none⟩) (l.length + 1) cap) (l.length + 1) (xs ++ cel i vb ve vl)) (hgrow : w.grownBy w1 v.ownBlock) (hat : v.ownBlock = some g ∨ g = H) (hH : w.heap.size = H) :
    OwnR w1 B G (.slice (some ⟨g, 0, none⟩) (l.length + 1) cap) (l ++ [i]) := by
  refine ⟨xs ++ cel i vb ve vl, by simpa using hown, ?_⟩
  have hm : Moves w w1 (own G v) (own G (.slice (some ⟨g, 0, none⟩) (l.length + 1) cap)) := by
    intro k hk _ hne
    have hk2 : some k ≠ v.ownBlock := fun e => hne.1 e.symm
    refine ⟨⟨?_, hne.2⟩, hgrow.block k hk hk2⟩
    intro e
    simp only [Value.ownBlock, Option.some.injEq] at e
    subst e
    rcases hat with e | e
    · exact hk2 e.symm
    · omega
  exact Its.snoc (h1.move hm) (h2.move hm) (Labs.move hm h3) (Its.move hm hi)
theorem OwnR.isSl {w : World} {B : Nat} {G : Nat → Prop} {v : Value} {l : List Ins} (h : OwnR w B G v l) : IsSl v := by
  obtain ⟨a, c, rfl, _⟩ := h.shape
  exact ⟨_, _, _, rfl⟩
theorem infoR : (Tryd.prog.info? 55).map (fun i => (i.zero, i.size, i.bytes)) = some (some (.agg #[.int .u8 0, .int .i64 0, .int .u32 0, .int .u32 0, .int .u8 0, .slice none 0 0, .slice none 0 0, .slice none 0 0]), 8, 104) := by kernel_rfl
end Ex
end Go.Proofs.YtjhmglefejclpaaDoor

/- The document's labels, where the first number is right. -/
namespace Go.Proofs.YtjhmglefejclpaaDoor
open Go.RowKit
namespace Ex
set_option linter.unusedVariables false
set_option linter.unusedSimpArgs false

theorem pU_256 {zs : List Int} {p : Nat} (h : (pU zs p 4294967295).e = 0) : pU zs p 256 = if 256 < (pU zs p 4294967295).v then ⟨9, p, 0⟩ else pU zs p 4294967295 := by
  unfold pU at *
  by_cases h1 : Leb.tuE (zs.drop p) 32 = 0
  · rw [if_pos h1] at h ⊢
    rw [if_pos h1]
    by_cases h2 : 4294967295 < Leb.tuV (zs.drop p) 32
    · rw [if_pos h2] at h; exact absurd h (show ¬ (9 : Int) = 0 by decide)
    · rw [if_neg h2]
  · rw [if_neg h1] at h; exact absurd h h1
theorem pU_256_no {zs : List Int} {p : Nat} (h : ¬ (pU zs p 4294967295).e = 0) (hz : ∀ z ∈ zs, 0 ≤ z ∧ z ≤ 255) : pU zs p 256 = ⟨(pU zs p 4294967295).e, p, 0⟩ ∧ (pU zs p 4294967295).at_ = p := by
  unfold pU at *
  by_cases h1 : Leb.tuE (zs.drop p) 32 = 0
  · have hv := tuV_32 (fun z h => hz z (List.mem_of_mem_drop h)) h1
    rw [if_pos h1, if_neg (by omega)] at h; exact absurd rfl h
  · rw [if_neg h1, if_neg h1]; exact ⟨rfl, rfl⟩
theorem pL_stay (zs : List Int) (a k : Nat) {j : Nat} (h : ¬ (pL zs j a k).e = 0) : ∀ i, (pL zs (j + i) a k).e = (pL zs j a k).e ∧ (pL zs (j + i) a k).at_ = (pL zs j a k).at_
  | 0 => ⟨rfl, rfl⟩
  | i + 1 => by
    have ih := pL_stay zs a k h i
    rw [← Nat.add_assoc, pL_snoc, Out.on_no (by rw [ih.1]; exact h)]
    exact ih

/-- where the loop of labels stands -/
structure LbRel (w : World) (N : Nat) (a : Option Addr) (len cap k : Nat) (R : Out (List Int)) (s : Value) (wr : World) : Prop where
  b0 : wr.heap[N]? = some (.cells #[.slice a len cap, .int .i64 R.at_, .int .i64 k, .int .i64 R.e] 80 (0, 0))
  b1 : wr.heap[N + 1]? = some (.cells #[.slice none 0 0, .int .i64 0, .int .i64 0, .int .i64 0] 80 (0, 0))
  bel : Below N w wr
  sl : IsSl s
  own : R.e = 0 → wr.ownsRow (N + 2) 46 1 s R.v.length (R.v.map (Value.int .u32))
namespace LbRel
variable {w wr : World} {N : Nat} {a : Option Addr} {len cap k : Nat} {R : Out (List Int)} {s : Value}
theorem cs (h : LbRel w N a len cap k R s wr) : wr.cell? ⟨N, 0, none⟩ = some (.slice a len cap) ∧ wr.cell? ⟨N, 1, none⟩ = some (.int .i64 R.at_) ∧ wr.cell? ⟨N, 2, none⟩ = some (.int .i64 k) ∧ wr.cell? ⟨N, 3, none⟩ = some (.int .i64 R.e) := by
  have hc := fun j => cell_of_row wr N j _ _ _ h.b0
  exact ⟨hc 0, hc 1, hc 2, hc 3⟩
theorem ds (h : LbRel w N a len cap k R s wr) : wr.cell? ⟨N + 1, 0, none⟩ = some (.slice none 0 0) ∧ wr.cell? ⟨N + 1, 1, none⟩ = some (.int .i64 0) ∧ wr.cell? ⟨N + 1, 2, none⟩ = some (.int .i64 0) ∧ wr.cell? ⟨N + 1, 3, none⟩ = some (.int .i64 0) := by
  have hc := fun j => cell_of_row wr (N + 1) j _ _ _ h.b1
  exact ⟨hc 0, hc 1, hc 2, hc 3⟩
theorem f0 (h : LbRel w N a len cap k R s wr) (i : Nat) : wr.frozen? ⟨N, i, none⟩ = false := by simp [World.frozen?, h.b0]
theorem f1 (h : LbRel w N a len cap k R s wr) (i : Nat) : wr.frozen? ⟨N + 1, i, none⟩ = false := by simp [World.frozen?, h.b1]
theorem lt (h : LbRel w N a len cap k R s wr) : N + 1 < wr.heap.size := (Array.getElem?_eq_some_iff.1 h.b1).1
end LbRel
theorem put4r {w : World} {N : Nat} {r0 r1 r2 r3 : Value} (h : w.heap[N]? = some (.cells #[r0, r1, r2, r3] 80 (0, 0))) (u0 u1 u2 u3 : Value) :
    ((((w.setCell ⟨N, 0, none⟩ u0).setCell ⟨N, 1, none⟩ u1).setCell ⟨N, 2, none⟩ u2).setCell ⟨N, 3, none⟩ u3).heap[N]? = some (.cells #[u0, u1, u2, u3] 80 (0, 0)) ∧
    (∀ q, q ≠ N → ((((w.setCell ⟨N, 0, none⟩ u0).setCell ⟨N, 1, none⟩ u1).setCell ⟨N, 2, none⟩ u2).setCell ⟨N, 3, none⟩ u3).heap[q]? = w.heap[q]?) ∧
    ∀ M W, Below M W w → M ≤ N → Below M W ((((w.setCell ⟨N, 0, none⟩ u0).setCell ⟨N, 1, none⟩ u1).setCell ⟨N, 2, none⟩ u2).setCell ⟨N, 3, none⟩ u3) := by
  have s0 := heap_setCell_same w N 0 _ _ u0 h
  have s1 := heap_setCell_same _ N 1 _ _ u1 s0
  have s2 := heap_setCell_same _ N 2 _ _ u2 s1
  have s3 := heap_setCell_same _ N 3 _ _ u3 s2
  refine ⟨s3, fun q hq => ?_, fun M W hb hM => ?_⟩
  · rw [heap_setCell_other _ ⟨N, 3, none⟩ q _ hq, heap_setCell_other _ ⟨N, 2, none⟩ q _ hq, heap_setCell_other _ ⟨N, 1, none⟩ q _ hq, heap_setCell_other _ ⟨N, 0, none⟩ q _ hq]
  · exact (((hb.setCell (p := ⟨N, 0, none⟩) hM _).setCell (p := ⟨N, 1, none⟩) hM _).setCell (p := ⟨N, 2, none⟩) hM _).setCell (p := ⟨N, 3, none⟩) hM _
set_option maxRecDepth 100000 in
set_option maxHeartbeats 1600000 in
theorem labels_lim (a : Option Addr) (len cap p k : Nat) (zs : List Int) (w : World) (hrow : Row w a len zs) (hl : len ≤ 3000) (hp : p ≤ len) (hc : len ≤ cap) (he : (pU zs p 4294967295).e = 0) (hv : 256 < (pU zs p 4294967295).v) :
    Calls Tryd.prog 74 #[RV a len cap p k 0] w fun e w' => e = .returned (.tuple #[RV a len cap p k 9, .slice none 0 0]) ∧ Below w.heap.size w w' := by
  have hq := fun (wx : World) (hb : Below w.heap.size w wx) => number_ok a len cap p k zs wx (hrow.below (Nat.le_refl _) hb) hl hp hc
  obtain ⟨t1, t2, t3, t4, t5, t6, t7⟩ := pU_tu hrow.2.1 (show p ≤ zs.length by rw [hrow.1]; exact hp)
  clear t1 t2 t3
  rw [he] at hq
  generalize (pU zs p 4294967295).v = P at *
  generalize (pU zs p 4294967295).at_ = q at *
  have t : decide (256 < P) = true := by simpa using hv
  have HV := hide hv
  clear he hv t4 t5 t6 t7
  have HQ := hide hq; have HRow := hide hrow
  clear hq hrow
  have HB2 := hide (two_allocs w (.cells #[.slice a len cap, .int .i64 p, .int .i64 k, .int .i64 0] 80) (.cells #[.slice none 0 0, .int .i64 0, .int .i64 0, .int .i64 0] 80))
  go_enter Tryd.func74, Tryd.ntmps74
  go_wp2_with fail
  refine (unhide HQ _ (unhide HB2)).mono ?_
  rintro e w3 ⟨rfl, hb3⟩
  have hbx := boxes2 hb3
  have x0 : w3.heap[w.heap.size]? = some (.cells #[.slice a len cap, .int .i64 p, .int .i64 k, .int .i64 0] 80 (0, 0)) := by
    refine (hb3.block w.heap.size (by simp; omega)).trans ?_
    exact ((one_alloc _ _).block w.heap.size (by simp)).trans (heap_alloc_new w _)
  have x1 : w3.heap[w.heap.size + 1]? = some (.cells #[.slice none 0 0, .int .i64 0, .int .i64 0, .int .i64 0] 80 (0, 0)) := by
    refine (hb3.block (w.heap.size + 1) (by simp)).trans ?_
    have := heap_alloc_new (w.alloc (.cells #[.slice a len cap, .int .i64 p, .int .i64 k, .int .i64 0] 80)) (.cells #[.slice none 0 0, .int .i64 0, .int .i64 0, .int .i64 0] 80)
    simpa using this
  have c0 : w3.cell? ⟨w.heap.size, 0, none⟩ = some (.slice a len cap) := hbx.1 0
  have c1 : w3.cell? ⟨w.heap.size, 1, none⟩ = some (.int .i64 p) := hbx.1 1
  have c2 : w3.cell? ⟨w.heap.size, 2, none⟩ = some (.int .i64 k) := hbx.1 2
  have c3 : w3.cell? ⟨w.heap.size, 3, none⟩ = some (.int .i64 0) := hbx.1 3
  have f0 := hbx.2.2.1
  have hz := hbx.2.2.2.2
  have HB3 := hide (Below.on (unhide HB2) hb3)
  clear hbx hb3
  generalize hN : w.heap.size = N at *
  obtain ⟨y0, y1, y2⟩ := put4r x0 (.slice a len cap) (.int .i64 q) (.int .i64 k) (.int .i64 0)
  have HY0 := hide y0; have HY1 := hide ((y1 (N + 1) (by omega)).trans x1); have HY2 := hide (y2 N w (unhide HB3) (Nat.le_refl _)); have HN := hide hN
  clear x0 x1 y0 y1 y2 hN
  go_upto_region 6 with fail
  generalize (((w3.setCell ⟨N, 0, none⟩ (.slice a len cap)).setCell ⟨N, 1, none⟩ (.int .i64 q)).setCell ⟨N, 2, none⟩ (.int .i64 k)).setCell ⟨N, 3, none⟩ (.int .i64 0) = w4 at *
  clear c0 c1 c2 c3 f0 hz HB3
  have hc := fun j => cell_of_row w4 N j _ _ _ (unhide HY0)
  have hd := fun j => cell_of_row w4 (N + 1) j _ _ _ (unhide HY1)
  have c0 : w4.cell? ⟨N, 0, none⟩ = some (.slice a len cap) := hc 0
  have c1 : w4.cell? ⟨N, 1, none⟩ = some (.int .i64 q) := hc 1
  have c2 : w4.cell? ⟨N, 2, none⟩ = some (.int .i64 k) := hc 2
  have c3 : w4.cell? ⟨N, 3, none⟩ = some (.int .i64 0) := hc 3
  have d0 : w4.cell? ⟨N + 1, 0, none⟩ = some (.slice none 0 0) := hd 0
  have d1 : w4.cell? ⟨N + 1, 1, none⟩ = some (.int .i64 0) := hd 1
  have d2 : w4.cell? ⟨N + 1, 2, none⟩ = some (.int .i64 0) := hd 2
  have d3 : w4.cell? ⟨N + 1, 3, none⟩ = some (.int .i64 0) := hd 3
  have f0 : ∀ i, w4.frozen? ⟨N, i, none⟩ = false := fun i => by simp [World.frozen?, unhide HY0]
  have f1 : ∀ i, w4.frozen? ⟨N + 1, i, none⟩ = false := fun i => by simp [World.frozen?, unhide HY1]
  clear hc hd
  go_wp2_with fail
  refine bodyPost_ret (v := .tuple #[RV a len cap p k 9, .slice none 0 0]) (by simp [results, Tryd.results74, go_sem, c0, c1, c2, c3, d0, d1, d2, d3, f0, f1]) rfl ?_
  refine ⟨rfl, ?_⟩
  rw [unhide HN]
  have h3 := unhide HY2
  repeat' (with_reducible refine Below.setCell ?_ ?_ _)
  all_goals first | with_reducible assumption | exact Nat.le_refl _ | exact Nat.le_succ _
theorem own_turn {w w' : World} {B e z : Nat} {v : Value} {n : Nat} {xs : List Value} (h : w.ownsRow B e z v n xs) (hk : ∀ k, v.ownBlock = some k → w'.heap[k]? = w.heap[k]?) : w'.ownsRow B e z v n xs := by
  rcases h.2 with ⟨h1, h2⟩ | ⟨g, cap, cur, h1, h2, h3, h4⟩
  · exact ⟨h.1, .inl ⟨h1, h2⟩⟩
  · exact ⟨h.1, .inr ⟨g, cap, cur, h1, h2, (hk g (by rw [h1]; rfl)).trans h3, h4⟩⟩
theorem own_isSl {w : World} {B e z : Nat} {v : Value} {n : Nat} {xs : List Value} (h : w.ownsRow B e z v n xs) : ∃ a c, v = .slice a n c := by
  rcases h.2 with ⟨h1, h2⟩ | ⟨g, cap, cur, h1, h2, h3, h4⟩
  · exact ⟨none, 0, by rw [h1, h2]⟩
  · exact ⟨_, _, h1⟩
theorem own_labs {w : World} {B : Nat} {v : Value} {ls : List Int} (h : w.ownsRow B 46 1 v ls.length (ls.map (Value.int .u32))) {g : Nat → Prop} (hg : ∀ k, B ≤ k → g k) : Lies g ls.length (Lab w ls) v := by
  have h0 := h
  rcases h.2 with ⟨h1, h2⟩ | ⟨b, cap, cur, rfl, h2, h3, h4, _⟩
  · rw [List.eq_nil_of_length_eq_zero h2, h1]; exact Labs_nil _ _
  · refine ⟨_, cap, rfl, h4, by simp, fun _ => ⟨b, 0, rfl, hg b h2, fun j hj => ?_⟩⟩
    rw [Nat.zero_add]
    exact row_cells h0 j _ (by simp [List.getD, hj])

theorem new_u32 (w : World) (v : Int) : ∀ j u, [Value.int .u32 v][j]? = some u → (w.drew.alloc (.cells #[.int .u32 v] 46)).cell? ((⟨w.heap.size, 0, none⟩ : Addr).add j) = some u := by
  intro j u hj
  cases j with
  | zero =>
    simp at hj; subst hj
    have h := heap_alloc_new w.drew (.cells #[.int .u32 v] 46)
    have e : ((⟨w.heap.size, 0, none⟩ : Addr).add 0) = ⟨w.drew.heap.size, 0, none⟩ := by simp [Addr.add]
    rw [e, cell_of_row _ _ 0 _ _ _ h]; rfl
  | succ j => simp at hj

set_option maxRecDepth 100000 in
set_option maxHeartbeats 6400000 in
theorem labels_ok (a : Option Addr) (len cap p k : Nat) (zs : List Int) (w : World) (hrow : Row w a len zs) (hl : len ≤ 3000) (hp : p ≤ len) (hc : len ≤ cap) (he : (pU zs p 4294967295).e = 0) (hv : ¬ 256 < (pU zs p 4294967295).v) :
    Calls Tryd.prog 74 #[RV a len cap p k 0] w fun e w' => ∃ v, e = .returned (.tuple #[RV a len cap (pT zs p k).at_ k (pT zs p k).e, v]) ∧ IsSl v ∧ Below w.heap.size w w' ∧ ((pT zs p k).e = 0 → Lies (w.heap.size ≤ ·) (pT zs p k).v.length (Lab w' (pT zs p k).v) v) := by
  have hq := fun (wx : World) (hb : Below w.heap.size w wx) => number_ok a len cap p k zs wx (hrow.below (Nat.le_refl _) hb) hl hp hc
  have hq2 := fun (wx : World) (q : Nat) (hb : Below w.heap.size w wx) (hq : q ≤ len) => number_ok a len cap q k zs wx (hrow.below (Nat.le_refl _) hb) hl hq hc
  have hbdU := fun (q : Nat) (hq : q ≤ len) => pU_tu (p := q) hrow.2.1 (by rw [hrow.1]; exact hq)
  obtain ⟨t1, t2, t3, t4, t5, t6, t7⟩ := hbdU p hp
  have hT : pT zs p k = pL zs ((pU zs p 4294967295).v.toNat + 1) (pU zs p 4294967295).at_ k := by unfold pT; rw [pU_256 he, if_neg hv, Part.on_ok he]
  rw [he] at hq
  rw [hT]
  rw [hrow.1] at t7
  have hLb : ∀ m, (pL zs m (pU zs p 4294967295).at_ k).at_ ≤ len := fun m => by have := (pL_bd zs m (pU zs p 4294967295).at_ k (by rw [hrow.1]; exact t7)).2; rw [hrow.1] at this; exact this
  generalize (pU zs p 4294967295).at_ = q0 at *
  obtain ⟨n, hn⟩ : ∃ n : Nat, (pU zs p 4294967295).v = (n : Int) := ⟨(pU zs p 4294967295).v.toNat, by omega⟩
  rw [hn] at hq hv
  rw [hn, Int.toNat_natCast]
  have tn : decide (256 < (n : Int)) = false := by simpa using hv
  have hn2 : (n : Int) ≤ 256 := by omega
  have HQ := hide hq; have HQ2 := hide hq2; have HU := hide hbdU; have HLb := hide hLb; have HRow := hide hrow; have HSn := hide (pL_snoc zs); have HSt := hide (fun j h => @pL_stay zs q0 k j h); have HLn := hide (pL_len zs)
  clear hq hq2 hbdU hLb hrow t1 t2 t3 t4 t5 t6 t7 hT he hn hv
  have HB2 := hide (two_allocs w (.cells #[.slice a len cap, .int .i64 p, .int .i64 k, .int .i64 0] 80) (.cells #[.slice none 0 0, .int .i64 0, .int .i64 0, .int .i64 0] 80))
  obtain ⟨i0, hi, hz0, hz1, hz2⟩ := info_parts infoU32
  go_enter Tryd.func74, Tryd.ntmps74
  go_wp2_with fail
  refine (unhide HQ _ (unhide HB2)).mono ?_
  rintro e w3 ⟨rfl, hb3⟩
  have hbx := boxes2 hb3
  have x0 : w3.heap[w.heap.size]? = some (.cells #[.slice a len cap, .int .i64 p, .int .i64 k, .int .i64 0] 80 (0, 0)) := by
    refine (hb3.block w.heap.size (by simp; omega)).trans ?_
    exact ((one_alloc _ _).block w.heap.size (by simp)).trans (heap_alloc_new w _)
  have x1 : w3.heap[w.heap.size + 1]? = some (.cells #[.slice none 0 0, .int .i64 0, .int .i64 0, .int .i64 0] 80 (0, 0)) := by
    refine (hb3.block (w.heap.size + 1) (by simp)).trans ?_
    have := heap_alloc_new (w.alloc (.cells #[.slice a len cap, .int .i64 p, .int .i64 k, .int .i64 0] 80)) (.cells #[.slice none 0 0, .int .i64 0, .int .i64 0, .int .i64 0] 80)
    simpa using this
  have c0 : w3.cell? ⟨w.heap.size, 0, none⟩ = some (.slice a len cap) := hbx.1 0
  have c1 : w3.cell? ⟨w.heap.size, 1, none⟩ = some (.int .i64 p) := hbx.1 1
  have c2 : w3.cell? ⟨w.heap.size, 2, none⟩ = some (.int .i64 k) := hbx.1 2
  have c3 : w3.cell? ⟨w.heap.size, 3, none⟩ = some (.int .i64 0) := hbx.1 3
  have f0 := hbx.2.2.1
  have hz := hbx.2.2.2.2
  have HB3 := hide (Below.on (unhide HB2) hb3)
  clear hbx hb3
  generalize hN : w.heap.size = N at *
  obtain ⟨y0, y1, y2⟩ := put4r x0 (.slice a len cap) (.int .i64 q0) (.int .i64 k) (.int .i64 0)
  have HY0 := hide y0; have HY1 := hide ((y1 (N + 1) (by omega)).trans x1); have HY2 := hide (y2 N w (unhide HB3) (Nat.le_refl _)); have HN := hide hN
  clear x0 x1 y0 y1 y2 hN
  go_wp2_with fail
  generalize (((w3.setCell ⟨N, 0, none⟩ (.slice a len cap)).setCell ⟨N, 1, none⟩ (.int .i64 q0)).setCell ⟨N, 2, none⟩ (.int .i64 k)).setCell ⟨N, 3, none⟩ (.int .i64 0) = w4 at *
  clear c0 c1 c2 c3 f0 hz HB3
  go_loopw [6, 7] (fun s c wr => ∃ j : Nat, c = .int .i64 j ∧ (j : Int) ≤ (n : Int) + 1 ∧ Hid (LbRel w N a len cap k (pL zs j q0 k) s wr)) (fun _ c _ => n + 1 - (intOf c).toNat)
  case atStart => exact ⟨0, rfl, by omega, hide ⟨by rw [pL]; exact unhide HY0, unhide HY1, unhide HY2, ⟨_, _, _, rfl⟩, fun _ => by rw [pL]; exact World.ownsRow_nil _ _ _ _⟩⟩
  case round =>
    clear HY0 HY1 HY2
    obtain ⟨j, rfl, hj, HR⟩ := hrel
    by_cases hlt : (j : Int) ≤ (n : Int)
    · by_cases hE : (pL zs j q0 k).e = 0
      · have hpos := unhide HLb j
        have hlen := unhide HLn j q0 k hE
        have hU := unhide HU _ hpos
        have hq := unhide HQ2 wr _ (unhide HR).bel hpos
        have hSn := unhide HSn j q0 k
        rw [Out.on_ok hE] at hSn
        have hR := unhide HR
        generalize pL zs j q0 k = R at hR hE hpos hlen hU hq hSn
        have hnx : (pL zs (j + 1) q0 k).e = (pU zs R.at_ 4294967295).e ∧ (pL zs (j + 1) q0 k).at_ = (pU zs R.at_ 4294967295).at_ ∧ ((pU zs R.at_ 4294967295).e = 0 → (pL zs (j + 1) q0 k).v = R.v ++ [(pU zs R.at_ 4294967295).v]) := by
          rw [hSn]
          by_cases h : (pU zs R.at_ 4294967295).e = 0
          · rw [Part.on_ok h]; exact ⟨h.symm, rfl, fun _ => rfl⟩
          · rw [Part.on_no h]; exact ⟨rfl, rfl, fun e => absurd e h⟩
        obtain ⟨_, _, _, v0, v1, _, _⟩ := hU
        generalize pU zs R.at_ 4294967295 = P at *
        generalize hR2 : pL zs (j + 1) q0 k = R2 at *
        have HR2 := hide hR2
        obtain ⟨c0, c1, c2, c3⟩ := hR.cs
        rw [hE] at c3
        have hlt1 := hR.lt
        have hO := hR.own hE
        rw [hlen] at hO
        obtain ⟨sa, sc, rfl⟩ := own_isSl hO
        have HR' := hide hR; have HNx := hide hnx; have HO := hide hO; have HQc := hide hq; have HLe := hide hlen
        clear hR hnx hO hq hSn hlen HR hpos hE hR2
        go_wp2_with fail
        refine (unhide HQc).mono ?_
        rintro e w5 ⟨rfl, hb5⟩
        have hal := one_alloc w5 (.cells #[.slice a len cap, .int .i64 P.at_, .int .i64 k, .int .i64 P.e] 80)
        have h56 := Below.on hb5 hal
        have HB5 := hide hb5; have H56 := hide h56; have hz5 := hb5.size
        have HZ5 := hide hz5
        clear hb5 c0 c1 c2 c3 hal h56 hz5
        go_wp2_with fail
        generalize hw6 : w5.alloc (.cells #[.slice a len cap, .int .i64 P.at_, .int .i64 k, .int .i64 P.e] 80) = w6 at *
        have e0 : w6.cell? ⟨w5.heap.size, 0, none⟩ = some (.slice a len cap) := by rw [← hw6]; simp
        have e1 : w6.cell? ⟨w5.heap.size, 1, none⟩ = some (.int .i64 P.at_) := by rw [← hw6]; simp
        have e2 : w6.cell? ⟨w5.heap.size, 2, none⟩ = some (.int .i64 k) := by rw [← hw6]; simp
        have e3 : w6.cell? ⟨w5.heap.size, 3, none⟩ = some (.int .i64 P.e) := by rw [← hw6]; simp
        have hz6 : w6.heap.size = w5.heap.size + 1 := by rw [← hw6]; simp
        have HZ6 := hide hz6
        clear hw6 hz6
        generalize hM : w5.heap.size = M at *
        have HM := hide hM; clear hM
        have hal2 := (Below.refl w6.heap.size w6).drew.alloc (Nat.le_refl _) (.cells #[.int .u32 P.v] 46)
        have HA2 := hide hal2; clear hal2
        have hMN : ¬ M = N := by have := unhide HM; have := unhide HZ5; omega
        have hNM : ¬ N = M := fun e => hMN e.symm
        go_region_held3 (fun w' => w'.cell? ⟨M, 0, none⟩ = some (.slice a len cap) ∧ w'.cell? ⟨M, 1, none⟩ = some (.int .i64 P.at_) ∧ w'.cell? ⟨M, 2, none⟩ = some (.int .i64 k) ∧ w'.cell? ⟨M, 3, none⟩ = some (.int .i64 P.e))
          (first | go_keep | exact ⟨(hk 0).trans e0, (hk 1).trans e1, (hk 2).trans e2, (hk 3).trans e3⟩)
          (first | (refine step_append_lies _ (by rfl) _ _ _ (by rfl) (N + 2) 46 i0 (.int .u32 0) 1 4 Tryd.underlying48 hi hz0 hz1 hz2 rfl (by decide) (.slice sa j sc) j (R.v.map (Value.int .u32)) (by rfl) (own_turn (unhide HO) (fun q hq => (Below.on (unhide H56) (unhide HA2)).block q ((unhide HO).lt q hq).2)) ⟨w6.heap.size, 0, none⟩ 1 1 [.int .u32 P.v] (by rfl) (by rfl) (new_u32 w6 P.v) (by simp [Value.oneCell']) (by omega) (by unfold maxLen; omega) (by omega) (by have := unhide HZ6; have := unhide HM; have := unhide HZ5; simp; omega) (w6.heap.size + 1) (by simp) ?_
                    intro gg capn w7 hown7 hgrow hat7 hlt7
                    have hk : ∀ o, w7.cell? ⟨M, o, none⟩ = w6.cell? ⟨M, o, none⟩ := fun o => (World.cell?_of_block (a := ⟨M, o, none⟩) (hgrow.block M (by have := unhide HZ6; simp; omega) (fun e => by have := ((unhide HO).lt M e.symm).2; have := unhide HZ5; have := unhide HM; omega))).trans ((unhide HA2).cell (p := ⟨M, o, none⟩) (by have := unhide HZ6; simp; omega))
                    have hN7 : w7.heap[N]? = some (.cells #[.slice a len cap, .int .i64 R.at_, .int .i64 k, .int .i64 R.e] 80 (0, 0)) := (hgrow.block N (by have := (unhide H56).size; simp; omega) (fun e => by have := ((unhide HO).lt N e.symm).1; omega)).trans (((Below.on (unhide H56) (unhide HA2)).block N (by omega)).trans (unhide HR').b0)
                    have hc7 := fun j => cell_of_row w7 N j _ _ _ hN7
                    have n0 : w7.cell? ⟨N, 0, none⟩ = some (.slice a len cap) := hc7 0
                    have n1 : w7.cell? ⟨N, 1, none⟩ = some (.int .i64 R.at_) := hc7 1
                    have n2 : w7.cell? ⟨N, 2, none⟩ = some (.int .i64 k) := hc7 2
                    have n3 : w7.cell? ⟨N, 3, none⟩ = some (.int .i64 R.e) := hc7 3
                    have nf : ∀ i, w7.frozen? ⟨N, i, none⟩ = false := fun i => by simp [World.frozen?, hN7]
                    have HN7 := hide hN7
                    clear hN7 hc7))
        obtain ⟨y0, y1, y2⟩ := put4r (unhide HN7) (.slice a len cap) (.int .i64 P.at_) (.int .i64 k) (.int .i64 P.e)
        have hb6 : Below wr.heap.size wr (w6.drew.alloc (.cells #[.int .u32 P.v] 46)) := Below.on (unhide H56) (unhide HA2)
        have hb7 : Below N w w7 := ((unhide HR').bel.trans (hb6.mono (by omega))).grown hgrow (Nat.le_trans (by omega) hb6.size) (fun q hq => by have := ((unhide HO).lt q hq).1; omega)
        have hb1 : w7.heap[N + 1]? = some (.cells #[.slice none 0 0, .int .i64 0, .int .i64 0, .int .i64 0] 80 (0, 0)) := (hgrow.block (N + 1) (Nat.lt_of_lt_of_le hlt1 hb6.size) (fun e => by have := ((unhide HO).lt (N + 1) e.symm).1; omega)).trans ((hb6.block (N + 1) (by omega)).trans (unhide HR').b1)
        have hrl : LbRel w N a len cap k R2 (.slice (some ⟨gg, 0, none⟩) (j + 1) capn) ((((w7.setCell ⟨N, 0, none⟩ (.slice a len cap)).setCell ⟨N, 1, none⟩ (.int .i64 P.at_)).setCell ⟨N, 2, none⟩ (.int .i64 k)).setCell ⟨N, 3, none⟩ (.int .i64 P.e)) := by
          obtain ⟨m1, m2, m3⟩ := unhide HNx
          refine ⟨by rw [m1, m2]; exact y0, (y1 (N + 1) (by omega)).trans hb1, y2 N w hb7 (Nat.le_refl _), ⟨_, _, _, rfl⟩, fun he => ?_⟩
          rw [m3 (by rw [← m1]; exact he)]
          have e : (R.v ++ [P.v]).length = j + 1 := by simp [unhide HLe]
          rw [e, List.map_append]
          exact own_turn hown7 fun q hq => y1 q (by have := (hown7.lt q hq).1; omega)
        have HRl := hide hrl
        clear hrl y0 y1 y2 hb6 hb7 hb1 hown7 hgrow hat7 hlt7 hk n0 n1 n2 n3 nf e0 e1 e2 e3 hMN hNM
        generalize ((((w7.setCell ⟨N, 0, none⟩ (.slice a len cap)).setCell ⟨N, 1, none⟩ (.int .i64 P.at_)).setCell ⟨N, 2, none⟩ (.int .i64 k)).setCell ⟨N, 3, none⟩ (.int .i64 P.e)) = w8 at *
        go_wp2
        go_roundw
        case rel => exact ⟨j + 1, by go_num, by omega, by rw [unhide HR2]; exact HRl⟩
        case measure => simp [intOf]; omega
      · have hSt := unhide HSt j hE (n + 1 - j)
        rw [show j + (n + 1 - j) = n + 1 by omega] at hSt
        have hR := unhide HR
        obtain ⟨c0, c1, c2, c3⟩ := hR.cs
        obtain ⟨d0, d1, d2, d3⟩ := hR.ds
        have f0 := hR.f0; have f1 := hR.f1; have hlt1 := hR.lt
        obtain ⟨sa, sl, sc, rfl⟩ := hR.sl
        have hE2 : ¬ (pL zs (n + 1) q0 k).e = 0 := by rw [hSt.1]; exact hE
        generalize pL zs j q0 k = R at *
        have t : (R.e == 0) = false := by simpa using hE
        have HR' := hide hR; have HSt' := hide hSt; have HE2 := hide hE2
        clear hR hSt hE HR hE2
        go_wp2
        have hb := (unhide HR').bel
        refine bodyPost_ret (v := .tuple #[RV a len cap R.at_ k R.e, .slice sa sl sc]) (by simp [results, Tryd.results74, go_sem, c0, c1, c2, c3, d0, d1, d2, d3, f0, f1]) rfl ?_
        refine ⟨.slice sa sl sc, by rw [(unhide HSt').1, (unhide HSt').2], ⟨_, _, _, rfl⟩, ?_, fun e => absurd e (unhide HE2)⟩
        rw [unhide HN]
        repeat' (with_reducible refine Below.setCell ?_ ?_ _)
        all_goals first | with_reducible assumption | exact Nat.le_refl _ | exact Nat.le_succ _
    · obtain rfl : j = n + 1 := by omega
      have hR := unhide HR
      obtain ⟨c0, c1, c2, c3⟩ := hR.cs
      obtain ⟨d0, d1, d2, d3⟩ := hR.ds
      have f0 := hR.f0; have f1 := hR.f1; have hlt1 := hR.lt
      obtain ⟨sa, sl, sc, rfl⟩ := hR.sl
      have t : decide (((n + 1 : Nat) : Int) ≤ (n : Int)) = false := by simp; omega
      generalize hRd : pL zs (n + 1) q0 k = R at *
      have HR' := hide hR; have HRd := hide hRd
      clear hR HR hlt hj hRd
      go_wp2
      have hb := (unhide HR').bel
      refine bodyPost_ret (v := .tuple #[RV a len cap R.at_ k R.e, .slice sa sl sc]) (by simp [results, Tryd.results74, go_sem, c0, c1, c2, c3, d0, d1, d2, d3, f0, f1]) rfl ?_
      refine ⟨.slice sa sl sc, by rw [unhide HRd], ⟨_, _, _, rfl⟩, ?_, fun e => ?_⟩
      · rw [unhide HN]
        repeat' (with_reducible refine Below.setCell ?_ ?_ _)
        all_goals first | with_reducible assumption | exact Nat.le_refl _ | exact Nat.le_succ _
      · rw [unhide HRd] at e ⊢
        have hO := (unhide HR').own e
        obtain ⟨_, y1, _⟩ := put4r (unhide HR').b1 (.slice a len cap) (.int .i64 R.at_) (.int .i64 k) (.int .i64 R.e)
        exact own_labs (own_turn hO fun q hq => y1 q (by have := (hO.lt q hq).1; omega)) (fun k hk => by show w.heap.size ≤ k; rw [unhide HN]; omega)
/-- the document's labels -/
theorem labels_any (a : Option Addr) (len cap p k : Nat) (zs : List Int) (w : World) (hrow : Row w a len zs) (hl : len ≤ 3000) (hp : p ≤ len) (hc : len ≤ cap) :
    Calls Tryd.prog 74 #[RV a len cap p k 0] w fun e w' => ∃ v, e = .returned (.tuple #[RV a len cap (pT zs p k).at_ k (pT zs p k).e, v]) ∧ IsSl v ∧ Below w.heap.size w w' ∧ ((pT zs p k).e = 0 → Lies (w.heap.size ≤ ·) (pT zs p k).v.length (Lab w' (pT zs p k).v) v) := by
  by_cases he : (pU zs p 4294967295).e = 0
  · by_cases hv : 256 < (pU zs p 4294967295).v
    · have hT : pT zs p k = ⟨9, p, k, []⟩ := by unfold pT; rw [pU_256 he, if_pos hv, Part.on_no (show ¬ (9 : Int) = 0 by decide)]
      rw [hT]
      refine (labels_lim a len cap p k zs w hrow hl hp hc he hv).mono ?_
      rintro e w' ⟨rfl, hb⟩
      exact ⟨_, rfl, ⟨_, _, _, rfl⟩, hb, fun e => absurd e (show ¬ (9 : Int) = 0 by decide)⟩
    · exact labels_ok a len cap p k zs w hrow hl hp hc he hv
  · have hT : pT zs p k = ⟨(pU zs p 4294967295).e, p, k, []⟩ := by unfold pT; rw [(pU_256_no he hrow.2.1).1, Part.on_no (by exact he)]
    have ha := (pU_256_no he hrow.2.1).2
    have h1 := labels_no a len cap p k zs w hrow hl hp hc he
    rw [ha] at h1
    rw [hT]
    refine h1.mono ?_
    rintro e w' ⟨rfl, hb⟩
    exact ⟨_, rfl, ⟨_, _, _, rfl⟩, hb, fun e => absurd e he⟩
end Ex
end Go.Proofs.YtjhmglefejclpaaDoor

/- The boxes of the document's rest. -/
namespace Go.Proofs.YtjhmglefejclpaaDoor
open Go.RowKit
namespace Ex
set_option linter.unusedVariables false
set_option linter.unusedSimpArgs false

/-- the reader's box, the instruction's, and those of the answer -/
structure Fx (w : World) (N : Nat) (r0 r1 r2 r3 x0 x1 x2 x3 x4 x5 x6 x7 : Value) : Prop where
  b0 : w.heap[N]? = some (.cells #[r0, r1, r2, r3] 80 (0, 0))
  b1 : w.heap[N + 1]? = some (.cells #[x0, x1, x2, x3, x4, x5, x6, x7] 55 (0, 0))
  b2 : w.heap[N + 2]? = some (.cells #[.slice none 0 0, .int .i64 0, .int .i64 0, .int .i64 0] 80 (0, 0))
  b3 : w.heap[N + 3]? = some (.cells #[.int .u8 0, .int .i64 0, .int .u32 0, .int .u32 0, .int .u8 0, .slice none 0 0, .slice none 0 0, .slice none 0 0] 55 (0, 0))
namespace Fx
variable {w : World} {N : Nat} {r0 r1 r2 r3 x0 x1 x2 x3 x4 x5 x6 x7 : Value}
theorem lt (h : Fx w N r0 r1 r2 r3 x0 x1 x2 x3 x4 x5 x6 x7) : N + 3 < w.heap.size := (Array.getElem?_eq_some_iff.1 h.b3).1
theorem below (h : Fx w N r0 r1 r2 r3 x0 x1 x2 x3 x4 x5 x6 x7) {w' : World} (hb : Below w.heap.size w w') : Fx w' N r0 r1 r2 r3 x0 x1 x2 x3 x4 x5 x6 x7 :=
  have l := h.lt
  ⟨(hb.block N (by omega)).trans h.b0, (hb.block (N + 1) (by omega)).trans h.b1, (hb.block (N + 2) (by omega)).trans h.b2, (hb.block (N + 3) (by omega)).trans h.b3⟩
theorem cr (h : Fx w N r0 r1 r2 r3 x0 x1 x2 x3 x4 x5 x6 x7) : w.cell? ⟨N, 0, none⟩ = some r0 ∧ w.cell? ⟨N, 1, none⟩ = some r1 ∧ w.cell? ⟨N, 2, none⟩ = some r2 ∧ w.cell? ⟨N, 3, none⟩ = some r3 := by
  have hc := fun j => cell_of_row w N j _ _ _ h.b0
  exact ⟨hc 0, hc 1, hc 2, hc 3⟩
theorem cx (h : Fx w N r0 r1 r2 r3 x0 x1 x2 x3 x4 x5 x6 x7) : w.cell? ⟨N + 1, 0, none⟩ = some x0 ∧ w.cell? ⟨N + 1, 1, none⟩ = some x1 ∧ w.cell? ⟨N + 1, 2, none⟩ = some x2 ∧ w.cell? ⟨N + 1, 3, none⟩ = some x3 ∧ w.cell? ⟨N + 1, 4, none⟩ = some x4 ∧ w.cell? ⟨N + 1, 5, none⟩ = some x5 ∧ w.cell? ⟨N + 1, 6, none⟩ = some x6 ∧ w.cell? ⟨N + 1, 7, none⟩ = some x7 := by
  have hc := fun j => cell_of_row w (N + 1) j _ _ _ h.b1
  exact ⟨hc 0, hc 1, hc 2, hc 3, hc 4, hc 5, hc 6, hc 7⟩
theorem ca (h : Fx w N r0 r1 r2 r3 x0 x1 x2 x3 x4 x5 x6 x7) : w.cell? ⟨N + 2, 0, none⟩ = some (.slice none 0 0) ∧ w.cell? ⟨N + 2, 1, none⟩ = some (.int .i64 0) ∧ w.cell? ⟨N + 2, 2, none⟩ = some (.int .i64 0) ∧ w.cell? ⟨N + 2, 3, none⟩ = some (.int .i64 0) := by
  have hc := fun j => cell_of_row w (N + 2) j _ _ _ h.b2
  exact ⟨hc 0, hc 1, hc 2, hc 3⟩
theorem cb (h : Fx w N r0 r1 r2 r3 x0 x1 x2 x3 x4 x5 x6 x7) : w.cell? ⟨N + 3, 0, none⟩ = some (.int .u8 0) ∧ w.cell? ⟨N + 3, 1, none⟩ = some (.int .i64 0) ∧ w.cell? ⟨N + 3, 2, none⟩ = some (.int .u32 0) ∧ w.cell? ⟨N + 3, 3, none⟩ = some (.int .u32 0) ∧ w.cell? ⟨N + 3, 4, none⟩ = some (.int .u8 0) ∧ w.cell? ⟨N + 3, 5, none⟩ = some (.slice none 0 0) ∧ w.cell? ⟨N + 3, 6, none⟩ = some (.slice none 0 0) ∧ w.cell? ⟨N + 3, 7, none⟩ = some (.slice none 0 0) := by
  have hc := fun j => cell_of_row w (N + 3) j _ _ _ h.b3
  exact ⟨hc 0, hc 1, hc 2, hc 3, hc 4, hc 5, hc 6, hc 7⟩
theorem f0 (h : Fx w N r0 r1 r2 r3 x0 x1 x2 x3 x4 x5 x6 x7) (i : Nat) : w.frozen? ⟨N, i, none⟩ = false := by simp [World.frozen?, h.b0]
theorem f1 (h : Fx w N r0 r1 r2 r3 x0 x1 x2 x3 x4 x5 x6 x7) (i : Nat) : w.frozen? ⟨N + 1, i, none⟩ = false := by simp [World.frozen?, h.b1]
theorem f2 (h : Fx w N r0 r1 r2 r3 x0 x1 x2 x3 x4 x5 x6 x7) (i : Nat) : w.frozen? ⟨N + 2, i, none⟩ = false := by simp [World.frozen?, h.b2]
theorem f3 (h : Fx w N r0 r1 r2 r3 x0 x1 x2 x3 x4 x5 x6 x7) (i : Nat) : w.frozen? ⟨N + 3, i, none⟩ = false := by simp [World.frozen?, h.b3]
theorem put4 (h : Fx w N r0 r1 r2 r3 x0 x1 x2 x3 x4 x5 x6 x7) (u0 u1 u2 u3 : Value) : Fx ((((w.setCell ⟨N, 0, none⟩ (u0)).setCell ⟨N, 1, none⟩ (u1)).setCell ⟨N, 2, none⟩ (u2)).setCell ⟨N, 3, none⟩ (u3)) N u0 u1 u2 u3 x0 x1 x2 x3 x4 x5 x6 x7 := by
  have s0 := heap_setCell_same w N 0 _ _ u0 h.b0
  have s1 := heap_setCell_same _ N 1 _ _ u1 s0
  have s2 := heap_setCell_same _ N 2 _ _ u2 s1
  have s3 := heap_setCell_same _ N 3 _ _ u3 s2
  have ot : ∀ q, q ≠ N → ((((w.setCell ⟨N, 0, none⟩ (u0)).setCell ⟨N, 1, none⟩ (u1)).setCell ⟨N, 2, none⟩ (u2)).setCell ⟨N, 3, none⟩ (u3)).heap[q]? = w.heap[q]? := fun q hq => by
    rw [heap_setCell_other _ ⟨N, 3, none⟩ q _ hq, heap_setCell_other _ ⟨N, 2, none⟩ q _ hq, heap_setCell_other _ ⟨N, 1, none⟩ q _ hq, heap_setCell_other _ ⟨N, 0, none⟩ q _ hq]
  exact ⟨s3, (ot _ (by omega)).trans h.b1, (ot _ (by omega)).trans h.b2, (ot _ (by omega)).trans h.b3⟩
theorem set1 (h : Fx w N r0 r1 r2 r3 x0 x1 x2 x3 x4 x5 x6 x7) (v : Value) : Fx (w.setCell ⟨N + 1, 1, none⟩ v) N r0 r1 r2 r3 x0 v x2 x3 x4 x5 x6 x7 := by
  have ot : ∀ q, q ≠ N + 1 → (w.setCell ⟨N + 1, 1, none⟩ v).heap[q]? = w.heap[q]? := fun q hq => heap_setCell_other w ⟨N + 1, 1, none⟩ q v hq
  exact ⟨(ot _ (by omega)).trans h.b0, heap_setCell_same w (N + 1) 1 _ _ v h.b1, (ot _ (by omega)).trans h.b2, (ot _ (by omega)).trans h.b3⟩
theorem set2 (h : Fx w N r0 r1 r2 r3 x0 x1 x2 x3 x4 x5 x6 x7) (v : Value) : Fx (w.setCell ⟨N + 1, 2, none⟩ v) N r0 r1 r2 r3 x0 x1 v x3 x4 x5 x6 x7 := by
  have ot : ∀ q, q ≠ N + 1 → (w.setCell ⟨N + 1, 2, none⟩ v).heap[q]? = w.heap[q]? := fun q hq => heap_setCell_other w ⟨N + 1, 2, none⟩ q v hq
  exact ⟨(ot _ (by omega)).trans h.b0, heap_setCell_same w (N + 1) 2 _ _ v h.b1, (ot _ (by omega)).trans h.b2, (ot _ (by omega)).trans h.b3⟩
theorem set3 (h : Fx w N r0 r1 r2 r3 x0 x1 x2 x3 x4 x5 x6 x7) (v : Value) : Fx (w.setCell ⟨N + 1, 3, none⟩ v) N r0 r1 r2 r3 x0 x1 x2 v x4 x5 x6 x7 := by
  have ot : ∀ q, q ≠ N + 1 → (w.setCell ⟨N + 1, 3, none⟩ v).heap[q]? = w.heap[q]? := fun q hq => heap_setCell_other w ⟨N + 1, 3, none⟩ q v hq
  exact ⟨(ot _ (by omega)).trans h.b0, heap_setCell_same w (N + 1) 3 _ _ v h.b1, (ot _ (by omega)).trans h.b2, (ot _ (by omega)).trans h.b3⟩
theorem set4 (h : Fx w N r0 r1 r2 r3 x0 x1 x2 x3 x4 x5 x6 x7) (v : Value) : Fx (w.setCell ⟨N + 1, 4, none⟩ v) N r0 r1 r2 r3 x0 x1 x2 x3 v x5 x6 x7 := by
  have ot : ∀ q, q ≠ N + 1 → (w.setCell ⟨N + 1, 4, none⟩ v).heap[q]? = w.heap[q]? := fun q hq => heap_setCell_other w ⟨N + 1, 4, none⟩ q v hq
  exact ⟨(ot _ (by omega)).trans h.b0, heap_setCell_same w (N + 1) 4 _ _ v h.b1, (ot _ (by omega)).trans h.b2, (ot _ (by omega)).trans h.b3⟩
theorem set5 (h : Fx w N r0 r1 r2 r3 x0 x1 x2 x3 x4 x5 x6 x7) (v : Value) : Fx (w.setCell ⟨N + 1, 5, none⟩ v) N r0 r1 r2 r3 x0 x1 x2 x3 x4 v x6 x7 := by
  have ot : ∀ q, q ≠ N + 1 → (w.setCell ⟨N + 1, 5, none⟩ v).heap[q]? = w.heap[q]? := fun q hq => heap_setCell_other w ⟨N + 1, 5, none⟩ q v hq
  exact ⟨(ot _ (by omega)).trans h.b0, heap_setCell_same w (N + 1) 5 _ _ v h.b1, (ot _ (by omega)).trans h.b2, (ot _ (by omega)).trans h.b3⟩
theorem set6 (h : Fx w N r0 r1 r2 r3 x0 x1 x2 x3 x4 x5 x6 x7) (v : Value) : Fx (w.setCell ⟨N + 1, 6, none⟩ v) N r0 r1 r2 r3 x0 x1 x2 x3 x4 x5 v x7 := by
  have ot : ∀ q, q ≠ N + 1 → (w.setCell ⟨N + 1, 6, none⟩ v).heap[q]? = w.heap[q]? := fun q hq => heap_setCell_other w ⟨N + 1, 6, none⟩ q v hq
  exact ⟨(ot _ (by omega)).trans h.b0, heap_setCell_same w (N + 1) 6 _ _ v h.b1, (ot _ (by omega)).trans h.b2, (ot _ (by omega)).trans h.b3⟩
theorem set7 (h : Fx w N r0 r1 r2 r3 x0 x1 x2 x3 x4 x5 x6 x7) (v : Value) : Fx (w.setCell ⟨N + 1, 7, none⟩ v) N r0 r1 r2 r3 x0 x1 x2 x3 x4 x5 x6 v := by
  have ot : ∀ q, q ≠ N + 1 → (w.setCell ⟨N + 1, 7, none⟩ v).heap[q]? = w.heap[q]? := fun q hq => heap_setCell_other w ⟨N + 1, 7, none⟩ q v hq
  exact ⟨(ot _ (by omega)).trans h.b0, heap_setCell_same w (N + 1) 7 _ _ v h.b1, (ot _ (by omega)).trans h.b2, (ot _ (by omega)).trans h.b3⟩
theorem bput {M : Nat} {W : World} (h : Below M W w) (hM : M ≤ N) (u0 u1 u2 u3 : Value) : Below M W ((((w.setCell ⟨N, 0, none⟩ (u0)).setCell ⟨N, 1, none⟩ (u1)).setCell ⟨N, 2, none⟩ (u2)).setCell ⟨N, 3, none⟩ (u3)) :=
  (((h.setCell (p := ⟨N, 0, none⟩) hM _).setCell (p := ⟨N, 1, none⟩) hM _).setCell (p := ⟨N, 2, none⟩) hM _).setCell (p := ⟨N, 3, none⟩) hM _
theorem bset {M : Nat} {W : World} (h : Below M W w) (hM : M ≤ N) (i : Nat) (v : Value) : Below M W (w.setCell ⟨N + 1, i, none⟩ v) := h.setCell (p := ⟨N + 1, i, none⟩) (Nat.le_succ_of_le hM) v
end Fx
/-- all four are new -/
theorem fx_new (w : World) (r0 r1 r2 r3 x0 x1 x2 x3 x4 x5 x6 x7 : Value) : Fx ((((w.alloc (.cells #[r0, r1, r2, r3] 80)).alloc (.cells #[x0, x1, x2, x3, x4, x5, x6, x7] 55)).alloc (.cells #[.slice none 0 0, .int .i64 0, .int .i64 0, .int .i64 0] 80)).alloc (.cells #[.int .u8 0, .int .i64 0, .int .u32 0, .int .u32 0, .int .u8 0, .slice none 0 0, .slice none 0 0, .slice none 0 0] 55)) w.heap.size r0 r1 r2 r3 x0 x1 x2 x3 x4 x5 x6 x7 ∧
    Below w.heap.size w ((((w.alloc (.cells #[r0, r1, r2, r3] 80)).alloc (.cells #[x0, x1, x2, x3, x4, x5, x6, x7] 55)).alloc (.cells #[.slice none 0 0, .int .i64 0, .int .i64 0, .int .i64 0] 80)).alloc (.cells #[.int .u8 0, .int .i64 0, .int .u32 0, .int .u32 0, .int .u8 0, .slice none 0 0, .slice none 0 0, .slice none 0 0] 55)) := by
  have z1 : (w.alloc (.cells #[r0, r1, r2, r3] 80)).heap.size = w.heap.size + 1 := by simp
  generalize hw1 : w.alloc (.cells #[r0, r1, r2, r3] 80) = w1 at *
  have z2 : (w1.alloc (.cells #[x0, x1, x2, x3, x4, x5, x6, x7] 55)).heap.size = w1.heap.size + 1 := by simp
  have n1 := heap_alloc_new w1 (.cells #[x0, x1, x2, x3, x4, x5, x6, x7] 55)
  have b1 := one_alloc w1 (.cells #[x0, x1, x2, x3, x4, x5, x6, x7] 55)
  generalize w1.alloc (.cells #[x0, x1, x2, x3, x4, x5, x6, x7] 55) = w2 at *
  have z3 : (w2.alloc (.cells #[.slice none 0 0, .int .i64 0, .int .i64 0, .int .i64 0] 80)).heap.size = w2.heap.size + 1 := by simp
  have n2 := heap_alloc_new w2 (.cells #[.slice none 0 0, .int .i64 0, .int .i64 0, .int .i64 0] 80)
  have b2 := one_alloc w2 (.cells #[.slice none 0 0, .int .i64 0, .int .i64 0, .int .i64 0] 80)
  generalize w2.alloc (.cells #[.slice none 0 0, .int .i64 0, .int .i64 0, .int .i64 0] 80) = w3 at *
  have n3 := heap_alloc_new w3 (.cells #[.int .u8 0, .int .i64 0, .int .u32 0, .int .u32 0, .int .u8 0, .slice none 0 0, .slice none 0 0, .slice none 0 0] 55)
  have b3 := one_alloc w3 (.cells #[.int .u8 0, .int .i64 0, .int .u32 0, .int .u32 0, .int .u8 0, .slice none 0 0, .slice none 0 0, .slice none 0 0] 55)
  have n0 : w1.heap[w.heap.size]? = some (.cells #[r0, r1, r2, r3] 80) := by rw [← hw1]; exact heap_alloc_new w _
  have b0 : Below w.heap.size w w1 := by rw [← hw1]; exact one_alloc w _
  generalize w3.alloc (.cells #[.int .u8 0, .int .i64 0, .int .u32 0, .int .u32 0, .int .u8 0, .slice none 0 0, .slice none 0 0, .slice none 0 0] 55) = w4 at *
  rw [z1] at n1 z2; rw [z2] at n2 z3; rw [z3] at n3
  refine ⟨⟨?_, ?_, ?_, ?_⟩, Below.on b0 (Below.on b1 (Below.on b2 b3))⟩
  · exact ((b3.block _ (by omega)).trans ((b2.block _ (by omega)).trans (b1.block _ (by omega)))).trans n0
  · exact ((b3.block _ (by omega)).trans (b2.block _ (by omega))).trans n1
  · exact (b3.block _ (by omega)).trans n2
  · exact n3

/-- blocks from N + 4 on stay -/
def Kb (N : Nat) (w w' : World) : Prop := ∀ q, N + 4 ≤ q → w'.heap[q]? = w.heap[q]?
theorem Kb.refl (N : Nat) (w : World) : Kb N w w := fun _ _ => rfl
theorem Kb.set {N : Nat} {w w' : World} (h : Kb N w w') {b : Nat} (hb : b < N + 4) (i : Nat) (v : Value) : Kb N w (w'.setCell ⟨b, i, none⟩ v) := fun q hq => (heap_setCell_other w' ⟨b, i, none⟩ q v (by simp only; omega)).trans (h q hq)
theorem Kb.drew {N : Nat} {w w' : World} (h : Kb N w w') : Kb N w w'.drew := fun q hq => h q hq
theorem Kb.put {N : Nat} {w w' : World} (h : Kb N w w') (u0 u1 u2 u3 : Value) : Kb N w ((((w'.setCell ⟨N, 0, none⟩ (u0)).setCell ⟨N, 1, none⟩ (u1)).setCell ⟨N, 2, none⟩ (u2)).setCell ⟨N, 3, none⟩ (u3)) :=
  (((h.set (by omega) 0 u0).set (by omega) 1 u1).set (by omega) 2 u2).set (by omega) 3 u3
/-- how rest comes back -/
def RestPost (w : World) (a : Option Addr) (len cap : Nat) (R : Out Ins) (e : Ending) (w' : World) : Prop :=
  ∃ (k' : Nat) (i : Ins) (vb ve vl : Value), e = .returned (.tuple #[RV a len cap R.at_ k' R.e, .agg #[.int .u8 i.op, .int .i64 i.n, .int .u32 i.al, .int .u32 i.of, .int .u8 i.re, vb, ve, vl]]) ∧ Below w.heap.size w w' ∧ (IsSl vb ∧ IsSl ve ∧ IsSl vl) ∧
    (R.e = 0 → k' = R.k ∧ i = R.v ∧ Code w' (w.heap.size ≤ ·) i.body vb ∧ Code w' (w.heap.size ≤ ·) i.els ve ∧ Lies (w.heap.size ≤ ·) i.ls.length (Lab w' i.ls) vl)
/-- how list comes back -/
def LrP (w : World) (a : Option Addr) (len cap : Nat) (R : Out (List Ins × Int)) (e : Ending) (w' : World) : Prop :=
  ∃ (k' : Nat) (v : Value) (c : Int), e = .returned (.tuple #[RV a len cap R.at_ k' R.e, v, .int .u8 c]) ∧ IsSl v ∧ Below w.heap.size w w' ∧ (R.e = 0 → k' = R.k ∧ c = R.v.2 ∧ Code w' (w.heap.size ≤ ·) R.v.1 v)
def ListR (m : Nat) : Prop := ∀ (a : Option Addr) (len cap p k nest : Nat) (me : Bool) (zs : List Int) (w : World), Row w a len zs → len ≤ 3000 → p ≤ len → len ≤ cap → k ≤ 16384 → nest ≤ 64 → len - p < m →
  Calls Tryd.prog 36 #[RV a len cap p k 0, .int .i64 nest, .bool me] w (LrP w a len cap (D zs p k nest me))
end Ex
end Go.Proofs.YtjhmglefejclpaaDoor
