/- The document's Lay. -/
import Derived.Test.YtjhmglefejclpaaDoorF1
import Derived.Deep.RegionHeld3
import Derived.Deep.Cut

/- The document's Lay. -/
namespace Go.Proofs.YtjhmglefejclpaaDoor
open Go.RowKit
namespace Ex
set_option linter.unusedVariables false
set_option linter.unusedSimpArgs false

def LayP (l : List Ins) : Prop := ∀ (g : Nat → Prop) (v : Value) (d : Nat) (w : World), Code w g l v → may d l = true → Wf l → (enc l).length ≤ 1099511627776 → l.length ≤ 1099511627776 → Sz 1099511627776 l →
  Calls Tryd.prog 20 #[v] w fun e w' => ∃ v', e = .returned v' ∧ Below w.heap.size w w' ∧ Bu w' w.heap.size v' (enc l)
theorem lay_take {l : List Ins} {j : Nat} (h : j < l.length) : enc (l.take (j + 1)) = enc (l.take j) ++ [l[j].op] ++ encI l[j] := by
  rw [List.take_succ_eq_append_getElem h, enc_app, enc_cons, enc_nil]; simp
theorem lay_take_le (l : List Ins) (j : Nat) : (enc (l.take j)).length ≤ (enc l).length := by
  have h := List.take_append_drop j l
  have h2 : enc l = enc (l.take j) ++ enc (l.drop j) := by rw [← enc_app, h]
  rw [h2, List.length_append]; omega
/-- the box of an instruction of the document's -/
def BR (w : World) (Q : Nat) (x : Ins) (vb ve vl : Value) : Prop := w.heap[Q]? = some (Obj.cells #[.int .u8 x.op, .int .i64 x.n, .int .u32 x.al, .int .u32 x.of, .int .u8 x.re, vb, ve, vl] 55 (0, 0))
theorem BR.kt {w w' : World} {Q : Nat} {x : Ins} {vb ve vl : Value} (h : BR w Q x vb ve vl) (hk : Kt w w') : BR w' Q x vb ve vl := (hk Q _ _ _ (by decide) h).trans h
theorem BR.cs {w : World} {Q : Nat} {x : Ins} {vb ve vl : Value} (h : BR w Q x vb ve vl) : w.cell? ⟨Q, 0, none⟩ = some (.int .u8 x.op) ∧ w.cell? ⟨Q, 1, none⟩ = some (.int .i64 x.n) ∧ w.cell? ⟨Q, 2, none⟩ = some (.int .u32 x.al) ∧ w.cell? ⟨Q, 3, none⟩ = some (.int .u32 x.of) ∧ w.cell? ⟨Q, 4, none⟩ = some (.int .u8 x.re) ∧ w.cell? ⟨Q, 5, none⟩ = some vb ∧ w.cell? ⟨Q, 6, none⟩ = some ve ∧ w.cell? ⟨Q, 7, none⟩ = some vl := by
  have hc := fun j => cell_of_row w Q j _ _ _ h
  exact ⟨hc 0, hc 1, hc 2, hc 3, hc 4, hc 5, hc 6, hc 7⟩
theorem take_flat_le (ls : List Int) (i : Nat) : ((ls.take i).flatMap (Leb.bU 10)).length ≤ (ls.flatMap (Leb.bU 10)).length := by
  have h := List.take_append_drop i ls
  have h2 : ls.flatMap (Leb.bU 10) = (ls.take i).flatMap (Leb.bU 10) ++ (ls.drop i).flatMap (Leb.bU 10) := by rw [← List.flatMap_append, h]
  rw [h2, List.length_append]; omega
theorem lies_get {g : Nat → Prop} {a : Option Addr} {len n cap : Nat} {P : Nat → Nat → Prop} (h : Lies g len P (.slice a n cap)) (hl : 0 < len) : ∃ b o, a = some ⟨b, o, none⟩ ∧ g b ∧ P b o := by
  obtain ⟨a', c', e, _, _, h4⟩ := h
  cases e
  exact h4 hl
theorem mayI_fr {d : Nat} {i : Ins} (h : mayI d i = true) (h0 : 0 ≤ i.op) (h1 : i.op ≤ 255) : (fr i.op = 0 ∨ fr i.op = 1 ∨ fr i.op = 2 ∨ fr i.op = 3 ∨ fr i.op = 4 ∨ fr i.op = 5 ∨ fr i.op = 6 ∨ fr i.op = 7 ∨ fr i.op = 8 ∨ fr i.op = 9) ∧ bnd (fr i.op) i.n i.re i.ls.length = true := by
  unfold mayI one at h
  simp only [Bool.and_eq_true] at h
  have := fr_bd h0 h1 h.1.1.1
  exact ⟨by omega, h.1.1.2⟩

set_option maxRecDepth 100000 in
set_option maxHeartbeats 40000000 in
theorem lay_any (hF : FormH) (l : List Ins) : LayP l := by
  refine ind2 (P := LayP) (fun l ih => ?_) l
  intro g v d w hv hmay hwf hlen hll hsz
  obtain ⟨a, ca, rfl, hca, _, hA⟩ := hv
  have HA := hide hA; have HIh := hide ih; have HMay := hide (may_get hmay); have HWf := hide (Wf_get hwf); have HLn := hide hlen; have HF := hide hF; have HSz := hide (Sz_get hsz)
  clear hA ih hmay hwf hlen hF hsz
  generalize hn : l.length = n at *
  have HN := hide hn; clear hn
  go_enter Tryd.func20, Tryd.ntmps20
  go_wp2_with fail
  go_loopw [3, 4] (fun s c wr => ∃ j : Nat, c = .int .i64 j ∧ (j : Int) ≤ n ∧ Hid (Bu wr w.heap.size s (enc (l.take j))) ∧ Hid (Below w.heap.size w wr)) (fun _ c _ => n - (intOf c).toNat)
  case atStart => exact ⟨0, rfl, by omega, hide (by simpa [enc_nil] using Bu_nil _ _), hide (Below.refl _ _)⟩
  case round =>
    obtain ⟨j, rfl, hj, HBu, HBel⟩ := hrel
    by_cases hlt : (j : Int) < n
    · have ja : j < l.length := by have := unhide HN; omega
      obtain ⟨ba, oa, rfl, hga, hla⟩ := unhide HA (by have := unhide HN; omega)
      have hbab := (unhide HBel).block ba (Items_lt hla (by omega))
      have iA := Items_get hla j ja
      have hI := unhide HIh l[j] (List.getElem_mem ja)
      have hM := unhide HMay l[j] (List.getElem_mem ja)
      have hZ := unhide HSz l[j] (List.getElem_mem ja)
      have hW := unhide HWf l[j] (List.getElem_mem ja)
      have hT := lay_take ja
      have hL := lay_take_le l (j + 1)
      generalize hxx : l[j] = x at *
      obtain ⟨a0, n0, c0, rfl, hrow0, hnil0, hn0, hc0⟩ := (unhide HBu).row
      obtain ⟨vb, ve, vl, hc, h1, h2, h3⟩ := iA
      have H1 := hide h1; have H2 := hide h2; have H3 := hide h3
      obtain ⟨c1, cb1, rfl, _⟩ := h1
      obtain ⟨c2, cb2, rfl, _⟩ := h2
      obtain ⟨c3, cb3, rfl, _⟩ := h3
      obtain ⟨e0, e1, e2, e3, e4, e5, e6, e7⟩ := hc.move hbab
      clear hbab
      obtain ⟨hfit, hwb, hwe⟩ := hW
      obtain ⟨hfo, hbnd⟩ := mayI_fr hM hfit.1.1 hfit.1.2
      obtain ⟨hls, hflat, hdeep⟩ := mayI_ls hM
      have hform := fun W => unhide HF x.op W hfit.1.1 hfit.1.2
      generalize (frm x.op).isSome = fs at hform
      have HForm := hide hform; have HT := hide hT; have HI := hide hI; have HWb := hide (And.intro hwb hwe); have HDp := hide hdeep; have HBnd := hide hbnd; have HFit := hide hfit; have HLs := hide hls; have HZx := hide hZ
      have HB0 := hide (one_alloc wr (.cells #[.int .u8 x.op, .int .i64 x.n, .int .u32 x.al, .int .u32 x.of, .int .u8 x.re, .slice c1 x.body.length cb1, .slice c2 x.els.length cb2, .slice c3 x.ls.length cb3] 55))
      have hbr : BR (wr.alloc (.cells #[.int .u8 x.op, .int .i64 x.n, .int .u32 x.al, .int .u32 x.of, .int .u8 x.re, .slice c1 x.body.length cb1, .slice c2 x.els.length cb2, .slice c3 x.ls.length cb3] 55)) wr.heap.size x (.slice c1 x.body.length cb1) (.slice c2 x.els.length cb2) (.slice c3 x.ls.length cb3) := heap_alloc_new wr _
      have HBR := hide hbr
      obtain ⟨ys, hys⟩ : ∃ ys, enc (l.take j) = ys := ⟨_, rfl⟩
      rw [hys] at HBu HT hrow0 hn0
      have h6 : (enc (l.take (j + 1))).length = ys.length + 1 + (encI x).length := by rw [unhide HT]; simp only [List.length_append, List.length_cons, List.length_nil]
      have HLen := hide (show ys.length + 1 + (encI x).length ≤ 1099511627776 by have h5 := unhide HLn; omega)
      clear h6
      have hop : 0 ≤ x.op ∧ x.op ≤ 255 := hfit.1
      have HOp := hide hop
      clear hla hga hI hM hT hL hZ hform hfit hwb hwe hls hflat hdeep hbnd hbr hxx hys hrow0 hnil0 hn0 hc0 hop
      go_wp2_with fail
      generalize hw2 : wr.alloc (.cells #[.int .u8 x.op, .int .i64 x.n, .int .u32 x.al, .int .u32 x.of, .int .u8 x.re, .slice c1 x.body.length cb1, .slice c2 x.els.length cb2, .slice c3 x.ls.length cb3] 55) = w2 at *
      clear hw2 e0 e1 e2 e3 e4 e5 e6 e7
      refine (unhide HForm _).mono ?_
      rintro e w3 ⟨rfl, hb3⟩
      have HB3 := hide (Below.on (unhide HBel) (Below.on (unhide HB0) hb3))
      have HBR3 := hide ((unhide HBR).kt (Kt.of hb3))
      have HBu3 := hide ((unhide HBu).below (Below.on (unhide HB0) hb3))
      have HA3 := hide (one_alloc w3 (.cells #[.int .u8 x.op] 5))
      have HKt3 := hide (Kt.of (Below.on (unhide HB0) hb3))
      generalize hQ : wr.heap.size = Q at *
      have HQ := hide hQ; clear hQ
      obtain ⟨b0, b1, b2, b3, b4, b5, b6, b7⟩ := (unhide HBR3).cs
      clear hb3 HBR HB0 HBel HForm
      generalize hfr : fr x.op = f at *
      have HFr := hide hfr; clear hfr
      go_wp2_with (at_builtin; refine wpList_lay _ rfl (.tmp 25) (.tmp 28) rfl w.heap.size _ _ rfl ((unhide HBu3).below (unhide HA3)) (some ⟨w3.heap.size, 0, none⟩) 1 1 [x.op] rfl (row_one w3 x.op (unhide HOp).1 (unhide HOp).2) (by simp) ?qa0 ?qb0 ?_)
      case qa0 => have := unhide HLen; omega
      case qb0 => exact (Nat.le_trans (unhide HB3).size (unhide HA3).size)
      intro a4 n4 k4 w4 hbu4 hbel4 hkt4
      have HB4 := hide ((unhide HB3).trans (((unhide HA3).mono (unhide HB3).size).trans hbel4))
      have HBR4 := hide (((unhide HBR3).kt (Kt.of (unhide HA3))).kt hkt4)
      have HBu4 := hide hbu4
      have HKt4 := hide (Kt.on (unhide HKt3) (Kt.on (Kt.of (unhide HA3)) hkt4))
      clear hbu4 hbel4 hkt4 b0 b1 b2 b3 b4 b5 b6 b7 HBu3 HBR3 HA3 HB3
      obtain ⟨xs, hxs⟩ : ∃ xs, ys ++ [x.op] = xs := ⟨_, rfl⟩
      rw [hxs] at HBu4
      have hxl : xs.length = ys.length + 1 := by rw [← hxs]; simp
      have hT2 : enc (l.take (j + 1)) = xs ++ encI x := by rw [unhide HT, hxs]
      have HT2 := hide hT2
      replace HLen := hide (show xs.length + (encI x).length ≤ 1099511627776 by have := unhide HLen; omega)
      clear hT2 hxs hxl
      obtain ⟨b0, b1, b2, b3, b4, b5, b6, b7⟩ := (unhide HBR4).cs
      obtain ⟨hfit1, hfn, hfa, hfo2, hfre, hfls⟩ := unhide HFit
      have hencI : encI x = encF f x.n x.al x.of x.re (enc x.body) (enc x.els) x.els.length x.ls := by unfold encI; rw [unhide HFr]
      rw [hencI] at HT2 HLen
      have HFls := hide hfls
      clear hencI hfit1 hfls HT
      rcases hfo with rfl | rfl | rfl | rfl | rfl | rfl | rfl | rfl | rfl | rfl
      · skip
        rw [show encF 0 x.n x.al x.of x.re (enc x.body) (enc x.els) x.els.length x.ls = [] from rfl, List.append_nil] at HT2
        have HBuE := HBu4; have HBE := HB4
        go_wp2
        go_roundw
        case rel => exact ⟨j + 1, by go_num, by omega, by rw [unhide HT2]; first | exact HBuE | (have q := unhide HBuE; simp only [List.append_assoc, List.cons_append, List.nil_append, List.append_nil] at q ⊢; exact hide q), HBE⟩
        case measure => simp [intOf]; omega
      · skip
        rw [show encF 1 x.n x.al x.of x.re (enc x.body) (enc x.els) x.els.length x.ls = Leb.bS 10 x.n from rfl] at HT2 HLen
        go_wp2_with fail
        refine (refS_any x.n _ (by omega) (by omega)).mono ?_
        rintro e w5 ⟨g7, k7, rfl, hrow7, hcap7, hg7, hb7⟩
        have HRow7 := hide hrow7; have HBe7 := hide (Below.on (unhide HB4) hb7); have HBuA7 := hide ((unhide HBu4).below hb7); have HKA7 := hide (Kt.of hb7)
        have hlb7 : (Leb.bS 10 x.n).length = (Leb.bS 10 x.n).length := rfl
        clear hrow7 hcap7 hg7 hb7 hlb7
        go_wp2_with (at_builtin; refine wpList_lay _ rfl (.tmp 34) (.tmp 37) rfl w.heap.size _ _ rfl (unhide HBuA7) (some ⟨g7, 0, none⟩) (Leb.bS 10 x.n).length k7 (Leb.bS 10 x.n) rfl (unhide HRow7) (by simp) ?qa7 ?qb7 ?_)
        case qa7 => have := unhide HLen; first | omega | (simp only [List.length_append] at this ⊢; omega)
        case qb7 => exact (unhide HBe7).size
        intro a7 n7 c7 w6 hbu7 hbel7 hkt7
        have HBuB7 := hide hbu7; have HBB7 := hide ((unhide HBe7).trans hbel7); have HKB7 := hide (Kt.on (unhide HKA7) hkt7)
        clear hbu7 hbel7 hkt7 HBuA7 HBe7 HRow7 HKA7
        have HBuE := HBuB7; have HBE := HBB7
        go_wp2
        go_roundw
        case rel => exact ⟨j + 1, by go_num, by omega, by rw [unhide HT2]; first | exact HBuE | (have q := unhide HBuE; simp only [List.append_assoc, List.cons_append, List.nil_append, List.append_nil] at q ⊢; exact hide q), HBE⟩
        case measure => simp [intOf]; omega
      · skip
        rw [show encF 2 x.n x.al x.of x.re (enc x.body) (enc x.els) x.els.length x.ls = Leb.bS 10 x.n from rfl] at HT2 HLen
        go_wp2_with fail
        refine (refS_any x.n _ (by omega) (by omega)).mono ?_
        rintro e w5 ⟨g7, k7, rfl, hrow7, hcap7, hg7, hb7⟩
        have HRow7 := hide hrow7; have HBe7 := hide (Below.on (unhide HB4) hb7); have HBuA7 := hide ((unhide HBu4).below hb7); have HKA7 := hide (Kt.of hb7)
        have hlb7 : (Leb.bS 10 x.n).length = (Leb.bS 10 x.n).length := rfl
        clear hrow7 hcap7 hg7 hb7 hlb7
        go_wp2_with (at_builtin; refine wpList_lay _ rfl (.tmp 34) (.tmp 37) rfl w.heap.size _ _ rfl (unhide HBuA7) (some ⟨g7, 0, none⟩) (Leb.bS 10 x.n).length k7 (Leb.bS 10 x.n) rfl (unhide HRow7) (by simp) ?qa7 ?qb7 ?_)
        case qa7 => have := unhide HLen; first | omega | (simp only [List.length_append] at this ⊢; omega)
        case qb7 => exact (unhide HBe7).size
        intro a7 n7 c7 w6 hbu7 hbel7 hkt7
        have HBuB7 := hide hbu7; have HBB7 := hide ((unhide HBe7).trans hbel7); have HKB7 := hide (Kt.on (unhide HKA7) hkt7)
        clear hbu7 hbel7 hkt7 HBuA7 HBe7 HRow7 HKA7
        have HBuE := HBuB7; have HBE := HBB7
        go_wp2
        go_roundw
        case rel => exact ⟨j + 1, by go_num, by omega, by rw [unhide HT2]; first | exact HBuE | (have q := unhide HBuE; simp only [List.append_assoc, List.cons_append, List.nil_append, List.append_nil] at q ⊢; exact hide q), HBE⟩
        case measure => simp [intOf]; omega
      · skip
        rw [show encF 3 x.n x.al x.of x.re (enc x.body) (enc x.els) x.els.length x.ls = Leb.bU 10 x.n from rfl] at HT2 HLen
        have hbn : 0 ≤ x.n ∧ x.n ≤ 4294967295 := by have := unhide HBnd; simpa [bnd] using this
        have hu64 : IntKind.u64.wrap x.n = x.n := by rw [IntKind.wrap_u64]; omega
        go_wp2_with fail
        refine (refU_any x.n _ (by omega) (by omega)).mono ?_
        rintro e w5 ⟨g7, k7, rfl, hrow7, hcap7, hg7, hb7⟩
        have HRow7 := hide hrow7; have HBe7 := hide (Below.on (unhide HB4) hb7); have HBuA7 := hide ((unhide HBu4).below hb7); have HKA7 := hide (Kt.of hb7)
        have hlb7 : (Leb.bU 10 x.n).length = (Leb.bU 10 x.n).length := rfl
        clear hrow7 hcap7 hg7 hb7 hlb7
        go_wp2_with (at_builtin; refine wpList_lay _ rfl (.tmp 41) (.tmp 45) rfl w.heap.size _ _ rfl (unhide HBuA7) (some ⟨g7, 0, none⟩) (Leb.bU 10 x.n).length k7 (Leb.bU 10 x.n) rfl (unhide HRow7) (by simp) ?qa7 ?qb7 ?_)
        case qa7 => have := unhide HLen; first | omega | (simp only [List.length_append] at this ⊢; omega)
        case qb7 => exact (unhide HBe7).size
        intro a7 n7 c7 w6 hbu7 hbel7 hkt7
        have HBuB7 := hide hbu7; have HBB7 := hide ((unhide HBe7).trans hbel7); have HKB7 := hide (Kt.on (unhide HKA7) hkt7)
        clear hbu7 hbel7 hkt7 HBuA7 HBe7 HRow7 HKA7
        have HBuE := HBuB7; have HBE := HBB7
        go_wp2
        go_roundw
        case rel => exact ⟨j + 1, by go_num, by omega, by rw [unhide HT2]; first | exact HBuE | (have q := unhide HBuE; simp only [List.append_assoc, List.cons_append, List.nil_append, List.append_nil] at q ⊢; exact hide q), HBE⟩
        case measure => simp [intOf]; omega
      · skip
        rw [show encF 4 x.n x.al x.of x.re (enc x.body) (enc x.els) x.els.length x.ls = Leb.bU 10 x.al ++ Leb.bU 10 x.of from rfl] at HT2 HLen
        generalize hna : Leb.bU 10 x.al = za at *
        generalize hno : Leb.bU 10 x.of = zo at *
        have pu1 := fun W => refU_any x.al W (by omega) (by omega)
        have pu2 := fun W => refU_any x.of W (by omega) (by omega)
        rw [hna] at pu1
        rw [hno] at pu2
        have P1 := hide pu1; have P2 := hide pu2
        have HL1 := hide (show xs.length + za.length ≤ 1099511627776 by have h9 := unhide HLen; simp only [List.length_append] at h9; omega)
        have HL2 := hide (show (xs ++ za).length + zo.length ≤ 1099511627776 by have h9 := unhide HLen; simp only [List.length_append] at h9 ⊢; omega)
        clear pu1 pu2 hna hno b0 b1 b4 b5 b6 b7
        obtain ⟨fa0, fa1⟩ := hfa
        obtain ⟨fo0, fo1⟩ := hfo2
        go_wp2_with fail
        have hwa : IntKind.u64.wrap x.al = x.al := by rw [IntKind.wrap_u64]; omega
        have hwo : IntKind.u64.wrap x.of = x.of := by rw [IntKind.wrap_u64]; omega
        go_region_held3 (fun w' => w'.cell? ⟨Q, 2, none⟩ = some (.int .u32 x.al) ∧ w'.cell? ⟨Q, 3, none⟩ = some (.int .u32 x.of))
          (first | go_keep | exact ⟨p2, p3⟩)
          (first
            | (go_at_call_of 34 (Value.int .u64 x.al)
               refine (unhide P1 _).mono ?_
               rintro e w5 ⟨g5, k5, rfl, hrow5, _, _, hb5⟩
               have HB5 := hide (Below.on (unhide HB4) (Below.on (below_drew w4) hb5))
               have HRow5 := hide hrow5
               have HBu5 := hide ((unhide HBu4).below (Below.on (below_drew w4) hb5))
               have HBR5 := hide ((unhide HBR4).kt (Kt.of (Below.on (below_drew w4) hb5)))
               obtain ⟨_, _, p2, p3, _⟩ := (unhide HBR5).cs
               clear hrow5 hb5)
            | (refine step_lay _ rfl (.tmp 49) (.tmp 53) rfl w.heap.size _ _ rfl (unhide HBu5) (some ⟨g5, 0, none⟩) za.length k5 za rfl (unhide HRow5) (by simp) (by have h9 := unhide HL1; (try simp only [List.length_append, List.length_cons, List.length_nil] at h9); (try simp only [List.length_append, List.length_cons, List.length_nil]); omega) (unhide HB5).size ?_
               intro a6 n6 c6 w6 hbu6 hbel6 hkt6
               have HBu6 := hide hbu6; have HB6 := hide ((unhide HB5).trans hbel6)
               have HBR6 := hide ((unhide HBR5).kt hkt6)
               obtain ⟨_, _, p2, p3, _⟩ := (unhide HBR6).cs
               clear hbu6 hbel6 hkt6)
            | (go_at_call_of 34 (Value.int .u64 x.of)
               refine (unhide P2 _).mono ?_
               rintro e w7 ⟨g7, k7, rfl, hrow7, _, _, hb7⟩
               have HB7 := hide (Below.on (unhide HB6) hb7)
               have HRow7 := hide hrow7
               have HBu7 := hide ((unhide HBu6).below hb7)
               have HBR7 := hide ((unhide HBR6).kt (Kt.of hb7))
               obtain ⟨_, _, p2, p3, _⟩ := (unhide HBR7).cs
               clear hrow7 hb7)
            | (refine step_lay _ rfl (.tmp 54) (.tmp 58) rfl w.heap.size _ _ rfl (unhide HBu7) (some ⟨g7, 0, none⟩) zo.length k7 zo rfl (unhide HRow7) (by simp) (by have h9 := unhide HL2; (try simp only [List.length_append, List.length_cons, List.length_nil] at h9); (try simp only [List.length_append, List.length_cons, List.length_nil]); omega) (unhide HB7).size ?_
               intro a8 n8 c8 w8 hbu8 hbel8 hkt8
               have HBu8 := hide hbu8; have HB8 := hide ((unhide HB7).trans hbel8)
               have HBR8 := hide ((unhide HBR7).kt hkt8)
               obtain ⟨_, _, p2, p3, _⟩ := (unhide HBR8).cs
               clear hbu8 hbel8 hkt8)
            | fail)
        have HBuE := HBu8; have HBE := HB8
        clear p2 p3 b2 b3
        go_wp2
        go_roundw
        case rel => exact ⟨j + 1, by go_num, by omega, by rw [unhide HT2]; first | exact HBuE | (have q := unhide HBuE; simp only [List.append_assoc, List.cons_append, List.nil_append, List.append_nil] at q ⊢; exact hide q), HBE⟩
        case measure => simp [intOf]; omega
      · skip
        rw [show encF 5 x.n x.al x.of x.re (enc x.body) (enc x.els) x.els.length x.ls = [0] from rfl] at HT2 HLen
        have HA7 := hide (one_alloc w4 (.cells #[.int .u8 0] 5))
        go_wp2_with (at_builtin; refine wpList_lay _ rfl (.tmp 62) (.tmp 63) rfl w.heap.size _ _ rfl ((unhide HBu4).below (unhide HA7)) (some ⟨w4.heap.size, 0, none⟩) 1 1 [0] rfl (row_one w4 0 (by omega) (by omega)) (by simp) ?qa7 ?qb7 ?_)
        case qa7 => have := unhide HLen; first | omega | (simp only [List.length_append, List.length_cons, List.length_nil] at this ⊢; omega)
        case qb7 => first | exact (Nat.le_trans (unhide HB4).size (unhide HA7).size) | exact Nat.le_trans (unhide HB4).size (Nat.le_succ _)
        intro a7 n7 c7 w5 hbu7 hbel7 hkt7
        have HBuB7 := hide hbu7; have HBB7 := hide ((unhide HB4).trans (((unhide HA7).mono (unhide HB4).size).trans hbel7)); have HKB7 := hide (Kt.on (Kt.of (unhide HA7)) hkt7)
        clear hbu7 hbel7 hkt7 HA7
        have HBuE := HBuB7; have HBE := HBB7
        go_wp2
        go_roundw
        case rel => exact ⟨j + 1, by go_num, by omega, by rw [unhide HT2]; first | exact HBuE | (have q := unhide HBuE; simp only [List.append_assoc, List.cons_append, List.nil_append, List.append_nil] at q ⊢; exact hide q), HBE⟩
        case measure => simp [intOf]; omega
      · skip
        rw [show encF 6 x.n x.al x.of x.re (enc x.body) (enc x.els) x.els.length x.ls = [if x.re = 0 then 64 else x.re] ++ enc x.body ++ (if 0 < x.els.length then [5] ++ enc x.els else []) ++ [11] from rfl] at HT2 HLen
        obtain ⟨hmb, hme⟩ := unhide HDp rfl
        obtain ⟨hzb, hze, _, hsb, hse⟩ := unhide HZx
        have hlb := fun (W : World) (hb : Below w.heap.size w W) (hh : (enc x.body).length ≤ 1099511627776) => (unhide HI).1 g _ (d + 1) W ((unhide H1).below hb) hmb (unhide HWb).1 hh hzb hsb
        have hle := fun (W : World) (hb : Below w.heap.size w W) (hh : (enc x.els).length ≤ 1099511627776) => (unhide HI).2 g _ (d + 1) W ((unhide H2).below hb) hme (unhide HWb).2 hh hze hse
        have HLb := hide hlb; have HLe := hide hle
        clear hlb hle hmb hme hzb hze hsb hse
        generalize enc x.body = eb at *
        generalize enc x.els = ee at *
        by_cases hre : x.re = 0
        · skip
          rw [if_pos hre] at HT2 HLen
          have tre : (x.re == 0) = true := by simpa using hre
          clear hre
          have HA7 := hide (one_alloc w4 (.cells #[.int .u8 64] 5))
          go_wp2_with (at_builtin; refine wpList_lay _ rfl (.tmp 71) (.tmp 72) rfl w.heap.size _ _ rfl ((unhide HBu4).below (unhide HA7)) (some ⟨w4.heap.size, 0, none⟩) 1 1 [64] rfl (row_one w4 64 (by omega) (by omega)) (by simp) ?qa7 ?qb7 ?_)
          case qa7 => have := unhide HLen; first | omega | (simp only [List.length_append, List.length_cons, List.length_nil] at this ⊢; omega)
          case qb7 => first | exact (Nat.le_trans (unhide HB4).size (unhide HA7).size) | exact Nat.le_trans (unhide HB4).size (Nat.le_succ _)
          intro a7 n7 c7 w5 hbu7 hbel7 hkt7
          have HBuB7 := hide hbu7; have HBB7 := hide ((unhide HB4).trans (((unhide HA7).mono (unhide HB4).size).trans hbel7)); have HKB7 := hide (Kt.on (Kt.of (unhide HA7)) hkt7)
          clear hbu7 hbel7 hkt7 HA7
          have HBR5 := hide ((unhide HBR4).kt (unhide HKB7))
          obtain ⟨b0, b1, b2, b3, b4, b5, b6, b7⟩ := (unhide HBR5).cs
          go_wp2_with fail
          refine (unhide HLb _ (unhide HBB7) (by have h9 := unhide HLen; (try simp only [List.length_append, List.length_cons, List.length_nil] at h9); (try simp only [List.length_append, List.length_cons, List.length_nil]); omega)).mono ?_
          rintro e w6 ⟨v6, rfl, hb6, hbu6⟩
          obtain ⟨ra, rn, rc, rfl, hrow6, hnil6, hn6, hc6⟩ := hbu6.row
          have HRow6 := hide hrow6; have HB6 := hide (Below.on (unhide HBB7) hb6); have HBu6 := hide ((unhide HBuB7).below hb6); have HBR6 := hide ((unhide HBR5).kt (Kt.of hb6)); have HN6 := hide hn6
          clear hrow6 hb6 hbu6 hn6 hc6 b0 b1 b2 b3 b4 b5 b6 b7
          go_wp2_with (at_builtin; refine wpList_lay _ rfl (.tmp 79) (.tmp 82) rfl w.heap.size _ _ rfl (unhide HBu6) ra rn rc eb rfl (unhide HRow6) hnil6 ?qa9 ?qb9 ?_)
          case qa9 => have := unhide HLen; have := unhide HN6; simp only [List.length_append, List.length_cons, List.length_nil] at *; omega
          case qb9 => exact (unhide HB6).size
          intro a10 n10 c10 w10 hbu10 hbel10 hkt10
          have HBu10 := hide hbu10; have HB10 := hide ((unhide HB6).trans hbel10); have HBR10 := hide ((unhide HBR6).kt hkt10)
          clear hbu10 hbel10 hkt10 hnil6 HBu6 HRow6 HBR6 HBuB7 HBB7 HBR5
          obtain ⟨b0, b1, b2, b3, b4, b5, b6, b7⟩ := (unhide HBR10).cs
          by_cases hel : 0 < x.els.length
          · rw [if_pos hel] at HT2 HLen
            have helz : (0 : Int) < (x.els.length : Int) := by omega
            have HRow5 := hide (row_one w10.drew 5 (by omega) (by omega))
            have HA5 := hide ((Below.refl w10.heap.size w10).drew.alloc (Nat.le_refl _) (.cells #[.int .u8 5] 5))
            clear hel b0 b1 b2 b3 b4 b5 b7
            go_wp2_with fail
            go_region_held3 (fun w' => w'.cell? ⟨Q, 6, none⟩ = some (.slice c2 x.els.length cb2))
              (first | go_keep | exact p6)
              (first
                | (refine step_lay _ rfl (.tmp 88) (.tmp 89) rfl w.heap.size _ _ rfl ((unhide HBu10).below (unhide HA5)) (some ⟨w10.heap.size, 0, none⟩) 1 1 [5] rfl (unhide HRow5) (by simp) (by have h9 := unhide HLen; (try simp only [List.length_append, List.length_cons, List.length_nil] at h9); (try simp only [List.length_append, List.length_cons, List.length_nil]); omega) (Nat.le_trans (unhide HB10).size (unhide HA5).size) ?_
                   intro a11 n11 c11 w11 hbu11 hbel11 hkt11
                   have HBu11 := hide hbu11; have HB11 := hide ((unhide HB10).trans (((unhide HA5).mono (unhide HB10).size).trans hbel11))
                   have HBR11 := hide (((unhide HBR10).kt (Kt.of (unhide HA5))).kt hkt11)
                   obtain ⟨_, _, _, _, _, _, p6, _⟩ := (unhide HBR11).cs
                   clear hbu11 hbel11 hkt11)
                | (go_at_call 20
                   refine (unhide HLe _ (unhide HB11) (by have h9 := unhide HLen; (try simp only [List.length_append, List.length_cons, List.length_nil] at h9); (try simp only [List.length_append, List.length_cons, List.length_nil]); omega)).mono ?_
                   rintro e w12 ⟨v12, rfl, hb12, hbu12⟩
                   obtain ⟨sa, sn, sk, rfl, hrow12, hnil12, hn12, hc12⟩ := hbu12.row
                   have HRow12 := hide hrow12; have HB12 := hide (Below.on (unhide HB11) hb12); have HBu12 := hide ((unhide HBu11).below hb12); have HBR12 := hide ((unhide HBR11).kt (Kt.of hb12)); have HN12 := hide hn12
                   obtain ⟨_, _, _, _, _, _, p6, _⟩ := (unhide HBR12).cs
                   clear hrow12 hb12 hbu12 hn12 hc12)
                | (refine step_lay _ rfl (.tmp 90) (.tmp 93) rfl w.heap.size _ _ rfl (unhide HBu12) sa sn sk ee rfl (unhide HRow12) hnil12 (by have h9 := unhide HLen; have h8 := unhide HN12; (try simp only [List.length_append, List.length_cons, List.length_nil] at h9); (try simp only [List.length_append, List.length_cons, List.length_nil]); omega) (unhide HB12).size ?_
                   intro a13 n13 c13 w13 hbu13 hbel13 hkt13
                   have HBu13 := hide hbu13; have HB13 := hide ((unhide HB12).trans hbel13)
                   have HBR13 := hide ((unhide HBR12).kt hkt13)
                   obtain ⟨_, _, _, _, _, _, p6, _⟩ := (unhide HBR13).cs
                   clear hbu13 hbel13 hkt13)
                | fail)
            clear p6 hnil12 b6
            have HA14 := hide (one_alloc w13 (.cells #[.int .u8 11] 5))
            go_wp2_with (at_builtin; refine wpList_lay _ rfl (.tmp 95) (.tmp 96) rfl w.heap.size _ _ rfl ((unhide HBu13).below (unhide HA14)) (some ⟨w13.heap.size, 0, none⟩) 1 1 [11] rfl (row_one w13 11 (by omega) (by omega)) (by simp) ?qa14 ?qb14 ?_)
            case qa14 => have := unhide HLen; first | omega | (simp only [List.length_append, List.length_cons, List.length_nil] at this ⊢; omega)
            case qb14 => first | exact (Nat.le_trans (unhide HB13).size (unhide HA14).size) | exact Nat.le_trans (unhide HB13).size (Nat.le_succ _)
            intro a14 n14 c14 w14 hbu14 hbel14 hkt14
            have HBuB14 := hide hbu14; have HBB14 := hide ((unhide HB13).trans (((unhide HA14).mono (unhide HB13).size).trans hbel14)); have HKB14 := hide (Kt.on (Kt.of (unhide HA14)) hkt14)
            clear hbu14 hbel14 hkt14 HA14
            have HBuE := HBuB14; have HBE := HBB14
            go_wp2
            go_roundw
            case rel => exact ⟨j + 1, by go_num, by omega, by rw [unhide HT2]; first | exact HBuE | (have q := unhide HBuE; simp only [List.append_assoc, List.cons_append, List.nil_append, List.append_nil] at q ⊢; exact hide q), HBE⟩
            case measure => simp [intOf]; omega
          · rw [if_neg hel] at HT2 HLen
            have helz : ¬ ((0 : Int) < (x.els.length : Int)) := by omega
            clear hel
            have HA15 := hide (one_alloc w10 (.cells #[.int .u8 11] 5))
            go_wp2_with (at_builtin; refine wpList_lay _ rfl (.tmp 95) (.tmp 96) rfl w.heap.size _ _ rfl ((unhide HBu10).below (unhide HA15)) (some ⟨w10.heap.size, 0, none⟩) 1 1 [11] rfl (row_one w10 11 (by omega) (by omega)) (by simp) ?qa15 ?qb15 ?_)
            case qa15 => have := unhide HLen; first | omega | (simp only [List.length_append, List.length_cons, List.length_nil] at this ⊢; omega)
            case qb15 => first | exact (Nat.le_trans (unhide HB10).size (unhide HA15).size) | exact Nat.le_trans (unhide HB10).size (Nat.le_succ _)
            intro a15 n15 c15 w14 hbu15 hbel15 hkt15
            have HBuB15 := hide hbu15; have HBB15 := hide ((unhide HB10).trans (((unhide HA15).mono (unhide HB10).size).trans hbel15)); have HKB15 := hide (Kt.on (Kt.of (unhide HA15)) hkt15)
            clear hbu15 hbel15 hkt15 HA15
            have HBuE := HBuB15; have HBE := HBB15
            go_wp2
            go_roundw
            case rel => exact ⟨j + 1, by go_num, by omega, by rw [unhide HT2]; first | exact HBuE | (have q := unhide HBuE; simp only [List.append_assoc, List.cons_append, List.nil_append, List.append_nil] at q ⊢; exact hide q), HBE⟩
            case measure => simp [intOf]; omega
        · skip
          rw [if_neg hre] at HT2 HLen
          have tre : (x.re == 0) = false := by simpa using hre
          clear hre
          have HA7 := hide (one_alloc w4 (.cells #[.int .u8 x.re] 5))
          go_wp2_with (at_builtin; refine wpList_lay _ rfl (.tmp 74) (.tmp 77) rfl w.heap.size _ _ rfl ((unhide HBu4).below (unhide HA7)) (some ⟨w4.heap.size, 0, none⟩) 1 1 [x.re] rfl (row_one w4 x.re (by omega) (by omega)) (by simp) ?qa7 ?qb7 ?_)
          case qa7 => have := unhide HLen; first | omega | (simp only [List.length_append, List.length_cons, List.length_nil] at this ⊢; omega)
          case qb7 => first | exact (Nat.le_trans (unhide HB4).size (unhide HA7).size) | exact Nat.le_trans (unhide HB4).size (Nat.le_succ _)
          intro a7 n7 c7 w5 hbu7 hbel7 hkt7
          have HBuB7 := hide hbu7; have HBB7 := hide ((unhide HB4).trans (((unhide HA7).mono (unhide HB4).size).trans hbel7)); have HKB7 := hide (Kt.on (Kt.of (unhide HA7)) hkt7)
          clear hbu7 hbel7 hkt7 HA7
          have HBR5 := hide ((unhide HBR4).kt (unhide HKB7))
          obtain ⟨b0, b1, b2, b3, b4, b5, b6, b7⟩ := (unhide HBR5).cs
          go_wp2_with fail
          refine (unhide HLb _ (unhide HBB7) (by have h9 := unhide HLen; (try simp only [List.length_append, List.length_cons, List.length_nil] at h9); (try simp only [List.length_append, List.length_cons, List.length_nil]); omega)).mono ?_
          rintro e w6 ⟨v6, rfl, hb6, hbu6⟩
          obtain ⟨ra, rn, rc, rfl, hrow6, hnil6, hn6, hc6⟩ := hbu6.row
          have HRow6 := hide hrow6; have HB6 := hide (Below.on (unhide HBB7) hb6); have HBu6 := hide ((unhide HBuB7).below hb6); have HBR6 := hide ((unhide HBR5).kt (Kt.of hb6)); have HN6 := hide hn6
          clear hrow6 hb6 hbu6 hn6 hc6 b0 b1 b2 b3 b4 b5 b6 b7
          go_wp2_with (at_builtin; refine wpList_lay _ rfl (.tmp 79) (.tmp 82) rfl w.heap.size _ _ rfl (unhide HBu6) ra rn rc eb rfl (unhide HRow6) hnil6 ?qa9 ?qb9 ?_)
          case qa9 => have := unhide HLen; have := unhide HN6; simp only [List.length_append, List.length_cons, List.length_nil] at *; omega
          case qb9 => exact (unhide HB6).size
          intro a10 n10 c10 w10 hbu10 hbel10 hkt10
          have HBu10 := hide hbu10; have HB10 := hide ((unhide HB6).trans hbel10); have HBR10 := hide ((unhide HBR6).kt hkt10)
          clear hbu10 hbel10 hkt10 hnil6 HBu6 HRow6 HBR6 HBuB7 HBB7 HBR5
          obtain ⟨b0, b1, b2, b3, b4, b5, b6, b7⟩ := (unhide HBR10).cs
          by_cases hel : 0 < x.els.length
          · rw [if_pos hel] at HT2 HLen
            have helz : (0 : Int) < (x.els.length : Int) := by omega
            have HRow5 := hide (row_one w10.drew 5 (by omega) (by omega))
            have HA5 := hide ((Below.refl w10.heap.size w10).drew.alloc (Nat.le_refl _) (.cells #[.int .u8 5] 5))
            clear hel b0 b1 b2 b3 b4 b5 b7
            go_wp2_with fail
            go_region_held3 (fun w' => w'.cell? ⟨Q, 6, none⟩ = some (.slice c2 x.els.length cb2))
              (first | go_keep | exact p6)
              (first
                | (refine step_lay _ rfl (.tmp 88) (.tmp 89) rfl w.heap.size _ _ rfl ((unhide HBu10).below (unhide HA5)) (some ⟨w10.heap.size, 0, none⟩) 1 1 [5] rfl (unhide HRow5) (by simp) (by have h9 := unhide HLen; (try simp only [List.length_append, List.length_cons, List.length_nil] at h9); (try simp only [List.length_append, List.length_cons, List.length_nil]); omega) (Nat.le_trans (unhide HB10).size (unhide HA5).size) ?_
                   intro a11 n11 c11 w11 hbu11 hbel11 hkt11
                   have HBu11 := hide hbu11; have HB11 := hide ((unhide HB10).trans (((unhide HA5).mono (unhide HB10).size).trans hbel11))
                   have HBR11 := hide (((unhide HBR10).kt (Kt.of (unhide HA5))).kt hkt11)
                   obtain ⟨_, _, _, _, _, _, p6, _⟩ := (unhide HBR11).cs
                   clear hbu11 hbel11 hkt11)
                | (go_at_call 20
                   refine (unhide HLe _ (unhide HB11) (by have h9 := unhide HLen; (try simp only [List.length_append, List.length_cons, List.length_nil] at h9); (try simp only [List.length_append, List.length_cons, List.length_nil]); omega)).mono ?_
                   rintro e w12 ⟨v12, rfl, hb12, hbu12⟩
                   obtain ⟨sa, sn, sk, rfl, hrow12, hnil12, hn12, hc12⟩ := hbu12.row
                   have HRow12 := hide hrow12; have HB12 := hide (Below.on (unhide HB11) hb12); have HBu12 := hide ((unhide HBu11).below hb12); have HBR12 := hide ((unhide HBR11).kt (Kt.of hb12)); have HN12 := hide hn12
                   obtain ⟨_, _, _, _, _, _, p6, _⟩ := (unhide HBR12).cs
                   clear hrow12 hb12 hbu12 hn12 hc12)
                | (refine step_lay _ rfl (.tmp 90) (.tmp 93) rfl w.heap.size _ _ rfl (unhide HBu12) sa sn sk ee rfl (unhide HRow12) hnil12 (by have h9 := unhide HLen; have h8 := unhide HN12; (try simp only [List.length_append, List.length_cons, List.length_nil] at h9); (try simp only [List.length_append, List.length_cons, List.length_nil]); omega) (unhide HB12).size ?_
                   intro a13 n13 c13 w13 hbu13 hbel13 hkt13
                   have HBu13 := hide hbu13; have HB13 := hide ((unhide HB12).trans hbel13)
                   have HBR13 := hide ((unhide HBR12).kt hkt13)
                   obtain ⟨_, _, _, _, _, _, p6, _⟩ := (unhide HBR13).cs
                   clear hbu13 hbel13 hkt13)
                | fail)
            clear p6 hnil12 b6
            have HA14 := hide (one_alloc w13 (.cells #[.int .u8 11] 5))
            go_wp2_with (at_builtin; refine wpList_lay _ rfl (.tmp 95) (.tmp 96) rfl w.heap.size _ _ rfl ((unhide HBu13).below (unhide HA14)) (some ⟨w13.heap.size, 0, none⟩) 1 1 [11] rfl (row_one w13 11 (by omega) (by omega)) (by simp) ?qa14 ?qb14 ?_)
            case qa14 => have := unhide HLen; first | omega | (simp only [List.length_append, List.length_cons, List.length_nil] at this ⊢; omega)
            case qb14 => first | exact (Nat.le_trans (unhide HB13).size (unhide HA14).size) | exact Nat.le_trans (unhide HB13).size (Nat.le_succ _)
            intro a14 n14 c14 w14 hbu14 hbel14 hkt14
            have HBuB14 := hide hbu14; have HBB14 := hide ((unhide HB13).trans (((unhide HA14).mono (unhide HB13).size).trans hbel14)); have HKB14 := hide (Kt.on (Kt.of (unhide HA14)) hkt14)
            clear hbu14 hbel14 hkt14 HA14
            have HBuE := HBuB14; have HBE := HBB14
            go_wp2
            go_roundw
            case rel => exact ⟨j + 1, by go_num, by omega, by rw [unhide HT2]; first | exact HBuE | (have q := unhide HBuE; simp only [List.append_assoc, List.cons_append, List.nil_append, List.append_nil] at q ⊢; exact hide q), HBE⟩
            case measure => simp [intOf]; omega
          · rw [if_neg hel] at HT2 HLen
            have helz : ¬ ((0 : Int) < (x.els.length : Int)) := by omega
            clear hel
            have HA15 := hide (one_alloc w10 (.cells #[.int .u8 11] 5))
            go_wp2_with (at_builtin; refine wpList_lay _ rfl (.tmp 95) (.tmp 96) rfl w.heap.size _ _ rfl ((unhide HBu10).below (unhide HA15)) (some ⟨w10.heap.size, 0, none⟩) 1 1 [11] rfl (row_one w10 11 (by omega) (by omega)) (by simp) ?qa15 ?qb15 ?_)
            case qa15 => have := unhide HLen; first | omega | (simp only [List.length_append, List.length_cons, List.length_nil] at this ⊢; omega)
            case qb15 => first | exact (Nat.le_trans (unhide HB10).size (unhide HA15).size) | exact Nat.le_trans (unhide HB10).size (Nat.le_succ _)
            intro a15 n15 c15 w14 hbu15 hbel15 hkt15
            have HBuB15 := hide hbu15; have HBB15 := hide ((unhide HB10).trans (((unhide HA15).mono (unhide HB10).size).trans hbel15)); have HKB15 := hide (Kt.on (Kt.of (unhide HA15)) hkt15)
            clear hbu15 hbel15 hkt15 HA15
            have HBuE := HBuB15; have HBE := HBB15
            go_wp2
            go_roundw
            case rel => exact ⟨j + 1, by go_num, by omega, by rw [unhide HT2]; first | exact HBuE | (have q := unhide HBuE; simp only [List.append_assoc, List.cons_append, List.nil_append, List.append_nil] at q ⊢; exact hide q), HBE⟩
            case measure => simp [intOf]; omega
      · skip
        rw [show encF 7 x.n x.al x.of x.re (enc x.body) (enc x.els) x.els.length x.ls = [if x.re = 0 then 64 else x.re] ++ enc x.body ++ (if 0 < x.els.length then [5] ++ enc x.els else []) ++ [11] from rfl] at HT2 HLen
        obtain ⟨hmb, hme⟩ := unhide HDp rfl
        obtain ⟨hzb, hze, _, hsb, hse⟩ := unhide HZx
        have hlb := fun (W : World) (hb : Below w.heap.size w W) (hh : (enc x.body).length ≤ 1099511627776) => (unhide HI).1 g _ (d + 1) W ((unhide H1).below hb) hmb (unhide HWb).1 hh hzb hsb
        have hle := fun (W : World) (hb : Below w.heap.size w W) (hh : (enc x.els).length ≤ 1099511627776) => (unhide HI).2 g _ (d + 1) W ((unhide H2).below hb) hme (unhide HWb).2 hh hze hse
        have HLb := hide hlb; have HLe := hide hle
        clear hlb hle hmb hme hzb hze hsb hse
        generalize enc x.body = eb at *
        generalize enc x.els = ee at *
        by_cases hre : x.re = 0
        · skip
          rw [if_pos hre] at HT2 HLen
          have tre : (x.re == 0) = true := by simpa using hre
          clear hre
          have HA7 := hide (one_alloc w4 (.cells #[.int .u8 64] 5))
          go_wp2_with (at_builtin; refine wpList_lay _ rfl (.tmp 71) (.tmp 72) rfl w.heap.size _ _ rfl ((unhide HBu4).below (unhide HA7)) (some ⟨w4.heap.size, 0, none⟩) 1 1 [64] rfl (row_one w4 64 (by omega) (by omega)) (by simp) ?qa7 ?qb7 ?_)
          case qa7 => have := unhide HLen; first | omega | (simp only [List.length_append, List.length_cons, List.length_nil] at this ⊢; omega)
          case qb7 => first | exact (Nat.le_trans (unhide HB4).size (unhide HA7).size) | exact Nat.le_trans (unhide HB4).size (Nat.le_succ _)
          intro a7 n7 c7 w5 hbu7 hbel7 hkt7
          have HBuB7 := hide hbu7; have HBB7 := hide ((unhide HB4).trans (((unhide HA7).mono (unhide HB4).size).trans hbel7)); have HKB7 := hide (Kt.on (Kt.of (unhide HA7)) hkt7)
          clear hbu7 hbel7 hkt7 HA7
          have HBR5 := hide ((unhide HBR4).kt (unhide HKB7))
          obtain ⟨b0, b1, b2, b3, b4, b5, b6, b7⟩ := (unhide HBR5).cs
          go_wp2_with fail
          refine (unhide HLb _ (unhide HBB7) (by have h9 := unhide HLen; (try simp only [List.length_append, List.length_cons, List.length_nil] at h9); (try simp only [List.length_append, List.length_cons, List.length_nil]); omega)).mono ?_
          rintro e w6 ⟨v6, rfl, hb6, hbu6⟩
          obtain ⟨ra, rn, rc, rfl, hrow6, hnil6, hn6, hc6⟩ := hbu6.row
          have HRow6 := hide hrow6; have HB6 := hide (Below.on (unhide HBB7) hb6); have HBu6 := hide ((unhide HBuB7).below hb6); have HBR6 := hide ((unhide HBR5).kt (Kt.of hb6)); have HN6 := hide hn6
          clear hrow6 hb6 hbu6 hn6 hc6 b0 b1 b2 b3 b4 b5 b6 b7
          go_wp2_with (at_builtin; refine wpList_lay _ rfl (.tmp 79) (.tmp 82) rfl w.heap.size _ _ rfl (unhide HBu6) ra rn rc eb rfl (unhide HRow6) hnil6 ?qa9 ?qb9 ?_)
          case qa9 => have := unhide HLen; have := unhide HN6; simp only [List.length_append, List.length_cons, List.length_nil] at *; omega
          case qb9 => exact (unhide HB6).size
          intro a10 n10 c10 w10 hbu10 hbel10 hkt10
          have HBu10 := hide hbu10; have HB10 := hide ((unhide HB6).trans hbel10); have HBR10 := hide ((unhide HBR6).kt hkt10)
          clear hbu10 hbel10 hkt10 hnil6 HBu6 HRow6 HBR6 HBuB7 HBB7 HBR5
          obtain ⟨b0, b1, b2, b3, b4, b5, b6, b7⟩ := (unhide HBR10).cs
          by_cases hel : 0 < x.els.length
          · rw [if_pos hel] at HT2 HLen
            have helz : (0 : Int) < (x.els.length : Int) := by omega
            have HRow5 := hide (row_one w10.drew 5 (by omega) (by omega))
            have HA5 := hide ((Below.refl w10.heap.size w10).drew.alloc (Nat.le_refl _) (.cells #[.int .u8 5] 5))
            clear hel b0 b1 b2 b3 b4 b5 b7
            go_wp2_with fail
            go_region_held3 (fun w' => w'.cell? ⟨Q, 6, none⟩ = some (.slice c2 x.els.length cb2))
              (first | go_keep | exact p6)
              (first
                | (refine step_lay _ rfl (.tmp 88) (.tmp 89) rfl w.heap.size _ _ rfl ((unhide HBu10).below (unhide HA5)) (some ⟨w10.heap.size, 0, none⟩) 1 1 [5] rfl (unhide HRow5) (by simp) (by have h9 := unhide HLen; (try simp only [List.length_append, List.length_cons, List.length_nil] at h9); (try simp only [List.length_append, List.length_cons, List.length_nil]); omega) (Nat.le_trans (unhide HB10).size (unhide HA5).size) ?_
                   intro a11 n11 c11 w11 hbu11 hbel11 hkt11
                   have HBu11 := hide hbu11; have HB11 := hide ((unhide HB10).trans (((unhide HA5).mono (unhide HB10).size).trans hbel11))
                   have HBR11 := hide (((unhide HBR10).kt (Kt.of (unhide HA5))).kt hkt11)
                   obtain ⟨_, _, _, _, _, _, p6, _⟩ := (unhide HBR11).cs
                   clear hbu11 hbel11 hkt11)
                | (go_at_call 20
                   refine (unhide HLe _ (unhide HB11) (by have h9 := unhide HLen; (try simp only [List.length_append, List.length_cons, List.length_nil] at h9); (try simp only [List.length_append, List.length_cons, List.length_nil]); omega)).mono ?_
                   rintro e w12 ⟨v12, rfl, hb12, hbu12⟩
                   obtain ⟨sa, sn, sk, rfl, hrow12, hnil12, hn12, hc12⟩ := hbu12.row
                   have HRow12 := hide hrow12; have HB12 := hide (Below.on (unhide HB11) hb12); have HBu12 := hide ((unhide HBu11).below hb12); have HBR12 := hide ((unhide HBR11).kt (Kt.of hb12)); have HN12 := hide hn12
                   obtain ⟨_, _, _, _, _, _, p6, _⟩ := (unhide HBR12).cs
                   clear hrow12 hb12 hbu12 hn12 hc12)
                | (refine step_lay _ rfl (.tmp 90) (.tmp 93) rfl w.heap.size _ _ rfl (unhide HBu12) sa sn sk ee rfl (unhide HRow12) hnil12 (by have h9 := unhide HLen; have h8 := unhide HN12; (try simp only [List.length_append, List.length_cons, List.length_nil] at h9); (try simp only [List.length_append, List.length_cons, List.length_nil]); omega) (unhide HB12).size ?_
                   intro a13 n13 c13 w13 hbu13 hbel13 hkt13
                   have HBu13 := hide hbu13; have HB13 := hide ((unhide HB12).trans hbel13)
                   have HBR13 := hide ((unhide HBR12).kt hkt13)
                   obtain ⟨_, _, _, _, _, _, p6, _⟩ := (unhide HBR13).cs
                   clear hbu13 hbel13 hkt13)
                | fail)
            clear p6 hnil12 b6
            have HA14 := hide (one_alloc w13 (.cells #[.int .u8 11] 5))
            go_wp2_with (at_builtin; refine wpList_lay _ rfl (.tmp 95) (.tmp 96) rfl w.heap.size _ _ rfl ((unhide HBu13).below (unhide HA14)) (some ⟨w13.heap.size, 0, none⟩) 1 1 [11] rfl (row_one w13 11 (by omega) (by omega)) (by simp) ?qa14 ?qb14 ?_)
            case qa14 => have := unhide HLen; first | omega | (simp only [List.length_append, List.length_cons, List.length_nil] at this ⊢; omega)
            case qb14 => first | exact (Nat.le_trans (unhide HB13).size (unhide HA14).size) | exact Nat.le_trans (unhide HB13).size (Nat.le_succ _)
            intro a14 n14 c14 w14 hbu14 hbel14 hkt14
            have HBuB14 := hide hbu14; have HBB14 := hide ((unhide HB13).trans (((unhide HA14).mono (unhide HB13).size).trans hbel14)); have HKB14 := hide (Kt.on (Kt.of (unhide HA14)) hkt14)
            clear hbu14 hbel14 hkt14 HA14
            have HBuE := HBuB14; have HBE := HBB14
            go_wp2
            go_roundw
            case rel => exact ⟨j + 1, by go_num, by omega, by rw [unhide HT2]; first | exact HBuE | (have q := unhide HBuE; simp only [List.append_assoc, List.cons_append, List.nil_append, List.append_nil] at q ⊢; exact hide q), HBE⟩
            case measure => simp [intOf]; omega
          · rw [if_neg hel] at HT2 HLen
            have helz : ¬ ((0 : Int) < (x.els.length : Int)) := by omega
            clear hel
            have HA15 := hide (one_alloc w10 (.cells #[.int .u8 11] 5))
            go_wp2_with (at_builtin; refine wpList_lay _ rfl (.tmp 95) (.tmp 96) rfl w.heap.size _ _ rfl ((unhide HBu10).below (unhide HA15)) (some ⟨w10.heap.size, 0, none⟩) 1 1 [11] rfl (row_one w10 11 (by omega) (by omega)) (by simp) ?qa15 ?qb15 ?_)
            case qa15 => have := unhide HLen; first | omega | (simp only [List.length_append, List.length_cons, List.length_nil] at this ⊢; omega)
            case qb15 => first | exact (Nat.le_trans (unhide HB10).size (unhide HA15).size) | exact Nat.le_trans (unhide HB10).size (Nat.le_succ _)
            intro a15 n15 c15 w14 hbu15 hbel15 hkt15
            have HBuB15 := hide hbu15; have HBB15 := hide ((unhide HB10).trans (((unhide HA15).mono (unhide HB10).size).trans hbel15)); have HKB15 := hide (Kt.on (Kt.of (unhide HA15)) hkt15)
            clear hbu15 hbel15 hkt15 HA15
            have HBuE := HBuB15; have HBE := HBB15
            go_wp2
            go_roundw
            case rel => exact ⟨j + 1, by go_num, by omega, by rw [unhide HT2]; first | exact HBuE | (have q := unhide HBuE; simp only [List.append_assoc, List.cons_append, List.nil_append, List.append_nil] at q ⊢; exact hide q), HBE⟩
            case measure => simp [intOf]; omega
        · skip
          rw [if_neg hre] at HT2 HLen
          have tre : (x.re == 0) = false := by simpa using hre
          clear hre
          have HA7 := hide (one_alloc w4 (.cells #[.int .u8 x.re] 5))
          go_wp2_with (at_builtin; refine wpList_lay _ rfl (.tmp 74) (.tmp 77) rfl w.heap.size _ _ rfl ((unhide HBu4).below (unhide HA7)) (some ⟨w4.heap.size, 0, none⟩) 1 1 [x.re] rfl (row_one w4 x.re (by omega) (by omega)) (by simp) ?qa7 ?qb7 ?_)
          case qa7 => have := unhide HLen; first | omega | (simp only [List.length_append, List.length_cons, List.length_nil] at this ⊢; omega)
          case qb7 => first | exact (Nat.le_trans (unhide HB4).size (unhide HA7).size) | exact Nat.le_trans (unhide HB4).size (Nat.le_succ _)
          intro a7 n7 c7 w5 hbu7 hbel7 hkt7
          have HBuB7 := hide hbu7; have HBB7 := hide ((unhide HB4).trans (((unhide HA7).mono (unhide HB4).size).trans hbel7)); have HKB7 := hide (Kt.on (Kt.of (unhide HA7)) hkt7)
          clear hbu7 hbel7 hkt7 HA7
          have HBR5 := hide ((unhide HBR4).kt (unhide HKB7))
          obtain ⟨b0, b1, b2, b3, b4, b5, b6, b7⟩ := (unhide HBR5).cs
          go_wp2_with fail
          refine (unhide HLb _ (unhide HBB7) (by have h9 := unhide HLen; (try simp only [List.length_append, List.length_cons, List.length_nil] at h9); (try simp only [List.length_append, List.length_cons, List.length_nil]); omega)).mono ?_
          rintro e w6 ⟨v6, rfl, hb6, hbu6⟩
          obtain ⟨ra, rn, rc, rfl, hrow6, hnil6, hn6, hc6⟩ := hbu6.row
          have HRow6 := hide hrow6; have HB6 := hide (Below.on (unhide HBB7) hb6); have HBu6 := hide ((unhide HBuB7).below hb6); have HBR6 := hide ((unhide HBR5).kt (Kt.of hb6)); have HN6 := hide hn6
          clear hrow6 hb6 hbu6 hn6 hc6 b0 b1 b2 b3 b4 b5 b6 b7
          go_wp2_with (at_builtin; refine wpList_lay _ rfl (.tmp 79) (.tmp 82) rfl w.heap.size _ _ rfl (unhide HBu6) ra rn rc eb rfl (unhide HRow6) hnil6 ?qa9 ?qb9 ?_)
          case qa9 => have := unhide HLen; have := unhide HN6; simp only [List.length_append, List.length_cons, List.length_nil] at *; omega
          case qb9 => exact (unhide HB6).size
          intro a10 n10 c10 w10 hbu10 hbel10 hkt10
          have HBu10 := hide hbu10; have HB10 := hide ((unhide HB6).trans hbel10); have HBR10 := hide ((unhide HBR6).kt hkt10)
          clear hbu10 hbel10 hkt10 hnil6 HBu6 HRow6 HBR6 HBuB7 HBB7 HBR5
          obtain ⟨b0, b1, b2, b3, b4, b5, b6, b7⟩ := (unhide HBR10).cs
          by_cases hel : 0 < x.els.length
          · rw [if_pos hel] at HT2 HLen
            have helz : (0 : Int) < (x.els.length : Int) := by omega
            have HRow5 := hide (row_one w10.drew 5 (by omega) (by omega))
            have HA5 := hide ((Below.refl w10.heap.size w10).drew.alloc (Nat.le_refl _) (.cells #[.int .u8 5] 5))
            clear hel b0 b1 b2 b3 b4 b5 b7
            go_wp2_with fail
            go_region_held3 (fun w' => w'.cell? ⟨Q, 6, none⟩ = some (.slice c2 x.els.length cb2))
              (first | go_keep | exact p6)
              (first
                | (refine step_lay _ rfl (.tmp 88) (.tmp 89) rfl w.heap.size _ _ rfl ((unhide HBu10).below (unhide HA5)) (some ⟨w10.heap.size, 0, none⟩) 1 1 [5] rfl (unhide HRow5) (by simp) (by have h9 := unhide HLen; (try simp only [List.length_append, List.length_cons, List.length_nil] at h9); (try simp only [List.length_append, List.length_cons, List.length_nil]); omega) (Nat.le_trans (unhide HB10).size (unhide HA5).size) ?_
                   intro a11 n11 c11 w11 hbu11 hbel11 hkt11
                   have HBu11 := hide hbu11; have HB11 := hide ((unhide HB10).trans (((unhide HA5).mono (unhide HB10).size).trans hbel11))
                   have HBR11 := hide (((unhide HBR10).kt (Kt.of (unhide HA5))).kt hkt11)
                   obtain ⟨_, _, _, _, _, _, p6, _⟩ := (unhide HBR11).cs
                   clear hbu11 hbel11 hkt11)
                | (go_at_call 20
                   refine (unhide HLe _ (unhide HB11) (by have h9 := unhide HLen; (try simp only [List.length_append, List.length_cons, List.length_nil] at h9); (try simp only [List.length_append, List.length_cons, List.length_nil]); omega)).mono ?_
                   rintro e w12 ⟨v12, rfl, hb12, hbu12⟩
                   obtain ⟨sa, sn, sk, rfl, hrow12, hnil12, hn12, hc12⟩ := hbu12.row
                   have HRow12 := hide hrow12; have HB12 := hide (Below.on (unhide HB11) hb12); have HBu12 := hide ((unhide HBu11).below hb12); have HBR12 := hide ((unhide HBR11).kt (Kt.of hb12)); have HN12 := hide hn12
                   obtain ⟨_, _, _, _, _, _, p6, _⟩ := (unhide HBR12).cs
                   clear hrow12 hb12 hbu12 hn12 hc12)
                | (refine step_lay _ rfl (.tmp 90) (.tmp 93) rfl w.heap.size _ _ rfl (unhide HBu12) sa sn sk ee rfl (unhide HRow12) hnil12 (by have h9 := unhide HLen; have h8 := unhide HN12; (try simp only [List.length_append, List.length_cons, List.length_nil] at h9); (try simp only [List.length_append, List.length_cons, List.length_nil]); omega) (unhide HB12).size ?_
                   intro a13 n13 c13 w13 hbu13 hbel13 hkt13
                   have HBu13 := hide hbu13; have HB13 := hide ((unhide HB12).trans hbel13)
                   have HBR13 := hide ((unhide HBR12).kt hkt13)
                   obtain ⟨_, _, _, _, _, _, p6, _⟩ := (unhide HBR13).cs
                   clear hbu13 hbel13 hkt13)
                | fail)
            clear p6 hnil12 b6
            have HA14 := hide (one_alloc w13 (.cells #[.int .u8 11] 5))
            go_wp2_with (at_builtin; refine wpList_lay _ rfl (.tmp 95) (.tmp 96) rfl w.heap.size _ _ rfl ((unhide HBu13).below (unhide HA14)) (some ⟨w13.heap.size, 0, none⟩) 1 1 [11] rfl (row_one w13 11 (by omega) (by omega)) (by simp) ?qa14 ?qb14 ?_)
            case qa14 => have := unhide HLen; first | omega | (simp only [List.length_append, List.length_cons, List.length_nil] at this ⊢; omega)
            case qb14 => first | exact (Nat.le_trans (unhide HB13).size (unhide HA14).size) | exact Nat.le_trans (unhide HB13).size (Nat.le_succ _)
            intro a14 n14 c14 w14 hbu14 hbel14 hkt14
            have HBuB14 := hide hbu14; have HBB14 := hide ((unhide HB13).trans (((unhide HA14).mono (unhide HB13).size).trans hbel14)); have HKB14 := hide (Kt.on (Kt.of (unhide HA14)) hkt14)
            clear hbu14 hbel14 hkt14 HA14
            have HBuE := HBuB14; have HBE := HBB14
            go_wp2
            go_roundw
            case rel => exact ⟨j + 1, by go_num, by omega, by rw [unhide HT2]; first | exact HBuE | (have q := unhide HBuE; simp only [List.append_assoc, List.cons_append, List.nil_append, List.append_nil] at q ⊢; exact hide q), HBE⟩
            case measure => simp [intOf]; omega
          · rw [if_neg hel] at HT2 HLen
            have helz : ¬ ((0 : Int) < (x.els.length : Int)) := by omega
            clear hel
            have HA15 := hide (one_alloc w10 (.cells #[.int .u8 11] 5))
            go_wp2_with (at_builtin; refine wpList_lay _ rfl (.tmp 95) (.tmp 96) rfl w.heap.size _ _ rfl ((unhide HBu10).below (unhide HA15)) (some ⟨w10.heap.size, 0, none⟩) 1 1 [11] rfl (row_one w10 11 (by omega) (by omega)) (by simp) ?qa15 ?qb15 ?_)
            case qa15 => have := unhide HLen; first | omega | (simp only [List.length_append, List.length_cons, List.length_nil] at this ⊢; omega)
            case qb15 => first | exact (Nat.le_trans (unhide HB10).size (unhide HA15).size) | exact Nat.le_trans (unhide HB10).size (Nat.le_succ _)
            intro a15 n15 c15 w14 hbu15 hbel15 hkt15
            have HBuB15 := hide hbu15; have HBB15 := hide ((unhide HB10).trans (((unhide HA15).mono (unhide HB10).size).trans hbel15)); have HKB15 := hide (Kt.on (Kt.of (unhide HA15)) hkt15)
            clear hbu15 hbel15 hkt15 HA15
            have HBuE := HBuB15; have HBE := HBB15
            go_wp2
            go_roundw
            case rel => exact ⟨j + 1, by go_num, by omega, by rw [unhide HT2]; first | exact HBuE | (have q := unhide HBuE; simp only [List.append_assoc, List.cons_append, List.nil_append, List.append_nil] at q ⊢; exact hide q), HBE⟩
            case measure => simp [intOf]; omega
      · skip
        have hb8 : 1 ≤ x.ls.length ∧ x.ls.length ≤ 257 := by have := unhide HBnd; simpa [bnd] using this
        rw [show encF 8 x.n x.al x.of x.re (enc x.body) (enc x.els) x.els.length x.ls = Leb.bU 10 ((x.ls.length : Int) - 1) ++ x.ls.flatMap (Leb.bU 10) from rfl] at HT2 HLen
        have hu64 : IntKind.u64.wrap ((x.ls.length : Int) - 1) = (x.ls.length : Int) - 1 := by rw [IntKind.wrap_u64]; omega
        go_wp2_with fail
        refine (refU_any ((x.ls.length : Int) - 1) _ (by omega) (by omega)).mono ?_
        rintro e w5 ⟨g7, k7, rfl, hrow7, hcap7, hg7, hb7⟩
        have HRow7 := hide hrow7; have HBe7 := hide (Below.on (unhide HB4) hb7); have HBuA7 := hide ((unhide HBu4).below hb7); have HKA7 := hide (Kt.of hb7)
        have hlb7 : (Leb.bU 10 ((x.ls.length : Int) - 1)).length = (Leb.bU 10 ((x.ls.length : Int) - 1)).length := rfl
        clear hrow7 hcap7 hg7 hb7 hlb7
        go_wp2_with (at_builtin; refine wpList_lay _ rfl (.tmp 100) (.tmp 106) rfl w.heap.size _ _ rfl (unhide HBuA7) (some ⟨g7, 0, none⟩) (Leb.bU 10 ((x.ls.length : Int) - 1)).length k7 (Leb.bU 10 ((x.ls.length : Int) - 1)) rfl (unhide HRow7) (by simp) ?qa7 ?qb7 ?_)
        case qa7 => have := unhide HLen; first | omega | (simp only [List.length_append] at this ⊢; omega)
        case qb7 => exact (unhide HBe7).size
        intro a7 n7 c7 w6 hbu7 hbel7 hkt7
        have HBuB7 := hide hbu7; have HBB7 := hide ((unhide HBe7).trans hbel7); have HKB7 := hide (Kt.on (unhide HKA7) hkt7)
        clear hbu7 hbel7 hkt7 HBuA7 HBe7 HRow7 HKA7
        have HBR6 := hide ((unhide HBR4).kt (unhide HKB7))
        generalize hzp : xs ++ Leb.bU 10 ((x.ls.length : Int) - 1) = zp at *
        have HZp := hide hzp
        have hfl := fun i => take_flat_le x.ls i
        have HFl := hide hfl
        have HLz := hide (show zp.length + (x.ls.flatMap (Leb.bU 10)).length ≤ 1099511627776 by have := unhide HLen; rw [← hzp]; simp only [List.length_append] at this ⊢; omega)
        obtain ⟨lb, lo, rfl, _, hlab⟩ := (lies_get (unhide H3) (by omega))
        have hlbl := Lab_lt hlab (by omega)
        have HLab := hide hlab; have HLbl := hide hlbl
        clear hzp hfl hlab hlbl b0 b1 b2 b3 b4 b5 b6 b7 hu64
        go_wp2_with fail
        go_loopw [3, 8] (fun s c wq => ∃ i : Nat, c = .int .i64 i ∧ (i : Int) ≤ x.ls.length ∧ Hid (Bu wq w.heap.size s (zp ++ (x.ls.take i).flatMap (Leb.bU 10))) ∧ Hid (Below w.heap.size w wq) ∧ Hid (BR wq Q x (.slice c1 x.body.length cb1) (.slice c2 x.els.length cb2) (.slice (some ⟨lb, lo, none⟩) x.ls.length cb3))) (fun _ c _ => x.ls.length - (intOf c).toNat)
        case atStart => exact ⟨0, rfl, by omega, by simpa using HBuB7, HBB7, HBR6⟩
        case round =>
          clear HBuB7 HBB7 HBR6
          obtain ⟨i, rfl, hi, HBq, HBeq, HBRq⟩ := hrel
          obtain ⟨qa, qn, qc, rfl, hqr, hql, hqn, hqc⟩ := (unhide HBq).row
          clear hqr hql hqn hqc
          obtain ⟨b0, b1, b2, b3, b4, b5, b6, b7⟩ := (unhide HBRq).cs
          clear b0 b1 b2 b3 b4 b5 b6
          by_cases hil : (i : Int) < x.ls.length
          · have il : i < x.ls.length := by omega
            have hcell : wr.cell? ⟨lb, lo + i, none⟩ = some (.int .u32 (x.ls.getD i 0)) := ((unhide HBeq).cell (p := ⟨lb, lo + i, none⟩) (unhide HLbl)).trans (unhide HLab i il)
            have hz : 0 ≤ x.ls.getD i 0 ∧ x.ls.getD i 0 < 4294967296 := by
              have e : x.ls.getD i 0 = x.ls[i] := by simp [List.getD, il]
              rw [e]; exact unhide HFls _ (List.getElem_mem il)
            have htf : (x.ls.take (i + 1)).flatMap (Leb.bU 10) = (x.ls.take i).flatMap (Leb.bU 10) ++ Leb.bU 10 (x.ls.getD i 0) := by
              rw [List.take_succ_eq_append_getElem il, List.flatMap_append]
              have e : x.ls.getD i 0 = x.ls[i] := by simp [List.getD, il]
              rw [e]; simp
            have hle := unhide HFl (i + 1)
            rw [htf] at hle
            simp only [List.length_append] at hle
            generalize hzz : x.ls.getD i 0 = z at *
            generalize hff : (x.ls.take i).flatMap (Leb.bU 10) = ff at *
            have HTf := hide htf; have HLe := hide hle
            have HPz := hide (fun W => refU_any z W (by omega) (by omega))
            clear htf hle hzz hff il
            go_wp2_with fail
            refine (unhide HPz _).mono ?_
            rintro e w8 ⟨g8, k8, rfl, hrow8, _, _, hb8'⟩
            have HRow8 := hide hrow8; have HBe8 := hide (Below.on (unhide HBeq) hb8'); have HBu8 := hide ((unhide HBq).below hb8'); have HBR8 := hide ((unhide HBRq).kt (Kt.of hb8'))
            clear hrow8 hb8' b7 hcell
            go_wp2_with (at_builtin; refine wpList_lay _ rfl (.tmp 115) (.tmp 122) rfl w.heap.size _ _ rfl (unhide HBu8) (some ⟨g8, 0, none⟩) (Leb.bU 10 z).length k8 (Leb.bU 10 z) rfl (unhide HRow8) (by simp) ?qa8 ?qb8 ?_)
            case qa8 => have := unhide HLz; have := unhide HLe; simp only [List.length_append] at *; omega
            case qb8 => exact (unhide HBe8).size
            intro a9 n9 c9 w9 hbu9 hbel9 hkt9
            have HBu9 := hide hbu9; have HB9 := hide ((unhide HBe8).trans hbel9); have HBR9 := hide ((unhide HBR8).kt hkt9)
            clear hbu9 hbel9 hkt9
            go_wp2
            go_roundw
            case rel => exact ⟨i + 1, by go_num, by omega, by rw [unhide HTf]; first | exact HBu9 | (have q := unhide HBu9; simp only [List.append_assoc] at q ⊢; exact hide q), HB9, HBR9⟩
            case measure => simp [intOf]; omega
          · obtain rfl : i = x.ls.length := by omega
            rw [List.take_length] at HBq
            have HBuE := hide (show Bu wr w.heap.size (.slice qa qn qc) (xs ++ (Leb.bU 10 ((x.ls.length : Int) - 1) ++ x.ls.flatMap (Leb.bU 10))) by rw [← List.append_assoc, unhide HZp]; exact unhide HBq)
            have HBE := HBeq
            clear HBq HBeq HBRq hi
            go_wp2
            go_roundw
            case rel => exact ⟨j + 1, by go_num, by omega, by rw [unhide HT2]; first | exact HBuE | (have q := unhide HBuE; simp only [List.append_assoc, List.cons_append, List.nil_append, List.append_nil] at q ⊢; exact hide q), HBE⟩
            case measure => simp [intOf]; omega
      · skip
        rw [show encF 9 x.n x.al x.of x.re (enc x.body) (enc x.els) x.els.length x.ls = Leb.bU 10 x.n ++ [0] from rfl] at HT2 HLen
        have hbn : 0 ≤ x.n ∧ x.n ≤ 4294967295 := by have := unhide HBnd; simpa [bnd] using this
        have hu64 : IntKind.u64.wrap x.n = x.n := by rw [IntKind.wrap_u64]; omega
        go_wp2_with fail
        refine (refU_any x.n _ (by omega) (by omega)).mono ?_
        rintro e w5 ⟨g7, k7, rfl, hrow7, hcap7, hg7, hb7⟩
        have HRow7 := hide hrow7; have HBe7 := hide (Below.on (unhide HB4) hb7); have HBuA7 := hide ((unhide HBu4).below hb7); have HKA7 := hide (Kt.of hb7)
        have hlb7 : (Leb.bU 10 x.n).length = (Leb.bU 10 x.n).length := rfl
        clear hrow7 hcap7 hg7 hb7 hlb7
        go_wp2_with (at_builtin; refine wpList_lay _ rfl (.tmp 126) (.tmp 130) rfl w.heap.size _ _ rfl (unhide HBuA7) (some ⟨g7, 0, none⟩) (Leb.bU 10 x.n).length k7 (Leb.bU 10 x.n) rfl (unhide HRow7) (by simp) ?qa7 ?qb7 ?_)
        case qa7 => have := unhide HLen; first | omega | (simp only [List.length_append] at this ⊢; omega)
        case qb7 => exact (unhide HBe7).size
        intro a7 n7 c7 w6 hbu7 hbel7 hkt7
        have HBuB7 := hide hbu7; have HBB7 := hide ((unhide HBe7).trans hbel7); have HKB7 := hide (Kt.on (unhide HKA7) hkt7)
        clear hbu7 hbel7 hkt7 HBuA7 HBe7 HRow7 HKA7
        have HA8 := hide (one_alloc w6 (.cells #[.int .u8 0] 5))
        go_wp2_with (at_builtin; refine wpList_lay _ rfl (.tmp 131) (.tmp 132) rfl w.heap.size _ _ rfl ((unhide HBuB7).below (unhide HA8)) (some ⟨w6.heap.size, 0, none⟩) 1 1 [0] rfl (row_one w6 0 (by omega) (by omega)) (by simp) ?qa8 ?qb8 ?_)
        case qa8 => have := unhide HLen; first | omega | (simp only [List.length_append, List.length_cons, List.length_nil] at this ⊢; omega)
        case qb8 => first | exact (Nat.le_trans (unhide HBB7).size (unhide HA8).size) | exact Nat.le_trans (unhide HBB7).size (Nat.le_succ _)
        intro a8 n8 c8 w7 hbu8 hbel8 hkt8
        have HBuB8 := hide hbu8; have HBB8 := hide ((unhide HBB7).trans (((unhide HA8).mono (unhide HBB7).size).trans hbel8)); have HKB8 := hide (Kt.on (Kt.of (unhide HA8)) hkt8)
        clear hbu8 hbel8 hkt8 HA8
        have HBuE := HBuB8; have HBE := HBB8
        go_wp2
        go_roundw
        case rel => exact ⟨j + 1, by go_num, by omega, by rw [unhide HT2]; first | exact HBuE | (have q := unhide HBuE; simp only [List.append_assoc, List.cons_append, List.nil_append, List.append_nil] at q ⊢; exact hide q), HBE⟩
        case measure => simp [intOf]; omega
    · obtain rfl : j = n := by omega
      clear hj hlt
      obtain ⟨a0, n0, c0, rfl, _⟩ := (unhide HBu).row
      go_wp2
      go_ret
      have : l.take j = l := by rw [← unhide HN]; exact List.take_length
      have q := unhide HBu
      rw [this] at q
      exact ⟨_, rfl, unhide HBel, q⟩
end Ex
end Go.Proofs.YtjhmglefejclpaaDoor
