/- sect.Join. -/
import Derived.Test.YtcmidegffpehoaaDoorScJ
import Derived.Test.YtcmidegffpehoaaDoorScX
import Derived.Test.YtcmidegffpehoaaDoorScF
namespace Go.Proofs.YtcmidegffpehoaaDoor
open Go.RowKit
namespace Sc
set_option linter.unusedVariables false
set_option linter.unusedSimpArgs false

def encS (s : Sec) : List Int := [s.id] ++ Leb.bU 10 s.bs.length ++ s.bs
def JB (l : List Sec) : List Int := hd ++ l.flatMap encS
/-- may they be joined? -/
def jok : List Sec → Int → Bool
  | [], _ => true
  | s :: r, top => mf s.id top && decide (judge s.id s.bs = 0) && jok r (max top s.id)
theorem take_flat (l : List Sec) (k : Nat) (h : k < l.length) : (l.take (k + 1)).flatMap encS = (l.take k).flatMap encS ++ encS l[k] := by
  rw [← List.take_append_getElem h, List.flatMap_append]
  simp only [List.flatMap_cons, List.flatMap_nil, List.append_nil]
theorem drop_jok (l : List Sec) (k : Nat) (h : k < l.length) (top : Int) : jok (l.drop k) top = (mf l[k].id top && decide (judge l[k].id l[k].bs = 0) && jok (l.drop (k + 1)) (max top l[k].id)) := by
  rw [List.drop_eq_getElem_cons h]; rfl
theorem flat_len (l : List Sec) (k : Nat) (h : k < l.length) : ((l.take k).flatMap encS).length + (encS l[k]).length ≤ (l.flatMap encS).length := by
  have h1 : l = l.take (k + 1) ++ l.drop (k + 1) := (List.take_append_drop _ _).symm
  have h2 : (l.flatMap encS).length = ((l.take (k + 1)).flatMap encS).length + ((l.drop (k + 1)).flatMap encS).length := by
    conv => lhs; rw [h1]
    rw [List.flatMap_append, List.length_append]
  rw [h2, take_flat l k h]; simp
theorem len_flat : ∀ l : List Sec, l.length ≤ (l.flatMap encS).length
  | [] => by simp
  | s :: r => by
    have := len_flat r
    rw [List.flatMap_cons, List.length_append, List.length_cons]
    have h2 : 1 ≤ (encS s).length := by simp [encS]
    omega
theorem hd_by : ∀ z ∈ hd, 0 ≤ z ∧ z ≤ 255 := by decide
theorem mem_flat {s : Sec} : ∀ {l : List Sec}, s ∈ l → (encS s).length ≤ (l.flatMap encS).length
  | x :: r, h => by
    rw [List.flatMap_cons, List.length_append]
    rcases List.mem_cons.1 h with rfl | h
    · omega
    · have := mem_flat h; omega
theorem mem_len {s : Sec} {l : List Sec} (h : s ∈ l) (hl : (JB l).length ≤ 50000) : s.bs.length ≤ 50000 := by
  have h1 := mem_flat h
  unfold JB at hl
  rw [List.length_append] at hl
  have h2 : s.bs.length ≤ (encS s).length := by simp [encS]; omega
  omega
theorem jb_bytes {l : List Sec} (hl : (JB l).length ≤ 50000) (hid : ∀ s ∈ l, 0 ≤ s.id ∧ s.id ≤ 255) (hbs : ∀ s ∈ l, ∀ z ∈ s.bs, 0 ≤ z ∧ z ≤ 255) : ∀ z ∈ JB l, 0 ≤ z ∧ z ≤ 255 := by
  intro z hz
  unfold JB at hz
  rcases List.mem_append.1 hz with h | h
  · exact hd_by z h
  · obtain ⟨s, hs, hz⟩ := List.mem_flatMap.1 h
    unfold encS at hz
    rcases List.mem_append.1 hz with h | h
    · rcases List.mem_append.1 h with h | h
      · simp at h; rw [h]; exact hid s hs
      · have h5 := mem_len hs hl
        have e : (128 : Int) ^ (10 + 1) = 151115727451828646838272 := by decide
        exact Leb.bU_bytes 10 (s.bs.length : Int) (by omega) (by omega) z h
    · exact hbs s hs z h
def JoinPost (w : World) (l : List Sec) (e : Ending) (w' : World) : Prop :=
  Below w.heap.size w w' ∧ (jok l 0 = true → ∃ v, e = .returned (.tuple #[v, .nilIface]) ∧ Byt w' (w.heap.size ≤ ·) (JB l) v) ∧ (jok l 0 = false → e = .returned (.tuple #[.slice none 0 0, .iface 57 (.int .i64 1)]))
theorem bld_byt {w : World} {B : Nat} {v : Value} {zs : List Int} (h : Bld w B v zs) (hz : ∀ z ∈ zs, 0 ≤ z ∧ z ≤ 255) : Byt w (B ≤ ·) zs v := by
  rcases h with h | ⟨g, rfl, hg, hr⟩
  · exact own_byt h hz
  · exact ⟨_, _, rfl, Nat.le_refl _, by simp, hr, fun _ => ⟨g, 0, rfl, hg⟩⟩
theorem bld_shape {w : World} {B : Nat} {v : Value} {zs : List Int} (h : Bld w B v zs) : ∃ a c, v = .slice a zs.length c := by
  rcases h with h | ⟨g, rfl, hg, hr⟩
  · rcases h.2 with ⟨rfl, h0⟩ | ⟨g, cap, cur, rfl, _⟩
    · exact ⟨none, 0, by rw [h0]⟩
    · exact ⟨_, _, rfl⟩
  · exact ⟨_, _, rfl⟩
theorem own_shape' {w : World} {B n : Nat} {v : Value} {zs : List Int} (h : w.ownsRow B 5 1 v n (zs.map (Value.int .u8))) : ∃ a c, v = .slice a n c := by
  rcases h.2 with ⟨rfl, h0⟩ | ⟨g, cap, cur, rfl, _⟩
  · exact ⟨none, 0, by rw [h0]⟩
  · exact ⟨_, _, rfl⟩
/-- the box that a range's round makes -/
theorem box_new (w : World) (A : Array Value) (t : TypeId) : (∀ j : Nat, (w.alloc (.cells A t)).cell? ⟨w.heap.size, j, none⟩ = A[j]?) := by
  intro j; simp
theorem row_lit' (w : World) (z : Int) (h0 : 0 ≤ z) (h1 : z ≤ 255) : Row (w.alloc (.cells #[.int .u8 z] 5)) (some ⟨w.heap.size, 0, none⟩) 1 [z] := row_mark w [z] (by intro x hx; simp at hx; omega) (0, 0)
set_option maxRecDepth 100000 in
set_option maxHeartbeats 3200000 in
theorem join_any {v : Value} {l : List Sec} {w : World} (h : SecL w l v) (hid : ∀ s ∈ l, 0 ≤ s.id ∧ s.id ≤ 255) (hbs : ∀ s ∈ l, ∀ z ∈ s.bs, 0 ≤ z ∧ z ≤ 255) (hsz : (JB l).length ≤ 50000) (hT : U8 w) :
    Calls Tryd.prog 13 #[v] w (JoinPost w l) := by
  have hb1 := one_alloc w (.cells ((hd : List Int).map (Value.int .u8)).toArray 5 (8, 9))
  have hr0 := row_mark w hd (by decide) (8, 9)
  obtain ⟨va, vc, rfl, hvc, _, hit⟩ := h
  have hcs := fun w C n c => conv_same w C n c
  have HIt := hide hit; have HB1 := hide hb1; have HR0 := hide hr0; have HT := hide hT; have HId := hide hid; have HSz := hide hsz
  have HBs := hide hbs
  clear hit hb1 hr0 hT hid hsz hbs
  have hll : l.length ≤ 50000 := by
    have := unhide HSz
    have h2 : l.length ≤ (l.flatMap encS).length := len_flat l
    unfold JB at this
    rw [List.length_append] at this
    omega
  go_enter Tryd.func13, Tryd.ntmps13
  go_wp2_with fail
  go_loopg [4, 5, 12] (l.length + 1) (fun gk s4 s5 s12 wr => ∃ (k : Nat) (top : Int), s12 = .int .i64 k ∧ s5 = .int .u8 top ∧ 0 ≤ top ∧ top ≤ 255 ∧ k ≤ l.length ∧ l.length - k < gk ∧ Hid (Bld wr w.heap.size s4 (hd ++ (l.take k).flatMap encS)) ∧ Hid (Below w.heap.size w wr) ∧ Hid (jok l 0 = jok (l.drop k) top))
  case atStart => exact ⟨0, 0, rfl, rfl, by omega, by omega, by omega, by omega, hide (.inr ⟨w.heap.size, rfl, Nat.le_refl _, by rw [List.take_zero, List.flatMap_nil, List.append_nil]; exact unhide HR0⟩), HB1, hide rfl⟩
  case round =>
    obtain ⟨k, top, rfl, rfl, ht0, ht1, hkl, hgk, HBl, HB, HJ⟩ := hrel
    by_cases hk : k < l.length
    · obtain ⟨g', rfl⟩ : ∃ g', gk = g' + 1 := ⟨gk - 1, by omega⟩
      have hkz : (k : Int) < (l.length : Int) := by omega
      obtain ⟨b, o, rfl, hlt, hc⟩ := unhide HIt k hk
      have hlt' : b < wr.heap.size := Nat.lt_of_lt_of_le hlt (unhide HB).size
      have hidk := unhide HId l[k] (List.getElem_mem hk)
      have hjd := drop_jok l k hk top
      have hfl := flat_len l k hk
      have htf := take_flat l k hk
      obtain ⟨⟨id, at_, bs⟩, hs⟩ : ∃ s, l[k] = s := ⟨_, rfl⟩
      rw [hs] at hc hidk hjd hfl htf
      obtain ⟨d0', d1', bv, d2', hbyt⟩ := hc
      simp only at d0' d1' d2' hidk hjd hbyt
      have d1 := (cel_move ((unhide HB).block b hlt) _).trans d1'
      have d2 := (cel_move ((unhide HB).block b hlt) _).trans d2'
      obtain ⟨ba, bc, rfl, hbc, hbn, hbr, _⟩ := hbyt
      have e0 : wr.cell? ⟨b, o + k * 3, none⟩ = some (.int .u8 id) := (cel_move ((unhide HB).block b hlt) _).trans d0'
      have hmf := fun W => mf_any id top W hidk.1 hidk.2 ht0 ht1
      have hbl5 : bs.length ≤ 50000 := by
        have h1 := unhide HSz
        unfold JB at h1
        rw [List.length_append] at h1
        unfold encS at hfl
        simp only [List.length_append, List.length_cons, List.length_nil] at hfl
        unfold encS at h1
        omega
      have hjg := fun W (hb : Below wr.heap.size wr W) => judge_any (cap := bc) id hidk.1 hidk.2 (hbr.below (Nat.le_refl _) (Below.on (unhide HB) hb)) hbc (by omega) (Utf8Tabs_below (unhide HT) (Below.on (unhide HB) hb))
      have HMf := hide hmf; have HJg := hide hjg; have HBr := hide hbr; have HFl := hide hfl; have HTf := hide htf; have HJd := hide hjd
      have hid0 := hidk.1; have hid1 := hidk.2
      clear d0' d1' d2' hs hmf hjg hbr hfl htf hjd hidk
      by_cases c1 : mf id top = true
      · rw [c1] at HMf HJd
        by_cases c2 : judge id bs = 0
        · rw [c2, errV_0] at HJg
          have hj2 : jok l 0 = jok (l.drop (k + 1)) (max top id) := by rw [unhide HJ, unhide HJd, decide_eq_true c2]; simp
          have HJ2 := hide hj2
          clear hj2 HJ HJd
          have hal := one_alloc wr (.cells #[.int .u8 id, .int .i64 at_, .slice ba bs.length bc] 37)
          obtain ⟨xs, hxs⟩ : ∃ xs, hd ++ (l.take k).flatMap encS = xs := ⟨_, rfl⟩
          have hxn : hd ++ (l.take (k + 1)).flatMap encS = xs ++ ([id] ++ Leb.bU 10 bs.length ++ bs) := by rw [unhide HTf, ← List.append_assoc, hxs]; rfl
          have hx0 : 0 < xs.length := by rw [← hxs]; simp [hd]
          have hxl : xs.length + (1 + (Leb.bU 10 bs.length).length + bs.length) ≤ 50000 := by
            have h1 := unhide HSz; have h2 := unhide HFl
            rw [← hxs]
            unfold JB at h1
            rw [List.length_append] at h1 ⊢
            have h3 : (encS ⟨id, at_, bs⟩).length = 1 + (Leb.bU 10 bs.length).length + bs.length := by simp [encS]; omega
            omega
          rw [hxs] at HBl
          have HXn := hide hxn; have HAl := hide hal
          clear hal hxs hxn HTf HFl
          obtain ⟨oa, oc, rfl⟩ := bld_shape (unhide HBl)
          have hbk := (unhide HBl).blk hx0
          have HBk := hide hbk; clear hbk
          have hP := Leb.bU_pos 10 (bs.length : Int)
          have hPl := Leb.bU_len 10 (bs.length : Int)
          have hPb := Leb.bU_bytes 10 (bs.length : Int) (by omega) (by have : (128 : Int) ^ (10 + 1) = 151115727451828646838272 := by decide
                                                                       omega)
          have HPb := hide hPb; clear hPb
          go_wp2_with fail
          refine (unhide HMf _).mono ?_
          rintro e w9 ⟨rfl, rfl⟩
          go_wp2_with fail
          refine (unhide HJg _ (unhide HAl)).mono ?_
          rintro e w2 ⟨rfl, hb2⟩
          have hbx := box3 hb2
          have c1 : w2.cell? ⟨wr.heap.size, 0, none⟩ = some (.int .u8 id) := hbx.1 0
          have c3 : w2.cell? ⟨wr.heap.size, 2, none⟩ = some (.slice ba bs.length bc) := hbx.1 2
          have hlt2 := hbx.2.2
          have hb02 := Below.on (unhide HAl) hb2
          have hbl2 := (unhide HBl).below hb02 hx0
          have HBl2 := hide hbl2; have HB2 := hide hb02
          have hBw2 : w.heap.size ≤ w2.heap.size := Nat.le_trans (unhide HB).size hb02.size
          clear hbx hb2 hbl2 hb02
          have hrow1 := row_lit' w2 id hid0 hid1
          have HR1 := hide hrow1; clear hrow1
          go_wp2_with (at_builtin; refine wpList_append_lay _ rfl (.tmp 34) (.tmp 37) rfl w.heap.size (.slice oa xs.length oc) xs rfl ?q1 hx0 ⟨w2.heap.size, 0, none⟩ 1 1 [id] rfl (unhide HR1) ?q2 (by omega) ?q3 ?_)
          case q1 => exact (unhide HBl2).below (one_alloc _ _) hx0
          case q2 => omega
          case q3 => simp; omega
          intro g3 cap3 w3 hown3 hgrow3 hat3
          have hne2 : ∀ q, (Value.slice oa xs.length oc).ownBlock = some q → q < wr.heap.size := fun q hq => (unhide HBk q hq).2
          have c3' : w3.cell? ⟨wr.heap.size, 2, none⟩ = some (.slice ba bs.length bc) := hgrow3.cell (a := ⟨wr.heap.size, 2, none⟩) ((World.cell?_of_block (a := ⟨wr.heap.size, 2, none⟩) ((one_alloc w2 (.cells #[.int .u8 id] 5)).block wr.heap.size hlt2)).trans c3) (fun e => by have := hne2 _ e.symm; simp at this)
          have hg3 : g3 ≠ wr.heap.size := by
            rcases hat3 with e | e
            · have := hne2 _ e; omega
            · rw [e]; simp; omega
          have hs3 : w2.heap.size + 1 ≤ w3.heap.size := by have := hgrow3.size; simpa using this
          have hb03 : Below w.heap.size w w3 := ((Below.on (unhide HB) (unhide HB2)).trans ((one_alloc w2 (.cells #[.int .u8 id] 5)).mono hBw2)).trans ((Below.refl w.heap.size _).grown hgrow3 (by simp; omega) (fun q hq => (unhide HBk q hq).1))
          have hbl3 : Bld w3 w.heap.size (.slice (some ⟨g3, 0, none⟩) (xs.length + 1) cap3) (xs ++ [id]) := .inl (by simpa using hown3)
          have hpu := putU_b none 0 0 [] (bs.length : Int) w3 (Row.nil _) (by omega) (by omega) (by omega)
          have HBl3 := hide hbl3; have HB03 := hide hb03; have HPu := hide hpu
          clear c1 c3 hown3 hgrow3 hat3 hne2 hb03 hbl3 hpu HBl2 HB2 HR1 HBk
          go_wp2_with fail
          refine (unhide HPu).mono ?_
          rintro e w4 ⟨g4, cap4, rfl, hrow4, hcap4, hg4, hb4⟩
          have c4 : w4.cell? ⟨wr.heap.size, 2, none⟩ = some (.slice ba bs.length bc) := (World.cell?_of_block (a := ⟨wr.heap.size, 2, none⟩) (hb4.block wr.heap.size (by omega))).trans c3'
          rw [Nat.zero_add, List.nil_append] at hrow4
          have hs4 := hb4.size
          have HBl4 := hide ((unhide HBl3).below hb4 (by simp)); have HRow4 := hide hrow4; have HB04 := hide (Below.on (unhide HB03) hb4)
          clear c3' hrow4 hcap4 hg4 hb4 HBl3 HB03 HPu
          rw [Nat.zero_add]
          go_wp2_with (at_builtin; refine wpList_append_lay _ rfl (.tmp 39) (.tmp 44) rfl w.heap.size (.slice (some ⟨g3, 0, none⟩) (xs.length + 1) cap3) (xs ++ [id]) rfl (unhide HBl4) (by simp) ⟨g4, 0, none⟩ (Leb.bU 10 bs.length).length cap4 (Leb.bU 10 bs.length) rfl (unhide HRow4) ?q4 (by omega) ?q5 ?_)
          case q4 => simp; omega
          case q5 => omega
          intro g5 cap5 w5 hown5 hgrow5 hat5
          have hb05 : Below w.heap.size w w5 := (unhide HB04).trans ((Below.refl w.heap.size _).grown hgrow5 (by omega) (fun q hq => ((unhide HBl4).blk (by simp) q hq).1))
          have c5 : w5.cell? ⟨wr.heap.size, 2, none⟩ = some (.slice ba bs.length bc) := hgrow5.cell (a := ⟨wr.heap.size, 2, none⟩) c4 (fun e => by simp only [Value.ownBlock, Option.some.injEq] at e; exact hg3 e.symm)
          have hrow5 := (unhide HBr).below (Nat.le_refl _) hb05
          have hs5 := hb05.size
          have hown5' : w5.ownsRow w.heap.size 5 1 (.slice (some ⟨g5, 0, none⟩) (xs.length + 1 + (Leb.bU 10 bs.length).length) cap5) (xs.length + 1 + (Leb.bU 10 bs.length).length) ((xs ++ [id] ++ Leb.bU 10 bs.length).map (Value.int .u8)) := by simpa using hown5
          have HO5 := hide hown5'; have HB05 := hide hb05; have HR5 := hide hrow5
          clear c4 hown5 hown5' hgrow5 hat5 hb05 hrow5 HBl4 HB04 HRow4
          go_wp2_with (at_builtin; refine wpList_append_row _ rfl (.tmp 46) (.tmp 48) rfl w.heap.size (.slice (some ⟨g5, 0, none⟩) (xs.length + 1 + (Leb.bU 10 bs.length).length) cap5) (xs.length + 1 + (Leb.bU 10 bs.length).length) (xs ++ [id] ++ Leb.bU 10 bs.length) rfl (unhide HO5) ba bs.length bc bs rfl (unhide HR5) hbn ?q6 ?q7 ?_)
          case q6 => omega
          case q7 => exact hs5
          intro v6 w6 hown6 hb6
          have hb06 := (unhide HB05).trans hb6
          have hbl6 : Bld w6 w.heap.size v6 (hd ++ (l.take (k + 1)).flatMap encS) := by
            rw [unhide HXn]
            have e : xs ++ ([id] ++ Leb.bU 10 bs.length ++ bs) = xs ++ [id] ++ Leb.bU 10 bs.length ++ bs := by simp
            rw [e]
            refine .inl ?_
            have e2 : (xs ++ [id] ++ Leb.bU 10 bs.length ++ bs).length = xs.length + 1 + (Leb.bU 10 bs.length).length + bs.length := by simp; omega
            rw [e2]
            simpa using hown6
          have HB06 := hide hb06; have HBl6 := hide hbl6
          clear hown6 hb6 hb06 hbl6 c5
          go_wp2
          go_roundg g'
          case measure => omega
          case rel => exact ⟨k + 1, max top id, by simp, rfl, by omega, by omega, by omega, by omega, HBl6, HB06, HJ2⟩
        · rw [errV_pos c2] at HJg
          have hj2 : jok l 0 = false := by rw [unhide HJ, unhide HJd, decide_eq_false c2]; simp
          have HJ2 := hide hj2
          have hal := one_alloc wr (.cells #[.int .u8 id, .int .i64 at_, .slice ba bs.length bc] 37)
          have HAl := hide hal
          clear hj2 HJ HJd hal
          obtain ⟨oa, oc, rfl⟩ := bld_shape (unhide HBl)
          go_wp2_with fail
          refine (unhide HMf _).mono ?_
          rintro e w9 ⟨rfl, rfl⟩
          go_wp2_with fail
          refine (unhide HJg _ (unhide HAl)).mono ?_
          rintro e w2 ⟨rfl, hb2⟩
          have HB2 := hide (Below.on (unhide HB) (Below.on (unhide HAl) hb2))
          clear hb2
          go_wp2
          go_ret2
          exact ⟨unhide HB2, fun e => absurd ((unhide HJ2).symm.trans e) (by decide), fun _ => rfl⟩
      · have c1f : mf id top = false := by simpa using c1
        rw [c1f] at HMf HJd
        have hj2 : jok l 0 = false := by rw [unhide HJ, unhide HJd]; simp
        have HJ2 := hide hj2
        have hal := one_alloc wr (.cells #[.int .u8 id, .int .i64 at_, .slice ba bs.length bc] 37)
        have HAl := hide (Below.on (unhide HB) hal)
        clear hj2 HJ HJd hal
        obtain ⟨oa, oc, rfl⟩ := bld_shape (unhide HBl)
        go_wp2_with fail
        refine (unhide HMf _).mono ?_
        rintro e w9 ⟨rfl, rfl⟩
        go_wp2
        go_ret2
        exact ⟨unhide HAl, fun e => absurd ((unhide HJ2).symm.trans e) (by decide), fun _ => rfl⟩
    · obtain rfl : k = l.length := by omega
      have hj : jok l 0 = true := by rw [unhide HJ, List.drop_length]; rfl
      have hbl := unhide HBl
      rw [List.take_length] at hbl
      have HBl2 := hide hbl
      obtain ⟨oa, oc, rfl⟩ := bld_shape (unhide HBl)
      clear hbl
      go_wp2
      go_ret2
      refine ⟨unhide HB, fun _ => ⟨_, rfl, ?_⟩, fun e => absurd (hj.symm.trans e) (by decide)⟩
      exact bld_byt (unhide HBl2) (jb_bytes (unhide HSz) (unhide HId) (unhide HBs))
end Sc
end Go.Proofs.YtcmidegffpehoaaDoor
