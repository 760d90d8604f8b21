/- sect.Split. -/
import Derived.Test.YtcmidegffpehoaaDoorScD6
import Derived.Test.YtcmidegffpehoaaDoorScE
namespace Go.Proofs.YtcmidegffpehoaaDoor
open Go.RowKit
namespace Sc
set_option linter.unusedVariables false
set_option linter.unusedSimpArgs false

theorem infoS : (Tryd.prog.info? 37).map (fun i => (i.zero, i.size, i.bytes)) = some (some (.agg #[.int .u8 0, .int .i64 0, .slice none 0 0]), 3, 40) := by kernel_rfl
/-- what is left of the task -/
def Left (T : Out) (zs : List Int) (acc : List Sec) (p : Nat) (top : Int) : Prop := T.e = (SE zs p top).e ∧ T.at_ = (SE zs p top).at_ ∧ ((SE zs p top).e = 0 → T.v = acc ++ (SE zs p top).v)
theorem Left.first (zs : List Int) : Left (SE zs 8 0) zs [] 8 0 := ⟨rfl, rfl, fun _ => rfl⟩
theorem Left.last {T : Out} {zs : List Int} {acc : List Sec} {p : Nat} {top : Int} (h : Left T zs acc p top) (hp : zs.length ≤ p) : T = ⟨0, p, acc⟩ := by
  unfold Left at h
  rw [SE_end hp] at h
  obtain ⟨h1, h2, h3⟩ := h
  have h4 := h3 rfl
  cases T
  simp at h1 h2 h4
  rw [h1, h2, h4]
theorem Left.no {T : Out} {zs : List Int} {acc : List Sec} {p : Nat} {top : Int} (h : Left T zs acc p top) (hp : p < zs.length) (he : ¬ (one zs p top).e = 0) : T.e = (one zs p top).e ∧ T.at_ = (one zs p top).at_ := by
  unfold Left at h
  rw [SE_no hp he] at h
  exact ⟨h.1, h.2.1⟩
theorem Left.on {T : Out} {zs : List Int} {acc : List Sec} {p : Nat} {top : Int} (h : Left T zs acc p top) (hp : p < zs.length) (he : (one zs p top).e = 0) : Left T zs (acc ++ [(one zs p top).s]) (one zs p top).at_ (max top (one zs p top).s.id) := by
  unfold Left at *
  rw [SE_on hp he] at h
  unfold Out.cons at h
  by_cases h0 : (SE zs (one zs p top).at_ (max top (one zs p top).s.id)).e = 0
  · rw [if_pos h0] at h
    exact ⟨h.1.trans h0.symm, h.2.1, fun _ => by rw [h.2.2 rfl]; simp⟩
  · rw [if_neg h0] at h
    exact ⟨h.1, h.2.1, fun e => absurd e h0⟩
theorem one_bd {zs : List Int} {p : Nat} {top : Int} (hz : ∀ z ∈ zs, 0 ≤ z ∧ z ≤ 255) (hp : p < zs.length) (he : (one zs p top).e = 0) : p + 2 ≤ (one zs p top).at_ ∧ (one zs p top).at_ ≤ zs.length ∧ 0 ≤ (one zs p top).s.id ∧ (one zs p top).s.id ≤ 255 ∧ (one zs p top).s.id = zs.getD p 0 ∧ (one zs p top).s.at_ ≤ zs.length ∧ (one zs p top).s.bs.length ≤ zs.length := by
  have hzp := hz (zs.getD p 0) (by rw [List.getD, List.getElem?_eq_getElem hp]; simp)
  unfold one at *
  by_cases h1 : mf (zs.getD p 0) top = true
  · rw [if_pos h1] at he ⊢
    by_cases h2 : Leb.tuE (zs.drop (p + 1)) 32 = 0
    · rw [if_pos h2] at he ⊢
      have hb := tu_bd _ _ h2
      have hv := tuV_32 (fun z h => hz z (List.mem_of_mem_drop h)) h2
      rw [List.length_drop] at hb
      by_cases h3 : (zs.length : Int) - (p + 1 + Leb.tuN (zs.drop (p + 1)) 32) < Leb.tuV (zs.drop (p + 1)) 32
      · rw [if_pos h3] at he; exact absurd (show (4 : Int) = 0 from he) (by decide)
      · rw [if_neg h3] at he ⊢
        by_cases h4 : judge (zs.getD p 0) ((zs.drop (p + 1 + (Leb.tuN (zs.drop (p + 1)) 32).toNat)).take (Leb.tuV (zs.drop (p + 1)) 32).toNat) = 0
        · rw [if_pos h4] at he ⊢
          refine ⟨?_, ?_, hzp.1, hzp.2, rfl, ?_, ?_⟩
          · simp only; omega
          · simp only; omega
          · simp only; omega
          · simp only [List.length_take, List.length_drop]; omega
        · rw [if_neg h4] at he; exact absurd he h4
    · rw [if_neg h2] at he; exact absurd he h2
  · rw [if_neg h1] at he; exact absurd (show (6 : Int) = 0 from he) (by decide)
/-- the same, of a list of the call's own -/
def SpO (w : World) (R : Out) (e : Ending) (w' : World) : Prop :=
  ∃ v, e = .returned (.tuple #[v, .int .i64 R.at_, errV R.e]) ∧ Below w.heap.size w w' ∧ (R.e = 0 → OwnS 37 w' w.heap.size (w.heap.size ≤ ·) v R.v) ∧ (¬ R.e = 0 → v = .slice none 0 0)
def SpPost (w : World) (R : Out) (e : Ending) (w' : World) : Prop :=
  ∃ v, e = .returned (.tuple #[v, .int .i64 R.at_, errV R.e]) ∧ Below w.heap.size w w' ∧ (R.e = 0 → SecL w' R.v v) ∧ (¬ R.e = 0 → v = .slice none 0 0)
set_option maxRecDepth 100000 in
set_option maxHeartbeats 3200000 in
theorem split_o {a : Option Addr} {n cap : Nat} {zs : List Int} {w : World} (h : Row w a n zs) (hc : n ≤ cap) (hn : n ≤ 50000) (hT : U8 w) :
    Calls Tryd.prog 9 #[.slice a n cap] w (SpO w (S zs)) := by
  have hsk := skip_any (cap := cap) h hn
  have hl := h.1
  obtain ⟨i0, hi, hz0, hz1, hz2⟩ := info_parts infoS
  unfold S
  by_cases hh : (head 8 zs 0).1 = 0
  · rw [if_pos hh]
    have hh8 : (head 8 zs 0).2 = 8 ∧ 8 ≤ n := head_8 hh hl
    rw [hh, errV_0, hh8.1] at hsk
    have HSk := hide hsk; have HH := hide h; have HT := hide hT
    obtain ⟨T, hTT⟩ : ∃ T, SE zs 8 0 = T := ⟨_, rfl⟩
    rw [hTT]
    have HL0 := hide (show Left T zs [] 8 0 by rw [← hTT]; exact Left.first zs)
    have h8n := hh8.2
    clear hsk h hT hh hh8 hTT
    obtain ⟨b, o, rfl, hbl, _⟩ := row_byte (unhide HH) (show 0 < n by omega)
    go_enter Tryd.func9, Tryd.ntmps9
    go_wp2_with fail
    refine (unhide HSk).mono ?_
    rintro e w1 ⟨rfl, hb1⟩
    have HB1 := hide hb1; clear hb1 HSk
    go_wp2
    go_loopg [5, 7, 8] (n + 1) (fun gk s5 s7 s8 wr => ∃ (acc : List Sec) (p : Nat) (top : Int), s5 = .int .i64 p ∧ s8 = .int .u8 top ∧ 0 ≤ top ∧ top ≤ 255 ∧ p ≤ n ∧ n - p < gk ∧ acc.length ≤ p ∧ Hid (OwnS 37 wr w.heap.size (w.heap.size ≤ ·) s7 acc) ∧ Hid (Below w.heap.size w wr) ∧ Hid (Left T zs acc p top))
    case atStart => exact ⟨[], 8, 0, rfl, rfl, by omega, by omega, h8n, by omega, by simp, hide (OwnS_nil _ _ _ _), HB1, HL0⟩
    case round =>
      clear HL0 HB1
      obtain ⟨acc, p, top, rfl, rfl, ht0, ht1, hpn, hgk, hap, HO, HB, HL⟩ := hrel
      by_cases hp : p < n
      · obtain ⟨g', rfl⟩ : ∃ g', gk = g' + 1 := ⟨gk - 1, by omega⟩
        have hpz : (p : Int) < (n : Int) := by omega
        have hal := one_alloc wr (.cells #[.int .u8 0, .int .i64 0, .slice none 0 0] 37)
        have hbw := Below.on (unhide HB) hal
        have htk := take_any (top := top) ((unhide HH).below (Nat.le_refl _) hbw) hc hn hp ht0 ht1 (Utf8Tabs_below (unhide HT) hbw)
        have hR1 := fun e => (unhide HL).no (by rw [hl]; exact hp) e
        have hR2 := fun e => (unhide HL).on (by rw [hl]; exact hp) e
        have hR3 := fun e => one_bd (top := top) (unhide HH).2.1 (show p < zs.length by rw [hl]; exact hp) e
        generalize one zs p top = R at *
        have HTk := hide htk; have HAl := hide hal; have HR1 := hide hR1; have HR2 := hide hR2; have HR3 := hide hR3
        clear htk hal hbw hR1 hR2 hR3 HL
        obtain ⟨sa, sc, rfl, hsc⟩ := (unhide HO).shape
        by_cases he : R.e = 0
        · unfold TakePost at HTk
          rw [he, errV_0] at HTk
          have h3 := unhide HR3 he
          obtain ⟨hq1, hq2, hid0, hid1, _, hat1, hbs1⟩ := h3
          rw [hl] at hq2 hat1 hbs1
          have HLn := hide (unhide HR2 he)
          obtain ⟨⟨id, at_, bs⟩, hs⟩ : ∃ s, R.s = s := ⟨_, rfl⟩
          rw [hs] at HTk HLn hid0 hid1 hat1 hbs1
          simp only at hid0 hid1 hat1 hbs1
          obtain ⟨q, hq⟩ : ∃ q, R.at_ = q := ⟨_, rfl⟩
          rw [hq] at HTk HLn hq1 hq2
          clear HR1 HR2 HR3 hs hq he
          go_wp2_with fail
          refine (unhide HTk).mono ?_
          rintro e w2 ⟨v, rfl, hby, hb2⟩
          obtain ⟨va, vc, rfl⟩ : ∃ va vc, v = .slice va bs.length vc := by obtain ⟨va, vc, e, _⟩ := hby; exact ⟨va, vc, e⟩
          have hbx := box3 hb2
          have c1 : w2.cell? ⟨wr.heap.size, 0, none⟩ = some (.int .u8 0) := hbx.1 0
          have c2 : w2.cell? ⟨wr.heap.size, 1, none⟩ = some (.int .i64 0) := hbx.1 1
          have c3 : w2.cell? ⟨wr.heap.size, 2, none⟩ = some (.slice none 0 0) := hbx.1 2
          have f1 := hbx.2.1 0; have f2 := hbx.2.1 1; have f3 := hbx.2.1 2
          have hz2' : wr.heap.size < w2.heap.size := hbx.2.2
          have hb3 : Below wr.heap.size wr (((w2.setCell ⟨wr.heap.size, 0, none⟩ (.int .u8 id)).setCell ⟨wr.heap.size, 1, none⟩ (.int .i64 at_)).setCell ⟨wr.heap.size, 2, none⟩ (.slice va bs.length vc)) := (((Below.on (unhide HAl) hb2).setCell (p := ⟨wr.heap.size, 0, none⟩) (Nat.le_refl _) _).setCell (p := ⟨wr.heap.size, 1, none⟩) (Nat.le_refl _) _).setCell (p := ⟨wr.heap.size, 2, none⟩) (Nat.le_refl _) _
          have hby3 : Byt (((w2.setCell ⟨wr.heap.size, 0, none⟩ (.int .u8 id)).setCell ⟨wr.heap.size, 1, none⟩ (.int .i64 at_)).setCell ⟨wr.heap.size, 2, none⟩ (.slice va bs.length vc)) (wr.heap.size < ·) bs (.slice va bs.length vc) := hby.move (fun k hk hg => by
            have hne : wr.heap.size < k := by have : (wr.alloc (.cells #[.int .u8 0, .int .i64 0, .slice none 0 0] 37)).heap.size ≤ k := hg; simp at this; omega
            exact ⟨hne, by rw [Below.heap_setCell _ _ _ _ (Nat.ne_of_gt hne), Below.heap_setCell _ _ _ _ (Nat.ne_of_gt hne), Below.heap_setCell _ _ _ _ (Nat.ne_of_gt hne)]⟩) (by simp)
          have hsz3 : (((w2.setCell ⟨wr.heap.size, 0, none⟩ (.int .u8 id)).setCell ⟨wr.heap.size, 1, none⟩ (.int .i64 at_)).setCell ⟨wr.heap.size, 2, none⟩ (.slice va bs.length vc)).heap.size = w2.heap.size := by simp
          have HB3 := hide hb3; have HBy := hide hby3; have HSz := hide hsz3
          have hwle : w.heap.size ≤ wr.heap.size := (unhide HB).size
          clear hbx hb2 hby hb3 hby3 hsz3
          generalize hW3 : (((w2.setCell ⟨wr.heap.size, 0, none⟩ (.int .u8 id)).setCell ⟨wr.heap.size, 1, none⟩ (.int .i64 at_)).setCell ⟨wr.heap.size, 2, none⟩ (.slice va bs.length vc)) = w3 at HB3 HBy HSz
          have hb4 := one_alloc w3 (.cells (cel ⟨id, at_, bs⟩ (.slice va bs.length vc)).toArray 37)
          obtain ⟨xs, hxo, hit⟩ := ((unhide HO).below (unhide HB3)).below hb4
          have hbyn : Byt (w3.alloc (.cells (cel ⟨id, at_, bs⟩ (.slice va bs.length vc)).toArray 37)) (own (w.heap.size ≤ ·) (.slice sa acc.length sc)) bs (.slice va bs.length vc) := ((unhide HBy).below hb4).any fun k _ hk => ⟨fun e => by have := ((unhide HO).lt k e).2; have : wr.heap.size < k := hk; omega, by have : wr.heap.size < k := hk; show w.heap.size ≤ k; omega⟩
          have HXo := hide hxo; have HIt := hide hit; have HByn := hide hbyn
          have hw3 : w.heap.size ≤ w3.heap.size := by have := unhide HSz; omega
          have hacc : acc.length ≤ 50000 := by omega
          have HW3 := hide hW3
          clear hb4 hxo hit hbyn hW3
          go_wp2_with (at_builtin; rw [unhide HW3]; refine wpList_append_lies _ rfl (.tmp 39) (.tmp 41) 24 rfl w.heap.size 37 i0 (.agg #[.int .u8 0, .int .i64 0, .slice none 0 0]) 3 40 Tryd.underlying24 hi hz0 hz1 hz2 rfl (by decide) (.slice sa acc.length sc) acc.length xs rfl (unhide HXo) ⟨w2.heap.size, 0, none⟩ 1 1 (cel ⟨id, at_, bs⟩ (.slice va bs.length vc)) ?c0 rfl ?c1 ?c2 (by omega) ?c3 ?c4 ?c5 (w3.heap.size + 1) ?c6 ?_)
          case c0 => rfl
          case c1 => rw [← unhide HSz]; exact new_cel w3 ⟨id, at_, bs⟩ _ _
          case c2 => exact cel_one _ rfl
          case c3 => unfold maxLen; omega
          case c4 => omega
          case c5 => simp; omega
          case c6 => simp
          intro g capn w6 hown6 hgrow hat6 hlt6
          have hOn := OwnS.snoc (s := ⟨id, at_, bs⟩) (unhide HXo) (unhide HIt) (unhide HByn) hown6 hgrow (by rcases hat6 with e | e; exact .inl e; exact .inr (by rw [e]; simp))
          have hbn : Below w.heap.size w w6 := ((unhide HB).trans (((unhide HB3).mono hwle).trans ((one_alloc w3 _).mono hw3))).trans ((Below.refl w.heap.size _).grown hgrow (by simp; omega) (fun k hk => ((unhide HO).lt k hk).1))
          have HOn := hide hOn; have HBn := hide hbn
          clear hOn hbn hown6 hgrow hat6 hlt6
          go_wp2
          go_roundg g'
          case measure => omega
          case rel => exact ⟨acc ++ [⟨id, at_, bs⟩], q, max top id, rfl, rfl, by omega, by omega, hq2, by omega, by simp; omega, by simpa using HOn, HBn, HLn⟩
        · unfold TakePost at HTk
          rw [errV_pos he] at HTk
          obtain ⟨r1, r2⟩ := unhide HR1 he
          have HE := hide he; have HE1 := hide r1; have HE2 := hide r2
          clear HR1 HR2 HR3 he r1 r2
          go_wp2_with fail
          refine (unhide HTk).mono ?_
          rintro e w2 ⟨v, rfl, hby, hb2⟩
          obtain ⟨va, vc, rfl⟩ : ∃ va vc, v = .slice va R.s.bs.length vc := by obtain ⟨va, vc, e, _⟩ := hby; exact ⟨va, vc, e⟩
          have hbx := box3 hb2
          have c1 : w2.cell? ⟨wr.heap.size, 0, none⟩ = some (.int .u8 0) := hbx.1 0
          have c2 : w2.cell? ⟨wr.heap.size, 1, none⟩ = some (.int .i64 0) := hbx.1 1
          have c3 : w2.cell? ⟨wr.heap.size, 2, none⟩ = some (.slice none 0 0) := hbx.1 2
          have f1 := hbx.2.1 0; have f2 := hbx.2.1 1; have f3 := hbx.2.1 2
          have hb3 := (((Below.on (unhide HB) (Below.on (unhide HAl) hb2)).setCell (p := ⟨wr.heap.size, 0, none⟩) (unhide HB).size (.int .u8 R.s.id)).setCell (p := ⟨wr.heap.size, 1, none⟩) (unhide HB).size (.int .i64 R.s.at_)).setCell (p := ⟨wr.heap.size, 2, none⟩) (unhide HB).size (.slice va R.s.bs.length vc)
          have HB3 := hide hb3
          clear hbx hb2 hby hb3
          go_wp2
          go_ret3
          refine ⟨.slice none 0 0, ?_, unhide HB3, fun e => absurd ((unhide HE1).symm.trans e) (unhide HE), fun _ => rfl⟩
          rw [unhide HE1, unhide HE2, errV_pos (unhide HE)]
          rfl
      · obtain rfl : p = n := by omega
        have hT := (unhide HL).last (by omega)
        have HTT := hide hT
        clear hT hgk
        obtain ⟨sa, sc, rfl, hsc⟩ := (unhide HO).shape
        go_wp2
        go_ret3
        refine ⟨.slice sa acc.length sc, ?_, unhide HB, fun _ => ?_, fun e => absurd (by rw [unhide HTT]) e⟩
        · rw [unhide HTT, errV_0]; rfl
        · rw [unhide HTT]; exact unhide HO
  · rw [if_neg hh]
    rw [errV_pos hh] at hsk
    have HSk := hide hsk; have HE := hide hh
    obtain ⟨E, hE⟩ : ∃ E, (head 8 zs 0).1 = E := ⟨_, rfl⟩
    obtain ⟨P, hP⟩ : ∃ P, (head 8 zs 0).2 = P := ⟨_, rfl⟩
    rw [hE, hP] at HSk
    rw [hE] at HE
    rw [hE, hP]
    clear hsk hh h hT hE hP
    go_enter Tryd.func9, Tryd.ntmps9
    go_wp2_with fail
    refine (unhide HSk).mono ?_
    rintro e w1 ⟨rfl, hb1⟩
    have HB1 := hide hb1; clear hb1 HSk
    go_wp2
    go_ret3
    refine ⟨.slice none 0 0, ?_, unhide HB1, fun e => absurd e (unhide HE), fun _ => rfl⟩
    show _ = Ending.returned (.tuple #[_, _, errV E])
    rw [errV_pos (unhide HE)]
    rfl
theorem split_any {a : Option Addr} {n cap : Nat} {zs : List Int} {w : World} (h : Row w a n zs) (hc : n ≤ cap) (hn : n ≤ 50000) (hT : U8 w) :
    Calls Tryd.prog 9 #[.slice a n cap] w (SpPost w (S zs)) :=
  (split_o h hc hn hT).mono fun e w' ⟨v, h1, h2, h3, h4⟩ => ⟨v, h1, h2, fun e => (h3 e).secL, h4⟩
end Sc
end Go.Proofs.YtcmidegffpehoaaDoor
