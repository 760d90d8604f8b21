/- sect.Named. -/
import Derived.Test.YtcmidegffpehoaaDoorScN
import Derived.Lib.AppendStr
namespace Go.Proofs.YtcmidegffpehoaaDoor
open Go.RowKit
namespace Sc
set_option linter.unusedVariables false
set_option linter.unusedSimpArgs false

theorem str_cells (zs : List Int) (hz : ∀ z ∈ zs, 0 ≤ z ∧ z ≤ 255) : Lib.strCells (strOfNums zs) = zs.map (Value.int .u8) := by
  unfold Lib.strCells
  apply List.ext_getElem
  · simp [strOfNums]
  · intro i h1 h2
    have hi : i < zs.length := by simpa using h2
    have h := hz zs[i] (List.getElem_mem hi)
    simp [strOfNums]
    omega
theorem conv_str' (zs : List Int) (St : ByteArray) (h : strOfNums zs = St) (w : World) : (convert 9 22 (.string St)).run Tryd.prog w = .ok (.slice (some ⟨w.heap.size, 0, none⟩) zs.length (grownCap w zs.length 0 5)) (Lib.bytesWorld w 5 St) := by
  have := Lib.run_convert_string_bytes (P := Tryd.prog) w 9 22 5 St Tryd.underlying9 Tryd.underlying22 Tryd.underlying5
  rw [← h, str_size] at this
  rw [← h]
  exact this
/-- a name may be: a text, and not too long -/
def nok (nm : List Int) : Bool := vd nm && decide (nm.length ≤ 256)
def NamedPost (w : World) (nm c : List Int) (e : Ending) (w' : World) : Prop :=
  Below w.heap.size w w' ∧ (nok nm = true → ∃ v, e = .returned (.tuple #[.agg #[.int .u8 0, .int .i64 0, v], .nilIface]) ∧ Byt w' (w.heap.size ≤ ·) (Leb.bU 10 nm.length ++ nm ++ c) v) ∧
  (nok nm = false → e = .returned (.tuple #[.agg #[.int .u8 0, .int .i64 0, .slice none 0 0], .iface 57 (.int .i64 1)]))
set_option maxRecDepth 100000 in
set_option maxHeartbeats 3200000 in
theorem named_any {a : Option Addr} {n cap : Nat} {nm c : List Int} {St : ByteArray} {w : World} (h : Row w a n c) (hnil : a = none → cap = 0) (hn : n ≤ 400) (hnm : ∀ z ∈ nm, 0 ≤ z ∧ z ≤ 255) (hnl : nm.length ≤ 400) (hSt : strOfNums nm = St) (hT : U8 w) :
    Calls Tryd.prog 16 #[.string St, .slice a n cap] w (NamedPost w nm c) := by
  have hal := one_alloc w (.cells #[.int .u8 0, .int .i64 0, .slice none 0 0] 37)
  have hsz : St.size = nm.length := by rw [← hSt]; exact str_size nm
  have hcv := fun wx => conv_str' nm St hSt wx
  have hbw := str_below (w.alloc (.cells #[.int .u8 0, .int .i64 0, .slice none 0 0] 37)) St
  have hrw := str_row (w.alloc (.cells #[.int .u8 0, .int .i64 0, .slice none 0 0] 37)) nm hnm
  rw [hSt] at hrw
  have e9 : (w.alloc (.cells #[.int .u8 0, .int .i64 0, .slice none 0 0] 37)).heap.size = w.heap.size + 1 := by simp
  rw [e9] at hrw
  clear e9
  have htx := text_any hrw (grownCap_ge (w.alloc (.cells #[.int .u8 0, .int .i64 0, .slice none 0 0] 37)) nm.length 0 5) (by omega) (Utf8Tabs_below (Utf8Tabs_below hT hal) hbw)
  have hcl : c.length = n := h.1
  have hcb := h.2.1
  obtain ⟨i0, hi, hz0, hz1, hz2⟩ := info_parts Tryd.info5
  have hsc := str_cells nm hnm
  rw [hSt] at hsc
  have HTx := hide htx; have HBw := hide hbw; have HAl := hide hal; have HH := hide h; have HSc := hide hsc; have HNm := hide hnm; have HCb := hide hcb
  clear htx hbw hrw hal h hT hSt hsc hnm hcb
  by_cases c1 : vd nm = true
  · rw [c1] at HTx
    by_cases c2 : nm.length ≤ 256
    · have hok : nok nm = true := by unfold nok; rw [c1, decide_eq_true c2]; rfl
      have hP := Leb.bU_pos 10 (nm.length : Int)
      have hPl := Leb.bU_len 10 (nm.length : Int)
      have hPb := Leb.bU_bytes 10 (nm.length : Int) (by omega) (by have e : (128 : Int) ^ (10 + 1) = 151115727451828646838272 := by decide
                                                                   omega)
      have HPb := hide hPb
      have c2z : ¬ ((256 : Int) < (nm.length : Int)) := by omega
      have c2b : decide (256 < nm.length) = false := decide_eq_false (by omega)
      clear hPb
      go_enter Tryd.func16, Tryd.ntmps16
      go_wp2_with fail
      refine (unhide HTx).mono ?_
      rintro e w1 ⟨rfl, hb1⟩
      have hb01 := Below.on (unhide HBw) hb1
      have hpu := putU_any none 0 0 [] (nm.length : Int) w1 (Row.nil _) (by omega) (by omega) (by omega)
      have HPu := hide hpu; have HB01 := hide hb01
      clear hb1 hpu hb01
      go_wp2_with fail
      refine (unhide HPu).mono ?_
      rintro e w2 ⟨cap2, rfl, hown2, hb2⟩
      rw [Nat.zero_add, List.nil_append] at hown2
      rw [Nat.zero_add]
      have hs2 := hb2.size
      have HO2 := hide hown2; have HB2 := hide hb2
      clear hown2 hb2 HPu
      go_wp2_with (at_builtin; refine Lib.wpList_append_own_string _ rfl (.tmp 22) (.tmp 23) 22 9 rfl w1.heap.size 5 i0 Tryd.underlying22 Tryd.underlying9 hi hz0 hz1 hz2 (.slice (some ⟨w1.heap.size, 0, none⟩) (Leb.bU 10 nm.length).length cap2) (Leb.bU 10 nm.length).length ((Leb.bU 10 nm.length).map (Value.int .u8)) rfl (unhide HO2) St rfl ?q1 ?q2 ?q3 ?_)
      case q1 => unfold maxLen; omega
      case q2 => omega
      case q3 => exact hs2
      intro v3 w3 hown3 hgrow3 _
      have hown3' : w3.ownsRow w1.heap.size 5 1 v3 ((Leb.bU 10 nm.length).length + nm.length) ((Leb.bU 10 nm.length ++ nm).map (Value.int .u8)) := by
        have := hown3
        rw [unhide HSc] at this
        simpa using this
      have hb3 : Below w1.heap.size w1 w3 := (unhide HB2).grown hgrow3 hs2 (fun q hq => ((unhide HO2).lt q hq).1)
      obtain ⟨oa, oc, rfl⟩ := own_shape' hown3'
      have hs3 := hb3.size
      have HO3 := hide hown3'; have HB3 := hide hb3
      have hrow3 := (unhide HH).below (Nat.le_refl _) (Below.on (Below.on (unhide HAl) (unhide HB01)) hb3)
      have HR3 := hide hrow3
      clear hown3 hown3' hgrow3 hb3 hrow3 HB2 HO2
      go_wp2_with (at_builtin; refine wpList_append_row _ rfl (.tmp 25) (.tmp 26) rfl w1.heap.size (.slice oa ((Leb.bU 10 nm.length).length + nm.length) oc) ((Leb.bU 10 nm.length).length + nm.length) (Leb.bU 10 nm.length ++ nm) rfl (unhide HO3) a n cap c rfl (unhide HR3) hnil ?q4 ?q5 ?_)
      case q4 => omega
      case q5 => exact hs3
      intro v4 w4 hown4 hb4
      have hown4' : w4.ownsRow w1.heap.size 5 1 v4 ((Leb.bU 10 nm.length).length + nm.length + n) ((Leb.bU 10 nm.length ++ nm ++ c).map (Value.int .u8)) := by simpa using hown4
      have hby := own_byt hown4' (by
        intro z hz
        rcases List.mem_append.1 hz with h | h
        · rcases List.mem_append.1 h with h | h
          · exact unhide HPb z h
          · exact unhide HNm z h
        · exact unhide HCb z h)
      obtain ⟨va, vc, rfl⟩ : ∃ va vc, v4 = .slice va (Leb.bU 10 nm.length ++ nm ++ c).length vc := by obtain ⟨va, vc, e, _⟩ := hby; exact ⟨va, vc, e⟩
      have hb14 := (unhide HB3).trans hb4
      have hb5 := Below.on (unhide HB01) hb14
      have hs1 := (unhide HB01).size
      have hby2 : Byt w4 (w.heap.size < ·) (Leb.bU 10 nm.length ++ nm ++ c) (.slice va (Leb.bU 10 nm.length ++ nm ++ c).length vc) := hby.any fun q hq hg => by simp at hs1; have : w1.heap.size ≤ q := hg; omega
      have hbx := box3 hb5
      have c1 : w4.cell? ⟨w.heap.size, 0, none⟩ = some (.int .u8 0) := hbx.1 0
      have c2 : w4.cell? ⟨w.heap.size, 1, none⟩ = some (.int .i64 0) := hbx.1 1
      have c3 : w4.cell? ⟨w.heap.size, 2, none⟩ = some (.slice none 0 0) := hbx.1 2
      have f1 := hbx.2.1 0; have f2 := hbx.2.1 1; have f3 := hbx.2.1 2
      have HBy := hide hby2; have HB5 := hide (Below.on (unhide HAl) hb5)
      clear hown4 hown4' hb4 hby hby2 hb14 hb5 hbx HB3 HO3 HR3
      generalize hL : (Leb.bU 10 nm.length ++ nm ++ c).length = L at *
      have HL := hide hL; clear hL
      go_wp2
      refine bodyPost_ret (v := .tuple #[.agg #[.int .u8 0, .int .i64 0, .slice va L vc], .nilIface]) (by simp [results, Tryd.results16, go_sem, c1, c2, c3, f1, f2, f3]) rfl ?_
      refine ⟨(((unhide HB5).setCell (p := ⟨w.heap.size, 0, none⟩) (Nat.le_refl _) _).setCell (p := ⟨w.heap.size, 1, none⟩) (Nat.le_refl _) _).setCell (p := ⟨w.heap.size, 2, none⟩) (Nat.le_refl _) _, fun _ => ⟨_, rfl, ?_⟩, fun e => absurd (hok.symm.trans e) (by decide)⟩
      refine (unhide HBy).move (fun k hk hg => ⟨Nat.le_of_lt hg, ?_⟩) (by simp)
      have hne : k ≠ w.heap.size := Nat.ne_of_gt hg
      rw [Below.heap_setCell _ _ _ _ hne, Below.heap_setCell _ _ _ _ hne, Below.heap_setCell _ _ _ _ hne]
    · have hok : nok nm = false := by unfold nok; rw [decide_eq_false c2]; simp
      have c2z : (256 : Int) < (nm.length : Int) := by omega
      have c2b : decide (256 < nm.length) = true := decide_eq_true (by omega)
      go_enter Tryd.func16, Tryd.ntmps16
      go_wp2_with fail
      refine (unhide HTx).mono ?_
      rintro e w1 ⟨rfl, hb1⟩
      have hb5 := Below.on (unhide HBw) hb1
      have hbx := box3 hb5
      have c1 : w1.cell? ⟨w.heap.size, 0, none⟩ = some (.int .u8 0) := hbx.1 0
      have c2' : w1.cell? ⟨w.heap.size, 1, none⟩ = some (.int .i64 0) := hbx.1 1
      have c3 : w1.cell? ⟨w.heap.size, 2, none⟩ = some (.slice none 0 0) := hbx.1 2
      have f1 := hbx.2.1 0; have f2 := hbx.2.1 1; have f3 := hbx.2.1 2
      have HB5 := hide (Below.on (unhide HAl) hb5)
      clear hb1 hb5 hbx c2
      go_wp2
      refine bodyPost_ret (v := .tuple #[.agg #[.int .u8 0, .int .i64 0, .slice none 0 0], .iface 57 (.int .i64 1)]) (by simp [results, Tryd.results16, go_sem, c1, c2', c3, f1, f2, f3]) rfl ?_
      exact ⟨(((unhide HB5).setCell (p := ⟨w.heap.size, 0, none⟩) (Nat.le_refl _) _).setCell (p := ⟨w.heap.size, 1, none⟩) (Nat.le_refl _) _).setCell (p := ⟨w.heap.size, 2, none⟩) (Nat.le_refl _) _, fun e => absurd (hok.symm.trans e) (by decide), fun _ => rfl⟩
  · have c1f : vd nm = false := by simpa using c1
    rw [c1f] at HTx
    have hok : nok nm = false := by unfold nok; rw [c1f]; rfl
    go_enter Tryd.func16, Tryd.ntmps16
    go_wp2_with fail
    refine (unhide HTx).mono ?_
    rintro e w1 ⟨rfl, hb1⟩
    have hb5 := Below.on (unhide HBw) hb1
    have hbx := box3 hb5
    have c1 : w1.cell? ⟨w.heap.size, 0, none⟩ = some (.int .u8 0) := hbx.1 0
    have c2' : w1.cell? ⟨w.heap.size, 1, none⟩ = some (.int .i64 0) := hbx.1 1
    have c3 : w1.cell? ⟨w.heap.size, 2, none⟩ = some (.slice none 0 0) := hbx.1 2
    have f1 := hbx.2.1 0; have f2 := hbx.2.1 1; have f3 := hbx.2.1 2
    have HB5 := hide (Below.on (unhide HAl) hb5)
    clear hb1 hb5 hbx
    go_wp2
    refine bodyPost_ret (v := .tuple #[.agg #[.int .u8 0, .int .i64 0, .slice none 0 0], .iface 57 (.int .i64 1)]) (by simp [results, Tryd.results16, go_sem, c1, c2', c3, f1, f2, f3]) rfl ?_
    exact ⟨(((unhide HB5).setCell (p := ⟨w.heap.size, 0, none⟩) (Nat.le_refl _) _).setCell (p := ⟨w.heap.size, 1, none⟩) (Nat.le_refl _) _).setCell (p := ⟨w.heap.size, 2, none⟩) (Nat.le_refl _) _, fun e => absurd (hok.symm.trans e) (by decide), fun _ => rfl⟩
end Sc
end Go.Proofs.YtcmidegffpehoaaDoor
